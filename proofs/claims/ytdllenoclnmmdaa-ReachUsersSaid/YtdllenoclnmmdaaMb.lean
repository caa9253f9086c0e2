/- Lists of texts against lists of texts, copies of them, one among them, their spoiling (no conditions but that lengths fit). -/
import Derived.Test.YtdllenoclnmmdaaGs
import Derived.Test.YtdllenoclnmmdaaIns
import Derived.Test.YtdllenoclnmmdaaTextsIn
namespace Go.Proofs.Ytdllenoclnmmdaa
open Go.RowKit Go.Shelf
attribute [local go_sem] Oper.semAt_some

theorem take_snoc (ss : List ByteArray) (k : Nat) (h : k < ss.length) : ss.take (k + 1) = ss.take k ++ [ss.getD k ByteArray.empty] := by
  rw [List.take_succ_eq_append_getElem h]
  simp [List.getD, h]
theorem getD_ext {ss tt : List ByteArray} (hl : ss.length = tt.length) (h : ∀ q, q < ss.length → ss.getD q ByteArray.empty = tt.getD q ByteArray.empty) : ss = tt := by
  refine List.ext_getElem hl (fun i h1 h2 => ?_)
  have := h i h1
  simpa [List.getD, h1, h2] using this
theorem bytes_ne4 {a b : ByteArray} (h : ¬ a = b) : ¬ a.toList = b.toList ∧ (a.toList == b.toList) = false ∧ (a.toList != b.toList) = true := by
  have h1 : ¬ a.toList = b.toList := by
    rw [ByteArray.toList_eq, ByteArray.toList_eq]
    intro e
    apply h
    obtain ⟨⟨x⟩⟩ := a
    obtain ⟨⟨y⟩⟩ := b
    simp at e
    rw [e]
  exact ⟨h1, by simpa using h1, by simpa using h1⟩
set_option maxRecDepth 100000 in
set_option maxHeartbeats 1000000 in
theorem eq_strings2 (a a' : Option Addr) (l l' cap cap' : Nat) (ss tt : List ByteArray) (w : World) (h : StrsIn w a l ss) (h' : StrsIn w a' l' tt) :
    Calls Try.prog 27 #[.slice a l cap, .slice a' l' cap'] w fun e w' => e = .returned (.bool (decide (ss = tt))) ∧ Kept w w' := by
  have hle := h.le
  have hle' := h'.le
  have HS := Lib.hid h
  have HS' := Lib.hid h'
  obtain ⟨B, hB⟩ : ∃ B, B = decide (ss = tt) := ⟨_, rfl⟩
  rw [← hB]
  have HB := Lib.hid hB
  clear h h' hB
  by_cases hll : l = l'
  · subst hll
    go_enter Try.func27, Try.ntmps27
    go_wp2_with fail
    go_loopw [5] (fun i wr => ∃ k : Nat, k ≤ l ∧ i = .int .i64 k ∧ (∀ q, q < k → ss.getD q ByteArray.empty = tt.getD q ByteArray.empty) ∧ Kept w wr) (fun i _ => l - (intOf i).toNat)
    case atStart => exact ⟨0, by omega, rfl, fun q hq => absurd hq (Nat.not_lt_zero q), Kept.refl _⟩
    case round =>
      obtain ⟨k, hk, rfl, hq, hK⟩ := hrel
      have HK := Lib.hid hK
      have HQ := Lib.hid hq
      clear hq
      by_cases hlt : k < l
      · obtain ⟨b, off, ha, hc⟩ := HS.out.cells
        obtain ⟨b', off', ha', hc'⟩ := HS'.out.cells
        obtain rfl := ha (by omega)
        obtain rfl := ha' (by omega)
        have hck := hK.cell (hc k hlt).1 (hc k hlt).2
        have hck' := hK.cell (hc' k hlt).1 (hc' k hlt).2
        have HSK := Lib.hid (HS.out.size k hlt)
        obtain ⟨t, ht⟩ : ∃ t, t = ss.getD k ByteArray.empty := ⟨_, rfl⟩
        obtain ⟨u, hu⟩ : ∃ u, u = tt.getD k ByteArray.empty := ⟨_, rfl⟩
        rw [← ht] at hck
        rw [← hu] at hck'
        have HT := Lib.hid ht
        have HU := Lib.hid hu
        clear hc hc' ha ha' hK ht hu
        by_cases he : t = u
        · subst he
          go_wp2_with fail
          go_quiet (fail)
          go_wp2
          go_roundw
          case rel => exact ⟨k + 1, by omega, by go_num, fun q hq => by
            by_cases e : q = k
            · rw [e, ← HT.out, ← HU.out]
            · exact HQ.out q (by omega), HK.out.drewN nq⟩
          case measure => simp [intOf]; omega
        · have hBf : B = false := by
            rw [HB.out]
            refine decide_eq_false (fun e => he ?_)
            rw [HT.out, HU.out, e]
          clear HB
          subst hBf
          obtain ⟨g1, g2, g3⟩ := bytes_ne4 he
          go_wp2_with fail
          go_quiet (fail)
          go_wp2
          go_ret
          exact ⟨rfl, HK.out.drewN nq⟩
      · obtain rfl : k = l := by omega
        have hBt : B = true := by
          rw [HB.out]
          refine decide_eq_true (getD_ext (by rw [HS.out.len_eq, HS'.out.len_eq]) (fun q hq => HQ.out q (by have := HS.out.len_eq; omega)))
        clear HB
        subst hBt
        clear hK
        go_wp2
        go_ret
        exact ⟨rfl, HK.out⟩
  · have hBf : B = false := by
      rw [HB.out]
      refine decide_eq_false (fun e => hll ?_)
      rw [← HS.out.len_eq, ← HS'.out.len_eq, e]
    clear HB
    subst hBf
    have hne : ((l : Int) != (l' : Int)) = true := by rw [bne_iff_ne]; omega
    go_enter Try.func27, Try.ntmps27
    go_wp2
    go_ret
    exact ⟨rfl, Kept.refl _⟩
set_option maxRecDepth 100000 in
set_option maxHeartbeats 800000 in
theorem copy_strings_own (a : Option Addr) (l cap : Nat) (ss : List ByteArray) (w : World) (h : StrsIn w a l ss) (hl : l ≤ 8796093021952) :
    Calls Try.prog 12 #[.slice a l cap] w fun e w' => ∃ a' cap', e = .returned (.slice a' l cap') ∧ w'.ownsRow w.heap.size 9 1 (.slice a' l cap') l (ss.map Value.string) ∧ Kept w w' := by
  obtain ⟨i0, hi, hz0, hz1, hz2⟩ := info_parts Try.infoSt
  have HL := Lib.hid h.len_eq
  have HSZ := Lib.hid h.sizes
  have HI := Lib.hid (And.intro hi (And.intro hz0 (And.intro hz1 hz2)))
  clear hi hz0 hz1 hz2
  go_enter Try.func12, Try.ntmps12
  go_wp2
  go_loopw [3, 4] (fun v i wr => ∃ k : Nat, k ≤ l ∧ i = .int .i64 k ∧ wr.ownsRow w.heap.size 9 1 v k ((ss.take k).map Value.string) ∧ Kept w wr) (fun _ i _ => l - (intOf i).toNat)
  case atStart => exact ⟨0, by omega, rfl, World.ownsRow_nil _ _ _ _, Kept.refl _⟩
  case round =>
    obtain ⟨k, hk, rfl, hown, hK⟩ := hrel
    have HK := Lib.hid hK
    have HO := Lib.hid hown
    by_cases hlt : k < l
    · obtain ⟨b, off, ha, hc⟩ := h.cells
      obtain rfl := ha (by omega)
      have hck := hK.cell (hc k hlt).1 (hc k hlt).2
      have htk := take_snoc ss k (by have := HL.out; omega)
      generalize ss.getD k ByteArray.empty = t at hck htk
      have HT := Lib.hid htk
      clear h hc ha hK htk hown
      go_wp2_with (at_builtin; refine wpList_append_own _ rfl _ _ 23 rfl w.heap.size 9 i0 (.string ByteArray.empty) 1 16 Try.underlying23 HI.out.1 HI.out.2.1 HI.out.2.2.1 HI.out.2.2.2 rfl (by decide) _ _ _ rfl (HO.out.alloc _) ⟨wr.heap.size, 0, none⟩ 1 1 [.string t] rfl rfl ?c1 ?c2 ?c3 ?c4 ?c5 ?_)
      case c1 =>
        intro j u hj
        match j, hj with
        | 0, hj => simp at hj; subst hj; simp [Addr.add]
      case c2 => intro u hu; simp at hu; subst hu; rfl
      case c3 => unfold maxLen; omega
      case c4 => omega
      case c5 => have := HK.out.size; simp; omega
      intro v' w1 hown' hgrow _
      have HO' := Lib.hid hown'
      have HK' := Lib.hid (kept_grown (HK.out.alloc _) (HO.out.alloc _) hgrow)
      clear hown' hgrow
      go_wp2
      go_roundw
      case rel => exact ⟨k + 1, by omega, by go_num, by rw [HT.out, List.map_append, List.map_take]; exact HO'.out, HK'.out⟩
      case measure => simp [intOf]; omega
    · obtain rfl : k = l := by omega
      rw [List.take_of_length_le (Nat.le_of_eq HL.out)] at hown
      obtain ⟨a', cap', rfl⟩ := slice_of_own1 hown
      have HF := Lib.hid hown
      clear h hK hown HO
      go_wp2
      go_ret
      exact ⟨a', cap', rfl, HF.out, HK.out⟩
theorem grown_two {w a b : World} {row : Option Nat} (h : w.grownBy a row) (k : a.grownBy b row) : w.grownBy b row :=
  ⟨k.os.trans h.os, k.tape.trans h.tape, k.output.trans h.output, Nat.le_trans h.size k.size, fun i hi hne => (k.block i (Nat.lt_of_lt_of_le hi h.size) hne).trans (h.block i hi hne)⟩
theorem grown_cell (w : World) (g i : Nat) (v : Value) : w.grownBy (w.setCell ⟨g, i, none⟩ v) (some g) := ⟨rfl, rfl, rfl, by simp, fun k _ hne => Below.heap_setCell w ⟨g, i, none⟩ v k (fun e => hne (by rw [e]))⟩
theorem spoil_nm (g l cap : Nat) (G : Nat → ByteArray) (hl : l ≤ 2000000) (w : World) (hb0 : ∃ cs, BlockAt w g cs 9) (hc0 : ∀ j, j < l → w.cell? ⟨g, j, none⟩ = some (.string (G j))) :
    Calls Try.prog 18 #[.slice (some ⟨g, 0, none⟩) l cap] w fun e w' => (∃ u, e = .returned u) ∧ w.grownBy w' (some g) := by
  have HB0 := Lib.hid hb0
  have HC0 := Lib.hid hc0
  clear hb0 hc0
  go_enter Try.func18, Try.ntmps18
  go_wp2_with fail
  go_loopw [2] (fun i wr => ∃ (k : Nat), k ≤ l ∧ i = .int .i64 k ∧ (∃ cs, BlockAt wr g cs 9) ∧ (∀ j, k ≤ j → j < l → wr.cell? ⟨g, j, none⟩ = some (.string (G j))) ∧ w.grownBy wr (some g)) (fun i _ => l - (intOf i).toNat)
  case atStart => exact ⟨0, by omega, rfl, HB0.out, fun j _ hj => HC0.out j hj, ⟨rfl, rfl, rfl, Nat.le_refl _, fun _ _ _ => rfl⟩⟩
  case round =>
    obtain ⟨k, hk, rfl, ⟨cs, hb⟩, hc, hg⟩ := hrel
    by_cases hlt : k < l
    · have hcell := hc k (Nat.le_refl k) hlt
      have hfree := hb.free k
      have HB := Lib.hid hb
      have HC := Lib.hid hc
      have HG := Lib.hid hg
      clear hb hc hg
      go_wp2_with fail
      go_roundw
      case rel => exact ⟨k + 1, by omega, by go_num, ⟨_, HB.out.set _⟩, fun j h1 h2 => by
        rw [World.cell?_setCell_other (h := fun e => by have := (Addr.mk.inj e).2.1; omega)]
        exact HC.out j (by omega) h2, grown_two HG.out (grown_cell _ _ _ _)⟩
      case measure => simp [intOf]; omega
    · have HG := Lib.hid hg
      clear hb hc hg
      go_wp2
      go_end0
      exact ⟨⟨_, rfl⟩, HG.out⟩
theorem spoil_none (w : World) : Calls Try.prog 18 #[.slice none 0 0] w fun e w' => (∃ u, e = .returned u) ∧ w = w' := by
  go_enter Try.func18, Try.ntmps18
  go_wp2_with fail
  go_loopw [2] (fun i wr => i = .int .i64 0 ∧ w = wr) (fun _ _ => 0)
  case atStart => exact ⟨rfl, rfl⟩
  case round =>
    obtain ⟨rfl, rfl⟩ := hrel
    go_wp2
    go_end0
    exact ⟨⟨_, rfl⟩, rfl⟩
theorem StrsIn.lt_of {W : World} {b off : Nat} {l : Nat} {ss : List ByteArray} (h : StrsIn W (some ⟨b, off, none⟩) l ss) (i : Nat) (hi : i < l) : b < W.heap.size := by
  obtain ⟨b', off', ha, hc⟩ := h.cells
  have := ha (by omega)
  cases this
  exact (hc i hi).1
theorem StrsIn.cell_of {W : World} {b off : Nat} {l : Nat} {ss : List ByteArray} (h : StrsIn W (some ⟨b, off, none⟩) l ss) (i : Nat) (hi : i < l) : W.cell? ⟨b, off + i, none⟩ = some (.string (ss.getD i ByteArray.empty)) := by
  obtain ⟨b', off', ha, hc⟩ := h.cells
  have := ha (by omega)
  cases this
  exact (hc i hi).2
theorem strs_take1 {W : World} {a : Option Addr} {l : Nat} {ss : List ByteArray} (h : StrsIn W a l ss) {n : Nat} (hn : n ≤ l) : StrsIn W a n (ss.take n) := by
  obtain ⟨b, off, ha, hc⟩ := h.cells
  refine ⟨by rw [List.length_take, h.len_eq]; omega, by have := h.le; omega, fun s hs => h.sizes s (List.mem_of_mem_take hs), b, off, fun h0 => ha (by omega), fun i hi => ?_⟩
  have e : (ss.take n).getD i ByteArray.empty = ss.getD i ByteArray.empty := by
    rw [List.getD_eq_getElem?_getD, List.getD_eq_getElem?_getD, List.getElem?_take_of_lt hi]
  rw [e]
  exact hc i (by omega)
/-- what is behind the k-th of a list of texts, as a slice -/
theorem tail_slice (ax : Option Addr) (n cx : Nat) (X : List ByteArray) (k : Nat) (hk : k ≤ n) (hc : n ≤ cx) (w : World) (h : StrsIn w ax n X) (hnone : ax = none → cx = 0) : ∃ az : Option Addr, Hid ((if cx = k then ax else Option.map (fun x => x.add k) ax) = az) ∧
    Hid (az = none → n - k = 0) ∧ Hid (∀ w', Kept w w' → ((X.drop k).map Value.string).length = (n - k) * 1 ∧ ∀ ad, az = some ad → ∀ j u, ((X.drop k).map Value.string)[j]? = some u → w'.cell? (ad.add j) = some u) := by
  have hl : ((X.drop k).map Value.string).length = (n - k) * 1 := by rw [List.length_map, List.length_drop, h.len_eq]; omega
  refine ⟨_, Lib.hid rfl, Lib.hid (fun e => ?_), Lib.hid (fun w' kk => ⟨hl, fun ad e j u hj => ?_⟩)⟩
  · cases ax with
    | none => have := hnone rfl; omega
    | some p =>
      by_cases hck : cx = k
      · rw [if_pos hck] at e; cases e
      · rw [if_neg hck] at e; cases e
  · have hj2 : j < n - k := by
      have := (List.getElem?_eq_some_iff.1 hj).1
      omega
    obtain ⟨b, off, ha, hcs⟩ := h.cells
    have ha := ha (by omega)
    subst ha
    rw [if_neg (by omega)] at e
    have e2 : ad = ⟨b, off + k, none⟩ := by
      have := Option.some.inj e
      rw [← this]
      unfold Addr.add
      show (if k = 0 then (⟨b, off, none⟩ : Addr) else ⟨b, off + k, none⟩) = _
      split <;> simp_all
    subst e2
    have e3 : (⟨b, off + k, none⟩ : Addr).add j = ⟨b, off + (k + j), none⟩ := by unfold Addr.add; rw [Nat.add_assoc]; split <;> simp_all
    rw [e3, (kk.cell (hcs (k + j) (by omega)).1 (hcs (k + j) (by omega)).2)]
    rw [List.getElem?_map, List.getElem?_drop] at hj
    have hl2 : k + j < X.length := by rw [h.len_eq]; omega
    rw [List.getElem?_eq_getElem hl2] at hj
    simp [List.getD, hl2]
    simpa using hj
/-- is a text among these? -/
def hasB (x : ByteArray) (ss : List ByteArray) : Bool := ss.any fun y => decide (y = x)
theorem hasB_iff {x : ByteArray} {ss : List ByteArray} : hasB x ss = true ↔ x ∈ ss := by
  unfold hasB
  rw [List.any_eq_true]
  constructor
  · rintro ⟨y, hy, e⟩
    rw [← of_decide_eq_true e]
    exact hy
  · exact fun h => ⟨x, h, decide_eq_true rfl⟩
theorem has_any (a : Option Addr) (l cap : Nat) (ss : List ByteArray) (x : ByteArray) (w : World) (h : StrsIn w a l ss) :
    Calls Try.prog 36 #[.slice a l cap, .string x] w fun e w' => e = .returned (.bool (hasB x ss)) ∧ Kept w w' := by
  have hle := h.le
  have HS := Lib.hid h
  have HL := Lib.hid h.len_eq
  obtain ⟨B, hB⟩ : ∃ B, B = hasB x ss := ⟨_, rfl⟩
  rw [← hB]
  have HB := Lib.hid hB
  clear h hB
  go_enter Try.func36, Try.ntmps36
  go_wp2_with fail
  go_loopw [5] (fun i wr => ∃ k : Nat, k ≤ l ∧ i = .int .i64 k ∧ Hid (∀ q, q < k → ss.getD q ByteArray.empty ≠ x) ∧ Kept w wr) (fun i _ => l - (intOf i).toNat)
  case atStart => exact ⟨0, by omega, rfl, Lib.hid (fun q hq => absurd hq (Nat.not_lt_zero q)), Kept.refl _⟩
  case round =>
    obtain ⟨k, hk, rfl, HQ, hkr⟩ := hrel
    have HK := Lib.hid hkr
    clear hkr
    by_cases hlt : k < l
    · obtain ⟨b, off, rfl, hc⟩ := HS.out.at (by omega)
      have c0 := hc k hlt _ HK.out
      obtain ⟨t, ht⟩ : ∃ t, t = ss.getD k ByteArray.empty := ⟨_, rfl⟩
      have hts := HS.out.size k hlt
      rw [← ht] at c0 hts
      have HT := Lib.hid ht
      clear hc ht
      by_cases he : t = x
      · have HE := Lib.hid (show B = true by
          rw [HB.out]
          refine hasB_iff.2 ?_
          rw [← he, HT.out]
          simp [List.getD, show k < ss.length by rw [HL.out]; exact hlt])
        subst he
        go_wp2_with fail
        go_ret
        exact ⟨retb HE.out, HK.out⟩
      · have HN := Lib.hid (show ∀ q, q < k + 1 → ss.getD q ByteArray.empty ≠ x from fun q hq => by
          by_cases e : q = k
          · rw [e, ← HT.out]; exact he
          · exact HQ.out q (by omega))
        obtain ⟨g1, g2, g3⟩ := bytes_ne4 he
        clear he
        go_wp2
        go_roundw
        case rel => exact ⟨k + 1, by omega, by go_num, HN, HK.out⟩
        case measure => simp [intOf]; omega
    · obtain rfl : l = k := by omega
      have HE := Lib.hid (show B = false by
        rw [HB.out]
        refine Bool.eq_false_iff.2 (fun hb => ?_)
        have hm := hasB_iff.1 hb
        obtain ⟨q, hq, e⟩ := List.getElem_of_mem hm
        have := HQ.out q (by rw [← HL.out]; exact hq)
        simp [List.getD, hq] at this
        exact this e)
      go_wp2
      go_ret
      exact ⟨retb HE.out, HK.out⟩
end Go.Proofs.Ytdllenoclnmmdaa
