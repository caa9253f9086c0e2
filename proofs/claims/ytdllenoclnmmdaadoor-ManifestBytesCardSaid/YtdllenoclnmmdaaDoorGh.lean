/- Contracts laid together: what each says stands at its head (no conditions). -/
import Derived.Test.YtdllenoclnmmdaaDoorMs2
import Derived.Test.YtdllenoclnmmdaaDoorIns
import Derived.Test.YtdllenoclnmmdaaDoorTextsIn
import Derived.Deep.Slices
import Derived.Deep.Fields
import Derived.ChangeSame
import Derived.SizedLaws
namespace Go.Proofs.YtdllenoclnmmdaaDoor
open Go.RowKit Go.Shelf
attribute [local go_sem] Oper.semAt_some

theorem take_snoc (ss : List ByteArray) (k : Nat) (h : k < ss.length) : ss.take (k + 1) = ss.take k ++ [ss.getD k ByteArray.empty] := by
  rw [List.take_succ_eq_append_getElem h]
  simp [List.getD, h]
theorem getD_ext {ss tt : List ByteArray} (hl : ss.length = tt.length) (h : ∀ q, q < ss.length → ss.getD q ByteArray.empty = tt.getD q ByteArray.empty) : ss = tt := by
  refine List.ext_getElem hl (fun i h1 h2 => ?_)
  have := h i h1
  simpa [List.getD, h1, h2] using this
theorem bytes_ne4 {a b : ByteArray} (h : ¬ a = b) : ¬ a.toList = b.toList ∧ (a.toList == b.toList) = false ∧ (a.toList != b.toList) = true := by
  have h1 : ¬ a.toList = b.toList := by
    rw [ByteArray.toList_eq, ByteArray.toList_eq]
    intro e
    apply h
    obtain ⟨⟨x⟩⟩ := a
    obtain ⟨⟨y⟩⟩ := b
    simp at e
    rw [e]
  exact ⟨h1, by simpa using h1, by simpa using h1⟩
set_option maxRecDepth 100000 in
set_option maxHeartbeats 1000000 in
theorem eq_strings2 (a a' : Option Addr) (l l' cap cap' : Nat) (ss tt : List ByteArray) (w : World) (h : StrsIn w a l ss) (h' : StrsIn w a' l' tt) :
    Calls Tryd.prog 26 #[.slice a l cap, .slice a' l' cap'] w fun e w' => e = .returned (.bool (decide (ss = tt))) ∧ Kept w w' := by
  have hle := h.le
  have hle' := h'.le
  have HS := Lib.hid h
  have HS' := Lib.hid h'
  obtain ⟨B, hB⟩ : ∃ B, B = decide (ss = tt) := ⟨_, rfl⟩
  rw [← hB]
  have HB := Lib.hid hB
  clear h h' hB
  by_cases hll : l = l'
  · subst hll
    go_enter Tryd.func26, Tryd.ntmps26
    go_wp2_with fail
    go_loopw [5] (fun i wr => ∃ k : Nat, k ≤ l ∧ i = .int .i64 k ∧ (∀ q, q < k → ss.getD q ByteArray.empty = tt.getD q ByteArray.empty) ∧ Kept w wr) (fun i _ => l - (intOf i).toNat)
    case atStart => exact ⟨0, by omega, rfl, fun q hq => absurd hq (Nat.not_lt_zero q), Kept.refl _⟩
    case round =>
      obtain ⟨k, hk, rfl, hq, hK⟩ := hrel
      have HK := Lib.hid hK
      have HQ := Lib.hid hq
      clear hq
      by_cases hlt : k < l
      · obtain ⟨b, off, ha, hc⟩ := HS.out.cells
        obtain ⟨b', off', ha', hc'⟩ := HS'.out.cells
        obtain rfl := ha (by omega)
        obtain rfl := ha' (by omega)
        have hck := hK.cell (hc k hlt).1 (hc k hlt).2
        have hck' := hK.cell (hc' k hlt).1 (hc' k hlt).2
        have HSK := Lib.hid (HS.out.size k hlt)
        obtain ⟨t, ht⟩ : ∃ t, t = ss.getD k ByteArray.empty := ⟨_, rfl⟩
        obtain ⟨u, hu⟩ : ∃ u, u = tt.getD k ByteArray.empty := ⟨_, rfl⟩
        rw [← ht] at hck
        rw [← hu] at hck'
        have HT := Lib.hid ht
        have HU := Lib.hid hu
        clear hc hc' ha ha' hK ht hu
        by_cases he : t = u
        · subst he
          go_wp2_with fail
          go_quiet (fail)
          go_wp2
          go_roundw
          case rel => exact ⟨k + 1, by omega, by go_num, fun q hq => by
            by_cases e : q = k
            · rw [e, ← HT.out, ← HU.out]
            · exact HQ.out q (by omega), HK.out.drewN nq⟩
          case measure => simp [intOf]; omega
        · have hBf : B = false := by
            rw [HB.out]
            refine decide_eq_false (fun e => he ?_)
            rw [HT.out, HU.out, e]
          clear HB
          subst hBf
          obtain ⟨g1, g2, g3⟩ := bytes_ne4 he
          go_wp2_with fail
          go_quiet (fail)
          go_wp2
          go_ret
          exact ⟨rfl, HK.out.drewN nq⟩
      · obtain rfl : k = l := by omega
        have hBt : B = true := by
          rw [HB.out]
          refine decide_eq_true (getD_ext (by rw [HS.out.len_eq, HS'.out.len_eq]) (fun q hq => HQ.out q (by have := HS.out.len_eq; omega)))
        clear HB
        subst hBt
        clear hK
        go_wp2
        go_ret
        exact ⟨rfl, HK.out⟩
  · have hBf : B = false := by
      rw [HB.out]
      refine decide_eq_false (fun e => hll ?_)
      rw [← HS.out.len_eq, ← HS'.out.len_eq, e]
    clear HB
    subst hBf
    have hne : ((l : Int) != (l' : Int)) = true := by rw [bne_iff_ne]; omega
    go_enter Tryd.func26, Tryd.ntmps26
    go_wp2
    go_ret
    exact ⟨rfl, Kept.refl _⟩
set_option maxRecDepth 100000 in
set_option maxHeartbeats 800000 in
theorem copy_strings_own (a : Option Addr) (l cap : Nat) (ss : List ByteArray) (w : World) (h : StrsIn w a l ss) (hl : l ≤ 8796093021952) :
    Calls Tryd.prog 5 #[.slice a l cap] w fun e w' => ∃ a' cap', e = .returned (.slice a' l cap') ∧ w'.ownsRow w.heap.size 9 1 (.slice a' l cap') l (ss.map Value.string) ∧ Kept w w' := by
  obtain ⟨i0, hi, hz0, hz1, hz2⟩ := info_parts Tryd.infoSt
  have HL := Lib.hid h.len_eq
  have HSZ := Lib.hid h.sizes
  have HI := Lib.hid (And.intro hi (And.intro hz0 (And.intro hz1 hz2)))
  clear hi hz0 hz1 hz2
  go_enter Tryd.func5, Tryd.ntmps5
  go_wp2
  go_loopw [3, 4] (fun v i wr => ∃ k : Nat, k ≤ l ∧ i = .int .i64 k ∧ wr.ownsRow w.heap.size 9 1 v k ((ss.take k).map Value.string) ∧ Kept w wr) (fun _ i _ => l - (intOf i).toNat)
  case atStart => exact ⟨0, by omega, rfl, World.ownsRow_nil _ _ _ _, Kept.refl _⟩
  case round =>
    obtain ⟨k, hk, rfl, hown, hK⟩ := hrel
    have HK := Lib.hid hK
    have HO := Lib.hid hown
    by_cases hlt : k < l
    · obtain ⟨b, off, ha, hc⟩ := h.cells
      obtain rfl := ha (by omega)
      have hck := hK.cell (hc k hlt).1 (hc k hlt).2
      have htk := take_snoc ss k (by have := HL.out; omega)
      generalize ss.getD k ByteArray.empty = t at hck htk
      have HT := Lib.hid htk
      clear h hc ha hK htk hown
      go_wp2_with (at_builtin; refine wpList_append_own _ rfl _ _ 23 rfl w.heap.size 9 i0 (.string ByteArray.empty) 1 16 Tryd.underlying23 HI.out.1 HI.out.2.1 HI.out.2.2.1 HI.out.2.2.2 rfl (by decide) _ _ _ rfl (HO.out.alloc _) ⟨wr.heap.size, 0, none⟩ 1 1 [.string t] rfl rfl ?c1 ?c2 ?c3 ?c4 ?c5 ?_)
      case c1 =>
        intro j u hj
        match j, hj with
        | 0, hj => simp at hj; subst hj; simp [Addr.add]
      case c2 => intro u hu; simp at hu; subst hu; rfl
      case c3 => unfold maxLen; omega
      case c4 => omega
      case c5 => have := HK.out.size; simp; omega
      intro v' w1 hown' hgrow _
      have HO' := Lib.hid hown'
      have HK' := Lib.hid (kept_grown (HK.out.alloc _) (HO.out.alloc _) hgrow)
      clear hown' hgrow
      go_wp2
      go_roundw
      case rel => exact ⟨k + 1, by omega, by go_num, by rw [HT.out, List.map_append, List.map_take]; exact HO'.out, HK'.out⟩
      case measure => simp [intOf]; omega
    · obtain rfl : k = l := by omega
      rw [List.take_of_length_le (Nat.le_of_eq HL.out)] at hown
      obtain ⟨a', cap', rfl⟩ := slice_of_own1 hown
      have HF := Lib.hid hown
      clear h hK hown HO
      go_wp2
      go_ret
      exact ⟨a', cap', rfl, HF.out, HK.out⟩
theorem grown_two {w a b : World} {row : Option Nat} (h : w.grownBy a row) (k : a.grownBy b row) : w.grownBy b row :=
  ⟨k.os.trans h.os, k.tape.trans h.tape, k.output.trans h.output, Nat.le_trans h.size k.size, fun i hi hne => (k.block i (Nat.lt_of_lt_of_le hi h.size) hne).trans (h.block i hi hne)⟩
theorem grown_cell (w : World) (g i : Nat) (v : Value) : w.grownBy (w.setCell ⟨g, i, none⟩ v) (some g) := ⟨rfl, rfl, rfl, by simp, fun k _ hne => Below.heap_setCell w ⟨g, i, none⟩ v k (fun e => hne (by rw [e]))⟩
theorem StrsIn.lt_of {W : World} {b off : Nat} {l : Nat} {ss : List ByteArray} (h : StrsIn W (some ⟨b, off, none⟩) l ss) (i : Nat) (hi : i < l) : b < W.heap.size := by
  obtain ⟨b', off', ha, hc⟩ := h.cells
  have := ha (by omega)
  cases this
  exact (hc i hi).1
theorem StrsIn.cell_of {W : World} {b off : Nat} {l : Nat} {ss : List ByteArray} (h : StrsIn W (some ⟨b, off, none⟩) l ss) (i : Nat) (hi : i < l) : W.cell? ⟨b, off + i, none⟩ = some (.string (ss.getD i ByteArray.empty)) := by
  obtain ⟨b', off', ha, hc⟩ := h.cells
  have := ha (by omega)
  cases this
  exact (hc i hi).2
theorem strs_take1 {W : World} {a : Option Addr} {l : Nat} {ss : List ByteArray} (h : StrsIn W a l ss) {n : Nat} (hn : n ≤ l) : StrsIn W a n (ss.take n) := by
  obtain ⟨b, off, ha, hc⟩ := h.cells
  refine ⟨by rw [List.length_take, h.len_eq]; omega, by have := h.le; omega, fun s hs => h.sizes s (List.mem_of_mem_take hs), b, off, fun h0 => ha (by omega), fun i hi => ?_⟩
  have e : (ss.take n).getD i ByteArray.empty = ss.getD i ByteArray.empty := by
    rw [List.getD_eq_getElem?_getD, List.getD_eq_getElem?_getD, List.getElem?_take_of_lt hi]
  rw [e]
  exact hc i (by omega)
/-- what is behind the k-th of a list of texts, as a slice -/
theorem tail_slice (ax : Option Addr) (n cx : Nat) (X : List ByteArray) (k : Nat) (hk : k ≤ n) (hc : n ≤ cx) (w : World) (h : StrsIn w ax n X) (hnone : ax = none → cx = 0) : ∃ az : Option Addr, Hid ((if cx = k then ax else Option.map (fun x => x.add k) ax) = az) ∧
    Hid (az = none → n - k = 0) ∧ Hid (∀ w', Kept w w' → ((X.drop k).map Value.string).length = (n - k) * 1 ∧ ∀ ad, az = some ad → ∀ j u, ((X.drop k).map Value.string)[j]? = some u → w'.cell? (ad.add j) = some u) := by
  have hl : ((X.drop k).map Value.string).length = (n - k) * 1 := by rw [List.length_map, List.length_drop, h.len_eq]; omega
  refine ⟨_, Lib.hid rfl, Lib.hid (fun e => ?_), Lib.hid (fun w' kk => ⟨hl, fun ad e j u hj => ?_⟩)⟩
  · cases ax with
    | none => have := hnone rfl; omega
    | some p =>
      by_cases hck : cx = k
      · rw [if_pos hck] at e; cases e
      · rw [if_neg hck] at e; cases e
  · have hj2 : j < n - k := by
      have := (List.getElem?_eq_some_iff.1 hj).1
      omega
    obtain ⟨b, off, ha, hcs⟩ := h.cells
    have ha := ha (by omega)
    subst ha
    rw [if_neg (by omega)] at e
    have e2 : ad = ⟨b, off + k, none⟩ := by
      have := Option.some.inj e
      rw [← this]
      unfold Addr.add
      show (if k = 0 then (⟨b, off, none⟩ : Addr) else ⟨b, off + k, none⟩) = _
      split <;> simp_all
    subst e2
    have e3 : (⟨b, off + k, none⟩ : Addr).add j = ⟨b, off + (k + j), none⟩ := by unfold Addr.add; rw [Nat.add_assoc]; split <;> simp_all
    rw [e3, (kk.cell (hcs (k + j) (by omega)).1 (hcs (k + j) (by omega)).2)]
    rw [List.getElem?_map, List.getElem?_drop] at hj
    have hl2 : k + j < X.length := by rw [h.len_eq]; omega
    rw [List.getElem?_eq_getElem hl2] at hj
    simp [List.getD, hl2]
    simpa using hj
/-- is a text among these? -/
def hasB (x : ByteArray) (ss : List ByteArray) : Bool := ss.any fun y => decide (y = x)
theorem hasB_iff {x : ByteArray} {ss : List ByteArray} : hasB x ss = true ↔ x ∈ ss := by
  unfold hasB
  rw [List.any_eq_true]
  constructor
  · rintro ⟨y, hy, e⟩
    rw [← of_decide_eq_true e]
    exact hy
  · exact fun h => ⟨x, h, decide_eq_true rfl⟩
end Go.Proofs.YtdllenoclnmmdaaDoor

namespace Go.Proofs.YtdllenoclnmmdaaDoor
open Go.RowKit Go.Shelf
attribute [local go_sem] Oper.semAt_some

theorem NewIn.from {a b w : World} {p : Option Addr} {l cap : Nat} {ss : List ByteArray} (h : NewIn b w p l cap ss) (k : a.heap.size ≤ b.heap.size) : NewIn a w p l cap ss :=
  ⟨h.1, h.2.1, fun q => by obtain ⟨g, cs, e, h1, h2⟩ := h.2.2 q; exact ⟨g, cs, e, by omega, h2⟩⟩
theorem NewIn.set {w0 w w' : World} {g l cap : Nat} {C : Array Value} {t : TypeId} {a : Option Addr} {ss : List ByteArray} (h : NewIn w0 w a l cap ss) (hg : BlockAt w g C t) (hn : ∀ (i : Nat) (x : ByteArray), C[i]? ≠ some (Value.string x)) (ht : t ≠ 9) (k : w.grownBy w' (some g)) : NewIn w0 w' a l cap ss :=
  ⟨h.1, strs_set h.2.1 hg hn k, fun q => by
    obtain ⟨b, cs, e, h1, h2⟩ := h.2.2 q
    refine ⟨b, cs, e, h1, block_grown h2 k (fun e2 => ht ?_)⟩
    cases e2
    have h3 := Eq.trans (Eq.symm hg) h2
    cases h3
    rfl⟩
end Go.Proofs.YtdllenoclnmmdaaDoor

namespace Go.Proofs.YtdllenoclnmmdaaDoor
open Go.RowKit Go.Shelf
attribute [local go_sem] Oper.semAt_some

theorem strs_of_own {w : World} {base l cap : Nat} {a : Option Addr} {ss : List ByteArray} (h : w.ownsRow base 9 1 (.slice a l cap) l (ss.map Value.string)) (hs : ∀ s ∈ ss, s.size ≤ 9223372036854775807) (hl : ss.length = l) : StrsIn w a l ss := by
  obtain ⟨a', c', e, _, h2⟩ := strs_own h hl hs
  cases e
  exact h2
set_option maxRecDepth 100000 in
set_option maxHeartbeats 2000000 in
theorem copy_mf (k : Int) (ab : Option Addr) (lb cb : Nat) (au : Option Addr) (lu cu : Nat) (bs us : List ByteArray) (wo : World) (hb : StrsIn wo ab lb bs) (hu : StrsIn wo au lu us) (hl : lb ≤ 100000 ∧ lu ≤ 100000) :
    Calls Tryd.prog 6 #[.agg #[.int .i64 k, .slice ab lb cb, .slice au lu cu]] wo fun e w' => ∃ a1 c1 a2 c2, e = .returned (.agg #[.int .i64 k, .slice a1 lb c1, .slice a2 lu c2]) ∧ StrsIn w' a1 lb bs ∧ StrsIn w' a2 lu us ∧ Kept wo w' := by
  have HBS := Lib.hid hb
  have HUS := Lib.hid hu
  have HB := Lib.hid (((BlockAt.new wo #[.int .i64 k, .slice ab lb cb, .slice au lu cu] 29).kept ((Kept.refl _).alloc (.cells #[.int .i64 0, .slice none 0 0, .slice none 0 0] 29))).kept ((Kept.refl _).alloc (.cells #[.int .i64 k, .slice ab lb cb, .slice au lu cu] 29)))
  have HR := Lib.hid ((BlockAt.new1 wo #[.int .i64 0, .slice none 0 0, .slice none 0 0] 29 (.cells #[.int .i64 k, .slice ab lb cb, .slice au lu cu] 29)).kept ((Kept.refl _).alloc (.cells #[.int .i64 k, .slice ab lb cb, .slice au lu cu] 29)))
  have HX := Lib.hid (BlockAt.new2 wo #[.int .i64 k, .slice ab lb cb, .slice au lu cu] 29 (.cells #[.int .i64 k, .slice ab lb cb, .slice au lu cu] 29) (.cells #[.int .i64 0, .slice none 0 0, .slice none 0 0] 29))
  have HK := Lib.hid ((((Kept.refl wo).alloc (.cells #[.int .i64 k, .slice ab lb cb, .slice au lu cu] 29)).alloc (.cells #[.int .i64 0, .slice none 0 0, .slice none 0 0] 29)).alloc (.cells #[.int .i64 k, .slice ab lb cb, .slice au lu cu] 29))
  clear hb hu
  go_enter Tryd.func6, Tryd.ntmps6
  go_upto_region 1 with (fail)
  obtain ⟨q0, q1, q2⟩ := box3 ((BlockAt.new wo #[.int .i64 k, .slice ab lb cb, .slice au lu cu] 29).kept ((Kept.refl _).alloc (.cells #[.int .i64 0, .slice none 0 0, .slice none 0 0] 29)))
  go_upto_region 2 with (fail)
  generalize ((wo.alloc (.cells #[.int .i64 k, .slice ab lb cb, .slice au lu cu] 29)).alloc (.cells #[.int .i64 0, .slice none 0 0, .slice none 0 0] 29)).alloc (.cells #[.int .i64 k, .slice ab lb cb, .slice au lu cu] 29) = w1 at *
  clear q0 q1 q2
  obtain ⟨a0, a1, a2⟩ := box3 HB.out
  go_wp2_with fail
  refine (copy_strings_own ab lb cb bs _ (HBS.out.kept HK.out) (by omega)).mono ?_
  rintro e w2 ⟨x1, y1, rfl, hown, hk2⟩
  have HS1 := Lib.hid (strs_of_own hown HBS.out.sizes HBS.out.len_eq)
  have HK2 := Lib.hid (HK.out.trans hk2)
  have HB2 := Lib.hid (HB.out.kept hk2)
  have HR2 := Lib.hid (HR.out.kept hk2)
  have HX2 := Lib.hid (HX.out.kept hk2)
  have f1 := HX2.out.free 1
  obtain ⟨d0, d1, d2⟩ := box3 HX2.out
  clear a0 a1 a2 hk2 hown HB HR HX
  have hzb := HR2.out.lt
  have hset : w2.grownBy (w2.setCell ⟨wo.heap.size + 1 + 1, 1, none⟩ (.slice x1 lb y1)) (some (wo.heap.size + 1 + 1)) := ⟨rfl, rfl, rfl, by simp, fun k _ hne => Below.heap_setCell w2 ⟨wo.heap.size + 1 + 1, 1, none⟩ (.slice x1 lb y1) k (fun e => hne (by rw [e]))⟩
  have HB3 := Lib.hid (block_grown HB2.out hset (by simp; omega))
  have HR3 := Lib.hid (block_grown HR2.out hset (by simp))
  have HX3 := Lib.hid (show BlockAt (w2.setCell ⟨wo.heap.size + 1 + 1, 1, none⟩ (.slice x1 lb y1)) (wo.heap.size + 1 + 1) #[.int .i64 k, .slice x1 lb y1, .slice au lu cu] 29 by have := HX2.out.set (i := 1) (.slice x1 lb y1); simpa using this)
  have HS3 := Lib.hid (strs_set HS1.out HX2.out (mf0_no _ _ _ _ _ _ _) hset)
  have HK3 := Lib.hid (Kept.setCell HK2.out (p := ⟨wo.heap.size + 1 + 1, 1, none⟩) (by show wo.heap.size ≤ wo.heap.size + 1 + 1; omega) (.slice x1 lb y1))
  clear hset
  go_upto_region 3 with (fail)
  generalize w2.setCell ⟨wo.heap.size + 1 + 1, 1, none⟩ (.slice x1 lb y1) = w3 at *
  clear f1 d0 d1 d2
  obtain ⟨a0, a1, a2⟩ := box3 HB3.out
  go_wp2_with fail
  refine (copy_strings_own au lu cu us _ (HUS.out.kept HK3.out) (by omega)).mono ?_
  rintro e w4 ⟨x2, y2, rfl, hown, hk4⟩
  have HS2 := Lib.hid (strs_of_own hown HUS.out.sizes HUS.out.len_eq)
  have HS4 := Lib.hid (HS3.out.kept hk4)
  have HK4 := Lib.hid (HK3.out.trans hk4)
  have HR4 := Lib.hid (HR3.out.kept hk4)
  have HX4 := Lib.hid (HX3.out.kept hk4)
  have f2 := HX4.out.free 2
  obtain ⟨d0, d1, d2⟩ := box3 HX4.out
  clear a0 a1 a2 hk4 hown HB3 HR3 HX3
  have hset : w4.grownBy (w4.setCell ⟨wo.heap.size + 1 + 1, 2, none⟩ (.slice x2 lu y2)) (some (wo.heap.size + 1 + 1)) := ⟨rfl, rfl, rfl, by simp, fun k _ hne => Below.heap_setCell w4 ⟨wo.heap.size + 1 + 1, 2, none⟩ (.slice x2 lu y2) k (fun e => hne (by rw [e]))⟩
  have HR5 := Lib.hid (block_grown HR4.out hset (by simp))
  have HX5 := Lib.hid (show BlockAt (w4.setCell ⟨wo.heap.size + 1 + 1, 2, none⟩ (.slice x2 lu y2)) (wo.heap.size + 1 + 1) #[.int .i64 k, .slice x1 lb y1, .slice x2 lu y2] 29 by have := HX4.out.set (i := 2) (.slice x2 lu y2); simpa using this)
  have HS5 := Lib.hid (strs_set HS4.out HX4.out (mf0_no _ _ _ _ _ _ _) hset)
  have HS6 := Lib.hid (strs_set HS2.out HX4.out (mf0_no _ _ _ _ _ _ _) hset)
  have HK5 := Lib.hid (Kept.setCell HK4.out (p := ⟨wo.heap.size + 1 + 1, 2, none⟩) (by show wo.heap.size ≤ wo.heap.size + 1 + 1; omega) (.slice x2 lu y2))
  clear hset
  go_upto_region 4 with (fail)
  generalize w4.setCell ⟨wo.heap.size + 1 + 1, 2, none⟩ (.slice x2 lu y2) = w5 at *
  clear f2 d0 d1 d2
  obtain ⟨a0, a1, a2⟩ := box3 HX5.out
  go_wp2_with (refine wpList_store_block rfl 29 (.tmp 2) (.tmp 13) rfl _ #[.int .i64 k, .slice x1 lb y1, .slice x2 lu y2] #[.int .i64 0, .slice none 0 0, .slice none 0 0] 29 rfl rfl HR5.out Tryd.infoMf rfl (one3m _ _ _ _ _ _ _) ?_)
  have g8 := grown_row w5 (wo.heap.size + 1) #[.int .i64 k, .slice x1 lb y1, .slice x2 lu y2]
  refine bodyPost_ret (v := .agg #[.int .i64 k, .slice x1 lb y1, .slice x2 lu y2]) ?_ rfl ⟨x1, y1, x2, y2, rfl, strs_set HS5.out HR5.out (mf0_no _ _ _ _ _ _ _) g8, strs_set HS6.out HR5.out (mf0_no _ _ _ _ _ _ _) g8, HK5.out.setRow (by omega) _⟩
  exact results_cell_row rfl _ _ (wo.heap.size + 1) 29 #[.int .i64 k, .slice x1 lb y1, .slice x2 lu y2] (0, 0) _ rfl (HR5.out.setRow _) Tryd.underlying29 rfl Tryd.infoMf
theorem bool_and3 {a b c : Bool} (h : a = false) : (a && (b && c)) = false := by rw [h]; rfl
set_option maxRecDepth 100000 in
set_option maxHeartbeats 2000000 in
theorem eq_mf (k : Int) (ab : Option Addr) (lb cb : Nat) (au : Option Addr) (lu cu : Nat) (bs us : List ByteArray) (k' : Int) (ab' : Option Addr) (lb' cb' : Nat) (au' : Option Addr) (lu' cu' : Nat) (bs' us' : List ByteArray) (w : World)
    (hb : StrsIn w ab lb bs) (hu : StrsIn w au lu us) (hb' : StrsIn w ab' lb' bs') (hu' : StrsIn w au' lu' us') :
    Calls Tryd.prog 14 #[.agg #[.int .i64 k, .slice ab lb cb, .slice au lu cu], .agg #[.int .i64 k', .slice ab' lb' cb', .slice au' lu' cu']] w fun e w' => e = .returned (.bool (decide (k = k') && (decide (bs = bs') && decide (us = us')))) ∧ Kept w w' := by
  have HBS := Lib.hid hb
  have HUS := Lib.hid hu
  have HBS' := Lib.hid hb'
  have HUS' := Lib.hid hu'
  have HB := Lib.hid ((BlockAt.new w #[.int .i64 k, .slice ab lb cb, .slice au lu cu] 29).kept ((Kept.refl _).alloc (.cells #[.int .i64 k', .slice ab' lb' cb', .slice au' lu' cu'] 29)))
  have HC := Lib.hid (BlockAt.new1 w #[.int .i64 k', .slice ab' lb' cb', .slice au' lu' cu'] 29 (.cells #[.int .i64 k, .slice ab lb cb, .slice au lu cu] 29))
  have HK := Lib.hid (((Kept.refl w).alloc (.cells #[.int .i64 k, .slice ab lb cb, .slice au lu cu] 29)).alloc (.cells #[.int .i64 k', .slice ab' lb' cb', .slice au' lu' cu'] 29))
  obtain ⟨R, hR⟩ : ∃ R, R = (decide (k = k') && (decide (bs = bs') && decide (us = us'))) := ⟨_, rfl⟩
  rw [← hR]
  have HR := Lib.hid hR
  clear hb hu hb' hu' hR
  go_enter Tryd.func14, Tryd.ntmps14
  go_upto_region 1 with (fail)
  generalize (w.alloc (.cells #[.int .i64 k, .slice ab lb cb, .slice au lu cu] 29)).alloc (.cells #[.int .i64 k', .slice ab' lb' cb', .slice au' lu' cu'] 29) = w1 at *
  obtain ⟨a0, a1, a2⟩ := box3 HB.out
  obtain ⟨b0, b1, b2⟩ := box3 HC.out
  by_cases h1 : k = k'
  · have d1 : (k == k') = true := by rw [beq_iff_eq]; exact h1
    have HR2 := Lib.hid (show R = (decide (bs = bs') && decide (us = us')) by rw [HR.out, decide_eq_true h1]; rfl)
    clear h1 HR
    go_wp2_with fail
    refine (eq_strings2 ab ab' lb lb' cb cb' bs bs' _ (HBS.out.kept HK.out) (HBS'.out.kept HK.out)).mono ?_
    rintro e w2 ⟨rfl, hk2⟩
    have HK2 := Lib.hid (HK.out.trans hk2)
    clear a0 a1 a2 b0 b1 b2
    obtain ⟨a0, a1, a2⟩ := box3 (HB.out.kept hk2)
    obtain ⟨b0, b1, b2⟩ := box3 (HC.out.kept hk2)
    clear hk2
    by_cases h2 : bs = bs'
    · have HR3 := Lib.hid (show R = decide (us = us') by rw [HR2.out, decide_eq_true h2]; rfl)
      rw [decide_eq_true h2]
      clear h2 HR2
      go_wp2_with fail
      refine (eq_strings2 au au' lu lu' cu cu' us us' _ (HUS.out.kept HK2.out) (HUS'.out.kept HK2.out)).mono ?_
      rintro e w3 ⟨rfl, hk3⟩
      have HK3 := Lib.hid (HK2.out.trans hk3)
      clear a0 a1 a2 b0 b1 b2 hk3
      generalize decide (us = us') = B at *
      go_wp2
      go_ret
      exact ⟨retb HR3.out, HK3.out⟩
    · have HE := Lib.hid (show R = false by rw [HR2.out, decide_eq_false h2]; rfl)
      rw [decide_eq_false h2]
      clear h2 HR2
      go_wp2
      go_ret
      exact ⟨retb HE.out, HK2.out⟩
  · have d1 : (k == k') = false := by rw [beq_eq_false_iff_ne]; exact h1
    have HE := Lib.hid (show R = false by rw [HR.out, decide_eq_false h1]; rfl)
    clear h1 HR
    go_wp2
    go_ret
    exact ⟨retb HE.out, HK.out⟩
end Go.Proofs.YtdllenoclnmmdaaDoor

namespace Go.Proofs.YtdllenoclnmmdaaDoor
open Go.ChangeShapes Go.WideShapes Go.ChangeAt Go.RowKit Go.Joins Go.Deep
theorem trod_intI {H : Type} {enc : TypeId × Value → H} {P : Program} {t : TypeId} {k : IntKind} (ht : P.underlying t = some (.int k)) {W : World} {fuel : Nat} {v : Value} {y : DataW H × List MemPlace}
    (h0 : DataW.trod enc P W 0 (fun _ => true) true fuel t [v] = some y) : ∃ n, v = .int k n ∧ (Lit.int k n).wf = true := by
  obtain ⟨n, h, hx, hw⟩ := DataW.trod_int ht h0
  simp only [List.cons.injEq, and_true] at h
  exact ⟨n, h, hw⟩
section
variable {H : Type} {enc : TypeId × Value → H} {P : Program} {w : World} {base : Nat} {spare : Nat → Bool} {held : Bool}
theorem open_structs {t e : TypeId} {fs : Array Field} {fuel : Nat} {cs : List Value} {x : DataW H × List MemPlace} (ht : P.underlying t = some (.slice e)) (he : P.underlying e = some (.struct fs))
    (hone : oneCellFields P fs = true) (hC : P.cellsOf e = fs.size) (h : DataW.trod enc P w base spare held fuel t cs = some x) :
    (cs = [.slice none 0 0] ∧ x = (.nil, [])) ∨
    ∃ (a : Addr) (len cap m : Nat) (D : Nat → DataW H) (Pl : Nat → List MemPlace), cs = [.slice (some a) len cap] ∧ base ≤ a.block ∧ len ≤ cap ∧ cap ≤ maxLen ∧ m = (if spare a.block then cap else len) ∧
      x = (.slice ((List.range len).map D) ((List.range (m - len)).map fun j => D (len + j)), MemPlace.row a (m * fs.size) ++ (List.range m).flatMap Pl) ∧
      ∀ i, i < m → ∃ (ys : List (DataW H × List MemPlace)) (n : Nat), D i = .agg (ys.map (·.1)) ∧ Pl i = ys.flatMap (·.2) ∧ ys.length = fs.size ∧
        ∀ (j : Nat) (f : Field), fs[j]? = some f → ∃ (v : Value) (y : DataW H × List MemPlace), w.cell? (a.add (i * fs.size + j)) = some v ∧ ys[j]? = some y ∧ DataW.trod enc P w base spare held n f.type [v] = some y := by
  rcases open_slice ht h with h0 | ⟨a, len, cap, m, n, D, Pl, hcs, hb, hl, hm, hmm, hx, hi⟩
  · exact .inl h0
  · refine .inr ⟨a, len, cap, m, D, Pl, hcs, hb, hl, hm, hmm, by rw [hC] at hx; exact hx, fun i him => ?_⟩
    obtain ⟨cs', hc, ht'⟩ := hi i him
    rw [hC] at hc
    obtain ⟨ys, n', hn', hy, hlen, hyl, hf⟩ := DataW.trod_struct he ht'
    obtain ⟨_, hcl, hat⟩ := World.cells?_some hc
    simp only [Prod.mk.injEq] at hy
    refine ⟨ys, n', hy.1, hy.2, hyl, fun j f hj => ?_⟩
    obtain ⟨ho, hk⟩ := hone_of hone j f hj
    have hjl : j < fs.size := (Array.getElem?_eq_some_iff.1 hj).1
    have hcell := hat j hjl
    have hv : cs'[j]? = some (cs'[j]'(by omega)) := List.getElem?_eq_getElem (by omega)
    have h1 := hf j f hj
    rw [ho, hk] at h1
    have hone' : (cs'.drop j).take 1 = [cs'[j]'(by omega)] := by
      rw [List.drop_eq_getElem_cons (by omega)]
      rfl
    rw [hone'] at h1
    have hys : ys[j]? = some (ys[j]'(by omega)) := List.getElem?_eq_getElem (by omega)
    refine ⟨_, _, ?_, hys, h1.trans hys⟩
    rw [← Go.Deep.add_add, hcell, hv]
end
/-- a slice's own weight -/
theorem slice_sized {H : Type} {enc : TypeId × Value → H} {P : Program} {W : World} {fuel : Nat} {t e : TypeId} {a : Option Addr} {l cap : Nat} {y : DataW H × List MemPlace} (ht : P.underlying t = some (.slice e))
    (h : DataW.trod enc P W 0 (fun _ => true) true fuel t [.slice a l cap] = some y) (hz : ∀ n ∈ y.1.weights P t, n ≤ reachBytes) : l * P.bytesOf e ≤ reachBytes := by
  rcases open_slice ht h with ⟨hcs, _⟩ | ⟨a', len, cap', m, n, D, Pl, hcs, _, hl, _, _, hx, _⟩
  · simp only [List.cons.injEq, and_true, Value.slice.injEq] at hcs
    obtain ⟨_, rfl, _⟩ := hcs
    simp
  · simp only [List.cons.injEq, and_true, Value.slice.injEq] at hcs
    obtain ⟨_, rfl, _⟩ := hcs
    have h1 := hz (((List.range l).map D).length + ((List.range (m - l)).map fun j => D (l + j)).length |> (· * P.bytesOf e)) (by rw [hx]; simp [DataW.weights, ht])
    have h2 : l ≤ ((List.range l).map D).length + ((List.range (m - l)).map fun j => D (l + j)).length := by simp
    exact Nat.le_trans (Nat.mul_le_mul_right _ h2) h1
theorem Tryd.bytesMf : Tryd.prog.bytesOf 29 = 56 := by kernel_rfl
theorem Tryd.cellsMf : Tryd.prog.cellsOf 29 = 3 := by kernel_rfl
theorem Tryd.cellsAskM : Tryd.prog.cellsOf 25 = 2 := by kernel_rfl
/-- a list of what there is for each place -/
theorem list_of {α : Type} (d : α) : ∀ (n : Nat) (P : Nat → α → Prop), (∀ i, i < n → ∃ r, P i r) → ∃ l : List α, l.length = n ∧ ∀ i, i < n → P i (l.getD i d)
  | 0, _, _ => ⟨[], rfl, fun i hi => absurd hi (Nat.not_lt_zero i)⟩
  | n + 1, P, h => by
    obtain ⟨l, hl, hp⟩ := list_of d n P (fun i hi => h i (by omega))
    obtain ⟨r, hr⟩ := h n (by omega)
    refine ⟨l ++ [r], by simp [hl], fun i hi => ?_⟩
    by_cases e : i = n
    · subst e
      have : (l ++ [r]).getD i d = r := by simp [List.getD, ← hl]
      rw [this]; exact hr
    · have : (l ++ [r]).getD i d = l.getD i d := by simp [List.getD, List.getElem?_append_left (show i < l.length by omega)]
      rw [this]; exact hp i (by omega)
/-- a manifest in three cells -/
def MfCell (W : World) (b o : Nat) (m : Mf) : Prop := ∃ ab cb au cu, TextsIn W ab m.bs.length cb m.bs ∧ TextsIn W au m.us.length cu m.us ∧ (-9223372036854775808 ≤ m.k ∧ m.k ≤ 9223372036854775807) ∧ b < W.heap.size ∧
  W.cell? ⟨b, o, none⟩ = some (.int .i64 m.k) ∧ W.cell? ⟨b, o + 1, none⟩ = some (.slice ab m.bs.length cb) ∧ W.cell? ⟨b, o + 2, none⟩ = some (.slice au m.us.length cu)
def mf00 : Mf := ⟨0, [], []⟩
structure MfsIn (W : World) (a : Option Addr) (len : Nat) (ms : List Mf) : Prop where
  len_eq : ms.length = len
  few : len ≤ 2513169434916
  cells : ∃ b off, (0 < len → a = some ⟨b, off, none⟩) ∧ ∀ i, i < len → MfCell W b (off + i * 3) (ms.getD i mf00)
set_option maxRecDepth 100000 in
set_option maxHeartbeats 1000000 in
theorem mfs_in {H : Type} {enc : TypeId × Value → H} {W : World} {fuel : Nat} {v : Value} {y : DataW H × List MemPlace}
    (h0 : DataW.trod enc Tryd.prog W 0 (fun _ => true) true fuel 22 [v] = some y) (hz : ∀ n ∈ y.1.weights Tryd.prog 22, n ≤ reachBytes) : ∃ a len cap ms, v = .slice a len cap ∧ MfsIn W a len ms := by
  rcases open_structs Tryd.underlying22 Tryd.underlying29 (by kernel_rfl) Tryd.cellsMf h0 with ⟨hcs, _⟩ | ⟨a, len, cap, m, D, Pl, hcs, _, hl, hm, hmm, hx, hf⟩
  · simp only [List.cons.injEq, and_true] at hcs
    exact ⟨none, 0, 0, [], hcs, ⟨rfl, by omega, 0, 0, fun h => absurd h (Nat.lt_irrefl 0), fun i hi => absurd hi (Nat.not_lt_zero i)⟩⟩
  · simp only [List.cons.injEq, and_true] at hcs
    simp only [if_true] at hmm
    subst hmm
    unfold maxLen at hm
    by_cases hp : 0 < len
    · obtain ⟨b, off, spot⟩ := a
      have hspot : spot = none := by
        obtain ⟨ys, n, _, _, _, hfj⟩ := hf 0 (by omega)
        obtain ⟨v0, _, hc0, _⟩ := hfj 0 _ rfl
        simpa [Addr.add] using World.cell?_spot hc0
      subst hspot
      obtain ⟨ms, hrl, hr⟩ := list_of mf00 len (fun i r => MfCell W b (off + i * 3) r) (fun i hi => by
        obtain ⟨ys, n, hD, _, _, hfj⟩ := hf i (by omega)
        obtain ⟨v0, y0, hc0, _, ht0⟩ := hfj 0 _ rfl
        obtain ⟨v1, y1, hc1, hy1, ht1⟩ := hfj 1 _ rfl
        obtain ⟨v2, y2, hc2, hy2, ht2⟩ := hfj 2 _ rfl
        have hW : ∀ (j : Nat) (t : TypeId) (d : DataW H), (ys.map (·.1))[j]? = some d → (∀ q ∈ d.weights Tryd.prog t, q ∈ DataW.weights Tryd.prog 29 (.agg (ys.map (·.1)))) → ∀ q ∈ d.weights Tryd.prog t, q ≤ reachBytes := fun j t d _ hin q hq => by
          refine hz q ?_
          rw [hx]
          simp only [DataW.weights, Tryd.underlying22, List.mem_cons, List.mem_append]
          refine Or.inr (Or.inl (weightsAll_has (d := D i) (List.mem_map.2 ⟨i, List.mem_range.2 hi, rfl⟩) q ?_))
          rw [hD]
          exact hin q hq
        have w1 := hW 1 23 y1.1 (by rw [List.getElem?_map, hy1]; rfl) (fun q hq => by
          simp only [DataW.weights, Tryd.underlying29]
          exact DataW.weights_mem_each (j := 1) (t := 23) (d := y1.1) (by rfl) (by rw [List.getElem?_map, hy1]; rfl) q hq)
        have w2 := hW 2 23 y2.1 (by rw [List.getElem?_map, hy2]; rfl) (fun q hq => by
          simp only [DataW.weights, Tryd.underlying29]
          exact DataW.weights_mem_each (j := 2) (t := 23) (d := y2.1) (by rfl) (by rw [List.getElem?_map, hy2]; rfl) q hq)
        obtain ⟨k, rfl, hk⟩ := trod_intI Tryd.underlying3 ht0
        obtain ⟨ab, lb, cb, bs, rfl, hB⟩ := texts_in Tryd.underlying23 Tryd.underlying9 Tryd.cellsStr Tryd.bytesStr ht1 w1
        obtain ⟨au, lu, cu, us, rfl, hU⟩ := texts_in Tryd.underlying23 Tryd.underlying9 Tryd.cellsStr Tryd.bytesStr ht2 w2
        rw [add_plain] at hc0 hc1 hc2
        simp only [List.size_toArray, List.length_cons, List.length_nil, Nat.reduceAdd, Nat.add_zero, ← Nat.add_assoc] at hc0 hc1 hc2
        obtain rfl := hB.strs.len_eq
        obtain rfl := hU.strs.len_eq
        exact ⟨⟨k, bs, us⟩, ab, cb, au, cu, hB, hU, bounds_i64 hk, World.block_lt_of_cell? _ _ hc0, hc0, hc1, hc2⟩)
      have h56 : len * 56 ≤ reachBytes := by
        have := slice_sized Tryd.underlying22 (a := some ⟨b, off, none⟩) (l := len) (cap := m) (by rw [← hcs]; exact h0) hz
        rw [Tryd.bytesMf] at this
        exact this
      unfold reachBytes at h56
      exact ⟨_, len, m, ms, hcs, ⟨hrl, by omega, b, off, fun _ => rfl, fun i hi => hr i hi⟩⟩
    · obtain rfl : len = 0 := by omega
      exact ⟨_, 0, m, [], hcs, ⟨rfl, by omega, 0, 0, fun h => absurd h (Nat.lt_irrefl 0), fun i hi => absurd hi (Nat.not_lt_zero i)⟩⟩
theorem MfCell.kept {W W' : World} {b o : Nat} {m : Mf} (h : MfCell W b o m) (k : Kept W W') : MfCell W' b o m := by
  obtain ⟨ab, cb, au, cu, h1, h2, h3, h4, h5, h6, h7⟩ := h
  exact ⟨ab, cb, au, cu, h1.kept k, h2.kept k, h3, Nat.lt_of_lt_of_le h4 k.size, k.cell h4 h5, k.cell h4 h6, k.cell h4 h7⟩
theorem MfsIn.kept {W W' : World} {a : Option Addr} {len : Nat} {ms : List Mf} (h : MfsIn W a len ms) (k : Kept W W') : MfsIn W' a len ms := by
  obtain ⟨b, off, ha, hc⟩ := h.cells
  exact ⟨h.len_eq, h.few, b, off, ha, fun i hi => (hc i hi).kept k⟩
set_option maxRecDepth 100000 in
/-- the argument: manifests, texts -/
theorem askM_in {H : Type} {enc : TypeId × Value → H} {W : World} {base : Nat} {v : Value} {d : DataW H} {p : List MemPlace} (hv : Value.okWide Tryd.prog W .any base 25 v)
    (h : DataW.Trod enc Tryd.prog W 0 (fun _ => true) true 25 v d p) (hz : ∀ n ∈ d.weights Tryd.prog 25, n ≤ reachBytes) :
    ∃ am lm cm ms aa ls cs ss, v = .agg #[.slice am lm cm, .slice aa ls cs] ∧ MfsIn W am lm ms ∧ TextsIn W aa ls cs ss := by
  obtain ⟨v0, v1, y0, y1, m, rfl, rfl, rfl, hy0, hy1⟩ := open_agg2 Tryd.underlying25 (by kernel_rfl) Tryd.cellsAskM hv h
  obtain ⟨am, lm, cm, ms, rfl, h1⟩ := mfs_in hy0 (fun n hn => hz n (by
    simp only [DataW.weights, Tryd.underlying25]
    exact DataW.weights_mem_each (j := 0) (t := 22) (d := y0.1) (by rfl) (by rfl) n hn))
  obtain ⟨aa, ls, cs, ss, rfl, h2⟩ := texts_in Tryd.underlying23 Tryd.underlying9 Tryd.cellsStr Tryd.bytesStr hy1 (fun n hn => hz n (by
    simp only [DataW.weights, Tryd.underlying25]
    exact DataW.weights_mem_each (j := 1) (t := 23) (d := y1.1) (by rfl) (by rfl) n hn))
  exact ⟨am, lm, cm, ms, aa, ls, cs, ss, rfl, h1, h2⟩
end Go.Proofs.YtdllenoclnmmdaaDoor

namespace Go.Proofs.YtdllenoclnmmdaaDoor
open Go.RowKit Go.Shelf
attribute [local go_sem] Oper.semAt_some

/-- how much texts are, as the program reckons it: beyond a million it stops -/
def sumT (ss : List ByteArray) (l : Nat) : Nat → Int
  | 0 => l
  | k + 1 => if sumT ss l k < 1048576 then sumT ss l k + ((ss.getD k ByteArray.empty).size : Int) else sumT ss l k
theorem sumT_stays (ss : List ByteArray) (l k : Nat) (h : ¬ sumT ss l k < 1048576) : ∀ j, sumT ss l (k + j) = sumT ss l k
  | 0 => rfl
  | j + 1 => by
    have ih := sumT_stays ss l k h j
    show (if sumT ss l (k + j) < 1048576 then _ else sumT ss l (k + j)) = _
    rw [ih, if_neg h]
theorem sumT_bd (ss : List ByteArray) (l : Nat) (hl : l ≤ 8796093021952) (h : ∀ q, (ss.getD q ByteArray.empty).size ≤ 140737488351232) : ∀ k, (l : Int) ≤ sumT ss l k ∧ sumT ss l k ≤ 281474976710656
  | 0 => ⟨Int.le_refl _, by show (l : Int) ≤ _; omega⟩
  | k + 1 => by
    have ih := sumT_bd ss l hl h k
    have hk := h k
    show (l : Int) ≤ (if sumT ss l k < 1048576 then _ else sumT ss l k) ∧ (if sumT ss l k < 1048576 then _ else sumT ss l k) ≤ 281474976710656
    split <;> omega
theorem getD_small {ss : List ByteArray} {n : Nat} (h : ∀ s ∈ ss, s.size ≤ n) (q : Nat) : (ss.getD q ByteArray.empty).size ≤ n := by
  by_cases hq : q < ss.length
  · exact h _ (by simp [List.getD, hq])
  · have : ss.getD q ByteArray.empty = ByteArray.empty := by simp [List.getD, Nat.not_lt.1 hq]
    rw [this]
    exact Nat.zero_le _
def sumA (ss : List ByteArray) : Int := sumT ss ss.length ss.length
theorem TextsIn.sum_bd {W : World} {a : Option Addr} {l cap : Nat} {ss : List ByteArray} (h : TextsIn W a l cap ss) : (l : Int) ≤ sumA ss ∧ sumA ss ≤ 281474976710656 := by
  unfold sumA
  rw [h.strs.len_eq]
  exact sumT_bd ss l h.few (getD_small h.short) l
set_option maxRecDepth 100000 in
theorem texts_eq (a : Option Addr) (l cap : Nat) (ss : List ByteArray) (w : World) (h : TextsIn w a l cap ss) :
    Calls Tryd.prog 18 #[.slice a l cap] w fun e w' => e = .returned (.int .i64 (sumA ss)) ∧ w = w' := by
  have hle := h.few
  have HH := Lib.hid h.strs
  have HB := Lib.hid (sumT_bd ss l h.few (getD_small h.short))
  have HE := Lib.hid (show sumA ss = sumT ss l l by unfold sumA; rw [h.strs.len_eq])
  have HZ := Lib.hid (getD_small h.short)
  rw [HE.out]
  clear h HE
  go_enter Tryd.func18, Tryd.ntmps18
  go_wp2
  go_loopw [3, 4] (fun m i wr => ∃ k : Nat, k ≤ l ∧ i = .int .i64 k ∧ m = .int .i64 (sumT ss l k) ∧ w = wr) (fun _ i _ => l - (intOf i).toNat)
  case atStart => exact ⟨0, by omega, rfl, rfl, rfl⟩
  case round =>
    obtain ⟨k, hk, rfl, rfl, rfl⟩ := hrel
    by_cases hlt : k < l
    · have hst := sumT_stays ss l k
      have hsu : sumT ss l (k + 1) = if sumT ss l k < 1048576 then sumT ss l k + ((ss.getD k ByteArray.empty).size : Int) else sumT ss l k := rfl
      have HST := Lib.hid hst
      have HSU := Lib.hid hsu
      have hbd := HB.out k
      have hzk := HZ.out k
      clear hst hsu
      generalize hT : sumT ss l k = T at HST HSU hbd ⊢
      have HT := Lib.hid hT
      clear hT
      by_cases hn : T < 1048576
      · obtain ⟨b, off, ha, hc⟩ := HH.out.cells
        obtain rfl := ha (by omega)
        obtain ⟨hb, hcell⟩ := hc k hlt
        have hs := HH.out.size k hlt
        generalize ss.getD k ByteArray.empty = s at hcell hs HSU hzk
        clear hc ha
        go_wp2
        go_roundw
        case rel => exact ⟨k + 1, by omega, by go_num, by rw [HSU.out, if_pos hn], by trivial⟩
        case measure => simp [intOf]; omega
      · go_wp2
        go_ret
        refine ⟨?_, rfl⟩
        have := HST.out hn (l - k)
        rw [show k + (l - k) = l by omega] at this
        show Ending.returned (.int .i64 T) = _
        rw [this]
    · obtain rfl : k = l := by omega
      go_wp2
      go_ret
      exact ⟨rfl, rfl⟩
theorem num20_any (n : Int) (w : World) : Calls Tryd.prog 12 #[.int .i64 n] w fun e w' => e = .returned (.int .i64 n) ∧ w = w' := by
  go_enter Tryd.func12, Tryd.ntmps12
  go_wp2
  go_ret
  exact ⟨rfl, rfl⟩
theorem nil_strs (w : World) (a : Option Addr) : StrsIn w a 0 [] := ⟨rfl, by decide, (fun s hs => by cases hs), 0, 0, fun h => absurd h (Nat.lt_irrefl 0), fun i hi => absurd hi (Nat.not_lt_zero i)⟩
set_option maxRecDepth 100000 in
theorem wakes20_any (w : World) : Calls Tryd.prog 17 #[] w fun e w' => e = .returned (.bool true) ∧ Kept w w' := by
  have HM := Lib.hid (show mfT ⟨0, [], []⟩ = ⟨#[77, 65, 78, 70, 0, 0, 0]⟩ from rfl)
  go_enter Tryd.func17, Tryd.ntmps17
  go_wp2_with fail
  refine (mbytes_good 0 none 0 0 none 0 0 [] [] _ (nil_strs _ _) (nil_strs _ _) (by decide)).mono ?_
  rw [HM.out]
  rintro e w1 ⟨rfl, hk⟩
  have HK := Lib.hid hk
  clear hk
  go_wp2_with fail
  refine (num20_any _ _).mono ?_
  rintro e w' ⟨rfl, rfl⟩
  go_wp2
  go_ret
  exact ⟨rfl, HK.out⟩
/-- what is said by 'not heavy' -/
def LightM (lm : Nat) (ms : List Mf) : Prop := ∀ i, i < lm → sumA (ms.getD i mf00).bs ≤ 6000 ∧ sumA (ms.getD i mf00).us ≤ 6000
def HeavyP (w : World) (lm ls : Nat) (ms : List Mf) (e : Ending) (w' : World) : Prop := Kept w w' ∧ (e = .returned (.bool true) ∨ e = .returned (.bool false) ∧ LightM lm ms ∧ ls ≤ 6000)
set_option maxRecDepth 100000 in
set_option maxHeartbeats 4000000 in
theorem heavy20_any (am : Option Addr) (lm cm : Nat) (ms : List Mf) (aa : Option Addr) (ls cs : Nat) (ss : List ByteArray) (wo : World) (hm : MfsIn wo am lm ms) (hs : TextsIn wo aa ls cs ss) :
    Calls Tryd.prog 4 #[.agg #[.slice am lm cm, .slice aa ls cs]] wo (HeavyP wo lm ls ms) := by
  have HMS := Lib.hid hm
  have HSS := Lib.hid hs
  have hlm := hm.few
  have HB0 := Lib.hid (BlockAt.new wo #[.slice am lm cm, .slice aa ls cs] 25)
  have HK0 := Lib.hid ((Kept.refl wo).alloc (.cells #[.slice am lm cm, .slice aa ls cs] 25))
  have hbs := hs.sum_bd
  clear hm hs
  go_enter Tryd.func4, Tryd.ntmps4
  go_upto_region 1 with (fail)
  generalize wo.alloc (.cells #[.slice am lm cm, .slice aa ls cs] 25) = w1 at *
  have HBX0 := Lib.hid (show ∀ w, Kept w1 w → w.cell? ⟨wo.heap.size, 0, none⟩ = some (.slice am lm cm) ∧ w.cell? ⟨wo.heap.size, 1, none⟩ = some (.slice aa ls cs) from fun w k => ⟨(HB0.out.kept k).cell 0, (HB0.out.kept k).cell 1⟩)
  obtain ⟨a0, a1⟩ := HBX0.out _ (Kept.refl _)
  go_wp2_with fail
  refine (texts_eq aa ls cs ss _ ((HSS.out.kept HK0.out))).mono ?_
  rintro e w2 ⟨rfl, rfl⟩
  obtain ⟨N, hN⟩ : ∃ N, N = sumA ss := ⟨_, rfl⟩
  rw [← hN] at hbs ⊢
  clear hN a0 a1
  go_wp2_with fail
  go_loopw [3, 4] (fun nv kv wr => ∃ (k : Nat) (n : Int), k ≤ lm ∧ kv = .int .i64 k ∧ nv = .int .i64 n ∧ (ls : Int) ≤ n ∧ 0 ≤ n ∧ n ≤ 1125899906842624 ∧ Hid (∀ i, i < k → sumA (ms.getD i mf00).bs ≤ n ∧ sumA (ms.getD i mf00).us ≤ n) ∧ Kept w1 wr) (fun _ kv _ => lm - (intOf kv).toNat)
  case atStart => exact ⟨0, N, by omega, rfl, rfl, by omega, by omega, by omega, Lib.hid (fun i hi => absurd hi (Nat.not_lt_zero i)), Kept.refl _⟩
  case round =>
    obtain ⟨k, n, hk, rfl, rfl, hn1, hn0, hn2, HA, hkr⟩ := hrel
    have HKR := Lib.hid hkr
    obtain ⟨a0, a1⟩ := HBX0.out _ hkr
    have HBX := Lib.hid (show ∀ w, Kept wr w → w.cell? ⟨wo.heap.size, 0, none⟩ = some (.slice am lm cm) ∧ w.cell? ⟨wo.heap.size, 1, none⟩ = some (.slice aa ls cs) from fun w k => HBX0.out _ (HKR.out.trans k))
    clear hkr
    by_cases hend : k < lm ∧ n < 1048576
    · obtain ⟨hlt, hnn⟩ := hend
      have hd1 : decide (k < lm) = true := decide_eq_true hlt
      have hd2 : decide (n < 1048576) = true := decide_eq_true hnn
      obtain ⟨bm, om, ha, hc⟩ := HMS.out.cells
      obtain rfl := ha (by omega)
      obtain ⟨ab, cb, au, cu, hB, hU, _, hlb, c0, c1, c2⟩ := hc k hlt
      have HASN := Lib.hid (show ∀ z : Int, n ≤ z → sumA (ms.getD k mf00).bs ≤ z → sumA (ms.getD k mf00).us ≤ z → ∀ i, i < k + 1 → sumA (ms.getD i mf00).bs ≤ z ∧ sumA (ms.getD i mf00).us ≤ z from fun z h0 h1 h2 i hi => by
        by_cases e : i = k
        · subst e; exact ⟨h1, h2⟩
        · have := HA.out i (by omega); omega)
      generalize ms.getD k mf00 = m at *
      obtain ⟨kk, bs, us⟩ := m
      dsimp only at *
      have hsb := hB.sum_bd
      have hsu := hU.sum_bd
      have HTB := Lib.hid hB
      have HTU := Lib.hid hU
      obtain ⟨mb, hmb⟩ : ∃ mb, mb = bs.length := ⟨_, rfl⟩
      obtain ⟨mu, hmu⟩ : ∃ mu, mu = us.length := ⟨_, rfl⟩
      rw [← hmb] at HTB c1 hsb
      rw [← hmu] at HTU c2 hsu
      have hkw : Kept wo wr := HK0.out.trans HKR.out
      have HC1 := Lib.hid (show ∀ w, Kept wr w → w.cell? ⟨bm, om + k * 3 + 1, none⟩ = some (.slice ab mb cb) from fun w q => (hkw.trans q).cell hlb c1)
      have HC2 := Lib.hid (show ∀ w, Kept wr w → w.cell? ⟨bm, om + k * 3 + 2, none⟩ = some (.slice au mu cu) from fun w q => (hkw.trans q).cell hlb c2)
      have HTbs := Lib.hid (show ∀ w, Kept wr w → Calls Tryd.prog 18 #[.slice ab mb cb] w fun e w' => e = .returned (.int .i64 (sumA bs)) ∧ w = w' from fun w q => texts_eq ab mb cb bs w (HTB.out.kept (hkw.trans q)))
      have HTus := Lib.hid (show ∀ w, Kept wr w → Calls Tryd.prog 18 #[.slice au mu cu] w fun e w' => e = .returned (.int .i64 (sumA us)) ∧ w = w' from fun w q => texts_eq au mu cu us w (HTU.out.kept (hkw.trans q)))
      have h0b : 0 ≤ sumA bs := by omega
      have h0u : 0 ≤ sumA us := by omega
      obtain ⟨n1, hn1'⟩ : ∃ n1, n + sumA bs = n1 := ⟨_, rfl⟩
      obtain ⟨n2, hn2'⟩ : ∃ n2, n1 + sumA us = n2 := ⟨_, rfl⟩
      have HS1 := Lib.hid hn1'
      have HS2 := Lib.hid hn2'
      have HW1 := Lib.hid (show IntKind.i64.wrap n1 = n1 from IntWalk.i64_in _ (by omega))
      have HW2 := Lib.hid (show IntKind.i64.wrap n2 = n2 from IntWalk.i64_in _ (by omega))
      have hbd2 : n2 ≤ 1125899906842624 ∧ 0 ≤ n2 ∧ (ls : Int) ≤ n2 ∧ n ≤ n2 ∧ sumA bs ≤ n2 ∧ sumA us ≤ n2 := by omega
      obtain ⟨q1, q2, q3, q4, q5, q6⟩ := hbd2
      have HAN := Lib.hid (HASN.out n2 q4 q5 q6)
      clear hB hU c0 c1 c2 hc ha hmb hmu hn1' hn2' hkw q4 q5 q6 hsb hsu h0b h0u HASN
      go_wp2_with fail
      refine Pj.wp_region_step (fun az0 L az w => ∃ V : Nat → Value, az = Pj.puts [(19, 0), (20, 1), (21, 2), (22, 3), (23, 4), (24, 5), (25, 6), (26, 7), (27, 8), (28, 9), (29, 10), (30, 11), (31, 12), (32, 13), (33, 14), (34, 15), (35, 16), (3, 17)] V az0 ∧ Pj.J wr [Pj.Is (.int .i64 n), Pj.Is (.pointer (some ⟨wo.heap.size, 0, none⟩)), Pj.Is (.slice (some ⟨bm, om, none⟩) lm cm), Pj.Is (.int .i64 k), Pj.Is (.pointer (some ⟨bm, om + k * 3, none⟩)), Pj.Is (.pointer (some ⟨bm, om + k * 3 + 1, none⟩)), Pj.Is (.slice ab mb cb), Pj.Is (.int .i64 (sumA bs)), Pj.Is (.int .i64 n1), Pj.Is (.pointer (some ⟨wo.heap.size, 0, none⟩)), Pj.Is (.slice (some ⟨bm, om, none⟩) lm cm), Pj.Is (.int .i64 k), Pj.Is (.pointer (some ⟨bm, om + k * 3, none⟩)), Pj.Is (.pointer (some ⟨bm, om + k * 3 + 2, none⟩)), Pj.Is (.slice au mu cu), Pj.Is (.int .i64 (sumA us)), Pj.Is (.int .i64 n2), Pj.Is (.int .i64 n2)] L V w ∧ (¬ L 17 → V 17 = .int .i64 n) ∧ (L 17 → L 0)) (by as_aux_lemma => kernel_rfl) (by as_aux_lemma => kernel_rfl) ?eh0 ?ehs ?ehe
      case eh0 =>
        intro L hL
        exact ⟨_, Pj.puts_self _ (fun j => ([19, 20, 21, 22, 23, 24, 25, 26, 27, 28, 29, 30, 31, 32, 33, 34, 35, 3] : List Nat).getD j 0) [0, 1, 2, 3, 4, 5, 6, 7, 8, 9, 10, 11, 12, 13, 14, 15, 16, 17], Pj.J.none (n := 18) (Nat.le_refl _) hL ((Kept.refl _).drew), fun _ => rfl, fun h => absurd h (hL 17 (by decide))⟩
      case ehs =>
        rintro L L' az w iz opz Kq ⟨V, rfl, hJ, hi17, hl17_0⟩ ho hopen hdep hL hKq
        have hP : Pj.AllStay [Pj.Is (.int .i64 n), Pj.Is (.pointer (some ⟨wo.heap.size, 0, none⟩)), Pj.Is (.slice (some ⟨bm, om, none⟩) lm cm), Pj.Is (.int .i64 k), Pj.Is (.pointer (some ⟨bm, om + k * 3, none⟩)), Pj.Is (.pointer (some ⟨bm, om + k * 3 + 1, none⟩)), Pj.Is (.slice ab mb cb), Pj.Is (.int .i64 (sumA bs)), Pj.Is (.int .i64 n1), Pj.Is (.pointer (some ⟨wo.heap.size, 0, none⟩)), Pj.Is (.slice (some ⟨bm, om, none⟩) lm cm), Pj.Is (.int .i64 k), Pj.Is (.pointer (some ⟨bm, om + k * 3, none⟩)), Pj.Is (.pointer (some ⟨bm, om + k * 3 + 2, none⟩)), Pj.Is (.slice au mu cu), Pj.Is (.int .i64 (sumA us)), Pj.Is (.int .i64 n2), Pj.Is (.int .i64 n2)] := ⟨Pj.Is.stays _, Pj.Is.stays _, Pj.Is.stays _, Pj.Is.stays _, Pj.Is.stays _, Pj.Is.stays _, Pj.Is.stays _, Pj.Is.stays _, Pj.Is.stays _, Pj.Is.stays _, Pj.Is.stays _, Pj.Is.stays _, Pj.Is.stays _, Pj.Is.stays _, Pj.Is.stays _, Pj.Is.stays _, Pj.Is.stays _, Pj.Is.stays _, trivial⟩
        have HP := Lib.hid hP
        clear hP
        match iz, ho with
        | 0, ho =>
          simp only [List.getElem?_toArray, List.getElem?_cons_zero, Option.some.injEq] at ho
          have ei17 : V 17 = .int .i64 n := hi17 (fun h => hopen (hl17_0 h))
          have HJ := Lib.hid hJ
          clear hJ
          subst ho
          refine Pj.Step.free rfl ?_
          simp only [Pj.puts, List.foldl_cons, List.foldl_nil, Act.put, List.setIfInBounds_toArray, List.set_cons_zero, List.set_cons_succ, ei17]
          go_simp
          exact hKq _ _ ⟨Pj.vset V 0 (.int .i64 n), by simp only [Pj.puts, List.foldl_cons, List.foldl_nil, Act.put, List.setIfInBounds_toArray, List.set_cons_zero, List.set_cons_succ, Pj.vset, Nat.reduceEqDiff, if_true, if_false, ei17], HJ.out.more HP.out hL (Kept.refl _) (rfl), fun h => by rw [Pj.vset_other _ _ (by decide)]; exact hi17 (fun q => h ((hL 17).2 (.inr q))), fun h => (hL 0).2 (((hL 17).1 h).elim (fun e => absurd e (by decide)) (fun q => .inr (hl17_0 q)))⟩
        | 1, ho =>
          simp only [List.getElem?_toArray, List.getElem?_cons_zero, List.getElem?_cons_succ, Option.some.injEq] at ho
          have HJ := Lib.hid hJ
          clear hJ
          subst ho
          refine Pj.Step.free rfl ?_
          simp only [Pj.puts, List.foldl_cons, List.foldl_nil, Act.put, List.setIfInBounds_toArray, List.set_cons_zero, List.set_cons_succ]
          go_simp
          exact hKq _ _ ⟨Pj.vset V 1 (.pointer (some ⟨wo.heap.size, 0, none⟩)), by simp only [Pj.puts, List.foldl_cons, List.foldl_nil, Act.put, List.setIfInBounds_toArray, List.set_cons_zero, List.set_cons_succ, Pj.vset, Nat.reduceEqDiff, if_true, if_false], HJ.out.more HP.out hL (Kept.refl _) (rfl), fun h => by rw [Pj.vset_other _ _ (by decide)]; exact hi17 (fun q => h ((hL 17).2 (.inr q))), fun h => (hL 0).2 (((hL 17).1 h).elim (fun e => absurd e (by decide)) (fun q => .inr (hl17_0 q)))⟩
        | 2, ho =>
          simp only [List.getElem?_toArray, List.getElem?_cons_zero, List.getElem?_cons_succ, Option.some.injEq] at ho
          have e1 : V 1 = .pointer (some ⟨wo.heap.size, 0, none⟩) := hJ.h 1 (hdep 1 (by rw [← ho]; kernel_rfl))
          obtain ⟨d0, d1⟩ := HBX.out _ hJ.kp
          have HJ := Lib.hid hJ
          clear hJ
          subst ho
          refine Pj.Step.free rfl ?_
          simp only [Pj.puts, List.foldl_cons, List.foldl_nil, Act.put, List.setIfInBounds_toArray, List.set_cons_zero, List.set_cons_succ, e1]
          go_simp
          exact hKq _ _ ⟨Pj.vset V 2 (.slice (some ⟨bm, om, none⟩) lm cm), by simp only [Pj.puts, List.foldl_cons, List.foldl_nil, Act.put, List.setIfInBounds_toArray, List.set_cons_zero, List.set_cons_succ, Pj.vset, Nat.reduceEqDiff, if_true, if_false, e1], HJ.out.more HP.out hL (Kept.refl _) (rfl), fun h => by rw [Pj.vset_other _ _ (by decide)]; exact hi17 (fun q => h ((hL 17).2 (.inr q))), fun h => (hL 0).2 (((hL 17).1 h).elim (fun e => absurd e (by decide)) (fun q => .inr (hl17_0 q)))⟩
        | 3, ho =>
          simp only [List.getElem?_toArray, List.getElem?_cons_zero, List.getElem?_cons_succ, Option.some.injEq] at ho
          have HJ := Lib.hid hJ
          clear hJ
          subst ho
          refine Pj.Step.free rfl ?_
          simp only [Pj.puts, List.foldl_cons, List.foldl_nil, Act.put, List.setIfInBounds_toArray, List.set_cons_zero, List.set_cons_succ]
          go_simp
          exact hKq _ _ ⟨Pj.vset V 3 (.int .i64 k), by simp only [Pj.puts, List.foldl_cons, List.foldl_nil, Act.put, List.setIfInBounds_toArray, List.set_cons_zero, List.set_cons_succ, Pj.vset, Nat.reduceEqDiff, if_true, if_false], HJ.out.more HP.out hL (Kept.refl _) (rfl), fun h => by rw [Pj.vset_other _ _ (by decide)]; exact hi17 (fun q => h ((hL 17).2 (.inr q))), fun h => (hL 0).2 (((hL 17).1 h).elim (fun e => absurd e (by decide)) (fun q => .inr (hl17_0 q)))⟩
        | 4, ho =>
          simp only [List.getElem?_toArray, List.getElem?_cons_zero, List.getElem?_cons_succ, Option.some.injEq] at ho
          have e2 : V 2 = .slice (some ⟨bm, om, none⟩) lm cm := hJ.h 2 (hdep 2 (by rw [← ho]; kernel_rfl))
          have e3 : V 3 = .int .i64 k := hJ.h 3 (hdep 3 (by rw [← ho]; kernel_rfl))
          have HJ := Lib.hid hJ
          clear hJ
          subst ho
          refine Pj.Step.free rfl ?_
          simp only [Pj.puts, List.foldl_cons, List.foldl_nil, Act.put, List.setIfInBounds_toArray, List.set_cons_zero, List.set_cons_succ, e2, e3]
          go_simp
          exact hKq _ _ ⟨Pj.vset V 4 (.pointer (some ⟨bm, om + k * 3, none⟩)), by simp only [Pj.puts, List.foldl_cons, List.foldl_nil, Act.put, List.setIfInBounds_toArray, List.set_cons_zero, List.set_cons_succ, Pj.vset, Nat.reduceEqDiff, if_true, if_false, e2, e3], HJ.out.more HP.out hL (Kept.refl _) (rfl), fun h => by rw [Pj.vset_other _ _ (by decide)]; exact hi17 (fun q => h ((hL 17).2 (.inr q))), fun h => (hL 0).2 (((hL 17).1 h).elim (fun e => absurd e (by decide)) (fun q => .inr (hl17_0 q)))⟩
        | 5, ho =>
          simp only [List.getElem?_toArray, List.getElem?_cons_zero, List.getElem?_cons_succ, Option.some.injEq] at ho
          have e4 : V 4 = .pointer (some ⟨bm, om + k * 3, none⟩) := hJ.h 4 (hdep 4 (by rw [← ho]; kernel_rfl))
          have HJ := Lib.hid hJ
          clear hJ
          subst ho
          refine Pj.Step.free rfl ?_
          simp only [Pj.puts, List.foldl_cons, List.foldl_nil, Act.put, List.setIfInBounds_toArray, List.set_cons_zero, List.set_cons_succ, e4]
          go_simp
          exact hKq _ _ ⟨Pj.vset V 5 (.pointer (some ⟨bm, om + k * 3 + 1, none⟩)), by simp only [Pj.puts, List.foldl_cons, List.foldl_nil, Act.put, List.setIfInBounds_toArray, List.set_cons_zero, List.set_cons_succ, Pj.vset, Nat.reduceEqDiff, if_true, if_false, e4], HJ.out.more HP.out hL (Kept.refl _) (rfl), fun h => by rw [Pj.vset_other _ _ (by decide)]; exact hi17 (fun q => h ((hL 17).2 (.inr q))), fun h => (hL 0).2 (((hL 17).1 h).elim (fun e => absurd e (by decide)) (fun q => .inr (hl17_0 q)))⟩
        | 6, ho =>
          simp only [List.getElem?_toArray, List.getElem?_cons_zero, List.getElem?_cons_succ, Option.some.injEq] at ho
          have e5 : V 5 = .pointer (some ⟨bm, om + k * 3 + 1, none⟩) := hJ.h 5 (hdep 5 (by rw [← ho]; kernel_rfl))
          have c1 := HC1.out _ hJ.kp
          have HJ := Lib.hid hJ
          clear hJ
          subst ho
          refine Pj.Step.free rfl ?_
          simp only [Pj.puts, List.foldl_cons, List.foldl_nil, Act.put, List.setIfInBounds_toArray, List.set_cons_zero, List.set_cons_succ, e5]
          go_simp
          exact hKq _ _ ⟨Pj.vset V 6 (.slice ab mb cb), by simp only [Pj.puts, List.foldl_cons, List.foldl_nil, Act.put, List.setIfInBounds_toArray, List.set_cons_zero, List.set_cons_succ, Pj.vset, Nat.reduceEqDiff, if_true, if_false, e5], HJ.out.more HP.out hL (Kept.refl _) (rfl), fun h => by rw [Pj.vset_other _ _ (by decide)]; exact hi17 (fun q => h ((hL 17).2 (.inr q))), fun h => (hL 0).2 (((hL 17).1 h).elim (fun e => absurd e (by decide)) (fun q => .inr (hl17_0 q)))⟩
        | 7, ho =>
          simp only [List.getElem?_toArray, List.getElem?_cons_zero, List.getElem?_cons_succ, Option.some.injEq] at ho
          have e6 : V 6 = .slice ab mb cb := hJ.h 6 (hdep 6 (by rw [← ho]; kernel_rfl))
          have htx := HTbs.out w hJ.kp
          have HJ := Lib.hid hJ
          clear hJ
          subst ho
          refine Pj.Step.free rfl ?_
          simp only [Pj.puts, List.foldl_cons, List.foldl_nil, Act.put, List.setIfInBounds_toArray, List.set_cons_zero, List.set_cons_succ, e6]
          go_simp
          refine htx.mono ?_
          rintro e w' ⟨rfl, rfl⟩
          exact hKq _ _ ⟨Pj.vset V 7 (.int .i64 (sumA bs)), by simp only [Pj.puts, List.foldl_cons, List.foldl_nil, Act.put, List.setIfInBounds_toArray, List.set_cons_zero, List.set_cons_succ, Pj.vset, Nat.reduceEqDiff, if_true, if_false, e6], HJ.out.more HP.out hL (Kept.refl _) (rfl), fun h => by rw [Pj.vset_other _ _ (by decide)]; exact hi17 (fun q => h ((hL 17).2 (.inr q))), fun h => (hL 0).2 (((hL 17).1 h).elim (fun e => absurd e (by decide)) (fun q => .inr (hl17_0 q)))⟩
        | 8, ho =>
          simp only [List.getElem?_toArray, List.getElem?_cons_zero, List.getElem?_cons_succ, Option.some.injEq] at ho
          have e0 : V 0 = .int .i64 n := hJ.h 0 (hdep 0 (by rw [← ho]; kernel_rfl))
          have e7 : V 7 = .int .i64 (sumA bs) := hJ.h 7 (hdep 7 (by rw [← ho]; kernel_rfl))
          have hs1 := HS1.out
          have hw1 := HW1.out
          have HJ := Lib.hid hJ
          clear hJ
          subst ho
          refine Pj.Step.free rfl ?_
          simp only [Pj.puts, List.foldl_cons, List.foldl_nil, Act.put, List.setIfInBounds_toArray, List.set_cons_zero, List.set_cons_succ, e0, e7]
          go_simp
          exact hKq _ _ ⟨Pj.vset V 8 (.int .i64 n1), by simp only [Pj.puts, List.foldl_cons, List.foldl_nil, Act.put, List.setIfInBounds_toArray, List.set_cons_zero, List.set_cons_succ, Pj.vset, Nat.reduceEqDiff, if_true, if_false, e0, e7], HJ.out.more HP.out hL (Kept.refl _) (rfl), fun h => by rw [Pj.vset_other _ _ (by decide)]; exact hi17 (fun q => h ((hL 17).2 (.inr q))), fun h => (hL 0).2 (((hL 17).1 h).elim (fun e => absurd e (by decide)) (fun q => .inr (hl17_0 q)))⟩
        | 9, ho =>
          simp only [List.getElem?_toArray, List.getElem?_cons_zero, List.getElem?_cons_succ, Option.some.injEq] at ho
          have HJ := Lib.hid hJ
          clear hJ
          subst ho
          refine Pj.Step.free rfl ?_
          simp only [Pj.puts, List.foldl_cons, List.foldl_nil, Act.put, List.setIfInBounds_toArray, List.set_cons_zero, List.set_cons_succ]
          go_simp
          exact hKq _ _ ⟨Pj.vset V 9 (.pointer (some ⟨wo.heap.size, 0, none⟩)), by simp only [Pj.puts, List.foldl_cons, List.foldl_nil, Act.put, List.setIfInBounds_toArray, List.set_cons_zero, List.set_cons_succ, Pj.vset, Nat.reduceEqDiff, if_true, if_false], HJ.out.more HP.out hL (Kept.refl _) (rfl), fun h => by rw [Pj.vset_other _ _ (by decide)]; exact hi17 (fun q => h ((hL 17).2 (.inr q))), fun h => (hL 0).2 (((hL 17).1 h).elim (fun e => absurd e (by decide)) (fun q => .inr (hl17_0 q)))⟩
        | 10, ho =>
          simp only [List.getElem?_toArray, List.getElem?_cons_zero, List.getElem?_cons_succ, Option.some.injEq] at ho
          have e9 : V 9 = .pointer (some ⟨wo.heap.size, 0, none⟩) := hJ.h 9 (hdep 9 (by rw [← ho]; kernel_rfl))
          obtain ⟨d0, d1⟩ := HBX.out _ hJ.kp
          have HJ := Lib.hid hJ
          clear hJ
          subst ho
          refine Pj.Step.free rfl ?_
          simp only [Pj.puts, List.foldl_cons, List.foldl_nil, Act.put, List.setIfInBounds_toArray, List.set_cons_zero, List.set_cons_succ, e9]
          go_simp
          exact hKq _ _ ⟨Pj.vset V 10 (.slice (some ⟨bm, om, none⟩) lm cm), by simp only [Pj.puts, List.foldl_cons, List.foldl_nil, Act.put, List.setIfInBounds_toArray, List.set_cons_zero, List.set_cons_succ, Pj.vset, Nat.reduceEqDiff, if_true, if_false, e9], HJ.out.more HP.out hL (Kept.refl _) (rfl), fun h => by rw [Pj.vset_other _ _ (by decide)]; exact hi17 (fun q => h ((hL 17).2 (.inr q))), fun h => (hL 0).2 (((hL 17).1 h).elim (fun e => absurd e (by decide)) (fun q => .inr (hl17_0 q)))⟩
        | 11, ho =>
          simp only [List.getElem?_toArray, List.getElem?_cons_zero, List.getElem?_cons_succ, Option.some.injEq] at ho
          have HJ := Lib.hid hJ
          clear hJ
          subst ho
          refine Pj.Step.free rfl ?_
          simp only [Pj.puts, List.foldl_cons, List.foldl_nil, Act.put, List.setIfInBounds_toArray, List.set_cons_zero, List.set_cons_succ]
          go_simp
          exact hKq _ _ ⟨Pj.vset V 11 (.int .i64 k), by simp only [Pj.puts, List.foldl_cons, List.foldl_nil, Act.put, List.setIfInBounds_toArray, List.set_cons_zero, List.set_cons_succ, Pj.vset, Nat.reduceEqDiff, if_true, if_false], HJ.out.more HP.out hL (Kept.refl _) (rfl), fun h => by rw [Pj.vset_other _ _ (by decide)]; exact hi17 (fun q => h ((hL 17).2 (.inr q))), fun h => (hL 0).2 (((hL 17).1 h).elim (fun e => absurd e (by decide)) (fun q => .inr (hl17_0 q)))⟩
        | 12, ho =>
          simp only [List.getElem?_toArray, List.getElem?_cons_zero, List.getElem?_cons_succ, Option.some.injEq] at ho
          have e10 : V 10 = .slice (some ⟨bm, om, none⟩) lm cm := hJ.h 10 (hdep 10 (by rw [← ho]; kernel_rfl))
          have e11 : V 11 = .int .i64 k := hJ.h 11 (hdep 11 (by rw [← ho]; kernel_rfl))
          have HJ := Lib.hid hJ
          clear hJ
          subst ho
          refine Pj.Step.free rfl ?_
          simp only [Pj.puts, List.foldl_cons, List.foldl_nil, Act.put, List.setIfInBounds_toArray, List.set_cons_zero, List.set_cons_succ, e10, e11]
          go_simp
          exact hKq _ _ ⟨Pj.vset V 12 (.pointer (some ⟨bm, om + k * 3, none⟩)), by simp only [Pj.puts, List.foldl_cons, List.foldl_nil, Act.put, List.setIfInBounds_toArray, List.set_cons_zero, List.set_cons_succ, Pj.vset, Nat.reduceEqDiff, if_true, if_false, e10, e11], HJ.out.more HP.out hL (Kept.refl _) (rfl), fun h => by rw [Pj.vset_other _ _ (by decide)]; exact hi17 (fun q => h ((hL 17).2 (.inr q))), fun h => (hL 0).2 (((hL 17).1 h).elim (fun e => absurd e (by decide)) (fun q => .inr (hl17_0 q)))⟩
        | 13, ho =>
          simp only [List.getElem?_toArray, List.getElem?_cons_zero, List.getElem?_cons_succ, Option.some.injEq] at ho
          have e12 : V 12 = .pointer (some ⟨bm, om + k * 3, none⟩) := hJ.h 12 (hdep 12 (by rw [← ho]; kernel_rfl))
          have HJ := Lib.hid hJ
          clear hJ
          subst ho
          refine Pj.Step.free rfl ?_
          simp only [Pj.puts, List.foldl_cons, List.foldl_nil, Act.put, List.setIfInBounds_toArray, List.set_cons_zero, List.set_cons_succ, e12]
          go_simp
          exact hKq _ _ ⟨Pj.vset V 13 (.pointer (some ⟨bm, om + k * 3 + 2, none⟩)), by simp only [Pj.puts, List.foldl_cons, List.foldl_nil, Act.put, List.setIfInBounds_toArray, List.set_cons_zero, List.set_cons_succ, Pj.vset, Nat.reduceEqDiff, if_true, if_false, e12], HJ.out.more HP.out hL (Kept.refl _) (rfl), fun h => by rw [Pj.vset_other _ _ (by decide)]; exact hi17 (fun q => h ((hL 17).2 (.inr q))), fun h => (hL 0).2 (((hL 17).1 h).elim (fun e => absurd e (by decide)) (fun q => .inr (hl17_0 q)))⟩
        | 14, ho =>
          simp only [List.getElem?_toArray, List.getElem?_cons_zero, List.getElem?_cons_succ, Option.some.injEq] at ho
          have e13 : V 13 = .pointer (some ⟨bm, om + k * 3 + 2, none⟩) := hJ.h 13 (hdep 13 (by rw [← ho]; kernel_rfl))
          have c2 := HC2.out _ hJ.kp
          have HJ := Lib.hid hJ
          clear hJ
          subst ho
          refine Pj.Step.free rfl ?_
          simp only [Pj.puts, List.foldl_cons, List.foldl_nil, Act.put, List.setIfInBounds_toArray, List.set_cons_zero, List.set_cons_succ, e13]
          go_simp
          exact hKq _ _ ⟨Pj.vset V 14 (.slice au mu cu), by simp only [Pj.puts, List.foldl_cons, List.foldl_nil, Act.put, List.setIfInBounds_toArray, List.set_cons_zero, List.set_cons_succ, Pj.vset, Nat.reduceEqDiff, if_true, if_false, e13], HJ.out.more HP.out hL (Kept.refl _) (rfl), fun h => by rw [Pj.vset_other _ _ (by decide)]; exact hi17 (fun q => h ((hL 17).2 (.inr q))), fun h => (hL 0).2 (((hL 17).1 h).elim (fun e => absurd e (by decide)) (fun q => .inr (hl17_0 q)))⟩
        | 15, ho =>
          simp only [List.getElem?_toArray, List.getElem?_cons_zero, List.getElem?_cons_succ, Option.some.injEq] at ho
          have e14 : V 14 = .slice au mu cu := hJ.h 14 (hdep 14 (by rw [← ho]; kernel_rfl))
          have htx := HTus.out w hJ.kp
          have HJ := Lib.hid hJ
          clear hJ
          subst ho
          refine Pj.Step.free rfl ?_
          simp only [Pj.puts, List.foldl_cons, List.foldl_nil, Act.put, List.setIfInBounds_toArray, List.set_cons_zero, List.set_cons_succ, e14]
          go_simp
          refine htx.mono ?_
          rintro e w' ⟨rfl, rfl⟩
          exact hKq _ _ ⟨Pj.vset V 15 (.int .i64 (sumA us)), by simp only [Pj.puts, List.foldl_cons, List.foldl_nil, Act.put, List.setIfInBounds_toArray, List.set_cons_zero, List.set_cons_succ, Pj.vset, Nat.reduceEqDiff, if_true, if_false, e14], HJ.out.more HP.out hL (Kept.refl _) (rfl), fun h => by rw [Pj.vset_other _ _ (by decide)]; exact hi17 (fun q => h ((hL 17).2 (.inr q))), fun h => (hL 0).2 (((hL 17).1 h).elim (fun e => absurd e (by decide)) (fun q => .inr (hl17_0 q)))⟩
        | 16, ho =>
          simp only [List.getElem?_toArray, List.getElem?_cons_zero, List.getElem?_cons_succ, Option.some.injEq] at ho
          have e8 : V 8 = .int .i64 n1 := hJ.h 8 (hdep 8 (by rw [← ho]; kernel_rfl))
          have e15 : V 15 = .int .i64 (sumA us) := hJ.h 15 (hdep 15 (by rw [← ho]; kernel_rfl))
          have hs2 := HS2.out
          have hw2 := HW2.out
          have HJ := Lib.hid hJ
          clear hJ
          subst ho
          refine Pj.Step.free rfl ?_
          simp only [Pj.puts, List.foldl_cons, List.foldl_nil, Act.put, List.setIfInBounds_toArray, List.set_cons_zero, List.set_cons_succ, e8, e15]
          go_simp
          exact hKq _ _ ⟨Pj.vset V 16 (.int .i64 n2), by simp only [Pj.puts, List.foldl_cons, List.foldl_nil, Act.put, List.setIfInBounds_toArray, List.set_cons_zero, List.set_cons_succ, Pj.vset, Nat.reduceEqDiff, if_true, if_false, e8, e15], HJ.out.more HP.out hL (Kept.refl _) (rfl), fun h => by rw [Pj.vset_other _ _ (by decide)]; exact hi17 (fun q => h ((hL 17).2 (.inr q))), fun h => (hL 0).2 (((hL 17).1 h).elim (fun e => absurd e (by decide)) (fun q => .inr (hl17_0 q)))⟩
        | 17, ho =>
          simp only [List.getElem?_toArray, List.getElem?_cons_zero, List.getElem?_cons_succ, Option.some.injEq] at ho
          have e16 : V 16 = .int .i64 n2 := hJ.h 16 (hdep 16 (by rw [← ho]; kernel_rfl))
          have hd17_0 := hdep 0 (by rw [← ho]; kernel_rfl)
          have HJ := Lib.hid hJ
          clear hJ
          subst ho
          refine Pj.Step.free rfl ?_
          simp only [Pj.puts, List.foldl_cons, List.foldl_nil, Act.put, List.setIfInBounds_toArray, List.set_cons_zero, List.set_cons_succ, e16]
          go_simp
          exact hKq _ _ ⟨Pj.vset V 17 (.int .i64 n2), by simp only [Pj.puts, List.foldl_cons, List.foldl_nil, Act.put, List.setIfInBounds_toArray, List.set_cons_zero, List.set_cons_succ, Pj.vset, Nat.reduceEqDiff, if_true, if_false, e16], HJ.out.more HP.out hL (Kept.refl _) (rfl), fun h => absurd ((hL 17).2 (.inl rfl)) h, fun _ => (hL 0).2 (.inr hd17_0)⟩
        | n + 18, ho => simp at ho
      case ehe =>
        rintro L az w ⟨V, rfl, hJ, hi17, hl17_0⟩ hall
        have e17 : V 17 = .int .i64 n2 := hJ.h 17 (hall 17 (by decide))
        have HKj := Lib.hid hJ.kp
        clear hJ hall hi17 hl17_0
        simp only [Pj.puts, List.foldl_cons, List.foldl_nil, Act.put, List.setIfInBounds_toArray, List.set_cons_zero, List.set_cons_succ, e17]
        clear e17
        go_wp2
        go_roundw
        case rel => exact ⟨k + 1, n2, by omega, by go_num, rfl, q3, q2, q1, HAN, HKR.out.trans HKj.out⟩
        case measure => simp [intOf]; omega
    · by_cases h6 : n ≤ 6000
      · have hkl : lm = k := by omega
        have HLI := Lib.hid (show LightM lm ms from fun i hi => by have := HA.out i (by omega); omega)
        have hd3 : decide (6000 < n) = false := decide_eq_false (by omega)
        subst hkl
        have hd1 : decide (lm < lm) = false := decide_eq_false (by omega)
        have HKE := Lib.hid (HK0.out.trans HKR.out)
        clear hend
        go_wp2
        go_ret
        exact ⟨HKE.out, .inr ⟨rfl, HLI.out, by omega⟩⟩
      · have hd3 : decide (6000 < n) = true := decide_eq_true (by omega)
        have HKE := Lib.hid (HK0.out.trans HKR.out)
        by_cases hlt : k < lm
        · have hd1 : decide (k < lm) = true := decide_eq_true hlt
          have hd2 : decide (n < 1048576) = false := decide_eq_false (by omega)
          clear hend
          go_wp2
          go_ret
          exact ⟨HKE.out, .inl rfl⟩
        · have hd1 : decide (k < lm) = false := decide_eq_false hlt
          clear hend
          go_wp2
          go_ret
          exact ⟨HKE.out, .inl rfl⟩
end Go.Proofs.YtdllenoclnmmdaaDoor

