/- Contracts of the code and of the reference, laid into one file: part 6 (what each says stands at its head). -/
import Derived.Test.YtoonpnpooljmlaaQa5
import Derived.BigRegion

namespace Go.Proofs.Ytoonpnpooljmlaa
open Go.RowKit Go.Shelf
attribute [local go_sem] Oper.semAt_some

theorem getD_ext {ss tt : List ByteArray} (hl : ss.length = tt.length) (h : ∀ q, q < ss.length → ss.getD q ByteArray.empty = tt.getD q ByteArray.empty) : ss = tt := by
  refine List.ext_getElem hl (fun i h1 h2 => ?_)
  have := h i h1
  simpa [List.getD, h1, h2] using this
theorem bytes_ne4 {a b : ByteArray} (h : ¬ a = b) : ¬ a.toList = b.toList ∧ (a.toList == b.toList) = false ∧ (a.toList != b.toList) = true := by
  have h1 : ¬ a.toList = b.toList := by
    rw [ByteArray.toList_eq, ByteArray.toList_eq]
    intro e
    apply h
    obtain ⟨⟨x⟩⟩ := a
    obtain ⟨⟨y⟩⟩ := b
    simp at e
    rw [e]
  exact ⟨h1, by simpa using h1, by simpa using h1⟩
set_option maxRecDepth 100000 in
set_option maxHeartbeats 1000000 in
theorem eq_strings2 (a a' : Option Addr) (l l' cap cap' : Nat) (ss tt : List ByteArray) (w : World) (h : StrsIn w a l ss) (h' : StrsIn w a' l' tt) :
    Calls Try.prog 22 #[.slice a l cap, .slice a' l' cap'] w fun e w' => e = .returned (.bool (decide (ss = tt))) ∧ Kept w w' := by
  have hle := h.le
  have hle' := h'.le
  have HS := Lib.hid h
  have HS' := Lib.hid h'
  obtain ⟨B, hB⟩ : ∃ B, B = decide (ss = tt) := ⟨_, rfl⟩
  rw [← hB]
  have HB := Lib.hid hB
  clear h h' hB
  by_cases hll : l = l'
  · subst hll
    go_enter Try.func22, Try.ntmps22
    go_wp2_with fail
    go_loopw [5] (fun i wr => ∃ k : Nat, k ≤ l ∧ i = .int .i64 k ∧ (∀ q, q < k → ss.getD q ByteArray.empty = tt.getD q ByteArray.empty) ∧ Kept w wr) (fun i _ => l - (intOf i).toNat)
    case atStart => exact ⟨0, by omega, rfl, fun q hq => absurd hq (Nat.not_lt_zero q), Kept.refl _⟩
    case round =>
      obtain ⟨k, hk, rfl, hq, hK⟩ := hrel
      have HK := Lib.hid hK
      have HQ := Lib.hid hq
      clear hq
      by_cases hlt : k < l
      · obtain ⟨b, off, ha, hc⟩ := HS.out.cells
        obtain ⟨b', off', ha', hc'⟩ := HS'.out.cells
        obtain rfl := ha (by omega)
        obtain rfl := ha' (by omega)
        have hck := hK.cell (hc k hlt).1 (hc k hlt).2
        have hck' := hK.cell (hc' k hlt).1 (hc' k hlt).2
        have HSK := Lib.hid (HS.out.size k hlt)
        obtain ⟨t, ht⟩ : ∃ t, t = ss.getD k ByteArray.empty := ⟨_, rfl⟩
        obtain ⟨u, hu⟩ : ∃ u, u = tt.getD k ByteArray.empty := ⟨_, rfl⟩
        rw [← ht] at hck
        rw [← hu] at hck'
        have HT := Lib.hid ht
        have HU := Lib.hid hu
        clear hc hc' ha ha' hK ht hu
        by_cases he : t = u
        · subst he
          go_wp2_with fail
          go_quiet (fail)
          go_wp2
          go_roundw
          case rel => exact ⟨k + 1, by omega, by go_num, fun q hq => by
            by_cases e : q = k
            · rw [e, ← HT.out, ← HU.out]
            · exact HQ.out q (by omega), HK.out.drewN nq⟩
          case measure => simp [intOf]; omega
        · have hBf : B = false := by
            rw [HB.out]
            refine decide_eq_false (fun e => he ?_)
            rw [HT.out, HU.out, e]
          clear HB
          subst hBf
          obtain ⟨g1, g2, g3⟩ := bytes_ne4 he
          go_wp2_with fail
          go_quiet (fail)
          go_wp2
          go_ret
          exact ⟨rfl, HK.out.drewN nq⟩
      · obtain rfl : k = l := by omega
        have hBt : B = true := by
          rw [HB.out]
          refine decide_eq_true (getD_ext (by rw [HS.out.len_eq, HS'.out.len_eq]) (fun q hq => HQ.out q (by have := HS.out.len_eq; omega)))
        clear HB
        subst hBt
        clear hK
        go_wp2
        go_ret
        exact ⟨rfl, HK.out⟩
  · have hBf : B = false := by
      rw [HB.out]
      refine decide_eq_false (fun e => hll ?_)
      rw [← HS.out.len_eq, ← HS'.out.len_eq, e]
    clear HB
    subst hBf
    have hne : ((l : Int) != (l' : Int)) = true := by rw [bne_iff_ne]; omega
    go_enter Try.func22, Try.ntmps22
    go_wp2
    go_ret
    exact ⟨rfl, Kept.refl _⟩
set_option maxRecDepth 100000 in
set_option maxHeartbeats 800000 in
theorem copy_strings_own (a : Option Addr) (l cap : Nat) (ss : List ByteArray) (w : World) (h : StrsIn w a l ss) (hl : l ≤ 8796093021952) :
    Calls Try.prog 18 #[.slice a l cap] w fun e w' => ∃ a' cap', e = .returned (.slice a' l cap') ∧ w'.ownsRow w.heap.size 9 1 (.slice a' l cap') l (ss.map Value.string) ∧ Kept w w' := by
  obtain ⟨i0, hi, hz0, hz1, hz2⟩ := info_parts Try.infoStr
  have HL := Lib.hid h.len_eq
  have HSZ := Lib.hid h.sizes
  have HI := Lib.hid (And.intro hi (And.intro hz0 (And.intro hz1 hz2)))
  clear hi hz0 hz1 hz2
  go_enter Try.func18, Try.ntmps18
  go_wp2
  go_loopw [3, 4] (fun v i wr => ∃ k : Nat, k ≤ l ∧ i = .int .i64 k ∧ wr.ownsRow w.heap.size 9 1 v k ((ss.take k).map Value.string) ∧ Kept w wr) (fun _ i _ => l - (intOf i).toNat)
  case atStart => exact ⟨0, by omega, rfl, World.ownsRow_nil _ _ _ _, Kept.refl _⟩
  case round =>
    obtain ⟨k, hk, rfl, hown, hK⟩ := hrel
    have HK := Lib.hid hK
    have HO := Lib.hid hown
    by_cases hlt : k < l
    · obtain ⟨b, off, ha, hc⟩ := h.cells
      obtain rfl := ha (by omega)
      have hck := hK.cell (hc k hlt).1 (hc k hlt).2
      have htk := take_snoc ss k (by have := HL.out; omega)
      generalize ss.getD k ByteArray.empty = t at hck htk
      have HT := Lib.hid htk
      clear h hc ha hK htk hown
      go_wp2_with (at_builtin; refine wpList_append_own _ rfl _ _ 23 rfl w.heap.size 9 i0 (.string ByteArray.empty) 1 16 Try.underlying23 HI.out.1 HI.out.2.1 HI.out.2.2.1 HI.out.2.2.2 rfl (by decide) _ _ _ rfl (HO.out.alloc _) ⟨wr.heap.size, 0, none⟩ 1 1 [.string t] rfl rfl ?c1 ?c2 ?c3 ?c4 ?c5 ?_)
      case c1 =>
        intro j u hj
        match j, hj with
        | 0, hj => simp at hj; subst hj; simp [Addr.add]
      case c2 => intro u hu; simp at hu; subst hu; rfl
      case c3 => unfold maxLen; omega
      case c4 => omega
      case c5 => have := HK.out.size; simp; omega
      intro v' w1 hown' hgrow _
      have HO' := Lib.hid hown'
      have HK' := Lib.hid (kept_grown (HK.out.alloc _) (HO.out.alloc _) hgrow)
      clear hown' hgrow
      go_wp2
      go_roundw
      case rel => exact ⟨k + 1, by omega, by go_num, by rw [HT.out, List.map_append, List.map_take]; exact HO'.out, HK'.out⟩
      case measure => simp [intOf]; omega
    · obtain rfl : k = l := by omega
      rw [List.take_of_length_le (Nat.le_of_eq HL.out)] at hown
      obtain ⟨a', cap', rfl⟩ := slice_of_own1 hown
      have HF := Lib.hid hown
      clear h hK hown HO
      go_wp2
      go_ret
      exact ⟨a', cap', rfl, HF.out, HK.out⟩
theorem Try.infoBo : (Try.prog.info? 4).map (fun i => (i.zero, i.size, i.bytes)) = some (some (.bool false), 1, 1) := by kernel_rfl
theorem range_snoc (T : Nat → Bool) (k : Nat) : (List.range (k + 1)).map (fun i => Value.bool (T i)) = (List.range k).map (fun i => Value.bool (T i)) ++ [.bool (T k)] := by
  rw [List.range_succ, List.map_append]
  rfl
set_option maxRecDepth 100000 in
set_option maxHeartbeats 800000 in
theorem copy_bools_own (a : Option Addr) (l cap : Nat) (T : Nat → Bool) (w : World) (h : BoolsIn w a l T) (hl : l ≤ 1000000) :
    Calls Try.prog 28 #[.slice a l cap] w fun e w' => ∃ a' cap', e = .returned (.slice a' l cap') ∧ w'.ownsRow w.heap.size 4 1 (.slice a' l cap') l ((List.range l).map fun i => Value.bool (T i)) ∧ Kept w w' := by
  obtain ⟨i0, hi, hz0, hz1, hz2⟩ := info_parts Try.infoBo
  have HI := Lib.hid (And.intro hi (And.intro hz0 (And.intro hz1 hz2)))
  have HH := Lib.hid h
  clear hi hz0 hz1 hz2 h
  go_enter Try.func28, Try.ntmps28
  go_wp2
  go_loopw [3, 4] (fun v i wr => ∃ k : Nat, k ≤ l ∧ i = .int .i64 k ∧ wr.ownsRow w.heap.size 4 1 v k ((List.range k).map fun i => Value.bool (T i)) ∧ Kept w wr) (fun _ i _ => l - (intOf i).toNat)
  case atStart => exact ⟨0, by omega, rfl, World.ownsRow_nil _ _ _ _, Kept.refl _⟩
  case round =>
    obtain ⟨k, hk, rfl, hown, hK⟩ := hrel
    have HK := Lib.hid hK
    have HO := Lib.hid hown
    by_cases hlt : k < l
    · obtain ⟨b, off, ha, hc⟩ := HH.out.cells
      obtain rfl := ha (by omega)
      have hck := hK.cell (hc k hlt).1 (hc k hlt).2
      have HT := Lib.hid (range_snoc T k)
      generalize T k = t at hck HT
      clear hc ha hK hown
      go_wp2_with (at_builtin; refine wpList_append_own _ rfl _ _ 24 rfl w.heap.size 4 i0 (.bool false) 1 1 Try.underlying24 HI.out.1 HI.out.2.1 HI.out.2.2.1 HI.out.2.2.2 rfl (by decide) _ _ _ rfl (HO.out.alloc _) ⟨wr.heap.size, 0, none⟩ 1 1 [.bool t] rfl rfl ?c1 ?c2 ?c3 ?c4 ?c5 ?_)
      case c1 =>
        intro j u hj
        match j, hj with
        | 0, hj => simp at hj; subst hj; simp [Addr.add]
      case c2 => intro u hu; simp at hu; subst hu; rfl
      case c3 => unfold maxLen; omega
      case c4 => omega
      case c5 => have := HK.out.size; simp; omega
      intro v' w1 hown' hgrow _
      have HO' := Lib.hid hown'
      have HK' := Lib.hid (kept_grown (HK.out.alloc _) (HO.out.alloc _) hgrow)
      clear hown' hgrow
      go_wp2
      go_roundw
      case rel => exact ⟨k + 1, by omega, by go_num, by rw [HT.out]; exact HO'.out, HK'.out⟩
      case measure => simp [intOf]; omega
    · obtain rfl : k = l := by omega
      obtain ⟨a', cap', rfl⟩ := slice_of_own1 hown
      have HF := Lib.hid hown
      clear hK hown HO
      go_wp2
      go_ret
      exact ⟨a', cap', rfl, HF.out, HK.out⟩
theorem txt_strs4 {w : World} {a : Option Addr} {r c q : Nat} {F : Nat → Nat → Nat} {ss : List ByteArray} (h : Txt w ((a.map (·.block)).getD 0) r (fun i => appTo (F i) ss c)) (ha : a = some ⟨(a.map (·.block)).getD 0, 0, none⟩)
    (h0 : (ss.getD 0 ByteArray.empty).size = q) (hq : q ≤ 8192) (hr : r ≤ 16) : StrsIn w a r (appS F ss r c) := by
  obtain ⟨b, e⟩ : ∃ b, a = some ⟨b, 0, none⟩ := ⟨_, ha⟩
  subst e
  have h' : Txt w b r (fun i => (appS F ss r c).getD i ByteArray.empty) := ⟨h.blk, fun i hi => by
    have := h.cell i hi
    simpa [appS, List.getD, hi] using this⟩
  refine h'.strs (by simp [appS]) (by omega) (fun s hs => ?_)
  simp only [appS, List.mem_map] at hs
  obtain ⟨i, _, rfl⟩ := hs
  rw [appTo_size]
  omega
theorem take_getD (ss : List ByteArray) {K i : Nat} (h : i < K) : (ss.take K).getD i ByteArray.empty = ss.getD i ByteArray.empty := by
  simp [List.getD, h]
theorem strs_take {w : World} {a : Option Addr} {n K : Nat} {ss : List ByteArray} (h : StrsIn w a n ss) (hK : K ≤ n) : StrsIn w a K (ss.take K) := by
  obtain ⟨b, off, ha, hc⟩ := h.cells
  refine ⟨by rw [List.length_take, h.len_eq]; omega, by have := h.le; omega, fun s hs => h.sizes s (List.mem_of_mem_take hs), b, off, fun q => ha (by omega), fun i hi => ⟨(hc i (by omega)).1, ?_⟩⟩
  rw [take_getD ss hi]
  exact (hc i (by omega)).2
theorem sizedB_take {ss : List ByteArray} {n s K : Nat} (h : sizedB ss n s = true) (hK : K ≤ n) : sizedB (ss.take K) K s = true := by
  obtain ⟨h1, h2⟩ := sizedB_true h
  unfold sizedB
  rw [Bool.and_eq_true, List.all_eq_true]
  exact ⟨decide_eq_true (by rw [List.length_take, h1]; omega), fun x hx => decide_eq_true (h2 x (List.mem_of_mem_take hx))⟩
set_option maxRecDepth 100000 in
set_option maxHeartbeats 2000000 in
theorem verify_any (K M H s : Nat) (hH : H = K + M) (hK : 1 ≤ K ∧ K ≤ 8 ∧ M ≤ 6) (hs : 1 ≤ s ∧ s ≤ 120) (al : Option Addr) (cl : Nat) (ss : List ByteArray) (wo : World) (hl : StrsIn wo al H ss) (hcl : H ≤ cl) (h : sizedB ss H s = true) :
    Calls Try.prog 26 #[.agg #[.int .i64 K, .int .i64 M, .int .i64 s], .slice al H cl] wo fun e wo' => e = .returned (.tuple #[.bool (decide (appS (genF K) (ss.take K) H K = ss)), .int .i64 0]) ∧ Kept wo wo' := by
  have he : shpE K M s = 0 := by
    unfold shpE shpB
    rw [decide_eq_true (by omega)]
    rfl
  obtain ⟨B, hB⟩ : ∃ B, B = decide (appS (genF K) (ss.take K) H K = ss) := ⟨_, rfl⟩
  rw [← hB]
  have HBB := Lib.hid hB
  have HE := Lib.hid he
  have eH : (K : Int) + (M : Int) = (H : Int) := by omega
  have hH14 : H ≤ 1000000 := by omega
  have hKH : K ≤ H := by omega
  have hKc : K ≤ cl := by omega
  have HH := Lib.hid hH
  have HSB := Lib.hid h
  clear h he hH hB
  have HK0 := Lib.hid ((Kept.refl wo).alloc (.cells #[.int .i64 K, .int .i64 M, .int .i64 s] 29))
  have HB0 := Lib.hid (BlockAt.new wo #[.int .i64 K, .int .i64 M, .int .i64 s] 29)
  obtain ⟨bl, ol, hal, -⟩ := hl.cells
  obtain rfl := hal (by omega)
  have HL := Lib.hid hl
  clear hl hal
  go_enter Try.func26, Try.ntmps26
  obtain ⟨c1, c2, c3⟩ := box3 HB0.out
  go_wp2_with fail
  refine (code_check _ _ _ _).mono ?_
  rintro e w1 ⟨rfl, hk1⟩
  have HK := Lib.hid (HK0.out.trans hk1)
  rw [HE.out]
  have HB1 := Lib.hid (HB0.out.kept hk1)
  obtain ⟨d1, d2, d3⟩ := box3 HB1.out
  clear hk1 c1 c2 c3
  go_wp2_with fail
  refine (sized_every K M s H _ H cl ss hH14 _ (HL.out.kept HK.out)).mono ?_
  rintro e w2 ⟨rfl, hk2⟩
  have HK2 := Lib.hid (HK.out.trans hk2)
  rw [HSB.out]
  have HB2 := Lib.hid (HB1.out.kept hk2)
  have HLW := Lib.hid (HL.out.kept HK2.out)
  have HTK := Lib.hid (strs_take HLW.out hKH)
  have HSK := Lib.hid (sizedB_take HSB.out hKH)
  obtain ⟨G, hG⟩ : ∃ G, G = appS (genF K) (ss.take K) H K := ⟨_, rfl⟩
  have HGS := Lib.hid (show ∀ wx (a : Option Addr), Txt wx ((a.map (·.block)).getD 0) H (fun i => appTo (genF K i) (ss.take K) K) → a = some ⟨(a.map (·.block)).getD 0, 0, none⟩ → StrsIn wx a H G from fun wx a ht ha => by
    rw [hG]
    refine txt_strs4 (q := s) ht ha ?_ (by omega) (by have := HH.out; omega)
    have h9 := sizedB_true HSK.out
    have h0 : 0 < (ss.take K).length := by rw [h9.1]; omega
    have : (ss.take K).getD 0 ByteArray.empty = (ss.take K)[0] := by simp only [List.getD_eq_getElem?_getD, List.getElem?_eq_getElem h0, Option.getD_some]
    rw [this]
    exact h9.2 _ (List.getElem_mem h0))
  have HBG := Lib.hid (show B = decide (G = ss) by rw [HBB.out, hG])
  have HEN := Lib.hid (fun wx (hk : Kept w2 wx) => encode_any K M H s HH.out hK hs (some ⟨bl, ol, none⟩) cl (ss.take K) wx (HTK.out.kept hk) hKc HSK.out)
  clear hk2 d1 d2 d3 hG HBB
  go_wp2_with fail
  refine Pj.wp_region_step (fun a0 L a w => ∃ V : Nat → Value, a = Pj.puts [(25, 0), (26, 1), (27, 2), (28, 3), (29, 4), (30, 5), (24, 6), (31, 7), (32, 8), (6, 9), (7, 10)] V a0 ∧ Pj.J w2 [Pj.Is (.agg #[.int .i64 K, .int .i64 M, .int .i64 s]), Pj.Is (.slice (some ⟨bl, ol, none⟩) H cl), Pj.Is (.pointer (some ⟨wo.heap.size, 0, none⟩)), Pj.Is (.int .i64 K), Pj.Is (.slice (some ⟨bl, ol, none⟩) K cl), (fun w v => ∃ a, v = .tuple #[.slice a H H, .int .i64 0] ∧ StrsIn w a H G), (fun w v => ∃ a, v = .tuple #[.slice a H H, .int .i64 0] ∧ StrsIn w a H G), (fun w v => ∃ a, v = .slice a H H ∧ StrsIn w a H G), Pj.Is (.int .i64 0), (fun w v => ∃ a, v = .slice a H H ∧ StrsIn w a H G), Pj.Is (.int .i64 0)] L V w) (by as_aux_lemma => kernel_rfl) (by as_aux_lemma => kernel_rfl) ?eh0 ?ehs ?ehe
  case eh0 =>
    intro L hL
    exact ⟨_, Pj.puts_self _ (fun j => ([25, 26, 27, 28, 29, 30, 24, 31, 32, 6, 7] : List Nat).getD j 0) [0, 1, 2, 3, 4, 5, 6, 7, 8, 9, 10], Pj.J.none (n := 11) (Nat.le_refl _) hL ((Kept.refl _).drew)⟩
  case ehs =>
    rintro L L' a w i op Kq ⟨V, rfl, hJ⟩ ho hopen hdep hL hKq
    have hP : Pj.AllStay [Pj.Is (.agg #[.int .i64 K, .int .i64 M, .int .i64 s]), Pj.Is (.slice (some ⟨bl, ol, none⟩) H cl), Pj.Is (.pointer (some ⟨wo.heap.size, 0, none⟩)), Pj.Is (.int .i64 K), Pj.Is (.slice (some ⟨bl, ol, none⟩) K cl), (fun w v => ∃ a, v = .tuple #[.slice a H H, .int .i64 0] ∧ StrsIn w a H G), (fun w v => ∃ a, v = .tuple #[.slice a H H, .int .i64 0] ∧ StrsIn w a H G), (fun w v => ∃ a, v = .slice a H H ∧ StrsIn w a H G), Pj.Is (.int .i64 0), (fun w v => ∃ a, v = .slice a H H ∧ StrsIn w a H G), Pj.Is (.int .i64 0)] := ⟨Pj.Is.stays _, Pj.Is.stays _, Pj.Is.stays _, Pj.Is.stays _, Pj.Is.stays _, fun _ _ _ ⟨a, e, h⟩ k => ⟨a, e, h.kept k⟩, fun _ _ _ ⟨a, e, h⟩ k => ⟨a, e, h.kept k⟩, fun _ _ _ ⟨a, e, h⟩ k => ⟨a, e, h.kept k⟩, Pj.Is.stays _, fun _ _ _ ⟨a, e, h⟩ k => ⟨a, e, h.kept k⟩, Pj.Is.stays _, trivial⟩
    have HP := Lib.hid hP
    clear hP
    match i, ho with
    | 0, ho =>
      simp only [List.getElem?_toArray, List.getElem?_cons_zero, Option.some.injEq] at ho
      obtain ⟨d1, d2, d3⟩ := box3 (HB2.out.kept hJ.kp)
      have HJ := Lib.hid hJ
      clear hJ
      subst ho
      refine Pj.Step.free rfl ?_
      simp only [Pj.puts, List.foldl_cons, List.foldl_nil, Act.put, List.setIfInBounds_toArray, List.set_cons_zero, List.set_cons_succ]
      go_simp
      exact hKq _ _ ⟨Pj.vset V 0 (.agg #[.int .i64 K, .int .i64 M, .int .i64 s]), by simp only [Pj.puts, List.foldl_cons, List.foldl_nil, Act.put, List.setIfInBounds_toArray, List.set_cons_zero, List.set_cons_succ, Pj.vset, Nat.reduceEqDiff, if_true, if_false], HJ.out.more HP.out hL (Kept.refl _) (rfl)⟩
    | 1, ho =>
      simp only [List.getElem?_toArray, List.getElem?_cons_zero, List.getElem?_cons_succ, Option.some.injEq] at ho
      have HJ := Lib.hid hJ
      clear hJ
      subst ho
      refine Pj.Step.free rfl ?_
      simp only [Pj.puts, List.foldl_cons, List.foldl_nil, Act.put, List.setIfInBounds_toArray, List.set_cons_zero, List.set_cons_succ]
      go_simp
      exact hKq _ _ ⟨Pj.vset V 1 (.slice (some ⟨bl, ol, none⟩) H cl), by simp only [Pj.puts, List.foldl_cons, List.foldl_nil, Act.put, List.setIfInBounds_toArray, List.set_cons_zero, List.set_cons_succ, Pj.vset, Nat.reduceEqDiff, if_true, if_false], HJ.out.more HP.out hL (Kept.refl _) (rfl)⟩
    | 2, ho =>
      simp only [List.getElem?_toArray, List.getElem?_cons_zero, List.getElem?_cons_succ, Option.some.injEq] at ho
      have HJ := Lib.hid hJ
      clear hJ
      subst ho
      refine Pj.Step.free rfl ?_
      simp only [Pj.puts, List.foldl_cons, List.foldl_nil, Act.put, List.setIfInBounds_toArray, List.set_cons_zero, List.set_cons_succ]
      go_simp
      exact hKq _ _ ⟨Pj.vset V 2 (.pointer (some ⟨wo.heap.size, 0, none⟩)), by simp only [Pj.puts, List.foldl_cons, List.foldl_nil, Act.put, List.setIfInBounds_toArray, List.set_cons_zero, List.set_cons_succ, Pj.vset, Nat.reduceEqDiff, if_true, if_false], HJ.out.more HP.out hL (Kept.refl _) (rfl)⟩
    | 3, ho =>
      simp only [List.getElem?_toArray, List.getElem?_cons_zero, List.getElem?_cons_succ, Option.some.injEq] at ho
      have e2 : V 2 = .pointer (some ⟨wo.heap.size, 0, none⟩) := hJ.h 2 (hdep 2 (by rw [← ho]; kernel_rfl))
      obtain ⟨d1, d2, d3⟩ := box3 (HB2.out.kept hJ.kp)
      have HJ := Lib.hid hJ
      clear hJ
      subst ho
      refine Pj.Step.free rfl ?_
      simp only [Pj.puts, List.foldl_cons, List.foldl_nil, Act.put, List.setIfInBounds_toArray, List.set_cons_zero, List.set_cons_succ, e2]
      go_simp
      exact hKq _ _ ⟨Pj.vset V 3 (.int .i64 K), by simp only [Pj.puts, List.foldl_cons, List.foldl_nil, Act.put, List.setIfInBounds_toArray, List.set_cons_zero, List.set_cons_succ, Pj.vset, Nat.reduceEqDiff, if_true, if_false, e2], HJ.out.more HP.out hL (Kept.refl _) (rfl)⟩
    | 4, ho =>
      simp only [List.getElem?_toArray, List.getElem?_cons_zero, List.getElem?_cons_succ, Option.some.injEq] at ho
      have e1 : V 1 = .slice (some ⟨bl, ol, none⟩) H cl := hJ.h 1 (hdep 1 (by rw [← ho]; kernel_rfl))
      have e3 : V 3 = .int .i64 K := hJ.h 3 (hdep 3 (by rw [← ho]; kernel_rfl))
      have HJ := Lib.hid hJ
      clear hJ
      subst ho
      refine Pj.Step.free rfl ?_
      simp only [Pj.puts, List.foldl_cons, List.foldl_nil, Act.put, List.setIfInBounds_toArray, List.set_cons_zero, List.set_cons_succ, e1, e3]
      go_simp
      exact hKq _ _ ⟨Pj.vset V 4 (.slice (some ⟨bl, ol, none⟩) K cl), by simp only [Pj.puts, List.foldl_cons, List.foldl_nil, Act.put, List.setIfInBounds_toArray, List.set_cons_zero, List.set_cons_succ, Pj.vset, Nat.reduceEqDiff, if_true, if_false, e1, e3], HJ.out.more HP.out hL (Kept.refl _) (rfl)⟩
    | 5, ho =>
      simp only [List.getElem?_toArray, List.getElem?_cons_zero, List.getElem?_cons_succ, Option.some.injEq] at ho
      have e0 : V 0 = .agg #[.int .i64 K, .int .i64 M, .int .i64 s] := hJ.h 0 (hdep 0 (by rw [← ho]; kernel_rfl))
      have e4 : V 4 = .slice (some ⟨bl, ol, none⟩) K cl := hJ.h 4 (hdep 4 (by rw [← ho]; kernel_rfl))
      have hen := HEN.out _ hJ.kp
      have HJ := Lib.hid hJ
      clear hJ
      subst ho
      refine Pj.Step.free rfl ?_
      simp only [Pj.puts, List.foldl_cons, List.foldl_nil, Act.put, List.setIfInBounds_toArray, List.set_cons_zero, List.set_cons_succ, e0, e4]
      go_simp
      refine hen.mono ?_
      rintro e w' ⟨a, rfl, -, ht, ha, hk9⟩
      have hs9 := HGS.out _ _ ht ha
      clear ht ha
      exact hKq _ _ ⟨Pj.vset V 5 (.tuple #[.slice a H H, .int .i64 0]), by simp only [Pj.puts, List.foldl_cons, List.foldl_nil, Act.put, List.setIfInBounds_toArray, List.set_cons_zero, List.set_cons_succ, Pj.vset, Nat.reduceEqDiff, if_true, if_false, e0, e4], HJ.out.more HP.out hL (hk9) (⟨_, rfl, hs9⟩)⟩
    | 6, ho =>
      simp only [List.getElem?_toArray, List.getElem?_cons_zero, List.getElem?_cons_succ, Option.some.injEq] at ho
      obtain ⟨a9, e5, hx9⟩ := hJ.h 5 (hdep 5 (by rw [← ho]; kernel_rfl))
      have HJ := Lib.hid hJ
      clear hJ
      subst ho
      refine Pj.Step.free rfl ?_
      simp only [Pj.puts, List.foldl_cons, List.foldl_nil, Act.put, List.setIfInBounds_toArray, List.set_cons_zero, List.set_cons_succ, e5]
      go_simp
      exact hKq _ _ ⟨Pj.vset V 6 (.tuple #[.slice a9 H H, .int .i64 0]), by simp only [Pj.puts, List.foldl_cons, List.foldl_nil, Act.put, List.setIfInBounds_toArray, List.set_cons_zero, List.set_cons_succ, Pj.vset, Nat.reduceEqDiff, if_true, if_false, e5], HJ.out.more HP.out hL (Kept.refl _) (⟨_, rfl, hx9⟩)⟩
    | 7, ho =>
      simp only [List.getElem?_toArray, List.getElem?_cons_zero, List.getElem?_cons_succ, Option.some.injEq] at ho
      obtain ⟨a9, e6, hx9⟩ := hJ.h 6 (hdep 6 (by rw [← ho]; kernel_rfl))
      have HJ := Lib.hid hJ
      clear hJ
      subst ho
      refine Pj.Step.free rfl ?_
      simp only [Pj.puts, List.foldl_cons, List.foldl_nil, Act.put, List.setIfInBounds_toArray, List.set_cons_zero, List.set_cons_succ, e6]
      go_simp
      exact hKq _ _ ⟨Pj.vset V 7 (.slice a9 H H), by simp only [Pj.puts, List.foldl_cons, List.foldl_nil, Act.put, List.setIfInBounds_toArray, List.set_cons_zero, List.set_cons_succ, Pj.vset, Nat.reduceEqDiff, if_true, if_false, e6], HJ.out.more HP.out hL (Kept.refl _) (⟨_, rfl, hx9⟩)⟩
    | 8, ho =>
      simp only [List.getElem?_toArray, List.getElem?_cons_zero, List.getElem?_cons_succ, Option.some.injEq] at ho
      obtain ⟨a9, e6, hx9⟩ := hJ.h 6 (hdep 6 (by rw [← ho]; kernel_rfl))
      have HJ := Lib.hid hJ
      clear hJ
      subst ho
      refine Pj.Step.free rfl ?_
      simp only [Pj.puts, List.foldl_cons, List.foldl_nil, Act.put, List.setIfInBounds_toArray, List.set_cons_zero, List.set_cons_succ, e6]
      go_simp
      exact hKq _ _ ⟨Pj.vset V 8 (.int .i64 0), by simp only [Pj.puts, List.foldl_cons, List.foldl_nil, Act.put, List.setIfInBounds_toArray, List.set_cons_zero, List.set_cons_succ, Pj.vset, Nat.reduceEqDiff, if_true, if_false, e6], HJ.out.more HP.out hL (Kept.refl _) (rfl)⟩
    | 9, ho =>
      simp only [List.getElem?_toArray, List.getElem?_cons_zero, List.getElem?_cons_succ, Option.some.injEq] at ho
      obtain ⟨a9, e7, hx9⟩ := hJ.h 7 (hdep 7 (by rw [← ho]; kernel_rfl))
      have HJ := Lib.hid hJ
      clear hJ
      subst ho
      refine Pj.Step.free rfl ?_
      simp only [Pj.puts, List.foldl_cons, List.foldl_nil, Act.put, List.setIfInBounds_toArray, List.set_cons_zero, List.set_cons_succ, e7]
      go_simp
      exact hKq _ _ ⟨Pj.vset V 9 (.slice a9 H H), by simp only [Pj.puts, List.foldl_cons, List.foldl_nil, Act.put, List.setIfInBounds_toArray, List.set_cons_zero, List.set_cons_succ, Pj.vset, Nat.reduceEqDiff, if_true, if_false, e7], HJ.out.more HP.out hL (Kept.refl _) (⟨_, rfl, hx9⟩)⟩
    | 10, ho =>
      simp only [List.getElem?_toArray, List.getElem?_cons_zero, List.getElem?_cons_succ, Option.some.injEq] at ho
      have e8 : V 8 = .int .i64 0 := hJ.h 8 (hdep 8 (by rw [← ho]; kernel_rfl))
      have HJ := Lib.hid hJ
      clear hJ
      subst ho
      refine Pj.Step.free rfl ?_
      simp only [Pj.puts, List.foldl_cons, List.foldl_nil, Act.put, List.setIfInBounds_toArray, List.set_cons_zero, List.set_cons_succ, e8]
      go_simp
      exact hKq _ _ ⟨Pj.vset V 10 (.int .i64 0), by simp only [Pj.puts, List.foldl_cons, List.foldl_nil, Act.put, List.setIfInBounds_toArray, List.set_cons_zero, List.set_cons_succ, Pj.vset, Nat.reduceEqDiff, if_true, if_false, e8], HJ.out.more HP.out hL (Kept.refl _) (rfl)⟩
    | n + 11, ho => simp at ho
  case ehe =>
    rintro L a w ⟨V, rfl, hJ⟩ hall
    have e0 : V 0 = .agg #[.int .i64 K, .int .i64 M, .int .i64 s] := hJ.h 0 (hall 0 (by decide))
    have e1 : V 1 = .slice (some ⟨bl, ol, none⟩) H cl := hJ.h 1 (hall 1 (by decide))
    have e2 : V 2 = .pointer (some ⟨wo.heap.size, 0, none⟩) := hJ.h 2 (hall 2 (by decide))
    have e3 : V 3 = .int .i64 K := hJ.h 3 (hall 3 (by decide))
    have e4 : V 4 = .slice (some ⟨bl, ol, none⟩) K cl := hJ.h 4 (hall 4 (by decide))
    obtain ⟨a9, e5, hx9⟩ := hJ.h 5 (hall 5 (by decide))
    obtain ⟨a9, e6, hx9⟩ := hJ.h 6 (hall 6 (by decide))
    obtain ⟨a9, e7, hx9⟩ := hJ.h 7 (hall 7 (by decide))
    have e8 : V 8 = .int .i64 0 := hJ.h 8 (hall 8 (by decide))
    obtain ⟨a9, e9, hx9⟩ := hJ.h 9 (hall 9 (by decide))
    have e10 : V 10 = .int .i64 0 := hJ.h 10 (hall 10 (by decide))
    have HKj := Lib.hid hJ.kp
    clear hJ hall
    simp only [Pj.puts, List.foldl_cons, List.foldl_nil, Act.put, List.setIfInBounds_toArray, List.set_cons_zero, List.set_cons_succ, e0, e1, e2, e3, e4, e5, e6, e7, e8, e9, e10]
    clear e0 e1 e2 e3 e4 e5 e6 e7 e8 e9 e10
    obtain ⟨bg, og, hag, hgc⟩ := hx9.cells
    obtain rfl := hag (by have := HH.out; omega)
    have HGC := Lib.hid hgc
    have HGL := Lib.hid hx9.len_eq
    have HKW := Lib.hid (HK2.out.trans HKj.out)
    have HLL := Lib.hid (HLW.out.kept HKj.out)
    clear hx9 hag hgc
    go_wp2_with fail
    go_loopw [35] (fun i wr => ∃ k : Nat, k ≤ H ∧ i = .int .i64 k ∧ (∀ q, q < k → G.getD q ByteArray.empty = ss.getD q ByteArray.empty) ∧ Kept w wr) (fun i _ => H - (intOf i).toNat)
    case atStart => exact ⟨0, by omega, rfl, fun q hq => absurd hq (Nat.not_lt_zero q), Kept.refl _⟩
    case round =>
      obtain ⟨k, hk, rfl, hq, hkr⟩ := hrel
      have HQ := Lib.hid hq
      have HKR := Lib.hid hkr
      clear hq
      by_cases hlt : k < H
      · have hg1 := hkr.cell (HGC.out k hlt).1 (HGC.out k hlt).2
        obtain ⟨bq, oq, hal, hlc⟩ := HLL.out.cells
        cases hal (by omega)
        have hl1 := hkr.cell (hlc k hlt).1 (hlc k hlt).2
        clear hlc hal hkr
        obtain ⟨t, ht⟩ : ∃ t, t = G.getD k ByteArray.empty := ⟨_, rfl⟩
        obtain ⟨u, hu⟩ : ∃ u, u = ss.getD k ByteArray.empty := ⟨_, rfl⟩
        rw [← ht] at hg1
        rw [← hu] at hl1
        have HT := Lib.hid ht
        have HU := Lib.hid hu
        clear ht hu
        by_cases he : t = u
        · subst he
          go_wp2_with fail
          go_roundw
          case rel => exact ⟨k + 1, by omega, by go_num, fun q hq => by
            by_cases e : q = k
            · rw [e, ← HT.out, ← HU.out]
            · exact HQ.out q (by omega), HKR.out⟩
          case measure => simp [intOf]; omega
        · have hBf : B = false := by
            rw [HBG.out]
            refine decide_eq_false (fun e => he ?_)
            rw [HT.out, HU.out, e]
          clear HBG
          subst hBf
          obtain ⟨g1, g2, g3⟩ := bytes_ne4 he
          go_wp2
          go_ret2
          exact ⟨rfl, HKW.out.trans HKR.out⟩
      · obtain rfl : k = H := by omega
        have hBt : B = true := by
          rw [HBG.out]
          refine decide_eq_true (getD_ext (by rw [HGL.out, HLL.out.len_eq]) (fun q hq => HQ.out q (by have := HGL.out; omega)))
        clear HBG
        subst hBt
        clear hkr
        go_wp2
        go_ret2
        exact ⟨rfl, HKW.out.trans HKR.out⟩
end Go.Proofs.Ytoonpnpooljmlaa

namespace Go.Proofs.Ytoonpnpooljmlaa
open Go.RowKit

theorem mul_cast (a c : Nat) : (a : Int) * (c : Int) = ((a * c : Nat) : Int) := by simp
set_option maxRecDepth 100000 in
set_option maxHeartbeats 1000000 in
theorem rscale (r c b off cap a v : Nat) (F : Nat → Nat → Nat) (hF : Bt F) (hr : r ≤ 16) (hc : c ≤ 16) (ha : a < r) (hv : v < 256) (w : World) (h : Mat w b off r c F) :
    Calls Try.prog 71 #[.agg #[.int .i64 r, .int .i64 c, .slice (some ⟨b, off, none⟩) (r * c) cap], .int .i64 a, .int .u8 v] w fun e w' => (∃ u, e = .returned u) ∧ Mat w' b off r c (scaleF F a v) ∧ w.grownBy w' (some b) := by
  have k1 : Kept w (w.alloc (.cells #[.int .i64 r, .int .i64 c, .slice (some ⟨b, off, none⟩) (r * c) cap] 33)) := (Kept.refl w).alloc _
  have hb := BlockAt.new w #[.int .i64 r, .int .i64 c, .slice (some ⟨b, off, none⟩) (r * c) cap] 33
  have HM := Lib.hid (h.kept k1)
  have HB := Lib.hid hb
  have HG := Lib.hid (grown_kept k1 (some b))
  have hbl := h.lt
  have hm := mul_cast a c
  have hrc := Nat.mul_le_mul hr hc
  have hac : ∀ k, k < c → a * c + k < r * c := fun k hk => idx_lt ha hk
  have HAC := Lib.hid hac
  clear h hb k1 hac
  go_enter Try.func71, Try.ntmps71
  go_wp2
  generalize w.alloc (.cells #[.int .i64 r, .int .i64 c, .slice (some ⟨b, off, none⟩) (r * c) cap] 33) = w1 at *
  go_loopw [6] (fun i wr => ∃ k : Nat, k ≤ c ∧ i = .int .i64 k ∧ Mat wr b off r c (rowTo F (scaleF F a v) a k) ∧ w1.grownBy wr (some b)) (fun i _ => c - (intOf i).toNat)
  case atStart => exact ⟨0, by omega, rfl, by rw [rowTo_zero]; exact HM.out, grown_refl _ _⟩
  case round =>
    obtain ⟨k, hk, rfl, hmr, hg⟩ := hrel
    have HK := Lib.hid hmr
    have HG2 := Lib.hid hg
    obtain ⟨x0, x1, x2⟩ := box3 (HB.out.grown hg (by simp; omega))
    by_cases hlt : k < c
    · have hcell := hmr.cell a k ha hlt
      rw [rowTo_at, Nat.add_assoc] at hcell
      have hfree := hmr.free (off + (a * c + k))
      have hst := fun q => (hmr.kept ((Kept.refl wr).drewN q)).set ha hlt (Gf.mul (F a k) v)
      have hsc : Gf.mul (F a k) v = scaleF F a v a k := by simp [scaleF]
      rw [hsc] at hst
      simp only [rowTo_succ] at hst
      rw [← hsc, Nat.add_assoc] at hst
      have hx := hF a k
      have hlt2 := HAC.out k hlt
      have hsum : ((a * c : Nat) : Int) + (k : Int) = ((a * c + k : Nat) : Int) := by simp
      generalize F a k = x at hcell hst hx
      have HST := Lib.hid hst
      clear hmr hg hst hsc
      generalize hac : a * c = ac at *
      generalize hak : ac + k = ak at *
      have HAC1 := Lib.hid hac
      have HAK1 := Lib.hid hak
      clear hac hak
      go_wp2_with fail
      refine (wpIn_wide (n := 0)).1 ?_
      refine wpIn_region_quiet_tail_lit 21 (by kernel_rfl) (by kernel_rfl) (by kernel_rfl) ?_
      simp only [List.take_succ_cons, List.take_zero, List.drop_succ_cons, List.drop_zero]
      repeat (gi_big_quiet_step ((gi_at_call 31; exact callsIn_wide.2 (quietly (refmul_any x v hx hv _)))))
      refine wpQuietIn_nil ?_
      intro _ hw'
      obtain ⟨nq, hw''⟩ := hw'
      subst hw''
      gi_wp2
      go_wp2
      go_roundw
      case rel => exact ⟨k + 1, by omega, by go_num, HST.out nq, grown_trans HG2.out (grown_trans (grown_kept ((Kept.refl wr).drewN nq) _) (grown_set _ _ _ _))⟩
      case measure => simp [intOf]; omega
    · obtain rfl : k = c := by omega
      have hfin := hmr.congr (G := scaleF F a v) (fun i j _ hj => by
        unfold rowTo scaleF
        by_cases e : i = a
        · rw [if_pos ⟨e, hj⟩]
        · rw [if_neg (fun h => e h.1), if_neg e])
      have HF := Lib.hid hfin
      clear hmr hg hfin
      go_wp2
      go_end0
      exact ⟨⟨_, rfl⟩, HF.out, grown_trans HG.out HG2.out⟩
set_option maxRecDepth 100000 in
set_option maxHeartbeats 1000000 in
theorem radd (r c b off cap a t v : Nat) (F : Nat → Nat → Nat) (hF : Bt F) (hr : r ≤ 16) (hc : c ≤ 16) (ha : a < r) (ht : t < r) (hat : a ≠ t) (hv : v < 256) (w : World) (h : Mat w b off r c F) :
    Calls Try.prog 72 #[.agg #[.int .i64 r, .int .i64 c, .slice (some ⟨b, off, none⟩) (r * c) cap],   .int .i64 a, .int .i64 t, .int .u8 v] w fun e w' => (∃ u, e = .returned u) ∧ Mat w' b off r c (addF F a t v) ∧ w.grownBy w' (some b) := by
  have k1 : Kept w (w.alloc (.cells #[.int .i64 r, .int .i64 c, .slice (some ⟨b, off, none⟩) (r * c) cap] 33)) := (Kept.refl w).alloc _
  have hb := BlockAt.new w #[.int .i64 r, .int .i64 c, .slice (some ⟨b, off, none⟩) (r * c) cap] 33
  have HM := Lib.hid (h.kept k1)
  have HB := Lib.hid hb
  have HG := Lib.hid (grown_kept k1 (some b))
  have hbl := h.lt
  have hm := mul_cast a c
  have hmt := mul_cast t c
  have HAT := Lib.hid hat
  have hrc := Nat.mul_le_mul hr hc
  have hac : ∀ k, k < c → a * c + k < r * c := fun k hk => idx_lt ha hk
  have HAC := Lib.hid hac
  have htc : ∀ k, k < c → t * c + k < r * c := fun k hk => idx_lt ht hk
  have HTC := Lib.hid htc
  clear h hb k1 hac htc hat
  go_enter Try.func72, Try.ntmps72
  go_wp2
  generalize w.alloc (.cells #[.int .i64 r, .int .i64 c, .slice (some ⟨b, off, none⟩) (r * c) cap] 33) = w1 at *
  go_loopw [8] (fun i wr => ∃ k : Nat, k ≤ c ∧ i = .int .i64 k ∧ Mat wr b off r c (rowTo F (addF F a t v) a k) ∧ w1.grownBy wr (some b)) (fun i _ => c - (intOf i).toNat)
  case atStart => exact ⟨0, by omega, rfl, by rw [rowTo_zero]; exact HM.out, grown_refl _ _⟩
  case round =>
    obtain ⟨k, hk, rfl, hmr, hg⟩ := hrel
    have HK := Lib.hid hmr
    have HG2 := Lib.hid hg
    obtain ⟨x0, x1, x2⟩ := box3 (HB.out.grown hg (by simp; omega))
    by_cases hlt : k < c
    · have hcell := hmr.cell a k ha hlt
      rw [rowTo_at, Nat.add_assoc] at hcell
      have hfree := hmr.free (off + (a * c + k))
      have hcell2 := hmr.cell t k ht hlt
      rw [show rowTo F (addF F a t v) a k t k = F t k from if_neg (fun e => HAT.out e.1.symm), Nat.add_assoc] at hcell2
      have hst := fun q => (hmr.kept ((Kept.refl wr).drewN q)).set ha hlt (F a k ^^^ Gf.mul (F t k) v)
      have hsc : F a k ^^^ Gf.mul (F t k) v = addF F a t v a k := by simp [addF]
      rw [hsc] at hst
      simp only [rowTo_succ] at hst
      rw [← hsc, Nat.add_assoc] at hst
      have hx := hF a k
      have hy := hF t k
      have hlt2 := HAC.out k hlt
      have hlt3 := HTC.out k hlt
      have hsumt : ((t * c : Nat) : Int) + (k : Int) = ((t * c + k : Nat) : Int) := by simp
      have hsum : ((a * c : Nat) : Int) + (k : Int) = ((a * c + k : Nat) : Int) := by simp
      generalize F a k = x at hcell hst hx
      generalize F t k = y at hcell2 hst hy
      have hxy := xor_u8 x (Gf.mul y v) hx (Gf.mul_lt hy v)
      have hmy := Gf.mul_lt hy v
      have HST := Lib.hid hst
      clear hmr hg hst hsc
      generalize hac : a * c = ac at *
      generalize hak : ac + k = ak at *
      have HAC1 := Lib.hid hac
      have HAK1 := Lib.hid hak
      generalize htc : t * c = tc at *
      generalize htk : tc + k = tk at *
      have HTC1 := Lib.hid htc
      have HTK1 := Lib.hid htk
      clear hac hak htc htk
      go_wp2_with fail
      refine (wpIn_wide (n := 0)).1 ?_
      refine wpIn_region_quiet_tail_lit 32 (by kernel_rfl) (by kernel_rfl) (by kernel_rfl) ?_
      simp only [List.take_succ_cons, List.take_zero, List.drop_succ_cons, List.drop_zero]
      repeat (gi_big_quiet_step ((gi_at_call 31; exact callsIn_wide.2 (quietly (refmul_any y v hy hv _)))))
      refine wpQuietIn_nil ?_
      intro _ hw'
      obtain ⟨nq, hw''⟩ := hw'
      subst hw''
      gi_wp2
      go_wp2
      go_roundw
      case rel => exact ⟨k + 1, by omega, by go_num, HST.out nq, grown_trans HG2.out (grown_trans (grown_kept ((Kept.refl wr).drewN nq) _) (grown_set _ _ _ _))⟩
      case measure => simp [intOf]; omega
    · obtain rfl : k = c := by omega
      have hfin := hmr.congr (G := addF F a t v) (fun i j _ hj => by
        unfold rowTo addF
        by_cases e : i = a
        · rw [if_pos ⟨e, hj⟩]
        · rw [if_neg (fun h => e h.1), if_neg e])
      have HF := Lib.hid hfin
      clear hmr hg hfin
      go_wp2
      go_end0
      exact ⟨⟨_, rfl⟩, HF.out, grown_trans HG.out HG2.out⟩
end Go.Proofs.Ytoonpnpooljmlaa

namespace Go.Proofs.Ytoonpnpooljmlaa

theorem pv_congr {f g : Nat → Nat → Nat} {col : Nat} : ∀ {k n : Nat}, (∀ i, n ≤ i → i < n + k → f i col = g i col) → pv f col n k = pv g col n k
  | 0, _, _ => rfl
  | k + 1, n, h => by
    show (if f n col = 0 then pv f col (n + 1) k else some n) = (if g n col = 0 then pv g col (n + 1) k else some n)
    rw [h n (by omega) (by omega), pv_congr (k := k) (n := n + 1) (fun i h1 h2 => h i (by omega) (by omega))]
/-- alike in so many rows and columns -/
def Same (r c : Nat) (f g : Nat → Nat → Nat) : Prop := ∀ i j, i < r → j < c → f i j = g i j
theorem same_swap {r c a b : Nat} {f g : Nat → Nat → Nat} (h : Same r c f g) (ha : a < r) (hb : b < r) : Same r c (swapF f a b) (swapF g a b) := fun i j hi hj => by
  unfold swapF
  split
  · exact h _ _ hb hj
  · split
    · exact h _ _ ha hj
    · exact h _ _ hi hj
theorem same_scale {r c a v : Nat} {f g : Nat → Nat → Nat} (h : Same r c f g) (ha : a < r) : Same r c (scaleF f a v) (scaleF g a v) := fun i j hi hj => by
  unfold scaleF
  rw [h a j ha hj, h i j hi hj]
theorem same_elim {r c top col n : Nat} {f g : Nat → Nat → Nat} (h : Same r c f g) (ht : top < r) (hc : col < c) : Same r c (elimTo f top col n) (elimTo g top col n) := fun i j hi hj => by
  unfold elimTo
  rw [h i j hi hj, h top j ht hj, h i col hi hc]
theorem same_sweep {r c rank col a : Nat} {f g : Nat → Nat → Nat} (h : Same r c f g) (hr : rank < r) (ha : a < r) (hc : col < c) : Same r c (sweepF r f rank col a) (sweepF r g rank col a) := by
  unfold sweepF topF
  rw [h a col ha hc]
  exact same_elim (same_scale (same_swap h hr ha) hr) hr hc
theorem red_same {r c : Nat} {f g : Nat → Nat → Nat} (h : Same r c f g) : ∀ n, n ≤ c → (redTo r f n).1 = (redTo r g n).1 ∧ Same r c (redTo r f n).2 (redTo r g n).2
  | 0, _ => ⟨rfl, h⟩
  | n + 1, hn => by
    obtain ⟨h1, h2⟩ := red_same h n (by omega)
    have hle := (redTo_le r f n).1
    have hp : pv (redTo r f n).2 n (redTo r f n).1 (r - (redTo r f n).1) = pv (redTo r g n).2 n (redTo r g n).1 (r - (redTo r g n).1) := by
      rw [← h1]
      exact pv_congr (fun i h3 h4 => h2 i n (by omega) (by omega))
    cases hq : pv (redTo r g n).2 n (redTo r g n).1 (r - (redTo r g n).1) with
    | none => rw [redTo_none r f n (hp.trans hq), redTo_none r g n hq]; exact ⟨h1, h2⟩
    | some a =>
      obtain ⟨g1, g2, _, _⟩ := pv_some hq
      rw [redTo_some r f n a (hp.trans hq), redTo_some r g n a hq, h1]
      exact ⟨rfl, same_sweep h2 (by omega) (by omega) (by omega)⟩
theorem rank_red (r c : Nat) (f : Nat → Nat → Nat) : rankF r c f = (redTo r f c).1 :=
  (red_same (r := r) (c := c) (fun _ _ _ hj => beside_left f oneF hj) c (Nat.le_refl c)).1
end Go.Proofs.Ytoonpnpooljmlaa

namespace Go.Proofs.Ytoonpnpooljmlaa

/-- how many operations are left -/
def leftOf (listed : Array Bool) : Nat := listed.toList.count false
theorem left_set {listed : Array Bool} {i : Nat} (h : listed.getD i true = false) : leftOf (listed.setIfInBounds i true) + 1 = leftOf listed := by
  have hi : i < listed.size := by
    rcases Nat.lt_or_ge i listed.size with hi | hi
    · exact hi
    · rw [Array.getD_eq_getD_getElem?, Array.getElem?_eq_none hi] at h
      cases h
  have hv : listed.toList[i]'(by simpa using hi) = false := by
    rw [Array.getD_eq_getD_getElem?, Array.getElem?_eq_getElem hi] at h
    simpa using h
  have hpos : 0 < listed.toList.count false := List.count_pos_iff.2 (by rw [← hv]; exact List.getElem_mem _)
  unfold leftOf
  rw [Array.toList_setIfInBounds, List.count_set (by simpa using hi), hv, if_pos (by rfl), if_neg (by decide)]
  omega
theorem left_none {md : Region.Mode} {ops : Array Oper} {listed : Array Bool} (h : leftOf listed = 0) : Region.ready md ops listed = [] := by
  unfold Region.ready
  rw [List.filter_eq_nil_iff]
  intro i _ hb
  rw [Bool.and_eq_true] at hb
  have h1 : listed.getD i true = false := by simpa using hb.1
  have := left_set h1
  omega
theorem ready_open {md : Region.Mode} {ops : Array Oper} {listed : Array Bool} {i : Nat} (h : i ∈ Region.ready md ops listed) : listed.getD i true = false := by
  unfold Region.ready at h
  have := (List.mem_filter.1 h).2
  rw [Bool.and_eq_true] at this
  simpa using this.1
theorem wpAny_inv {P : Program} {md : Region.Mode} {ops : Array Oper} {Q : Exit → Act → World → Prop} (J : Array Bool → Act → World → Prop)
    (hstep : ∀ listed a w i, J listed a w → i ∈ Region.ready md ops listed → wpOp P ops Q i (J (listed.setIfInBounds i true)) a w)
    (hend : ∀ listed a w, J listed a w → Region.ready md ops listed = [] → Q .normal a w) : ∀ fuel listed a w, leftOf listed ≤ fuel → J listed a w → wpAny P md ops Q fuel listed a w
  | 0, listed, a, w, hl, hJ => by
    have hr : Region.ready md ops listed = [] := left_none (by omega)
    exact ⟨hr, hend listed a w hJ hr⟩
  | fuel + 1, listed, a, w, hl, hJ => by
    refine ⟨hend listed a w hJ, fun i hi => wpOp_mono (fun a' w' h => wpAny_inv J hstep hend fuel _ a' w' ?_ h) (hstep listed a w i hJ hi)⟩
    have := left_set (ready_open hi)
    omega
theorem getD_set (listed : Array Bool) (i j : Nat) : (listed.setIfInBounds i true).getD j true = if i = j then true else listed.getD j true := by
  simp only [Array.getD_eq_getD_getElem?, Array.getElem?_setIfInBounds]
  split
  · rename_i h
    split
    · rfl
    · rename_i h2
      rfl
  · rfl
theorem getD_rep (n j : Nat) (h : j < n) : (Array.replicate n false).getD j true = false := by
  simp [Array.getD_eq_getD_getElem?, h]

theorem getD_size (listed : Array Bool) (j : Nat) (h : j < listed.size) : listed.getD j false = listed.getD j true := by
  simp [Array.getD_eq_getD_getElem?, h]
/-- the edges that bind in whatever order go back -/
def backB (ops : Array Oper) : Bool := (List.range ops.size).all fun i => ((ops[i]?).map (fun o => o.after.all fun e => decide (e.on < i) || !Region.binds .any e)).getD true
theorem back_at {ops : Array Oper} (hb : backB ops = true) {i : Nat} {o : Oper} (ho : ops[i]? = some o) : o.after.all (fun e => decide (e.on < i) || !Region.binds .any e) = true := by
  have hi : i < ops.size := (Array.getElem?_eq_some_iff.1 ho).1
  have := List.all_eq_true.1 hb i (List.mem_range.2 hi)
  rw [ho] at this
  exact this
theorem all_listed {ops : Array Oper} (hb : backB ops = true) {listed : Array Bool} (hs : listed.size = ops.size) (hr : Region.ready .any ops listed = []) : ∀ n i, i < n → i < ops.size → listed.getD i true = true
  | n + 1, i, hin, hi => by
    have ih := all_listed hb hs hr n
    cases hl : listed.getD i true with
    | true => rfl
    | false =>
      exfalso
      have ho : ops[i]? = some ops[i] := Array.getElem?_eq_getElem hi
      have hall := back_at hb ho
      have hmem : i ∈ Region.ready .any ops listed := by
        unfold Region.ready
        refine List.mem_filter.2 ⟨List.mem_range.2 hi, ?_⟩
        rw [hl, ho]
        simp only [Bool.not_false, Bool.true_and, Option.map_some, Option.getD_some]
        rw [Array.all_eq_true] at hall ⊢
        intro k hk
        have h0 := hall k hk
        cases hbd : Region.binds .any (ops[i].after[k]) with
        | false => rfl
        | true =>
          rw [hbd] at h0
          have h1 : (ops[i].after[k]).on < i := by simpa using h0
          rw [getD_size listed _ (by omega), ih _ (by omega) (by omega), Bool.or_true]
      rw [hr] at hmem
      cases hmem
theorem wp_region_inv {P : Program} {id : Nat} {ops : Array Oper} {Q : Exit → Act → World → Prop} (J : (Nat → Prop) → Act → World → Prop) {a : Act} {w : World} (hm : P.follows .mixedOrders = true) (hb : backB ops = true)
    (h0 : ∀ L : Nat → Prop, (∀ j, j < ops.size → ¬ L j) → J L a w.drew)
    (hstep : ∀ (L L' : Nat → Prop) a w i o K, J L a w → ops[i]? = some o → ¬ L i → (∀ j, (o.after.any fun e => e.on == j && Region.binds .any e) = true → L j) → (∀ j, L' j ↔ (j = i ∨ L j)) → (∀ a' w', J L' a' w' → K a' w') →
      if Region.wanted o (yielded ops a.tmps) = true then Oper.wp P o a w K Q else K (a.put o.dst undef) w)
    (hend : ∀ (L : Nat → Prop) a w, J L a w → (∀ j, j < ops.size → L j) → Q .normal a w) : (Code.region id ops true).wp P Q a w := by
  refine wp_region_any hm (wpAny_inv (fun listed a w => listed.size = ops.size ∧ J (fun j => listed.getD j true = true) a w) ?_ ?_ ops.size _ a _ (by unfold leftOf; rw [Array.toList_replicate, List.count_replicate]; split <;> omega) ⟨Array.size_replicate, h0 _ (fun j hj => by simp [getD_rep _ _ hj])⟩)
  · rintro listed a w i ⟨hs, hJ⟩ hi
    have hopen := ready_open hi
    have hi2 := (List.mem_filter.1 hi).2
    have hil : i < ops.size := List.mem_range.1 (List.mem_filter.1 hi).1
    have ho : ops[i]? = some ops[i] := Array.getElem?_eq_getElem hil
    have hall := back_at hb ho
    refine wpOp_step ho fun K' hK => hstep _ (fun j => (listed.setIfInBounds i true).getD j true = true) a w i ops[i] K' hJ ho (by rw [hopen]; exact Bool.false_ne_true) (fun j hj => ?_) (fun j => ?_) (fun a' w' h' => hK a' w' ⟨by rw [Array.size_setIfInBounds]; exact hs, h'⟩)
    · rw [ho, hopen] at hi2
      simp only [Bool.not_false, Bool.true_and, Option.map_some, Option.getD_some] at hi2
      rw [Array.any_eq_true] at hj
      obtain ⟨k, hk, he⟩ := hj
      rw [Bool.and_eq_true] at he
      have h1 := (Array.all_eq_true.1 hi2) k hk
      have h0 := (Array.all_eq_true.1 hall) k hk
      rw [he.2] at h0
      have h2 : (ops[i].after[k]).on < i := by simpa using h0
      rw [he.2] at h1
      simp only [Bool.not_true, Bool.false_or] at h1
      have h3 : (ops[i].after[k]).on = j := by simpa using he.1
      rw [getD_size listed _ (by omega), h3] at h1
      exact h1
    · rw [getD_set]
      by_cases e : i = j
      · simp [e]
      · rw [if_neg e]
        exact ⟨.inr, fun h => h.resolve_left (fun h => e h.symm)⟩
  · rintro listed a w ⟨hs, hJ⟩ hr
    exact hend _ a w hJ (fun j hj => all_listed hb hs hr (j + 1) j (by omega) hj)
/-- the same, where the invariant names the frame that the region begins with -/
theorem wp_region_inv1 {P : Program} {id : Nat} {ops : Array Oper} {Q : Exit → Act → World → Prop} (J : Act → (Nat → Prop) → Act → World → Prop) {a : Act} {w : World} (hm : P.follows .mixedOrders = true) (hb : backB ops = true)
    (h0 : ∀ L : Nat → Prop, (∀ j, j < ops.size → ¬ L j) → J a L a w.drew)
    (hstep : ∀ (L L' : Nat → Prop) b w i o K, J a L b w → ops[i]? = some o → ¬ L i → (∀ j, (o.after.any fun e => e.on == j && Region.binds .any e) = true → L j) → (∀ j, L' j ↔ (j = i ∨ L j)) → (∀ a' w', J a L' a' w' → K a' w') →
      if Region.wanted o (yielded ops b.tmps) = true then Oper.wp P o b w K Q else K (b.put o.dst undef) w)
    (hend : ∀ (L : Nat → Prop) b w, J a L b w → (∀ j, j < ops.size → L j) → Q .normal b w) : (Code.region id ops true).wp P Q a w :=
  wp_region_inv (J a) hm hb h0 hstep hend


/-- a matrix from its column c on -/
def sh (c : Nat) (F : Nat → Nat → Nat) : Nat → Nat → Nat := fun i j => F i (c + j)
theorem sh_bt {F : Nat → Nat → Nat} (h : Bt F) (c : Nat) : Bt (sh c F) := fun _ _ => h _ _
theorem sh_swap (c a t : Nat) (F : Nat → Nat → Nat) : swapF (sh c F) a t = sh c (swapF F a t) := rfl
theorem sh_scale (c a v : Nat) (F : Nat → Nat → Nat) : scaleF (sh c F) a v = sh c (scaleF F a v) := rfl
theorem sh_add (c a t v : Nat) (F : Nat → Nat → Nat) : addF (sh c F) a t v = sh c (addF F a t v) := rfl
theorem sh_beside (c : Nat) (F : Nat → Nat → Nat) : sh c (beside c F oneF) = oneF := by
  funext i j
  exact beside_right c i j F oneF
/-- two rows changed places as far as column k -/
def swTo (F : Nat → Nat → Nat) (a t k : Nat) : Nat → Nat → Nat := fun i j => if j < k then swapF F a t i j else F i j
theorem swTo_zero (F : Nat → Nat → Nat) (a t : Nat) : swTo F a t 0 = F := by
  funext i j
  simp [swTo]
theorem swTo_at (F : Nat → Nat → Nat) (a t k i : Nat) : swTo F a t k i k = F i k := by simp [swTo]
theorem swTo_succ (F : Nat → Nat → Nat) (a t k : Nat) : upd (upd (swTo F a t k) a k (F t k)) t k (F a k) = swTo F a t (k + 1) := by
  funext i j
  unfold upd swTo
  by_cases e : j = k
  · subst e
    rw [if_neg (Nat.lt_irrefl j), if_pos (Nat.lt_succ_self j)]
    unfold swapF
    by_cases h1 : i = t
    · subst h1
      by_cases h2 : i = a
      · subst h2; simp
      · simp [h2]
    · by_cases h2 : i = a
      · subst h2; simp [h1]
      · simp [h1, h2]
  · have h : j < k + 1 ↔ j < k := by omega
    simp [e, h]
/-- one more row made 0 in the column, or left since it is the top one -/
theorem elim_top (F : Nat → Nat → Nat) (t col n : Nat) (h : n = t) : elimTo F t col n = elimTo F t col (n + 1) := by
  subst h
  exact (elimTo_top F n col).symm
theorem elim_row (F : Nat → Nat → Nat) (t col n : Nat) (h : n ≠ t) : addF (elimTo F t col n) n t (elimTo F t col n n col) = elimTo F t col (n + 1) := by
  rw [elimTo_at]
  exact elimTo_succ F t col n h

open Go.RowKit

/-- one more value -/
def vset (V : Nat → Value) (i : Nat) (x : Value) : Nat → Value := fun j => if j = i then x else V j
theorem vset_same (V : Nat → Value) (i : Nat) (x : Value) : vset V i x i = x := if_pos rfl
theorem vset_other (V : Nat → Value) {i j : Nat} (x : Value) (h : j ≠ i) : vset V i x j = V j := if_neg h
theorem vset_ok {L L' : Nat → Prop} {V val : Nat → Value} {i : Nat} (hV : ∀ j, L j → V j = val j) (hL : ∀ j, L' j ↔ (j = i ∨ L j)) : ∀ j, L' j → vset V i (val i) j = val j := fun j hj => by
  by_cases e : j = i
  · subst e; exact vset_same _ _ _
  · rw [vset_other _ _ e]
    exact hV j (((hL j).1 hj).resolve_left e)
theorem wanted_free {o : Oper} (h : o.guard = none) (y : Nat → Option Bool) : Region.wanted o y = true := by unfold Region.wanted; rw [h]
/-- the worlds of two stores in turn -/
structure SwW (w0 w1 w2 : World) (L : Nat → Prop) (w : World) : Prop where
  d : L 37 → L 25 ∧ L 35
  e : L 39 → L 37
  s0 : ¬ L 37 → w = w0
  s1 : L 37 → ¬ L 39 → w = w1
  s2 : L 39 → w = w2
theorem SwW.more {w0 w1 w2 w : World} {L L' : Nat → Prop} {i : Nat} (h : SwW w0 w1 w2 L w) (hi : 37 ≠ i ∧ 39 ≠ i) (hL : ∀ j, L' j ↔ (j = i ∨ L j)) : SwW w0 w1 w2 L' w := by
  have h7 : L' 37 ↔ L 37 := by rw [hL]; exact ⟨fun h => h.resolve_left hi.1, .inr⟩
  have h9 : L' 39 ↔ L 39 := by rw [hL]; exact ⟨fun h => h.resolve_left hi.2, .inr⟩
  exact ⟨fun x => ⟨(hL 25).2 (.inr (h.d (h7.1 x)).1), (hL 35).2 (.inr (h.d (h7.1 x)).2)⟩, fun x => h7.2 (h.e (h9.1 x)), fun x => h.s0 (fun y => x (h7.2 y)), fun x y => h.s1 (h7.1 x) (fun z => y (h9.2 z)), fun x => h.s2 (h9.1 x)⟩
theorem SwW.either {w0 w1 w2 w : World} {L : Nat → Prop} (h : SwW w0 w1 w2 L w) : w = w0 ∨ w = w1 ∨ w = w2 := by
  by_cases h7 : L 37
  · by_cases h9 : L 39
    · exact .inr (.inr (h.s2 h9))
    · exact .inr (.inl (h.s1 h7 h9))
  · exact .inl (h.s0 h7)
theorem SwW.first {w0 w1 w2 w : World} {L L' : Nat → Prop} (h : SwW w0 w1 w2 L w) (ho : ¬ L 37) (h5 : L 25) (h6 : L 35) (hL : ∀ j, L' j ↔ (j = 37 ∨ L j)) : SwW w0 w1 w2 L' w1 := by
  have h7 : L' 37 := (hL 37).2 (.inl rfl)
  have h9 : ¬ L' 39 := fun x => ho (h.e (((hL 39).1 x).resolve_left (by decide)))
  exact ⟨fun _ => ⟨(hL 25).2 (.inr h5), (hL 35).2 (.inr h6)⟩, fun _ => h7, fun x => absurd h7 x, fun _ _ => rfl, fun x => absurd x h9⟩
theorem SwW.second {w0 w1 w2 w : World} {L L' : Nat → Prop} (h : SwW w0 w1 w2 L w) (h7 : L 37) (hL : ∀ j, L' j ↔ (j = 39 ∨ L j)) : SwW w0 w1 w2 L' w2 := by
  have h7' : L' 37 := (hL 37).2 (.inr h7)
  have h9 : L' 39 := (hL 39).2 (.inl rfl)
  exact ⟨fun _ => ⟨(hL 25).2 (.inr (h.d h7).1), (hL 35).2 (.inr (h.d h7).2)⟩, fun _ => h7', fun x => absurd h7' x, fun _ x => absurd h9 x, fun _ => rfl⟩
set_option maxRecDepth 100000 in
set_option maxHeartbeats 8000000 in
theorem rswap (r c b off cap a t : Nat) (F : Nat → Nat → Nat) (hF : Bt F) (hr : r ≤ 16) (hc : c ≤ 16) (ha : a < r) (ht : t < r) (w : World) (h : Mat w b off r c F) :
    Calls Try.prog 69 #[.agg #[.int .i64 r, .int .i64 c, .slice (some ⟨b, off, none⟩) (r * c) cap], .int .i64 a, .int .i64 t] w fun e w' => (∃ u, e = .returned u) ∧ Mat w' b off r c (swapF F a t) ∧ w.grownBy w' (some b) := by
  have k1 : Kept w (w.alloc (.cells #[.int .i64 r, .int .i64 c, .slice (some ⟨b, off, none⟩) (r * c) cap] 33)) := (Kept.refl w).alloc _
  have hb := BlockAt.new w #[.int .i64 r, .int .i64 c, .slice (some ⟨b, off, none⟩) (r * c) cap] 33
  have HM := Lib.hid (h.kept k1)
  have HB := Lib.hid hb
  have HG := Lib.hid (grown_kept k1 (some b))
  have hbl := h.lt
  have hm := mul_cast a c
  have hmt := mul_cast t c
  have hrc := Nat.mul_le_mul hr hc
  have HAC := Lib.hid (fun k (hk : k < c) => idx_lt (r := r) ha hk)
  have HTC := Lib.hid (fun k (hk : k < c) => idx_lt (r := r) ht hk)
  clear h hb k1
  go_enter Try.func69, Try.ntmps69
  go_wp2
  generalize w.alloc (.cells #[.int .i64 r, .int .i64 c, .slice (some ⟨b, off, none⟩) (r * c) cap] 33) = w1 at *
  go_loopw [6] (fun i wr => ∃ k : Nat, k ≤ c ∧ i = .int .i64 k ∧ Mat wr b off r c (swTo F a t k) ∧ w1.grownBy wr (some b)) (fun i _ => c - (intOf i).toNat)
  case atStart => exact ⟨0, by omega, rfl, by rw [swTo_zero]; exact HM.out, grown_refl _ _⟩
  case round =>
    obtain ⟨k, hk, rfl, hmr, hg⟩ := hrel
    obtain ⟨x0, x1, x2⟩ := box3 (HB.out.grown hg (by simp; omega))
    by_cases hlt : k < c
    · have hmd := hmr.kept (Kept.refl wr).drew
      have hcell := hmd.cell a k ha hlt
      have hcell2 := hmd.cell t k ht hlt
      rw [swTo_at, Nat.add_assoc] at hcell hcell2
      have hst := (hmd.set ha hlt (F t k)).set ht hlt (F a k)
      rw [swTo_succ, Nat.add_assoc, Nat.add_assoc] at hst
      have hst1 := (hmd.set ha hlt (F t k)).cell t k ht hlt
      rw [Nat.add_assoc, Nat.add_assoc] at hst1
      generalize upd (swTo F a t k) a k (F t k) t k = z at hst1
      have hfree := hmd.free (off + (a * c + k))
      have hfree2 := (hmd.set ha hlt (F t k)).free (off + (t * c + k))
      rw [Nat.add_assoc] at hfree2
      have hx := hF a k
      have hy := hF t k
      have hlt2 := HAC.out k hlt
      have hlt3 := HTC.out k hlt
      have hsum : ((a * c : Nat) : Int) + (k : Int) = ((a * c + k : Nat) : Int) := by simp
      have hsumt : ((t * c : Nat) : Int) + (k : Int) = ((t * c + k : Nat) : Int) := by simp
      generalize F a k = x at hcell hst hx
      generalize F t k = y at hcell2 hst hst1 hfree2 hy
      have g0 := (grown_kept (Kept.refl wr).drew (some b))
      have g1 := grown_trans g0 (grown_set wr.drew b (off + (a * c + k)) (.int .u8 (y : Int)))
      have g2 := grown_trans g1 (grown_set (wr.drew.setCell ⟨b, off + (a * c + k), none⟩ (.int .u8 (y : Int))) b (off + (t * c + k)) (.int .u8 (x : Int)))
      have HST := Lib.hid (And.intro hst (grown_trans hg g2))
      have hbx := fun w' (hw : w' = wr.drew ∨ w' = wr.drew.setCell ⟨b, off + (a * c + k), none⟩ (.int .u8 (y : Int)) ∨ w' = (wr.drew.setCell ⟨b, off + (a * c + k), none⟩ (.int .u8 (y : Int))).setCell ⟨b, off + (t * c + k), none⟩ (.int .u8 (x : Int))) =>
        box3 (HB.out.grown (grown_trans hg (show wr.grownBy w' (some b) by rcases hw with rfl | rfl | rfl <;> assumption)) (by simp; omega))
      have HBX := Lib.hid hbx
      clear hmr hg hst hmd g0 g1 g2 hbx
      generalize hac : a * c = ac at *
      generalize hak : ac + k = ak at *
      generalize htc : t * c = tc at *
      generalize htk : tc + k = tk at *
      have H1 := Lib.hid hac
      have H2 := Lib.hid hak
      have H3 := Lib.hid htc
      have H4 := Lib.hid htk
      clear hac hak htc htk
      generalize hLn : r * c = Ln at *
      have HLn := Lib.hid hLn
      clear hLn
      have i0 : (0 : Int) ≤ (ak : Int) := by omega
      have i1 : (ak : Int) < (Ln : Int) := by omega
      have i2 : (0 : Int) ≤ (tk : Int) := by omega
      have i3 : (tk : Int) < (Ln : Int) := by omega
      go_wp2_with fail
      have HC := Lib.hid hcell
      have HC2 := Lib.hid hcell2
      have HS1 := Lib.hid hst1
      have HF1 := Lib.hid hfree
      have HF2 := Lib.hid hfree2
      clear hcell hcell2 hst1 hfree hfree2 x0 x1 x2
      have wa := wrap_i64_nat ac (by omega)
      have wk := wrap_i64_nat ak (by omega)
      have wt := wrap_i64_nat tc (by omega)
      have wtk := wrap_i64_nat tk (by omega)
      let val : Nat → Value := fun j => ([.pointer (some ⟨w.heap.size, 2, none⟩), .slice (some ⟨b, off, none⟩) Ln cap, .int .i64 a, .pointer (some ⟨w.heap.size, 1, none⟩), .int .i64 c, .int .i64 ac, .int .i64 k, .int .i64 ak, .pointer (some ⟨w.heap.size, 2, none⟩), .slice (some ⟨b, off, none⟩) Ln cap, .int .i64 t, .pointer (some ⟨w.heap.size, 1, none⟩), .int .i64 c, .int .i64 tc, .int .i64 k, .int .i64 tk, .pointer (some ⟨w.heap.size, 2, none⟩), .slice (some ⟨b, off, none⟩) Ln cap, .int .i64 t, .pointer (some ⟨w.heap.size, 1, none⟩), .int .i64 c, .int .i64 tc, .int .i64 k, .int .i64 tk, .pointer (some ⟨b, off + tk, none⟩), .int .u8 (y : Int), .pointer (some ⟨w.heap.size, 2, none⟩), .slice (some ⟨b, off, none⟩) Ln cap, .int .i64 a, .pointer (some ⟨w.heap.size, 1, none⟩), .int .i64 c, .int .i64 ac, .int .i64 k, .int .i64 ak, .pointer (some ⟨b, off + ak, none⟩), .int .u8 (x : Int), .pointer (some ⟨b, off + ak, none⟩), undef, .pointer (some ⟨b, off + tk, none⟩)] : List Value).getD j undef
      refine wp_region_inv (fun L a' w' => ∃ V : Nat → Value, a' = { tmps := #[.agg #[.int .i64 r, .int .i64 c, .slice (some ⟨b, off, none⟩) Ln cap], .int .i64 a, .int .i64 t, .pointer (some ⟨w.heap.size, 0, none⟩), undef, undef, .int .i64 k, .int .i64 k, .pointer (some ⟨w.heap.size, 1, none⟩), .int .i64 c, .bool true, u11, u12, V 0, V 1, V 2, V 3, V 4, V 5, V 6, V 7, V 8, V 9, V 10, V 11, V 12, V 13, V 14, V 15, V 16, V 17, V 18, V 19, V 20, V 21, V 22, V 23, V 24, V 25, V 26, V 27, V 28, V 29, V 30, V 31, V 32, V 33, V 34, V 35, V 36, V 38], defers := [] } ∧ (∀ j, L j → V j = val j) ∧
        SwW wr.drew (wr.drew.setCell ⟨b, off + ak, none⟩ (.int .u8 (y : Int))) ((wr.drew.setCell ⟨b, off + ak, none⟩ (.int .u8 (y : Int))).setCell ⟨b, off + tk, none⟩ (.int .u8 (x : Int))) L w') (by kernel_rfl) (by kernel_rfl) ?hh0 ?hhs ?hhe
      case hh0 =>
        intro L hL
        exact ⟨fun j => ([u13, u14, u15, u16, u17, u18, u19, u20, u21, u22, u23, u24, u25, u26, u27, u28, u29, u30, u31, u32, u33, u34, u35, u36, u37, u38, u39, u40, u41, u42, u43, u44, u45, u46, u47, u48, u49, undef, u50] : List Value).getD j undef, rfl, fun j hj => by
          by_cases h : j < 40
          · exact absurd hj (hL j h)
          · simp [val, show ¬ j < 39 by omega], ⟨fun h => absurd h (hL _ (by decide)), fun h => absurd h (hL _ (by decide)), fun _ => rfl, fun h => absurd h (hL _ (by decide)), fun h => absurd h (hL _ (by decide))⟩⟩
      case hhs =>
        rintro L L' a' w' i o K ⟨V, rfl, hV, hW⟩ ho hopen hdep hL hK
        obtain ⟨x0, x1, x2⟩ := HBX.out _ hW.either
        match i, ho with
        | 0, ho =>
          simp only [List.getElem?_toArray, List.getElem?_cons_zero, Option.some.injEq] at ho
          subst ho
          rw [if_pos (wanted_free rfl _)]
          go_simp
          exact hK _ _ ⟨vset V 0 (val 0), by simp only [vset, Nat.reduceEqDiff, if_true, if_false]; rfl, vset_ok hV hL, hW.more (by decide) hL⟩
        | 1, ho =>
          simp only [List.getElem?_toArray, List.getElem?_cons_zero, List.getElem?_cons_succ, Option.some.injEq] at ho
          subst ho
          rw [if_pos (wanted_free rfl _)]
          have e0 : V 0 = .pointer (some ⟨w.heap.size, 2, none⟩) := hV 0 (hdep 0 (by kernel_rfl))
          simp only [e0]
          go_simp
          exact hK _ _ ⟨vset V 1 (val 1), by simp only [vset, Nat.reduceEqDiff, if_true, if_false, e0]; rfl, vset_ok hV hL, hW.more (by decide) hL⟩
        | 2, ho =>
          simp only [List.getElem?_toArray, List.getElem?_cons_zero, List.getElem?_cons_succ, Option.some.injEq] at ho
          subst ho
          rw [if_pos (wanted_free rfl _)]
          go_simp
          exact hK _ _ ⟨vset V 2 (val 2), by simp only [vset, Nat.reduceEqDiff, if_true, if_false]; rfl, vset_ok hV hL, hW.more (by decide) hL⟩
        | 3, ho =>
          simp only [List.getElem?_toArray, List.getElem?_cons_zero, List.getElem?_cons_succ, Option.some.injEq] at ho
          subst ho
          rw [if_pos (wanted_free rfl _)]
          go_simp
          exact hK _ _ ⟨vset V 3 (val 3), by simp only [vset, Nat.reduceEqDiff, if_true, if_false]; rfl, vset_ok hV hL, hW.more (by decide) hL⟩
        | 4, ho =>
          simp only [List.getElem?_toArray, List.getElem?_cons_zero, List.getElem?_cons_succ, Option.some.injEq] at ho
          subst ho
          rw [if_pos (wanted_free rfl _)]
          have e3 : V 3 = .pointer (some ⟨w.heap.size, 1, none⟩) := hV 3 (hdep 3 (by kernel_rfl))
          simp only [e3]
          go_simp
          exact hK _ _ ⟨vset V 4 (val 4), by simp only [vset, Nat.reduceEqDiff, if_true, if_false, e3]; rfl, vset_ok hV hL, hW.more (by decide) hL⟩
        | 5, ho =>
          simp only [List.getElem?_toArray, List.getElem?_cons_zero, List.getElem?_cons_succ, Option.some.injEq] at ho
          subst ho
          rw [if_pos (wanted_free rfl _)]
          have e2 : V 2 = .int .i64 a := hV 2 (hdep 2 (by kernel_rfl))
          have e4 : V 4 = .int .i64 c := hV 4 (hdep 4 (by kernel_rfl))
          simp only [e2, e4]
          go_simp
          exact hK _ _ ⟨vset V 5 (val 5), by simp only [vset, Nat.reduceEqDiff, if_true, if_false, e2, e4]; rfl, vset_ok hV hL, hW.more (by decide) hL⟩
        | 6, ho =>
          simp only [List.getElem?_toArray, List.getElem?_cons_zero, List.getElem?_cons_succ, Option.some.injEq] at ho
          subst ho
          rw [if_pos (wanted_free rfl _)]
          go_simp
          exact hK _ _ ⟨vset V 6 (val 6), by simp only [vset, Nat.reduceEqDiff, if_true, if_false]; rfl, vset_ok hV hL, hW.more (by decide) hL⟩
        | 7, ho =>
          simp only [List.getElem?_toArray, List.getElem?_cons_zero, List.getElem?_cons_succ, Option.some.injEq] at ho
          subst ho
          rw [if_pos (wanted_free rfl _)]
          have e5 : V 5 = .int .i64 ac := hV 5 (hdep 5 (by kernel_rfl))
          have e6 : V 6 = .int .i64 k := hV 6 (hdep 6 (by kernel_rfl))
          simp only [e5, e6]
          go_simp
          exact hK _ _ ⟨vset V 7 (val 7), by simp only [vset, Nat.reduceEqDiff, if_true, if_false, e5, e6]; rfl, vset_ok hV hL, hW.more (by decide) hL⟩
        | 8, ho =>
          simp only [List.getElem?_toArray, List.getElem?_cons_zero, List.getElem?_cons_succ, Option.some.injEq] at ho
          subst ho
          rw [if_pos (wanted_free rfl _)]
          go_simp
          exact hK _ _ ⟨vset V 8 (val 8), by simp only [vset, Nat.reduceEqDiff, if_true, if_false]; rfl, vset_ok hV hL, hW.more (by decide) hL⟩
        | 9, ho =>
          simp only [List.getElem?_toArray, List.getElem?_cons_zero, List.getElem?_cons_succ, Option.some.injEq] at ho
          subst ho
          rw [if_pos (wanted_free rfl _)]
          have e8 : V 8 = .pointer (some ⟨w.heap.size, 2, none⟩) := hV 8 (hdep 8 (by kernel_rfl))
          simp only [e8]
          go_simp
          exact hK _ _ ⟨vset V 9 (val 9), by simp only [vset, Nat.reduceEqDiff, if_true, if_false, e8]; rfl, vset_ok hV hL, hW.more (by decide) hL⟩
        | 10, ho =>
          simp only [List.getElem?_toArray, List.getElem?_cons_zero, List.getElem?_cons_succ, Option.some.injEq] at ho
          subst ho
          rw [if_pos (wanted_free rfl _)]
          go_simp
          exact hK _ _ ⟨vset V 10 (val 10), by simp only [vset, Nat.reduceEqDiff, if_true, if_false]; rfl, vset_ok hV hL, hW.more (by decide) hL⟩
        | 11, ho =>
          simp only [List.getElem?_toArray, List.getElem?_cons_zero, List.getElem?_cons_succ, Option.some.injEq] at ho
          subst ho
          rw [if_pos (wanted_free rfl _)]
          go_simp
          exact hK _ _ ⟨vset V 11 (val 11), by simp only [vset, Nat.reduceEqDiff, if_true, if_false]; rfl, vset_ok hV hL, hW.more (by decide) hL⟩
        | 12, ho =>
          simp only [List.getElem?_toArray, List.getElem?_cons_zero, List.getElem?_cons_succ, Option.some.injEq] at ho
          subst ho
          rw [if_pos (wanted_free rfl _)]
          have e11 : V 11 = .pointer (some ⟨w.heap.size, 1, none⟩) := hV 11 (hdep 11 (by kernel_rfl))
          simp only [e11]
          go_simp
          exact hK _ _ ⟨vset V 12 (val 12), by simp only [vset, Nat.reduceEqDiff, if_true, if_false, e11]; rfl, vset_ok hV hL, hW.more (by decide) hL⟩
        | 13, ho =>
          simp only [List.getElem?_toArray, List.getElem?_cons_zero, List.getElem?_cons_succ, Option.some.injEq] at ho
          subst ho
          rw [if_pos (wanted_free rfl _)]
          have e10 : V 10 = .int .i64 t := hV 10 (hdep 10 (by kernel_rfl))
          have e12 : V 12 = .int .i64 c := hV 12 (hdep 12 (by kernel_rfl))
          simp only [e10, e12]
          go_simp
          exact hK _ _ ⟨vset V 13 (val 13), by simp only [vset, Nat.reduceEqDiff, if_true, if_false, e10, e12]; rfl, vset_ok hV hL, hW.more (by decide) hL⟩
        | 14, ho =>
          simp only [List.getElem?_toArray, List.getElem?_cons_zero, List.getElem?_cons_succ, Option.some.injEq] at ho
          subst ho
          rw [if_pos (wanted_free rfl _)]
          go_simp
          exact hK _ _ ⟨vset V 14 (val 14), by simp only [vset, Nat.reduceEqDiff, if_true, if_false]; rfl, vset_ok hV hL, hW.more (by decide) hL⟩
        | 15, ho =>
          simp only [List.getElem?_toArray, List.getElem?_cons_zero, List.getElem?_cons_succ, Option.some.injEq] at ho
          subst ho
          rw [if_pos (wanted_free rfl _)]
          have e13 : V 13 = .int .i64 tc := hV 13 (hdep 13 (by kernel_rfl))
          have e14 : V 14 = .int .i64 k := hV 14 (hdep 14 (by kernel_rfl))
          simp only [e13, e14]
          go_simp
          exact hK _ _ ⟨vset V 15 (val 15), by simp only [vset, Nat.reduceEqDiff, if_true, if_false, e13, e14]; rfl, vset_ok hV hL, hW.more (by decide) hL⟩
        | 16, ho =>
          simp only [List.getElem?_toArray, List.getElem?_cons_zero, List.getElem?_cons_succ, Option.some.injEq] at ho
          subst ho
          rw [if_pos (wanted_free rfl _)]
          go_simp
          exact hK _ _ ⟨vset V 16 (val 16), by simp only [vset, Nat.reduceEqDiff, if_true, if_false]; rfl, vset_ok hV hL, hW.more (by decide) hL⟩
        | 17, ho =>
          simp only [List.getElem?_toArray, List.getElem?_cons_zero, List.getElem?_cons_succ, Option.some.injEq] at ho
          subst ho
          rw [if_pos (wanted_free rfl _)]
          have e16 : V 16 = .pointer (some ⟨w.heap.size, 2, none⟩) := hV 16 (hdep 16 (by kernel_rfl))
          simp only [e16]
          go_simp
          exact hK _ _ ⟨vset V 17 (val 17), by simp only [vset, Nat.reduceEqDiff, if_true, if_false, e16]; rfl, vset_ok hV hL, hW.more (by decide) hL⟩
        | 18, ho =>
          simp only [List.getElem?_toArray, List.getElem?_cons_zero, List.getElem?_cons_succ, Option.some.injEq] at ho
          subst ho
          rw [if_pos (wanted_free rfl _)]
          go_simp
          exact hK _ _ ⟨vset V 18 (val 18), by simp only [vset, Nat.reduceEqDiff, if_true, if_false]; rfl, vset_ok hV hL, hW.more (by decide) hL⟩
        | 19, ho =>
          simp only [List.getElem?_toArray, List.getElem?_cons_zero, List.getElem?_cons_succ, Option.some.injEq] at ho
          subst ho
          rw [if_pos (wanted_free rfl _)]
          go_simp
          exact hK _ _ ⟨vset V 19 (val 19), by simp only [vset, Nat.reduceEqDiff, if_true, if_false]; rfl, vset_ok hV hL, hW.more (by decide) hL⟩
        | 20, ho =>
          simp only [List.getElem?_toArray, List.getElem?_cons_zero, List.getElem?_cons_succ, Option.some.injEq] at ho
          subst ho
          rw [if_pos (wanted_free rfl _)]
          have e19 : V 19 = .pointer (some ⟨w.heap.size, 1, none⟩) := hV 19 (hdep 19 (by kernel_rfl))
          simp only [e19]
          go_simp
          exact hK _ _ ⟨vset V 20 (val 20), by simp only [vset, Nat.reduceEqDiff, if_true, if_false, e19]; rfl, vset_ok hV hL, hW.more (by decide) hL⟩
        | 21, ho =>
          simp only [List.getElem?_toArray, List.getElem?_cons_zero, List.getElem?_cons_succ, Option.some.injEq] at ho
          subst ho
          rw [if_pos (wanted_free rfl _)]
          have e18 : V 18 = .int .i64 t := hV 18 (hdep 18 (by kernel_rfl))
          have e20 : V 20 = .int .i64 c := hV 20 (hdep 20 (by kernel_rfl))
          simp only [e18, e20]
          go_simp
          exact hK _ _ ⟨vset V 21 (val 21), by simp only [vset, Nat.reduceEqDiff, if_true, if_false, e18, e20]; rfl, vset_ok hV hL, hW.more (by decide) hL⟩
        | 22, ho =>
          simp only [List.getElem?_toArray, List.getElem?_cons_zero, List.getElem?_cons_succ, Option.some.injEq] at ho
          subst ho
          rw [if_pos (wanted_free rfl _)]
          go_simp
          exact hK _ _ ⟨vset V 22 (val 22), by simp only [vset, Nat.reduceEqDiff, if_true, if_false]; rfl, vset_ok hV hL, hW.more (by decide) hL⟩
        | 23, ho =>
          simp only [List.getElem?_toArray, List.getElem?_cons_zero, List.getElem?_cons_succ, Option.some.injEq] at ho
          subst ho
          rw [if_pos (wanted_free rfl _)]
          have e21 : V 21 = .int .i64 tc := hV 21 (hdep 21 (by kernel_rfl))
          have e22 : V 22 = .int .i64 k := hV 22 (hdep 22 (by kernel_rfl))
          simp only [e21, e22]
          go_simp
          exact hK _ _ ⟨vset V 23 (val 23), by simp only [vset, Nat.reduceEqDiff, if_true, if_false, e21, e22]; rfl, vset_ok hV hL, hW.more (by decide) hL⟩
        | 24, ho =>
          simp only [List.getElem?_toArray, List.getElem?_cons_zero, List.getElem?_cons_succ, Option.some.injEq] at ho
          subst ho
          rw [if_pos (wanted_free rfl _)]
          have e17 : V 17 = .slice (some ⟨b, off, none⟩) Ln cap := hV 17 (hdep 17 (by kernel_rfl))
          have e23 : V 23 = .int .i64 tk := hV 23 (hdep 23 (by kernel_rfl))
          simp only [e17, e23]
          go_simp
          exact hK _ _ ⟨vset V 24 (val 24), by simp only [vset, Nat.reduceEqDiff, if_true, if_false, e17, e23]; rfl, vset_ok hV hL, hW.more (by decide) hL⟩
        | 25, ho =>
          simp only [List.getElem?_toArray, List.getElem?_cons_zero, List.getElem?_cons_succ, Option.some.injEq] at ho
          subst ho
          rw [if_pos (wanted_free rfl _)]
          have e24 : V 24 = .pointer (some ⟨b, off + tk, none⟩) := hV 24 (hdep 24 (by kernel_rfl))
          simp only [e24]
          obtain rfl := hW.s0 (fun h => hopen (hW.d h).1)
          have hc := HC2.out
          go_simp
          exact hK _ _ ⟨vset V 25 (val 25), by simp only [vset, Nat.reduceEqDiff, if_true, if_false, e24]; rfl, vset_ok hV hL, hW.more (by decide) hL⟩
        | 26, ho =>
          simp only [List.getElem?_toArray, List.getElem?_cons_zero, List.getElem?_cons_succ, Option.some.injEq] at ho
          subst ho
          rw [if_pos (wanted_free rfl _)]
          go_simp
          exact hK _ _ ⟨vset V 26 (val 26), by simp only [vset, Nat.reduceEqDiff, if_true, if_false]; rfl, vset_ok hV hL, hW.more (by decide) hL⟩
        | 27, ho =>
          simp only [List.getElem?_toArray, List.getElem?_cons_zero, List.getElem?_cons_succ, Option.some.injEq] at ho
          subst ho
          rw [if_pos (wanted_free rfl _)]
          have e26 : V 26 = .pointer (some ⟨w.heap.size, 2, none⟩) := hV 26 (hdep 26 (by kernel_rfl))
          simp only [e26]
          go_simp
          exact hK _ _ ⟨vset V 27 (val 27), by simp only [vset, Nat.reduceEqDiff, if_true, if_false, e26]; rfl, vset_ok hV hL, hW.more (by decide) hL⟩
        | 28, ho =>
          simp only [List.getElem?_toArray, List.getElem?_cons_zero, List.getElem?_cons_succ, Option.some.injEq] at ho
          subst ho
          rw [if_pos (wanted_free rfl _)]
          go_simp
          exact hK _ _ ⟨vset V 28 (val 28), by simp only [vset, Nat.reduceEqDiff, if_true, if_false]; rfl, vset_ok hV hL, hW.more (by decide) hL⟩
        | 29, ho =>
          simp only [List.getElem?_toArray, List.getElem?_cons_zero, List.getElem?_cons_succ, Option.some.injEq] at ho
          subst ho
          rw [if_pos (wanted_free rfl _)]
          go_simp
          exact hK _ _ ⟨vset V 29 (val 29), by simp only [vset, Nat.reduceEqDiff, if_true, if_false]; rfl, vset_ok hV hL, hW.more (by decide) hL⟩
        | 30, ho =>
          simp only [List.getElem?_toArray, List.getElem?_cons_zero, List.getElem?_cons_succ, Option.some.injEq] at ho
          subst ho
          rw [if_pos (wanted_free rfl _)]
          have e29 : V 29 = .pointer (some ⟨w.heap.size, 1, none⟩) := hV 29 (hdep 29 (by kernel_rfl))
          simp only [e29]
          go_simp
          exact hK _ _ ⟨vset V 30 (val 30), by simp only [vset, Nat.reduceEqDiff, if_true, if_false, e29]; rfl, vset_ok hV hL, hW.more (by decide) hL⟩
        | 31, ho =>
          simp only [List.getElem?_toArray, List.getElem?_cons_zero, List.getElem?_cons_succ, Option.some.injEq] at ho
          subst ho
          rw [if_pos (wanted_free rfl _)]
          have e28 : V 28 = .int .i64 a := hV 28 (hdep 28 (by kernel_rfl))
          have e30 : V 30 = .int .i64 c := hV 30 (hdep 30 (by kernel_rfl))
          simp only [e28, e30]
          go_simp
          exact hK _ _ ⟨vset V 31 (val 31), by simp only [vset, Nat.reduceEqDiff, if_true, if_false, e28, e30]; rfl, vset_ok hV hL, hW.more (by decide) hL⟩
        | 32, ho =>
          simp only [List.getElem?_toArray, List.getElem?_cons_zero, List.getElem?_cons_succ, Option.some.injEq] at ho
          subst ho
          rw [if_pos (wanted_free rfl _)]
          go_simp
          exact hK _ _ ⟨vset V 32 (val 32), by simp only [vset, Nat.reduceEqDiff, if_true, if_false]; rfl, vset_ok hV hL, hW.more (by decide) hL⟩
        | 33, ho =>
          simp only [List.getElem?_toArray, List.getElem?_cons_zero, List.getElem?_cons_succ, Option.some.injEq] at ho
          subst ho
          rw [if_pos (wanted_free rfl _)]
          have e31 : V 31 = .int .i64 ac := hV 31 (hdep 31 (by kernel_rfl))
          have e32 : V 32 = .int .i64 k := hV 32 (hdep 32 (by kernel_rfl))
          simp only [e31, e32]
          go_simp
          exact hK _ _ ⟨vset V 33 (val 33), by simp only [vset, Nat.reduceEqDiff, if_true, if_false, e31, e32]; rfl, vset_ok hV hL, hW.more (by decide) hL⟩
        | 34, ho =>
          simp only [List.getElem?_toArray, List.getElem?_cons_zero, List.getElem?_cons_succ, Option.some.injEq] at ho
          subst ho
          rw [if_pos (wanted_free rfl _)]
          have e27 : V 27 = .slice (some ⟨b, off, none⟩) Ln cap := hV 27 (hdep 27 (by kernel_rfl))
          have e33 : V 33 = .int .i64 ak := hV 33 (hdep 33 (by kernel_rfl))
          simp only [e27, e33]
          go_simp
          exact hK _ _ ⟨vset V 34 (val 34), by simp only [vset, Nat.reduceEqDiff, if_true, if_false, e27, e33]; rfl, vset_ok hV hL, hW.more (by decide) hL⟩
        | 35, ho =>
          simp only [List.getElem?_toArray, List.getElem?_cons_zero, List.getElem?_cons_succ, Option.some.injEq] at ho
          subst ho
          rw [if_pos (wanted_free rfl _)]
          have e34 : V 34 = .pointer (some ⟨b, off + ak, none⟩) := hV 34 (hdep 34 (by kernel_rfl))
          simp only [e34]
          obtain rfl := hW.s0 (fun h => hopen (hW.d h).2)
          have hc := HC.out
          go_simp
          exact hK _ _ ⟨vset V 35 (val 35), by simp only [vset, Nat.reduceEqDiff, if_true, if_false, e34]; rfl, vset_ok hV hL, hW.more (by decide) hL⟩
        | 36, ho =>
          simp only [List.getElem?_toArray, List.getElem?_cons_zero, List.getElem?_cons_succ, Option.some.injEq] at ho
          subst ho
          rw [if_pos (wanted_free rfl _)]
          have e1 : V 1 = .slice (some ⟨b, off, none⟩) Ln cap := hV 1 (hdep 1 (by kernel_rfl))
          have e7 : V 7 = .int .i64 ak := hV 7 (hdep 7 (by kernel_rfl))
          simp only [e1, e7]
          go_simp
          exact hK _ _ ⟨vset V 36 (val 36), by simp only [vset, Nat.reduceEqDiff, if_true, if_false, e1, e7]; rfl, vset_ok hV hL, hW.more (by decide) hL⟩
        | 37, ho =>
          simp only [List.getElem?_toArray, List.getElem?_cons_zero, List.getElem?_cons_succ, Option.some.injEq] at ho
          subst ho
          rw [if_pos (wanted_free rfl _)]
          have e36 : V 36 = .pointer (some ⟨b, off + ak, none⟩) := hV 36 (hdep 36 (by kernel_rfl))
          have e25 : V 25 = .int .u8 (y : Int) := hV 25 (hdep 25 (by kernel_rfl))
          simp only [e36, e25]
          obtain rfl := hW.s0 hopen
          have hc := HC.out
          have hf := HF1.out
          go_simp
          exact hK _ _ ⟨vset V 37 (val 37), by simp only [vset, Nat.reduceEqDiff, if_false, e36, e25], vset_ok hV hL, hW.first hopen (hdep 25 (by kernel_rfl)) (hdep 35 (by kernel_rfl)) hL⟩
        | 38, ho =>
          simp only [List.getElem?_toArray, List.getElem?_cons_zero, List.getElem?_cons_succ, Option.some.injEq] at ho
          subst ho
          rw [if_pos (wanted_free rfl _)]
          have e9 : V 9 = .slice (some ⟨b, off, none⟩) Ln cap := hV 9 (hdep 9 (by kernel_rfl))
          have e15 : V 15 = .int .i64 tk := hV 15 (hdep 15 (by kernel_rfl))
          simp only [e9, e15]
          go_simp
          exact hK _ _ ⟨vset V 38 (val 38), by simp only [vset, Nat.reduceEqDiff, if_true, if_false, e9, e15]; rfl, vset_ok hV hL, hW.more (by decide) hL⟩
        | 39, ho =>
          simp only [List.getElem?_toArray, List.getElem?_cons_zero, List.getElem?_cons_succ, Option.some.injEq] at ho
          subst ho
          rw [if_pos (wanted_free rfl _)]
          have e38 : V 38 = .pointer (some ⟨b, off + tk, none⟩) := hV 38 (hdep 38 (by kernel_rfl))
          have e35 : V 35 = .int .u8 (x : Int) := hV 35 (hdep 35 (by kernel_rfl))
          simp only [e38, e35]
          obtain rfl := hW.s1 (hdep 37 (by kernel_rfl)) hopen
          have hc : (wr.setCell ⟨b, off + ak, none⟩ (.int .u8 (y : Int))).drew.cell? ⟨b, off + tk, none⟩ = some (.int .u8 (z : Int)) := HS1.out
          have hf : (wr.setCell ⟨b, off + ak, none⟩ (.int .u8 (y : Int))).drew.frozen? ⟨b, off + tk, none⟩ = false := HF2.out
          go_simp
          exact hK _ _ ⟨vset V 39 (val 39), by simp only [vset, Nat.reduceEqDiff, if_false, e38, e35], vset_ok hV hL, hW.second (hdep 37 (by kernel_rfl)) hL⟩
        | n + 40, ho => simp at ho
      case hhe =>
        rintro L a' w' ⟨V, rfl, hV, hW⟩ hall
        obtain rfl := hW.s2 (hall 39 (by decide))
        go_wp2
        go_roundw
        case rel => exact ⟨k + 1, by omega, by go_num, HST.out.1, HST.out.2⟩
        case measure => simp [intOf]; omega
    · obtain rfl : k = c := by omega
      have hfin := hmr.congr (G := swapF F a t) (fun i j _ hj => by unfold swTo; rw [if_pos hj])
      have HFI := Lib.hid hfin
      have HG2 := Lib.hid hg
      clear hmr hg hfin
      go_wp2
      go_end0
      exact ⟨⟨_, rfl⟩, HFI.out, grown_trans HG.out HG2.out⟩
end Go.Proofs.Ytoonpnpooljmlaa
