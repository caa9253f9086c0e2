/- manifest.Sorted: a manifest with both lists in order, in new memory (lists of no great length). -/
import Derived.Test.YtdllenoclnmmdaaMb
namespace Go.Proofs.Ytdllenoclnmmdaa
open Go.RowKit Go.Shelf
attribute [local go_sem] Oper.semAt_some

theorem NewIn.from {a b w : World} {p : Option Addr} {l cap : Nat} {ss : List ByteArray} (h : NewIn b w p l cap ss) (k : a.heap.size ≤ b.heap.size) : NewIn a w p l cap ss :=
  ⟨h.1, h.2.1, fun q => by obtain ⟨g, cs, e, h1, h2⟩ := h.2.2 q; exact ⟨g, cs, e, by omega, h2⟩⟩
theorem NewIn.set {w0 w w' : World} {g l cap : Nat} {C : Array Value} {t : TypeId} {a : Option Addr} {ss : List ByteArray} (h : NewIn w0 w a l cap ss) (hg : BlockAt w g C t) (hn : ∀ (i : Nat) (x : ByteArray), C[i]? ≠ some (Value.string x)) (ht : t ≠ 9) (k : w.grownBy w' (some g)) : NewIn w0 w' a l cap ss :=
  ⟨h.1, strs_set h.2.1 hg hn k, fun q => by
    obtain ⟨b, cs, e, h1, h2⟩ := h.2.2 q
    refine ⟨b, cs, e, h1, block_grown h2 k (fun e2 => ht ?_)⟩
    cases e2
    have h3 := Eq.trans (Eq.symm hg) h2
    cases h3
    rfl⟩
/-- what manifest.Sorted tells -/
def SortP (w : World) (k : Int) (bs us : List ByteArray) (e : Ending) (w' : World) : Prop :=
  Kept w w' ∧
  (mfMade ⟨k, bs, us⟩ = false → e = .returned (.tuple #[.agg #[.int .i64 0, .slice none 0 0, .slice none 0 0], .int .i64 1])) ∧
  (mfMade ⟨k, bs, us⟩ = true → mfFew ⟨k, risen bs, risen us⟩ = false → e = .returned (.tuple #[.agg #[.int .i64 0, .slice none 0 0, .slice none 0 0], .int .i64 2])) ∧
  (mfMade ⟨k, bs, us⟩ = true → mfFew ⟨k, risen bs, risen us⟩ = true → ∃ a1 c1 a2 c2, e = .returned (.tuple #[.agg #[.int .i64 k, .slice a1 (risen bs).length c1, .slice a2 (risen us).length c2], .int .i64 0]) ∧
    NewIn w w' a1 (risen bs).length c1 (risen bs) ∧ NewIn w w' a2 (risen us).length c2 (risen us))
theorem risen_length (ss : List ByteArray) : (risen ss).length ≤ ss.length := by rw [← risR_risen]; exact risR_length ss
set_option maxRecDepth 100000 in
set_option maxHeartbeats 4000000 in
theorem msorted_any (k : Int) (ab : Option Addr) (lb cb : Nat) (au : Option Addr) (lu cu : Nat) (bs us : List ByteArray) (wo : World) (hb : StrsIn wo ab lb bs) (hu : StrsIn wo au lu us) (hl : lb ≤ 100000 ∧ lu ≤ 100000) :
    Calls Try.prog 10 #[.agg #[.int .i64 k, .slice ab lb cb, .slice au lu cu]] wo (SortP wo k bs us) := by
  have HBS := Lib.hid hb
  have HUS := Lib.hid hu
  have HRB := Lib.hid (show (risen bs).length ≤ 100000 by have := risen_length bs; rw [hb.len_eq] at this; omega)
  have HRU := Lib.hid (show (risen us).length ≤ 100000 by have := risen_length us; rw [hu.len_eq] at this; omega)
  have HMD := Lib.hid (fun w h1 h2 => made_any k ab lb cb au lu cu bs us w h1 h2)
  have HP0 := Lib.hid (show ∀ e w', SortP wo k bs us e w' = (Kept wo w' ∧
    (mfMade ⟨k, bs, us⟩ = false → e = .returned (.tuple #[.agg #[.int .i64 0, .slice none 0 0, .slice none 0 0], .int .i64 1])) ∧
    (mfMade ⟨k, bs, us⟩ = true → mfFew ⟨k, risen bs, risen us⟩ = false → e = .returned (.tuple #[.agg #[.int .i64 0, .slice none 0 0, .slice none 0 0], .int .i64 2])) ∧
    (mfMade ⟨k, bs, us⟩ = true → mfFew ⟨k, risen bs, risen us⟩ = true → ∃ a1 c1 a2 c2, e = .returned (.tuple #[.agg #[.int .i64 k, .slice a1 (risen bs).length c1, .slice a2 (risen us).length c2], .int .i64 0]) ∧
      NewIn wo w' a1 (risen bs).length c1 (risen bs) ∧ NewIn wo w' a2 (risen us).length c2 (risen us))) from fun e w' => rfl)
  generalize mfMade ⟨k, bs, us⟩ = b1 at HMD HP0
  have HB := Lib.hid ((BlockAt.new wo #[.int .i64 k, .slice ab lb cb, .slice au lu cu] 28).kept ((Kept.refl _).alloc (.cells #[.int .i64 0, .slice none 0 0, .slice none 0 0] 28)))
  have HR := Lib.hid (BlockAt.new1 wo #[.int .i64 0, .slice none 0 0, .slice none 0 0] 28 (.cells #[.int .i64 k, .slice ab lb cb, .slice au lu cu] 28))
  have HK := Lib.hid (((Kept.refl wo).alloc (.cells #[.int .i64 k, .slice ab lb cb, .slice au lu cu] 28)).alloc (.cells #[.int .i64 0, .slice none 0 0, .slice none 0 0] 28))
  clear hb hu
  go_enter Try.func10, Try.ntmps10
  go_upto_region 1 with (fail)
  generalize (wo.alloc (.cells #[.int .i64 k, .slice ab lb cb, .slice au lu cu] 28)).alloc (.cells #[.int .i64 0, .slice none 0 0, .slice none 0 0] 28) = w1 at *
  obtain ⟨a0, a1, a2⟩ := box3 HB.out
  go_wp2_with fail
  refine (HMD.out _ (HBS.out.kept HK.out) (HUS.out.kept HK.out)).mono ?_
  rintro e w2 ⟨rfl, hk2⟩
  have HK2 := Lib.hid (HK.out.trans hk2)
  have HB2 := Lib.hid (HB.out.kept hk2)
  have HR2 := Lib.hid (HR.out.kept hk2)
  clear a0 a1 a2 hk2 HB HR HK
  cases b1 with
  | false =>
    go_wp2_with (refine wpList_store_block rfl 28 (.tmp 2) (.tmp 8) rfl _ #[.int .i64 0, .slice none 0 0, .slice none 0 0] #[.int .i64 0, .slice none 0 0, .slice none 0 0] 28 rfl rfl HR2.out Try.infoMf rfl (one3m _ _ _ _ _ _ _) ?_)
    refine bodyPost_ret (v := .tuple #[.agg #[.int .i64 0, .slice none 0 0, .slice none 0 0], .int .i64 1]) (results_row_tmp rfl _ _ (wo.heap.size + 1) 28 #[.int .i64 0, .slice none 0 0, .slice none 0 0] _ rfl (HR2.out.setRow _) Try.underlying28 rfl Try.infoMf _ rfl) rfl ?_
    rw [HP0.out]
    exact ⟨HK2.out.setRow (by omega) _, fun _ => rfl, (fun h => by cases h), (fun h => by cases h)⟩
  | true =>
    have HSB := Lib.hid (show ∀ w, Kept w2 w → Calls Try.prog 43 #[.slice ab lb cb] w fun e w' => ∃ a' c', e = .returned (.slice a' (risen bs).length c') ∧ NewIn w w' a' (risen bs).length c' (risen bs) ∧ Kept w w' from fun w k => sorted_any ab lb cb bs w (HBS.out.kept (HK2.out.trans k)) hl.1)
    have HSU := Lib.hid (show ∀ w, Kept w2 w → Calls Try.prog 43 #[.slice au lu cu] w fun e w' => ∃ a' c', e = .returned (.slice a' (risen us).length c') ∧ NewIn w w' a' (risen us).length c' (risen us) ∧ Kept w w' from fun w k => sorted_any au lu cu us w (HUS.out.kept (HK2.out.trans k)) hl.2)
    go_wp2_with fail
    refine Pj.wp_region_step (fun az0 L az w => ∃ V : Nat → Value, az = Pj.puts [(9, 0), (10, 1), (11, 2), (12, 3), (13, 4), (14, 5), (15, 6), (16, 7), (17, 8), (4, 9)] V az0 ∧ (¬ L 10 → Pj.J w2 [Pj.Is (.pointer (some ⟨wo.heap.size, 0, none⟩)), Pj.Is (.int .i64 k), Pj.Is (.pointer (some ⟨wo.heap.size, 1, none⟩)), Pj.Is (.slice ab lb cb), (fun w v => ∃ a c, v = .slice a (risen bs).length c ∧ NewIn w2 w a (risen bs).length c (risen bs)), Pj.Is (.pointer (some ⟨wo.heap.size, 2, none⟩)), Pj.Is (.slice au lu cu), (fun w v => ∃ a c, v = .slice a (risen us).length c ∧ NewIn w2 w a (risen us).length c (risen us)), (fun w v => ∃ a c a2 c2, v = .agg #[.int .i64 k, .slice a (risen bs).length c, .slice a2 (risen us).length c2] ∧ NewIn w2 w a (risen bs).length c (risen bs) ∧ NewIn w2 w a2 (risen us).length c2 (risen us)), (fun w v => ∃ b, v = .pointer (some ⟨b, 0, none⟩) ∧ w2.heap.size ≤ b ∧ BlockAt w b #[.int .i64 0, .slice none 0 0, .slice none 0 0] 28), (fun _ _ => True)] L V w) ∧ (L 1 → L 0) ∧ (L 3 → L 2) ∧ (L 4 → L 3) ∧ (L 6 → L 5) ∧ (L 7 → L 6) ∧ (L 8 → L 1) ∧ (L 8 → L 4) ∧ (L 8 → L 7) ∧ (L 10 → L 9) ∧ (L 10 → L 8) ∧ (L 10 → ∃ b a1 c1 a2 c2, V 9 = .pointer (some ⟨b, 0, none⟩) ∧ w2.heap.size ≤ b ∧ BlockAt w b #[.int .i64 k, .slice a1 (risen bs).length c1, .slice a2 (risen us).length c2] 28 ∧ NewIn w2 w a1 (risen bs).length c1 (risen bs) ∧ NewIn w2 w a2 (risen us).length c2 (risen us) ∧ Kept w2 w)) (by as_aux_lemma => kernel_rfl) (by as_aux_lemma => kernel_rfl) ?eh0 ?ehs ?ehe
    case eh0 =>
      intro L hL
      exact ⟨_, Pj.puts_self _ (fun j => ([9, 10, 11, 12, 13, 14, 15, 16, 17, 4, 0] : List Nat).getD j 0) [0, 1, 2, 3, 4, 5, 6, 7, 8, 9], fun _ => Pj.J.none (n := 11) (Nat.le_refl _) hL ((Kept.refl _).drew), fun h => absurd h (hL 1 (by decide)), fun h => absurd h (hL 3 (by decide)), fun h => absurd h (hL 4 (by decide)), fun h => absurd h (hL 6 (by decide)), fun h => absurd h (hL 7 (by decide)), fun h => absurd h (hL 8 (by decide)), fun h => absurd h (hL 8 (by decide)), fun h => absurd h (hL 8 (by decide)), fun h => absurd h (hL 10 (by decide)), fun h => absurd h (hL 10 (by decide)), fun h => absurd h (hL 10 (by decide))⟩
    case ehs =>
      rintro L L' az w iz opz Kq ⟨V, rfl, hj, hm1_0, hm3_2, hm4_3, hm6_5, hm7_6, hm8_1, hm8_4, hm8_7, hm10_9, hm10_8, hf⟩ ho hopen hdep hL hKq
      have hP : Pj.AllStay [Pj.Is (.pointer (some ⟨wo.heap.size, 0, none⟩)), Pj.Is (.int .i64 k), Pj.Is (.pointer (some ⟨wo.heap.size, 1, none⟩)), Pj.Is (.slice ab lb cb), (fun w v => ∃ a c, v = .slice a (risen bs).length c ∧ NewIn w2 w a (risen bs).length c (risen bs)), Pj.Is (.pointer (some ⟨wo.heap.size, 2, none⟩)), Pj.Is (.slice au lu cu), (fun w v => ∃ a c, v = .slice a (risen us).length c ∧ NewIn w2 w a (risen us).length c (risen us)), (fun w v => ∃ a c a2 c2, v = .agg #[.int .i64 k, .slice a (risen bs).length c, .slice a2 (risen us).length c2] ∧ NewIn w2 w a (risen bs).length c (risen bs) ∧ NewIn w2 w a2 (risen us).length c2 (risen us)), (fun w v => ∃ b, v = .pointer (some ⟨b, 0, none⟩) ∧ w2.heap.size ≤ b ∧ BlockAt w b #[.int .i64 0, .slice none 0 0, .slice none 0 0] 28), (fun _ _ => True)] := ⟨Pj.Is.stays _, Pj.Is.stays _, Pj.Is.stays _, Pj.Is.stays _, fun _ _ _ ⟨a, c, e, h⟩ q => ⟨a, c, e, h.kept q⟩, Pj.Is.stays _, Pj.Is.stays _, fun _ _ _ ⟨a, c, e, h⟩ q => ⟨a, c, e, h.kept q⟩, fun _ _ _ ⟨a, c, a2, c2, e, h1, h2⟩ q => ⟨a, c, a2, c2, e, h1.kept q, h2.kept q⟩, fun _ _ _ ⟨b, e, h1, h2⟩ q => ⟨b, e, h1, h2.kept q⟩, (fun _ _ _ _ _ => trivial), trivial⟩
      have HP := Lib.hid hP
      clear hP hf
      match iz, ho with
      | 0, ho =>
        simp only [List.getElem?_toArray, List.getElem?_cons_zero, Option.some.injEq] at ho
        have hnj : ¬ L 10 := fun h => hopen (hm1_0 (hm8_1 (hm10_8 h)))
        have hJ := hj hnj
        have HJ := Lib.hid hJ
        clear hJ hj
        subst ho
        refine Pj.Step.free rfl ?_
        simp only [Pj.puts, List.foldl_cons, List.foldl_nil, Act.put, List.setIfInBounds_toArray, List.set_cons_zero, List.set_cons_succ]
        go_simp
        exact hKq _ _ ⟨Pj.vset V 0 (.pointer (some ⟨wo.heap.size, 0, none⟩)), by simp only [Pj.puts, List.foldl_cons, List.foldl_nil, Act.put, List.setIfInBounds_toArray, List.set_cons_zero, List.set_cons_succ, Pj.vset, Nat.reduceEqDiff, if_true, if_false], fun _ => HJ.out.more HP.out hL (Kept.refl _) (rfl), fun h => (hL 0).2 (((hL 1).1 h).elim (fun e => absurd e (by decide)) (fun q => .inr (hm1_0 q))), fun h => (hL 2).2 (((hL 3).1 h).elim (fun e => absurd e (by decide)) (fun q => .inr (hm3_2 q))), fun h => (hL 3).2 (((hL 4).1 h).elim (fun e => absurd e (by decide)) (fun q => .inr (hm4_3 q))), fun h => (hL 5).2 (((hL 6).1 h).elim (fun e => absurd e (by decide)) (fun q => .inr (hm6_5 q))), fun h => (hL 6).2 (((hL 7).1 h).elim (fun e => absurd e (by decide)) (fun q => .inr (hm7_6 q))), fun h => (hL 1).2 (((hL 8).1 h).elim (fun e => absurd e (by decide)) (fun q => .inr (hm8_1 q))), fun h => (hL 4).2 (((hL 8).1 h).elim (fun e => absurd e (by decide)) (fun q => .inr (hm8_4 q))), fun h => (hL 7).2 (((hL 8).1 h).elim (fun e => absurd e (by decide)) (fun q => .inr (hm8_7 q))), fun h => (hL 9).2 (((hL 10).1 h).elim (fun e => absurd e (by decide)) (fun q => .inr (hm10_9 q))), fun h => (hL 8).2 (((hL 10).1 h).elim (fun e => absurd e (by decide)) (fun q => .inr (hm10_8 q))), fun h => absurd (hm1_0 (hm8_1 (hm10_8 (((hL 10).1 h).resolve_left (by decide))))) hopen⟩
      | 1, ho =>
        simp only [List.getElem?_toArray, List.getElem?_cons_zero, List.getElem?_cons_succ, Option.some.injEq] at ho
        have hnj : ¬ L 10 := fun h => hopen (hm8_1 (hm10_8 h))
        have hJ := hj hnj
        have l0 := hdep 0 (by rw [← ho]; kernel_rfl)
        have e0 : V 0 = .pointer (some ⟨wo.heap.size, 0, none⟩) := hJ.h 0 l0
        obtain ⟨d0, d1, d2⟩ := box3k HB2.out hJ.kp
        have HJ := Lib.hid hJ
        clear hJ hj
        subst ho
        refine Pj.Step.free rfl ?_
        simp only [Pj.puts, List.foldl_cons, List.foldl_nil, Act.put, List.setIfInBounds_toArray, List.set_cons_zero, List.set_cons_succ, e0]
        go_simp
        exact hKq _ _ ⟨Pj.vset V 1 (.int .i64 k), by simp only [Pj.puts, List.foldl_cons, List.foldl_nil, Act.put, List.setIfInBounds_toArray, List.set_cons_zero, List.set_cons_succ, Pj.vset, Nat.reduceEqDiff, if_true, if_false, e0], fun _ => HJ.out.more HP.out hL (Kept.refl _) (rfl), fun _ => (hL 0).2 (.inr l0), fun h => (hL 2).2 (((hL 3).1 h).elim (fun e => absurd e (by decide)) (fun q => .inr (hm3_2 q))), fun h => (hL 3).2 (((hL 4).1 h).elim (fun e => absurd e (by decide)) (fun q => .inr (hm4_3 q))), fun h => (hL 5).2 (((hL 6).1 h).elim (fun e => absurd e (by decide)) (fun q => .inr (hm6_5 q))), fun h => (hL 6).2 (((hL 7).1 h).elim (fun e => absurd e (by decide)) (fun q => .inr (hm7_6 q))), fun h => (hL 1).2 (((hL 8).1 h).elim (fun e => absurd e (by decide)) (fun q => .inr (hm8_1 q))), fun h => (hL 4).2 (((hL 8).1 h).elim (fun e => absurd e (by decide)) (fun q => .inr (hm8_4 q))), fun h => (hL 7).2 (((hL 8).1 h).elim (fun e => absurd e (by decide)) (fun q => .inr (hm8_7 q))), fun h => (hL 9).2 (((hL 10).1 h).elim (fun e => absurd e (by decide)) (fun q => .inr (hm10_9 q))), fun h => (hL 8).2 (((hL 10).1 h).elim (fun e => absurd e (by decide)) (fun q => .inr (hm10_8 q))), fun h => absurd (hm8_1 (hm10_8 (((hL 10).1 h).resolve_left (by decide)))) hopen⟩
      | 2, ho =>
        simp only [List.getElem?_toArray, List.getElem?_cons_zero, List.getElem?_cons_succ, Option.some.injEq] at ho
        have hnj : ¬ L 10 := fun h => hopen (hm3_2 (hm4_3 (hm8_4 (hm10_8 h))))
        have hJ := hj hnj
        have HJ := Lib.hid hJ
        clear hJ hj
        subst ho
        refine Pj.Step.free rfl ?_
        simp only [Pj.puts, List.foldl_cons, List.foldl_nil, Act.put, List.setIfInBounds_toArray, List.set_cons_zero, List.set_cons_succ]
        go_simp
        exact hKq _ _ ⟨Pj.vset V 2 (.pointer (some ⟨wo.heap.size, 1, none⟩)), by simp only [Pj.puts, List.foldl_cons, List.foldl_nil, Act.put, List.setIfInBounds_toArray, List.set_cons_zero, List.set_cons_succ, Pj.vset, Nat.reduceEqDiff, if_true, if_false], fun _ => HJ.out.more HP.out hL (Kept.refl _) (rfl), fun h => (hL 0).2 (((hL 1).1 h).elim (fun e => absurd e (by decide)) (fun q => .inr (hm1_0 q))), fun h => (hL 2).2 (((hL 3).1 h).elim (fun e => absurd e (by decide)) (fun q => .inr (hm3_2 q))), fun h => (hL 3).2 (((hL 4).1 h).elim (fun e => absurd e (by decide)) (fun q => .inr (hm4_3 q))), fun h => (hL 5).2 (((hL 6).1 h).elim (fun e => absurd e (by decide)) (fun q => .inr (hm6_5 q))), fun h => (hL 6).2 (((hL 7).1 h).elim (fun e => absurd e (by decide)) (fun q => .inr (hm7_6 q))), fun h => (hL 1).2 (((hL 8).1 h).elim (fun e => absurd e (by decide)) (fun q => .inr (hm8_1 q))), fun h => (hL 4).2 (((hL 8).1 h).elim (fun e => absurd e (by decide)) (fun q => .inr (hm8_4 q))), fun h => (hL 7).2 (((hL 8).1 h).elim (fun e => absurd e (by decide)) (fun q => .inr (hm8_7 q))), fun h => (hL 9).2 (((hL 10).1 h).elim (fun e => absurd e (by decide)) (fun q => .inr (hm10_9 q))), fun h => (hL 8).2 (((hL 10).1 h).elim (fun e => absurd e (by decide)) (fun q => .inr (hm10_8 q))), fun h => absurd (hm3_2 (hm4_3 (hm8_4 (hm10_8 (((hL 10).1 h).resolve_left (by decide)))))) hopen⟩
      | 3, ho =>
        simp only [List.getElem?_toArray, List.getElem?_cons_zero, List.getElem?_cons_succ, Option.some.injEq] at ho
        have hnj : ¬ L 10 := fun h => hopen (hm4_3 (hm8_4 (hm10_8 h)))
        have hJ := hj hnj
        have l2 := hdep 2 (by rw [← ho]; kernel_rfl)
        have e2 : V 2 = .pointer (some ⟨wo.heap.size, 1, none⟩) := hJ.h 2 l2
        obtain ⟨d0, d1, d2⟩ := box3k HB2.out hJ.kp
        have HJ := Lib.hid hJ
        clear hJ hj
        subst ho
        refine Pj.Step.free rfl ?_
        simp only [Pj.puts, List.foldl_cons, List.foldl_nil, Act.put, List.setIfInBounds_toArray, List.set_cons_zero, List.set_cons_succ, e2]
        go_simp
        exact hKq _ _ ⟨Pj.vset V 3 (.slice ab lb cb), by simp only [Pj.puts, List.foldl_cons, List.foldl_nil, Act.put, List.setIfInBounds_toArray, List.set_cons_zero, List.set_cons_succ, Pj.vset, Nat.reduceEqDiff, if_true, if_false, e2], fun _ => HJ.out.more HP.out hL (Kept.refl _) (rfl), fun h => (hL 0).2 (((hL 1).1 h).elim (fun e => absurd e (by decide)) (fun q => .inr (hm1_0 q))), fun _ => (hL 2).2 (.inr l2), fun h => (hL 3).2 (((hL 4).1 h).elim (fun e => absurd e (by decide)) (fun q => .inr (hm4_3 q))), fun h => (hL 5).2 (((hL 6).1 h).elim (fun e => absurd e (by decide)) (fun q => .inr (hm6_5 q))), fun h => (hL 6).2 (((hL 7).1 h).elim (fun e => absurd e (by decide)) (fun q => .inr (hm7_6 q))), fun h => (hL 1).2 (((hL 8).1 h).elim (fun e => absurd e (by decide)) (fun q => .inr (hm8_1 q))), fun h => (hL 4).2 (((hL 8).1 h).elim (fun e => absurd e (by decide)) (fun q => .inr (hm8_4 q))), fun h => (hL 7).2 (((hL 8).1 h).elim (fun e => absurd e (by decide)) (fun q => .inr (hm8_7 q))), fun h => (hL 9).2 (((hL 10).1 h).elim (fun e => absurd e (by decide)) (fun q => .inr (hm10_9 q))), fun h => (hL 8).2 (((hL 10).1 h).elim (fun e => absurd e (by decide)) (fun q => .inr (hm10_8 q))), fun h => absurd (hm4_3 (hm8_4 (hm10_8 (((hL 10).1 h).resolve_left (by decide))))) hopen⟩
      | 4, ho =>
        simp only [List.getElem?_toArray, List.getElem?_cons_zero, List.getElem?_cons_succ, Option.some.injEq] at ho
        have hnj : ¬ L 10 := fun h => hopen (hm8_4 (hm10_8 h))
        have hJ := hj hnj
        have l3 := hdep 3 (by rw [← ho]; kernel_rfl)
        have e3 : V 3 = .slice ab lb cb := hJ.h 3 l3
        have hso := HSB.out w hJ.kp
        have HJ := Lib.hid hJ
        clear hJ hj
        subst ho
        refine Pj.Step.free rfl ?_
        simp only [Pj.puts, List.foldl_cons, List.foldl_nil, Act.put, List.setIfInBounds_toArray, List.set_cons_zero, List.set_cons_succ, e3]
        go_simp
        refine hso.mono ?_
        rintro e w' ⟨a9, c9, rfl, h9', hk9⟩
        have h9 := NewIn.from h9' (Kept.size HJ.out.kp)
        exact hKq _ _ ⟨Pj.vset V 4 (.slice a9 (risen bs).length c9), by simp only [Pj.puts, List.foldl_cons, List.foldl_nil, Act.put, List.setIfInBounds_toArray, List.set_cons_zero, List.set_cons_succ, Pj.vset, Nat.reduceEqDiff, if_true, if_false, e3], fun _ => HJ.out.more HP.out hL (hk9) (⟨_, _, rfl, h9⟩), fun h => (hL 0).2 (((hL 1).1 h).elim (fun e => absurd e (by decide)) (fun q => .inr (hm1_0 q))), fun h => (hL 2).2 (((hL 3).1 h).elim (fun e => absurd e (by decide)) (fun q => .inr (hm3_2 q))), fun _ => (hL 3).2 (.inr l3), fun h => (hL 5).2 (((hL 6).1 h).elim (fun e => absurd e (by decide)) (fun q => .inr (hm6_5 q))), fun h => (hL 6).2 (((hL 7).1 h).elim (fun e => absurd e (by decide)) (fun q => .inr (hm7_6 q))), fun h => (hL 1).2 (((hL 8).1 h).elim (fun e => absurd e (by decide)) (fun q => .inr (hm8_1 q))), fun h => (hL 4).2 (((hL 8).1 h).elim (fun e => absurd e (by decide)) (fun q => .inr (hm8_4 q))), fun h => (hL 7).2 (((hL 8).1 h).elim (fun e => absurd e (by decide)) (fun q => .inr (hm8_7 q))), fun h => (hL 9).2 (((hL 10).1 h).elim (fun e => absurd e (by decide)) (fun q => .inr (hm10_9 q))), fun h => (hL 8).2 (((hL 10).1 h).elim (fun e => absurd e (by decide)) (fun q => .inr (hm10_8 q))), fun h => absurd (hm8_4 (hm10_8 (((hL 10).1 h).resolve_left (by decide)))) hopen⟩
      | 5, ho =>
        simp only [List.getElem?_toArray, List.getElem?_cons_zero, List.getElem?_cons_succ, Option.some.injEq] at ho
        have hnj : ¬ L 10 := fun h => hopen (hm6_5 (hm7_6 (hm8_7 (hm10_8 h))))
        have hJ := hj hnj
        have HJ := Lib.hid hJ
        clear hJ hj
        subst ho
        refine Pj.Step.free rfl ?_
        simp only [Pj.puts, List.foldl_cons, List.foldl_nil, Act.put, List.setIfInBounds_toArray, List.set_cons_zero, List.set_cons_succ]
        go_simp
        exact hKq _ _ ⟨Pj.vset V 5 (.pointer (some ⟨wo.heap.size, 2, none⟩)), by simp only [Pj.puts, List.foldl_cons, List.foldl_nil, Act.put, List.setIfInBounds_toArray, List.set_cons_zero, List.set_cons_succ, Pj.vset, Nat.reduceEqDiff, if_true, if_false], fun _ => HJ.out.more HP.out hL (Kept.refl _) (rfl), fun h => (hL 0).2 (((hL 1).1 h).elim (fun e => absurd e (by decide)) (fun q => .inr (hm1_0 q))), fun h => (hL 2).2 (((hL 3).1 h).elim (fun e => absurd e (by decide)) (fun q => .inr (hm3_2 q))), fun h => (hL 3).2 (((hL 4).1 h).elim (fun e => absurd e (by decide)) (fun q => .inr (hm4_3 q))), fun h => (hL 5).2 (((hL 6).1 h).elim (fun e => absurd e (by decide)) (fun q => .inr (hm6_5 q))), fun h => (hL 6).2 (((hL 7).1 h).elim (fun e => absurd e (by decide)) (fun q => .inr (hm7_6 q))), fun h => (hL 1).2 (((hL 8).1 h).elim (fun e => absurd e (by decide)) (fun q => .inr (hm8_1 q))), fun h => (hL 4).2 (((hL 8).1 h).elim (fun e => absurd e (by decide)) (fun q => .inr (hm8_4 q))), fun h => (hL 7).2 (((hL 8).1 h).elim (fun e => absurd e (by decide)) (fun q => .inr (hm8_7 q))), fun h => (hL 9).2 (((hL 10).1 h).elim (fun e => absurd e (by decide)) (fun q => .inr (hm10_9 q))), fun h => (hL 8).2 (((hL 10).1 h).elim (fun e => absurd e (by decide)) (fun q => .inr (hm10_8 q))), fun h => absurd (hm6_5 (hm7_6 (hm8_7 (hm10_8 (((hL 10).1 h).resolve_left (by decide)))))) hopen⟩
      | 6, ho =>
        simp only [List.getElem?_toArray, List.getElem?_cons_zero, List.getElem?_cons_succ, Option.some.injEq] at ho
        have hnj : ¬ L 10 := fun h => hopen (hm7_6 (hm8_7 (hm10_8 h)))
        have hJ := hj hnj
        have l5 := hdep 5 (by rw [← ho]; kernel_rfl)
        have e5 : V 5 = .pointer (some ⟨wo.heap.size, 2, none⟩) := hJ.h 5 l5
        obtain ⟨d0, d1, d2⟩ := box3k HB2.out hJ.kp
        have HJ := Lib.hid hJ
        clear hJ hj
        subst ho
        refine Pj.Step.free rfl ?_
        simp only [Pj.puts, List.foldl_cons, List.foldl_nil, Act.put, List.setIfInBounds_toArray, List.set_cons_zero, List.set_cons_succ, e5]
        go_simp
        exact hKq _ _ ⟨Pj.vset V 6 (.slice au lu cu), by simp only [Pj.puts, List.foldl_cons, List.foldl_nil, Act.put, List.setIfInBounds_toArray, List.set_cons_zero, List.set_cons_succ, Pj.vset, Nat.reduceEqDiff, if_true, if_false, e5], fun _ => HJ.out.more HP.out hL (Kept.refl _) (rfl), fun h => (hL 0).2 (((hL 1).1 h).elim (fun e => absurd e (by decide)) (fun q => .inr (hm1_0 q))), fun h => (hL 2).2 (((hL 3).1 h).elim (fun e => absurd e (by decide)) (fun q => .inr (hm3_2 q))), fun h => (hL 3).2 (((hL 4).1 h).elim (fun e => absurd e (by decide)) (fun q => .inr (hm4_3 q))), fun _ => (hL 5).2 (.inr l5), fun h => (hL 6).2 (((hL 7).1 h).elim (fun e => absurd e (by decide)) (fun q => .inr (hm7_6 q))), fun h => (hL 1).2 (((hL 8).1 h).elim (fun e => absurd e (by decide)) (fun q => .inr (hm8_1 q))), fun h => (hL 4).2 (((hL 8).1 h).elim (fun e => absurd e (by decide)) (fun q => .inr (hm8_4 q))), fun h => (hL 7).2 (((hL 8).1 h).elim (fun e => absurd e (by decide)) (fun q => .inr (hm8_7 q))), fun h => (hL 9).2 (((hL 10).1 h).elim (fun e => absurd e (by decide)) (fun q => .inr (hm10_9 q))), fun h => (hL 8).2 (((hL 10).1 h).elim (fun e => absurd e (by decide)) (fun q => .inr (hm10_8 q))), fun h => absurd (hm7_6 (hm8_7 (hm10_8 (((hL 10).1 h).resolve_left (by decide))))) hopen⟩
      | 7, ho =>
        simp only [List.getElem?_toArray, List.getElem?_cons_zero, List.getElem?_cons_succ, Option.some.injEq] at ho
        have hnj : ¬ L 10 := fun h => hopen (hm8_7 (hm10_8 h))
        have hJ := hj hnj
        have l6 := hdep 6 (by rw [← ho]; kernel_rfl)
        have e6 : V 6 = .slice au lu cu := hJ.h 6 l6
        have hso := HSU.out w hJ.kp
        have HJ := Lib.hid hJ
        clear hJ hj
        subst ho
        refine Pj.Step.free rfl ?_
        simp only [Pj.puts, List.foldl_cons, List.foldl_nil, Act.put, List.setIfInBounds_toArray, List.set_cons_zero, List.set_cons_succ, e6]
        go_simp
        refine hso.mono ?_
        rintro e w' ⟨a9, c9, rfl, h9', hk9⟩
        have h9 := NewIn.from h9' (Kept.size HJ.out.kp)
        exact hKq _ _ ⟨Pj.vset V 7 (.slice a9 (risen us).length c9), by simp only [Pj.puts, List.foldl_cons, List.foldl_nil, Act.put, List.setIfInBounds_toArray, List.set_cons_zero, List.set_cons_succ, Pj.vset, Nat.reduceEqDiff, if_true, if_false, e6], fun _ => HJ.out.more HP.out hL (hk9) (⟨_, _, rfl, h9⟩), fun h => (hL 0).2 (((hL 1).1 h).elim (fun e => absurd e (by decide)) (fun q => .inr (hm1_0 q))), fun h => (hL 2).2 (((hL 3).1 h).elim (fun e => absurd e (by decide)) (fun q => .inr (hm3_2 q))), fun h => (hL 3).2 (((hL 4).1 h).elim (fun e => absurd e (by decide)) (fun q => .inr (hm4_3 q))), fun h => (hL 5).2 (((hL 6).1 h).elim (fun e => absurd e (by decide)) (fun q => .inr (hm6_5 q))), fun _ => (hL 6).2 (.inr l6), fun h => (hL 1).2 (((hL 8).1 h).elim (fun e => absurd e (by decide)) (fun q => .inr (hm8_1 q))), fun h => (hL 4).2 (((hL 8).1 h).elim (fun e => absurd e (by decide)) (fun q => .inr (hm8_4 q))), fun h => (hL 7).2 (((hL 8).1 h).elim (fun e => absurd e (by decide)) (fun q => .inr (hm8_7 q))), fun h => (hL 9).2 (((hL 10).1 h).elim (fun e => absurd e (by decide)) (fun q => .inr (hm10_9 q))), fun h => (hL 8).2 (((hL 10).1 h).elim (fun e => absurd e (by decide)) (fun q => .inr (hm10_8 q))), fun h => absurd (hm8_7 (hm10_8 (((hL 10).1 h).resolve_left (by decide)))) hopen⟩
      | 8, ho =>
        simp only [List.getElem?_toArray, List.getElem?_cons_zero, List.getElem?_cons_succ, Option.some.injEq] at ho
        have hnj : ¬ L 10 := fun h => hopen (hm10_8 h)
        have hJ := hj hnj
        have l1 := hdep 1 (by rw [← ho]; kernel_rfl)
        have e1 : V 1 = .int .i64 k := hJ.h 1 l1
        have l4 := hdep 4 (by rw [← ho]; kernel_rfl)
        obtain ⟨a4, c4, e4, h4⟩ := hJ.h 4 l4
        have l7 := hdep 7 (by rw [← ho]; kernel_rfl)
        obtain ⟨a7, c7, e7, h7⟩ := hJ.h 7 l7
        have HJ := Lib.hid hJ
        clear hJ hj
        subst ho
        refine Pj.Step.free rfl ?_
        simp only [Pj.puts, List.foldl_cons, List.foldl_nil, Act.put, List.setIfInBounds_toArray, List.set_cons_zero, List.set_cons_succ, e1, e4, e7]
        go_simp
        exact hKq _ _ ⟨Pj.vset V 8 (.agg #[.int .i64 k, .slice a4 (risen bs).length c4, .slice a7 (risen us).length c7]), by simp only [Pj.puts, List.foldl_cons, List.foldl_nil, Act.put, List.setIfInBounds_toArray, List.set_cons_zero, List.set_cons_succ, Pj.vset, Nat.reduceEqDiff, if_true, if_false, e1, e4, e7], fun _ => HJ.out.more HP.out hL (Kept.refl _) (⟨_, _, _, _, rfl, h4, h7⟩), fun h => (hL 0).2 (((hL 1).1 h).elim (fun e => absurd e (by decide)) (fun q => .inr (hm1_0 q))), fun h => (hL 2).2 (((hL 3).1 h).elim (fun e => absurd e (by decide)) (fun q => .inr (hm3_2 q))), fun h => (hL 3).2 (((hL 4).1 h).elim (fun e => absurd e (by decide)) (fun q => .inr (hm4_3 q))), fun h => (hL 5).2 (((hL 6).1 h).elim (fun e => absurd e (by decide)) (fun q => .inr (hm6_5 q))), fun h => (hL 6).2 (((hL 7).1 h).elim (fun e => absurd e (by decide)) (fun q => .inr (hm7_6 q))), fun _ => (hL 1).2 (.inr l1), fun _ => (hL 4).2 (.inr l4), fun _ => (hL 7).2 (.inr l7), fun h => (hL 9).2 (((hL 10).1 h).elim (fun e => absurd e (by decide)) (fun q => .inr (hm10_9 q))), fun h => (hL 8).2 (((hL 10).1 h).elim (fun e => absurd e (by decide)) (fun q => .inr (hm10_8 q))), fun h => absurd (hm10_8 (((hL 10).1 h).resolve_left (by decide))) hopen⟩
      | 9, ho =>
        simp only [List.getElem?_toArray, List.getElem?_cons_zero, List.getElem?_cons_succ, Option.some.injEq] at ho
        have hnj : ¬ L 10 := fun h => hopen (hm10_9 h)
        have hJ := hj hnj
        have HJ := Lib.hid hJ
        clear hJ hj
        subst ho
        refine Pj.Step.free rfl ?_
        simp only [Pj.puts, List.foldl_cons, List.foldl_nil, Act.put, List.setIfInBounds_toArray, List.set_cons_zero, List.set_cons_succ]
        refine Pj.oper_alloc_block 28 rfl #[.int .i64 0, .slice none 0 0, .slice none 0 0] (by kernel_rfl) ?_
        simp only [Act.put, List.setIfInBounds_toArray, List.set_cons_zero, List.set_cons_succ]
        exact hKq _ _ ⟨Pj.vset V 9 (.pointer (some ⟨w.heap.size, 0, none⟩)), by simp only [Pj.puts, List.foldl_cons, List.foldl_nil, Act.put, List.setIfInBounds_toArray, List.set_cons_zero, List.set_cons_succ, Pj.vset, Nat.reduceEqDiff, if_true, if_false], fun _ => HJ.out.more HP.out hL ((Kept.refl _).alloc _) (⟨_, rfl, Kept.size HJ.out.kp, BlockAt.new _ _ _⟩), fun h => (hL 0).2 (((hL 1).1 h).elim (fun e => absurd e (by decide)) (fun q => .inr (hm1_0 q))), fun h => (hL 2).2 (((hL 3).1 h).elim (fun e => absurd e (by decide)) (fun q => .inr (hm3_2 q))), fun h => (hL 3).2 (((hL 4).1 h).elim (fun e => absurd e (by decide)) (fun q => .inr (hm4_3 q))), fun h => (hL 5).2 (((hL 6).1 h).elim (fun e => absurd e (by decide)) (fun q => .inr (hm6_5 q))), fun h => (hL 6).2 (((hL 7).1 h).elim (fun e => absurd e (by decide)) (fun q => .inr (hm7_6 q))), fun h => (hL 1).2 (((hL 8).1 h).elim (fun e => absurd e (by decide)) (fun q => .inr (hm8_1 q))), fun h => (hL 4).2 (((hL 8).1 h).elim (fun e => absurd e (by decide)) (fun q => .inr (hm8_4 q))), fun h => (hL 7).2 (((hL 8).1 h).elim (fun e => absurd e (by decide)) (fun q => .inr (hm8_7 q))), fun h => (hL 9).2 (((hL 10).1 h).elim (fun e => absurd e (by decide)) (fun q => .inr (hm10_9 q))), fun h => (hL 8).2 (((hL 10).1 h).elim (fun e => absurd e (by decide)) (fun q => .inr (hm10_8 q))), fun h => absurd (hm10_9 (((hL 10).1 h).resolve_left (by decide))) hopen⟩
      | 10, ho =>
        simp only [List.getElem?_toArray, List.getElem?_cons_zero, List.getElem?_cons_succ, Option.some.injEq] at ho
        have hJ := hj hopen
        have l9 := hdep 9 (by rw [← ho]; kernel_rfl)
        obtain ⟨b9, e9, hz9, hb9⟩ := hJ.h 9 l9
        have l8 := hdep 8 (by rw [← ho]; kernel_rfl)
        obtain ⟨x8, y8, x8b, y8b, e8, n8, n8b⟩ := hJ.h 8 l8
        have HJ := Lib.hid hJ
        clear hJ hj
        subst ho
        refine Pj.Step.free rfl ?_
        simp only [Pj.puts, List.foldl_cons, List.foldl_nil, Act.put, List.setIfInBounds_toArray, List.set_cons_zero, List.set_cons_succ, e9, e8]
        refine Pj.oper_store_block 28 _ _ rfl b9 #[.int .i64 k, .slice x8 (risen bs).length y8, .slice x8b (risen us).length y8b] #[.int .i64 0, .slice none 0 0, .slice none 0 0] 28 rfl rfl hb9 (by kernel_rfl) rfl (one3m _ _ _ _ _ _ _) ?_
        simp only [Act.put]
        have g8 := grown_row w b9 #[.int .i64 k, .slice x8 (risen bs).length y8, .slice x8b (risen us).length y8b]
        exact hKq _ _ ⟨Pj.vset V 10 undef, by simp only [Pj.puts, List.foldl_cons, List.foldl_nil, Act.put, List.setIfInBounds_toArray, List.set_cons_zero, List.set_cons_succ, Pj.vset, Nat.reduceEqDiff, if_false, e9, e8], fun h => absurd ((hL 10).2 (.inl rfl)) h, fun h => (hL 0).2 (((hL 1).1 h).elim (fun e => absurd e (by decide)) (fun q => .inr (hm1_0 q))), fun h => (hL 2).2 (((hL 3).1 h).elim (fun e => absurd e (by decide)) (fun q => .inr (hm3_2 q))), fun h => (hL 3).2 (((hL 4).1 h).elim (fun e => absurd e (by decide)) (fun q => .inr (hm4_3 q))), fun h => (hL 5).2 (((hL 6).1 h).elim (fun e => absurd e (by decide)) (fun q => .inr (hm6_5 q))), fun h => (hL 6).2 (((hL 7).1 h).elim (fun e => absurd e (by decide)) (fun q => .inr (hm7_6 q))), fun h => (hL 1).2 (((hL 8).1 h).elim (fun e => absurd e (by decide)) (fun q => .inr (hm8_1 q))), fun h => (hL 4).2 (((hL 8).1 h).elim (fun e => absurd e (by decide)) (fun q => .inr (hm8_4 q))), fun h => (hL 7).2 (((hL 8).1 h).elim (fun e => absurd e (by decide)) (fun q => .inr (hm8_7 q))), fun _ => (hL 9).2 (.inr l9), fun _ => (hL 8).2 (.inr l8), fun _ => ⟨b9, x8, y8, x8b, y8b, by rw [Pj.vset_other _ _ (by decide)]; exact e9, hz9, hb9.setRow _, n8.set hb9 (mf0_no _ _ _ _ _ _ _) (by decide) g8, n8b.set hb9 (mf0_no _ _ _ _ _ _ _) (by decide) g8, Kept.setRow HJ.out.kp hz9 _⟩⟩
      | n + 11, ho => simp at ho
    case ehe =>
      rintro L az w ⟨V, rfl, hj, hm1_0, hm3_2, hm4_3, hm6_5, hm7_6, hm8_1, hm8_4, hm8_7, hm10_9, hm10_8, hf⟩ hall
      obtain ⟨b9, x8, y8, x8b, y8b, e9, hz9, hb9, n8, n8b, hk9⟩ := hf (hall 10 (by decide))
      clear hj hf hall hm1_0 hm3_2 hm4_3 hm6_5 hm7_6 hm8_1 hm8_4 hm8_7 hm10_9 hm10_8
      have HB9 := Lib.hid hb9
      have HN8 := Lib.hid n8
      have HN8b := Lib.hid n8b
      have HK9 := Lib.hid hk9
      clear hb9 n8 n8b hk9
      simp only [Pj.puts, List.foldl_cons, List.foldl_nil, Act.put, List.setIfInBounds_toArray, List.set_cons_zero, List.set_cons_succ, e9]
      clear e9
      have HR9 := Lib.hid (HR2.out.kept HK9.out)
      have hfw := fun w h1 h2 => few_any k x8 (risen bs).length y8 x8b (risen us).length y8b (risen bs) (risen us) w h1 h2 ⟨by have := HRB.out; omega, by have := HRU.out; omega⟩
      obtain ⟨b2, hb2⟩ : ∃ b2, b2 = mfFew ⟨k, risen bs, risen us⟩ := ⟨_, rfl⟩
      rw [← hb2] at hfw HP0
      have HFW := Lib.hid hfw
      have hz2 := HR2.out.lt
      obtain ⟨a0, a1, a2⟩ := box3 HB9.out
      clear hb2 hfw
      go_wp2_with fail
      refine (HFW.out _ HN8.out.2.1 HN8b.out.2.1).mono ?_
      rintro e w6 ⟨rfl, hk6⟩
      have HK6 := Lib.hid ((HK2.out.trans HK9.out).trans hk6)
      have HR6 := Lib.hid (HR9.out.kept hk6)
      have HB6 := Lib.hid (HB9.out.kept hk6)
      have HNA := Lib.hid ((HN8.out.kept hk6).from HK2.out.size)
      have HNB := Lib.hid ((HN8b.out.kept hk6).from HK2.out.size)
      clear a0 a1 a2 hk6
      cases b2 with
      | false =>
        go_wp2_with (refine wpList_store_block rfl 28 (.tmp 2) (.tmp 21) rfl _ #[.int .i64 0, .slice none 0 0, .slice none 0 0] #[.int .i64 0, .slice none 0 0, .slice none 0 0] 28 rfl rfl HR6.out Try.infoMf rfl (one3m _ _ _ _ _ _ _) ?_)
        refine bodyPost_ret (v := .tuple #[.agg #[.int .i64 0, .slice none 0 0, .slice none 0 0], .int .i64 2]) (results_row_tmp rfl _ _ (wo.heap.size + 1) 28 #[.int .i64 0, .slice none 0 0, .slice none 0 0] _ rfl (HR6.out.setRow _) Try.underlying28 rfl Try.infoMf _ rfl) rfl ?_
        rw [HP0.out]
        exact ⟨HK6.out.setRow (by omega) _, (fun h => by cases h), fun _ _ => rfl, (fun _ h => by cases h)⟩
      | true =>
        obtain ⟨a0, a1, a2⟩ := box3 HB6.out
        go_wp2_with (refine wpList_store_block rfl 28 (.tmp 2) (.tmp 22) rfl _ #[.int .i64 k, .slice x8 (risen bs).length y8, .slice x8b (risen us).length y8b] #[.int .i64 0, .slice none 0 0, .slice none 0 0] 28 rfl rfl HR6.out Try.infoMf rfl (one3m _ _ _ _ _ _ _) ?_)
        have g8 := grown_row w6 (wo.heap.size + 1) #[.int .i64 k, .slice x8 (risen bs).length y8, .slice x8b (risen us).length y8b]
        refine bodyPost_ret (v := .tuple #[.agg #[.int .i64 k, .slice x8 (risen bs).length y8, .slice x8b (risen us).length y8b], .int .i64 0]) (results_row_tmp rfl _ _ (wo.heap.size + 1) 28 #[.int .i64 k, .slice x8 (risen bs).length y8, .slice x8b (risen us).length y8b] _ rfl (HR6.out.setRow _) Try.underlying28 rfl Try.infoMf _ rfl) rfl ?_
        rw [HP0.out]
        exact ⟨HK6.out.setRow (by omega) _, (fun h => by cases h), (fun _ h => by cases h), fun _ _ => ⟨x8, y8, x8b, y8b, rfl, HNA.out.set HR6.out (mf0_no _ _ _ _ _ _ _) (by decide) g8, HNB.out.set HR6.out (mf0_no _ _ _ _ _ _ _) (by decide) g8⟩⟩
end Go.Proofs.Ytdllenoclnmmdaa
