/- cut.Parts, by what it answers (a text within the limit). -/
import Derived.Test.YtlncjheifkbomaaCutPt
namespace Go.Proofs.Ytlncjheifkbomaa
open Go.RowKit Go.Shelf
attribute [local go_sem] Oper.semAt_some

set_option maxRecDepth 100000 in
set_option maxHeartbeats 4000000 in
theorem parts_good (k m s : Int) (t : ByteArray) (hs : shpB k m s = true) (ht : t.size ≤ 2000) (w : World) :
    Calls Try.prog 17 #[.agg #[.int .i64 k, .int .i64 m, .int .i64 s], .string t] w fun e w' => ∃ a cap, e = .returned (.tuple #[.slice a (nP t.size (k * s).toNat) cap, .int .i64 0]) ∧ nP t.size (k * s).toNat ≤ cap ∧ StrsIn w' a (nP t.size (k * s).toNat) (pcs t (k * s).toNat) ∧ Kept w w' := by
  have hb := ks_bounds hs
  obtain ⟨h1, h2, h3, h4, h5, h6⟩ := shpB_true hs
  obtain ⟨q, hq⟩ : ∃ q : Nat, k * s = q := ⟨(k * s).toNat, by omega⟩
  have hE : shpE k m s = 0 := by unfold shpE; rw [if_pos hs]
  have hck := fun w => code_check k m s w
  rw [hE] at hck
  have HCK := Lib.hid hck
  have hwh := fun w => whole_any k m s q ⟨h1, h2⟩ ⟨h5, h6⟩ hq w
  have HWH := Lib.hid hwh
  rw [hq] at hb ⊢
  rw [Int.toNat_natCast]
  have hq1 : 1 ≤ q := by omega
  have hq2 : q ≤ 960 := by omega
  clear hs h1 h2 h3 h4 h5 h6 hE hck hwh hq hb
  refine callsIn_wide.1 (callsIn_of_wp_marks (n := 8) Try.func17 rfl trivial ?_ rfl)
  simp only [Try.ntmps17, List.size_toArray, List.length_nil, List.length_cons, Nat.reduceAdd, Nat.reduceSub, Array.replicate_succ, Array.replicate_zero, List.push_toArray, List.append_toArray, List.nil_append, List.cons_append]
  refine wpIn_wide.2 ?_
  have HK0 := Lib.hid ((Kept.refl w).alloc (.cells #[.int .i64 k, .int .i64 m, .int .i64 s] 31))
  have HB0 := Lib.hid (BlockAt.new w #[.int .i64 k, .int .i64 m, .int .i64 s] 31)
  go_wp2_with fail
  generalize w.alloc (.cells #[.int .i64 k, .int .i64 m, .int .i64 s] 31) = w1 at *
  obtain ⟨a0, a1, a2⟩ := box3c HB0.out
  go_wp2_with fail
  refine (HCK.out _).mono ?_
  rintro e w2 ⟨rfl, hk2⟩
  have HK2 := Lib.hid (HK0.out.trans hk2)
  have HB2 := Lib.hid (HB0.out.kept hk2)
  clear a0 a1 a2 hk2
  go_upto_region 6 with (fail)
  have hg1 := (BlockAt.new w2 #[] 9).kept ((Kept.refl _).alloc (.cells #[.slice (some ⟨w2.heap.size, 0, none⟩) 0 0] 23))
  have hp1 := BlockAt.new1 w2 #[.slice (some ⟨w2.heap.size, 0, none⟩) 0 0] 23 (.cells #[] 9)
  have k12 : Kept w2 ((w2.alloc (.cells #[] 9)).alloc (.cells #[.slice (some ⟨w2.heap.size, 0, none⟩) 0 0] 23)) := ((Kept.refl _).alloc _).alloc _
  have hz1 : w2.heap.size + 2 = ((w2.alloc (.cells #[] 9)).alloc (.cells #[.slice (some ⟨w2.heap.size, 0, none⟩) 0 0] 23)).heap.size := by simp
  generalize hwa : (w2.alloc (.cells #[] 9)).alloc (.cells #[.slice (some ⟨w2.heap.size, 0, none⟩) 0 0] 23) = wa at *
  clear hwa
  obtain ⟨b0, b1, b2⟩ := box3c (HB2.out.kept k12)
  go_wp2_with fail
  refine (HWH.out _).mono ?_
  rintro e w3 ⟨rfl, hk3⟩
  have HK3 := Lib.hid ((HK2.out.trans k12).trans hk3)
  have hg0 := hg1.kept hk3
  have hp0 := hp1.kept hk3
  have hz := hk3.size
  rw [← hz1] at hz
  have hz0 : w.heap.size < w2.heap.size := HB2.out.lt
  clear b0 b1 b2 hk3 hg1 hp1 k12 hz1
  go_wp2_with fail
  refine (pieces_any t q _).mono ?_
  rintro e w4 ⟨rfl, hw4⟩
  have k34 : Kept w3 w4 := by rw [hw4]; exact ((Kept.refl w3).alloc _).alloc _
  have hpt : BlockAt w4 w3.heap.size #[.string t] 9 := by rw [hw4]; exact (BlockAt.new _ _ _).kept ((Kept.refl _).alloc _)
  have hpq : BlockAt w4 (w3.heap.size + 1) #[.int .i64 q] 3 := by rw [hw4]; exact BlockAt.new1 _ _ _ _
  have HGZ := Lib.hid (hg0.kept k34)
  have HPZ := Lib.hid (hp0.kept k34)
  have HKZ := Lib.hid (HK3.out.trans k34)
  have hz4 : w4.heap.size = w3.heap.size + 2 := by rw [hw4]; simp
  clear hg0 hp0 k34 hw4 HK2 HB2 HK0 HB0 HK3
  generalize w3.heap.size = x at *
  generalize w2.heap.size = p at *
  obtain ⟨R, hR⟩ : ∃ R : Nat → Prop, R = fun g => w.heap.size ≤ g ∧ g ≠ p + 1 ∧ g ≠ x ∧ g ≠ x + 1 := ⟨_, rfl⟩
  have HRP := Lib.hid (show R p by rw [hR]; exact ⟨by omega, by omega, by omega, by omega⟩)
  have HRL := Lib.hid (show ¬ R (p + 1) by rw [hR]; exact fun h => h.2.1 rfl)
  have HRN := Lib.hid (show ∀ g, x + 2 ≤ g → R g by rw [hR]; exact fun g h => ⟨by omega, by omega, by omega, by omega⟩)
  have hrt : ¬ (R x ∨ x = p + 1) := by rw [hR]; exact fun h => by rcases h with h | h; exact h.2.2.1 rfl; omega
  have hrq : ¬ (R (x + 1) ∨ x + 1 = p + 1) := by rw [hR]; exact fun h => by rcases h with h | h; exact h.2.2.2 rfl; omega
  have HT := Lib.hid ht
  have HZ := Lib.hid (And.intro hz (And.intro hz0 hz4))
  clear hR
  go_wp2
  refine wp_of_in 8 ?_
  refine wpIn_rangeFunc_S rfl (by omega) (gf := 49) (lb := #[.pointer (some ⟨x, 0, none⟩), .pointer (some ⟨x + 1, 0, none⟩)]) rfl trivial (enters_of Try.func49 (by kernel_rfl) rfl)
    (pieces_stops 7 (by omega) (fun g => R g ∨ g = p + 1) t (by omega) q ⟨hq1, by omega⟩ x (x + 1) w4 hrt hrq hpt hpq) (CellsBut.refl _) CellsBut.trans CellsBut.putObj (Below.refl _ _) (fun _ => rfl)
    (fun pre W => (∃ v, BlockAt W (p + 1) #[v] 23 ∧ W.ownsRow w.heap.size 9 1 v pre.length (pre.map fun i => Value.string (pcOf t q i.1)) ∧ ∀ g, v.ownBlock = some g → R g) ∧ (x + 2 ≤ W.heap.size ∧ Below w.heap.size w W))
    (fun _ _ _ => False)
    ?hI (fun _ _ _ _ _ hs _ _ => hs) ?h0 ?round ?done ?stop
  case hI =>
    refine OwnFrom.and (Own.from (fun s A B row hs hg hr => ?_) _) (OwnFrom.and (Own.from (fun s A B row hs hg hr => Nat.le_trans hs hg.size) _) (ownFrom_below (Nat.le_refl _) (by omega)))
    obtain ⟨v, h1, h2, h3⟩ := hs
    exact ⟨v, block_own h1 hg hr, own_own h2 hg hr, h3⟩
  case h0 => exact ⟨⟨_, HPZ.out, ⟨rfl, .inr ⟨p, 0, #[], rfl, by omega, HGZ.out, Nat.le_refl _, by unfold maxLen; omega, rfl, rfl⟩⟩, fun g e => by cases e; exact HRP.out⟩, by omega, HKZ.out⟩
  case round =>
    rintro l ⟨i, hi⟩ W K hK
    have HK := Lib.hid hK
    clear hK
    gi_wp2
    refine HK.out _ ?_
    clear HK
    rintro l pre W ⟨⟨v, hpl, hown, hvR⟩, hx2, hB⟩ hlen
    have HB := Lib.hid hB
    have HPL := Lib.hid hpl
    have HOWN := Lib.hid hown
    have HVR := Lib.hid hvR
    have hcl : (pcOf t q i).size ≤ 281474976710656 := by rw [pcOf_size]; omega
    have HCL := Lib.hid (fun w => clone_any (pcOf t q i) w hcl)
    have HPR := Lib.hid (show (pre ++ [(⟨i, hi⟩ : { k : Nat // k < nP t.size q })]).map (fun i => Value.string (pcOf t q i.1)) = pre.map (fun i => Value.string (pcOf t q i.1)) ++ [Value.string (pcOf t q i)] by simp)
    have hn : pre.length < 2001 := by
      have h1 : nP t.size q ≤ t.size := Nat.not_lt.1 (fun h => by have := (nP_lt hq1).1 h; have := Nat.le_mul_of_pos_right t.size hq1; omega)
      omega
    clear hpl hown hvR hcl hB
    generalize hps : pre.map (fun i => Value.string (pcOf t q i.1)) = ps at *
    generalize pcOf t q i = ti at *
    refine wpIn_block ?_
    refine Pj.wpIn_region_step (fun _ => trivial) (fun a0 L a w' => ∃ V : Nat → Value, a = Pj.puts [(20, 0), (21, 1), (22, 2), (23, 3), (24, 4)] V a0 ∧ PtJ W w.heap.size (p + 1) R v pre.length ps ti L V w') (by as_aux_lemma => kernel_rfl) (by as_aux_lemma => kernel_rfl) ?eh0 ?ehs ?ehe
    case eh0 =>
      intro L hL
      exact ⟨_, Pj.puts_self _ (fun j => ([20, 21, 22, 23, 24, 0] : List Nat).getD j 0) [0, 1, 2, 3, 4], PtJ.start hL ((Kept.refl _).drew)⟩
    case ehs =>
      rintro L L' a w' i op K ⟨V, rfl, hJ⟩ ho hopen hdep hL hK
      match i, ho with
      | 0, ho =>
        simp only [List.getElem?_toArray, List.getElem?_cons_zero, Option.some.injEq] at ho
        have c := box1 (HPL.out.kept (hJ.s0 (hJ.low (by decide) hopen)))
        have HJ := Lib.hid hJ
        clear hJ
        subst ho
        refine Pj.Step.free rfl ?_
        simp only [Pj.puts, List.foldl_cons, List.foldl_nil, Act.put, List.setIfInBounds_toArray, List.set_cons_zero, List.set_cons_succ]
        go_simp
        exact hK _ _ ⟨Pj.vset V 0 (v), by simp only [Pj.puts, List.foldl_cons, List.foldl_nil, Act.put, List.setIfInBounds_toArray, List.set_cons_zero, List.set_cons_succ, Pj.vset, Nat.reduceEqDiff, if_true, if_false], HJ.out.more (by decide) hopen hL (Kept.refl _) (fun e => by cases e) (fun e => by cases e) (fun _ => rfl) (fun e => by cases e) (fun e => by cases e) (fun e => by cases e)⟩
      | 1, ho =>
        simp only [List.getElem?_toArray, List.getElem?_cons_zero, List.getElem?_cons_succ, Option.some.injEq] at ho
        have HJ := Lib.hid hJ
        clear hJ
        subst ho
        refine Pj.Step.free rfl ?_
        simp only [Pj.puts, List.foldl_cons, List.foldl_nil, Act.put, List.setIfInBounds_toArray, List.set_cons_zero, List.set_cons_succ]
        go_simp
        exact hK _ _ ⟨Pj.vset V 1 (.string ti), by simp only [Pj.puts, List.foldl_cons, List.foldl_nil, Act.put, List.setIfInBounds_toArray, List.set_cons_zero, List.set_cons_succ, Pj.vset, Nat.reduceEqDiff, if_true, if_false], HJ.out.more (by decide) hopen hL (Kept.refl _) (fun e => by cases e) (fun e => by cases e) (fun e => by cases e) (fun _ => rfl) (fun e => by cases e) (fun e => by cases e)⟩
      | 2, ho =>
        simp only [List.getElem?_toArray, List.getElem?_cons_zero, List.getElem?_cons_succ, Option.some.injEq] at ho
        have l1 := hdep 1 (by rw [← ho]; kernel_rfl)
        have e1 : V 1 = .string ti := hJ.e1 (hdep 1 (by rw [← ho]; kernel_rfl))
        have HJ := Lib.hid hJ
        clear hJ
        subst ho
        refine Pj.Step.free rfl ?_
        simp only [Pj.puts, List.foldl_cons, List.foldl_nil, Act.put, List.setIfInBounds_toArray, List.set_cons_zero, List.set_cons_succ, e1]
        go_simp
        refine (CallsIn.inRound l (callsIn_wide.2 (HCL.out _))).mono ?_
        rintro e w9 ⟨rfl, hk9⟩
        exact hK _ _ ⟨Pj.vset V 2 (.string ti), by simp only [Pj.puts, List.foldl_cons, List.foldl_nil, Act.put, List.setIfInBounds_toArray, List.set_cons_zero, List.set_cons_succ, Pj.vset, Nat.reduceEqDiff, if_true, if_false, e1], HJ.out.more (by decide) hopen hL hk9 (fun _ => l1) (fun e => by cases e) (fun e => by cases e) (fun e => by cases e) (fun _ => rfl) (fun e => by cases e)⟩
      | 3, ho =>
        simp only [List.getElem?_toArray, List.getElem?_cons_zero, List.getElem?_cons_succ, Option.some.injEq] at ho
        have l2 := hdep 2 (by rw [← ho]; kernel_rfl)
        have e2 : V 2 = .string ti := hJ.e2 (hdep 2 (by rw [← ho]; kernel_rfl))
        have HJ := Lib.hid hJ
        clear hJ
        subst ho
        refine Pj.Step.free rfl ?_
        simp only [Pj.puts, List.foldl_cons, List.foldl_nil, Act.put, List.setIfInBounds_toArray, List.set_cons_zero, List.set_cons_succ, e2]
        go_simp
        exact hK _ _ ⟨Pj.vset V 3 (.slice (some ⟨w'.heap.size, 0, none⟩) 1 1), by simp only [Pj.puts, List.foldl_cons, List.foldl_nil, Act.put, List.setIfInBounds_toArray, List.set_cons_zero, List.set_cons_succ, Pj.vset, Nat.reduceEqDiff, if_true, if_false, e2], HJ.out.more (by decide) hopen hL ((Kept.refl _).alloc _) (fun e => by cases e) (fun _ => l2) (fun e => by cases e) (fun e => by cases e) (fun e => by cases e) (fun _ => ⟨w'.heap.size, rfl, by simp, by rw [cell_new]; rfl⟩)⟩
      | 4, ho =>
        simp only [List.getElem?_toArray, List.getElem?_cons_zero, List.getElem?_cons_succ, Option.some.injEq] at ho
        have e0 : V 0 = v := hJ.e0 (hdep 0 (by rw [← ho]; kernel_rfl))
        have l3 := hdep 3 (by rw [← ho]; kernel_rfl)
        obtain ⟨b, e3, hbl, hbc⟩ := hJ.e3 l3 hopen
        have k1 := hJ.s0 hopen
        have l0 := hdep 0 (by rw [← ho]; kernel_rfl)
        have l2 := hJ.o3 l3
        have l1 := hJ.o2 l2
        obtain ⟨i0, hi1, hi2, hi3, hi4⟩ := info_parts Try.infoStr
        obtain ⟨v', w9, hrun, hx9, hg9, _, hb9⟩ := run_append_own_at (P := Try.prog) (w := w') w.heap.size 23 23 9 i0 (.string ByteArray.empty) 1 16 Try.underlying23 hi1 hi2 hi3 hi4 rfl (by decide) v pre.length ps (own_kept HOWN.out k1) ⟨b, 0, none⟩ 1 1 [.string ti] rfl
          (fun j u hj => by
            match j, hj with
            | 0, hj => simp at hj; subst hj; exact hbc) (fun u hu => by simp at hu; subst hu; rfl) (by unfold maxLen; omega) (by omega) (by have := k1.size; omega)
        have HN := Lib.hid (hJ.app hopen hL ⟨l0, l1, l2, l3⟩ (by omega) HOWN.out HVR.out HPL.out HRL.out (fun g hg => HRN.out g (by omega)) hx9 hg9 hb9)
        clear hJ
        subst ho
        refine Pj.Step.free rfl ?_
        simp only [Pj.puts, List.foldl_cons, List.foldl_nil, Act.put, List.setIfInBounds_toArray, List.set_cons_zero, List.set_cons_succ, e0, e3]
        refine operIn_append (fun _ => trivial) _ _ _ rfl rfl rfl hrun ?_
        simp only [Act.put, List.setIfInBounds_toArray, List.set_cons_zero, List.set_cons_succ]
        exact hK _ _ ⟨Pj.vset V 4 v', by simp only [Pj.puts, List.foldl_cons, List.foldl_nil, Act.put, List.setIfInBounds_toArray, List.set_cons_zero, List.set_cons_succ, Pj.vset, Nat.reduceEqDiff, if_true, if_false, e0, e3], HN.out⟩
      | 5, ho =>
        simp only [List.getElem?_toArray, List.getElem?_cons_zero, List.getElem?_cons_succ, Option.some.injEq] at ho
        have l4 := hdep 4 (by rw [← ho]; kernel_rfl)
        have hs4 := hJ.s4 l4 hopen
        have c := box1 hs4
        have f := hs4.free 0
        obtain ⟨a4, n4, c4, e4⟩ := own_slice (hJ.s1 l4).2.2.2.1
        have HJ := Lib.hid hJ
        clear hJ
        subst ho
        refine Pj.Step.free rfl ?_
        simp only [Pj.puts, List.foldl_cons, List.foldl_nil, Act.put, List.setIfInBounds_toArray, List.set_cons_zero, List.set_cons_succ, e4]
        go_simp
        exact hK _ _ ⟨Pj.vset V 5 undef, by simp only [Pj.puts, List.foldl_cons, List.foldl_nil, Act.put, List.setIfInBounds_toArray, List.set_cons_zero, List.set_cons_succ, Pj.vset, Nat.reduceEqDiff, if_false, e4], by
          have h5 := HJ.out.put l4 hopen hL (by omega) HRL.out undef
          rw [e4] at h5
          exact h5⟩
      | n + 6, ho => simp at ho
    case ehe =>
      rintro L a w' ⟨V, rfl, hJ⟩ hall
      obtain ⟨d1, d2, d3, d4, d5⟩ := hJ.s1 (hall 4 (by decide))
      have d6 := hJ.s5 (hall 5 (by decide))
      have hz9 := d1.size
      rw [← HPR.out] at d4
      simp only [Exit.inBlock]
      refine ⟨d1, d2, ⟨V 4, d6, ?_, d5⟩, by omega, HB.out.trans d3⟩
      rw [List.length_append]
      simpa using d4
  case done =>
    rintro D ys W hD hys ⟨⟨v, hpl, hown, hvR⟩, hx2, hB⟩ hK
    have hlen : ys.length = nP t.size q := by have := congrArg List.length hys; rw [ixs_length] at this; simpa using this
    have hmap : ys.map (fun i => Value.string (pcOf t q i.1)) = (pcs t q).map Value.string := by
      unfold pcs
      rw [← hys]
      unfold ixs
      rw [List.map_map, List.map_map]
      rfl
    rw [hlen, hmap] at hown
    obtain ⟨a, cap, rfl, hcap, hst⟩ := strs_own hown (pcs_length t q) (fun z hz => by
      unfold pcs at hz
      rw [List.mem_map] at hz
      obtain ⟨i, _, rfl⟩ := hz
      rw [pcOf_size]
      have := HT.out
      omega)
    have c := box1 hpl
    have HB := Lib.hid hB
    have HST := Lib.hid hst
    clear hpl hown hvR hB hst hmap hlen hys
    go_wp2
    refine ⟨by simp, .inl ⟨_, _, rfl, run_takeDeferred hK, ?_⟩⟩
    have g2 := grown_put W D (.deferred none)
    have k2 : Kept w (W.putObj D (.deferred none)) := Below.grown HB.out g2 (by have := HB.out.size; simp; omega) (fun k e => by cases e; omega)
    refine ⟨.tuple #[.slice a (nP t.size q) cap, .int .i64 0], ?_, a, cap, rfl, hcap, ⟨HST.out.len_eq, HST.out.le, HST.out.sizes, ?_⟩, k2⟩
    · simp [results, Try.f17, go_sem]
    · exact (strs_put HST.out hK rfl).cells
  case stop => rintro _ _ _ _ _ _ h; exact h.elim
set_option maxRecDepth 100000 in
theorem parts_bad (k m s : Int) (t : ByteArray) (hs : ¬ shpB k m s = true) (w : World) :
    Calls Try.prog 17 #[.agg #[.int .i64 k, .int .i64 m, .int .i64 s], .string t] w fun e w' => e = .returned (.tuple #[.slice none 0 0, .int .i64 1]) ∧ Kept w w' := by
  have hE : shpE k m s = 1 := by unfold shpE; rw [if_neg hs]
  have hck := fun w => code_check k m s w
  rw [hE] at hck
  have HCK := Lib.hid hck
  have HK0 := Lib.hid ((Kept.refl w).alloc (.cells #[.int .i64 k, .int .i64 m, .int .i64 s] 31))
  have HB0 := Lib.hid (BlockAt.new w #[.int .i64 k, .int .i64 m, .int .i64 s] 31)
  clear hs hE hck
  go_enter Try.func17, Try.ntmps17
  go_wp2_with fail
  generalize w.alloc (.cells #[.int .i64 k, .int .i64 m, .int .i64 s] 31) = w1 at *
  obtain ⟨a0, a1, a2⟩ := box3c HB0.out
  go_wp2_with fail
  refine (HCK.out _).mono ?_
  rintro e w2 ⟨rfl, hk2⟩
  have HK2 := Lib.hid (HK0.out.trans hk2)
  clear a0 a1 a2 hk2
  go_wp2
  go_ret2
  exact ⟨rfl, HK2.out⟩
set_option maxRecDepth 100000 in
theorem parts_long (k m s : Int) (t : ByteArray) (hs : shpB k m s = true) (ht : 2000 < t.size) (w : World) :
    Calls Try.prog 17 #[.agg #[.int .i64 k, .int .i64 m, .int .i64 s], .string t] w fun e w' => e = .returned (.tuple #[.slice none 0 0, .int .i64 2]) ∧ Kept w w' := by
  have hE : shpE k m s = 0 := by unfold shpE; rw [if_pos hs]
  have hck := fun w => code_check k m s w
  rw [hE] at hck
  have HCK := Lib.hid hck
  have HK0 := Lib.hid ((Kept.refl w).alloc (.cells #[.int .i64 k, .int .i64 m, .int .i64 s] 31))
  have HB0 := Lib.hid (BlockAt.new w #[.int .i64 k, .int .i64 m, .int .i64 s] 31)
  have hd : decide (2000 < (t.size : Int)) = true := decide_eq_true (by omega)
  clear hs hE hck
  go_enter Try.func17, Try.ntmps17
  go_wp2_with fail
  generalize w.alloc (.cells #[.int .i64 k, .int .i64 m, .int .i64 s] 31) = w1 at *
  obtain ⟨a0, a1, a2⟩ := box3c HB0.out
  go_wp2_with fail
  refine (HCK.out _).mono ?_
  rintro e w2 ⟨rfl, hk2⟩
  have HK2 := Lib.hid (HK0.out.trans hk2)
  clear a0 a1 a2 hk2
  go_wp2
  go_ret2
  exact ⟨rfl, HK2.out⟩
end Go.Proofs.Ytlncjheifkbomaa
