/- The walk of the law CutEnds: it answers true and changes nothing that was there (no conditions). -/
import Derived.Test.YtlncjheifkbomaaCutM
import Derived.Test.YtlncjheifkbomaaCutH
import Derived.Test.YtlncjheifkbomaaEqS
import Derived.Test.YtlncjheifkbomaaPj
import Derived.Test.YtlncjheifkbomaaSt
import Derived.Test.YtlncjheifkbomaaRl9
import Derived.Deep.RegionWith
namespace Go.Proofs.Ytlncjheifkbomaa
open Go.RowKit

/-- a statement whose ways all end in one frame and one world -/
theorem wp_told {P : Program} {c : Code} {K : Act → World → Prop} {Q : Exit → Act → World → Prop} {a : Act} {w : World} {A : Act} {W : World} (h : ∀ K' : Act → World → Prop, K' A W → c.wp P (Exit.then K' Q) a w) (k : K A W) : c.wp P (Exit.then K Q) a w := h K k
theorem box4c {W : World} {b : Nat} {x y z u : Value} {t : TypeId} (h : BlockAt W b #[x, y, z, u] t) : W.cell? ⟨b, 0, none⟩ = some x ∧ W.cell? ⟨b, 1, none⟩ = some y ∧ W.cell? ⟨b, 2, none⟩ = some z ∧ W.cell? ⟨b, 3, none⟩ = some u :=
  ⟨by simpa using h.cell 0, by simpa using h.cell 1, by simpa using h.cell 2, by simpa using h.cell 3⟩
set_option maxRecDepth 100000 in
set_option maxHeartbeats 8000000 in
theorem cut_ends (ax : Option Addr) (ls cs : Nat) (al : Option Addr) (ll cl : Nat) (ss : List ByteArray) (ab : Option Addr) (lb cb : Nat) (n0 : Int) (W : World) (h : AskC W ax ls cs al ll cl ss) (hn : -9223372036854775808 ≤ n0 ∧ n0 ≤ 9223372036854775807) :
    Calls Try.prog 6 #[.agg #[.slice ax ls cs, .slice al ll cl, .slice ab lb cb, .int .i64 n0]] W fun e W' => e = .returned (.bool true) ∧ Below W.heap.size W W' := by
  have HA := Lib.hid h
  have HN := Lib.hid hn
  clear h hn
  have HK1 := Lib.hid ((Kept.refl W).alloc (.cells #[.slice ax ls cs, .slice al ll cl, .slice ab lb cb, .int .i64 n0] 28))
  have hB1 := BlockAt.new W #[.slice ax ls cs, .slice al ll cl, .slice ab lb cb, .int .i64 n0] 28
  go_enter Try.func6, Try.ntmps6
  go_upto_region 1 with (fail)
  generalize W.alloc (.cells #[.slice ax ls cs, .slice al ll cl, .slice ab lb cb, .int .i64 n0] 28) = w1 at *
  have hread : ∀ w, Kept w1 w → w.cell? ⟨W.heap.size, 0, none⟩ = some (.slice ax ls cs) ∧ w.cell? ⟨W.heap.size, 1, none⟩ = some (.slice al ll cl) ∧ w.cell? ⟨W.heap.size, 2, none⟩ = some (.slice ab lb cb) ∧ w.cell? ⟨W.heap.size, 3, none⟩ = some (.int .i64 n0) := fun w k => box4c (hB1.kept k)
  have HREAD := Lib.hid hread
  clear hread hB1
  obtain ⟨a0, a1, a2, a3⟩ := HREAD.out _ (Kept.refl _)
  go_wp2_with fail
  refine (heavy4_any ax ls cs al ll cl ss ab lb cb _ (HA.out.kept HK1.out)).mono ?_
  rintro e w2 ⟨he, hk2⟩
  have HK2 := Lib.hid hk2
  clear hk2 a0 a1 a2 a3
  rcases he with rfl | ⟨rfl, hll, hls, hsz⟩
  · go_wp2
    go_ret
    exact ⟨rfl, HK1.out.trans HK2.out⟩
  · have HSZ := Lib.hid hsz
    clear hsz
    go_upto_region 3 with (fail)
    obtain ⟨a0, a1, a2, a3⟩ := HREAD.out _ HK2.out
    obtain ⟨n5, hn5⟩ : ∃ n5 : Int, n0.tdiv 5 = n5 := ⟨_, rfl⟩
    have h5b : -9223372036854775808 ≤ n5 ∧ n5 ≤ 9223372036854775807 := by
      have hb := HN.out
      rw [← hn5]
      by_cases h0 : 0 ≤ n0
      · rw [Int.tdiv_eq_ediv_of_nonneg h0]; omega
      · obtain ⟨p0, hp0⟩ : ∃ p0 : Int, n0 = -p0 := ⟨-n0, by omega⟩
        rw [hp0, Int.neg_tdiv, Int.tdiv_eq_ediv_of_nonneg (by omega)]; omega
    have h5w : IntKind.i64.wrap n5 = n5 := IntWalk.i64_in _ h5b
    obtain ⟨k1, hk1⟩ : ∃ k1 : Nat, k1 = wthn n0 5 := ⟨_, rfl⟩
    obtain ⟨s1, hs1⟩ : ∃ s1 : Nat, s1 = wthn n5 9 := ⟨_, rfl⟩
    have hk5 : k1 < 5 := by rw [hk1]; exact wthn_lt _ (by omega)
    have hs9 : s1 < 9 := by rw [hs1]; exact wthn_lt _ (by omega)
    have HW1 := Lib.hid (fun u => within_ref n0 5 (by omega) u)
    rw [← hk1, show ((5 : Nat) : Int) = 5 from rfl] at HW1
    have HW2 := Lib.hid (fun u => within_ref n5 9 (by omega) u)
    rw [← hs1, show ((9 : Nat) : Int) = 9 from rfl] at HW2
    obtain ⟨kn, hkn⟩ : ∃ kn : Nat, kn = 1 + k1 := ⟨_, rfl⟩
    obtain ⟨sn, hsn⟩ : ∃ sn : Nat, sn = 1 + s1 := ⟨_, rfl⟩
    have e1 : (1 : Int) + (k1 : Int) = (kn : Int) := by omega
    have e2 : (1 : Int) + (s1 : Int) = (sn : Int) := by omega
    have e1w : IntKind.i64.wrap (kn : Int) = (kn : Int) := IntWalk.i64_in _ (by omega)
    have e2w : IntKind.i64.wrap (sn : Int) = (sn : Int) := IntWalk.i64_in _ (by omega)
    have hkb : 1 ≤ kn ∧ kn ≤ 5 := by omega
    have hsb : 1 ≤ sn ∧ sn ≤ 9 := by omega
    clear hk1 hs1 hkn hsn h5b
    clear a0 a1 a2 a3
    go_wp2_with fail
    refine Pj.wp_region_step (fun a0 L a w => ∃ V : Nat → Value, a = Pj.puts [(19, 0), (20, 1), (21, 2), (22, 3), (23, 4), (24, 5), (25, 6), (26, 7), (27, 8), (28, 9), (3, 10)] V a0 ∧ Pj.JS w2 [Pj.Is (.pointer (some ⟨W.heap.size, 3, none⟩)), Pj.Is (.int .i64 n0), Pj.Is (.int .i64 (k1 : Int)), Pj.Is (.int .i64 (kn : Int)), Pj.Is (.pointer (some ⟨W.heap.size, 3, none⟩)), Pj.Is (.int .i64 n0), Pj.Is (.int .i64 n5), Pj.Is (.int .i64 (s1 : Int)), Pj.Is (.int .i64 (sn : Int)), Pj.Is (.agg #[.int .i64 (kn : Int), .int .i64 1, .int .i64 (sn : Int)]), Pj.Ptr w2, (fun _ _ => True)] 10 11 #[.int .i64 0, .int .i64 0, .int .i64 0] #[.int .i64 (kn : Int), .int .i64 1, .int .i64 (sn : Int)] 31 L V w) (by as_aux_lemma => kernel_rfl) (by as_aux_lemma => kernel_rfl) ?eh0 ?ehs ?ehe
    case eh0 =>
      intro L hL
      exact ⟨_, Pj.puts_self _ (fun j => ([19, 20, 21, 22, 23, 24, 25, 26, 27, 28, 3, 0] : List Nat).getD j 0) [0, 1, 2, 3, 4, 5, 6, 7, 8, 9, 10], Pj.JS.start (n := 12) (Nat.le_refl _) (by decide) (by decide) hL ((Kept.refl _).drew)⟩
    case ehs =>
      rintro L L' a w i op K ⟨V, rfl, hJ⟩ ho hopen hdep hL hK
      have hP : Pj.AllFlat [Pj.Is (.pointer (some ⟨W.heap.size, 3, none⟩)), Pj.Is (.int .i64 n0), Pj.Is (.int .i64 (k1 : Int)), Pj.Is (.int .i64 (kn : Int)), Pj.Is (.pointer (some ⟨W.heap.size, 3, none⟩)), Pj.Is (.int .i64 n0), Pj.Is (.int .i64 n5), Pj.Is (.int .i64 (s1 : Int)), Pj.Is (.int .i64 (sn : Int)), Pj.Is (.agg #[.int .i64 (kn : Int), .int .i64 1, .int .i64 (sn : Int)]), Pj.Ptr w2, (fun _ _ => True)] := ⟨Pj.Is.flat _, Pj.Is.flat _, Pj.Is.flat _, Pj.Is.flat _, Pj.Is.flat _, Pj.Is.flat _, Pj.Is.flat _, Pj.Is.flat _, Pj.Is.flat _, Pj.Is.flat _, Pj.Ptr.flat _, (fun _ _ _ _ _ => trivial), trivial⟩
      have HP := Lib.hid hP
      clear hP
      match i, ho with
      | 0, ho =>
        simp only [List.getElem?_toArray, List.getElem?_cons_zero, Option.some.injEq] at ho
        have HJ := Lib.hid hJ
        clear hJ
        subst ho
        refine Pj.Step.free rfl ?_
        simp only [Pj.puts, List.foldl_cons, List.foldl_nil, Act.put, List.setIfInBounds_toArray, List.set_cons_zero, List.set_cons_succ]
        go_simp
        exact hK _ _ ⟨Pj.vset V 0 (.pointer (some ⟨W.heap.size, 3, none⟩)), by simp only [Pj.puts, List.foldl_cons, List.foldl_nil, Act.put, List.setIfInBounds_toArray, List.set_cons_zero, List.set_cons_succ, Pj.vset, Nat.reduceEqDiff, if_true, if_false], HJ.out.more HP.out (by decide) (by decide) hL (Kept.refl _) (rfl)⟩
      | 1, ho =>
        simp only [List.getElem?_toArray, List.getElem?_cons_zero, List.getElem?_cons_succ, Option.some.injEq] at ho
        have e0 : V 0 = .pointer (some ⟨W.heap.size, 3, none⟩) := hJ.h 0 (hdep 0 (by rw [← ho]; kernel_rfl))
        obtain ⟨a0, a1, a2, a3⟩ := HREAD.out _ (HK2.out.trans hJ.kp)
        have HJ := Lib.hid hJ
        clear hJ
        subst ho
        refine Pj.Step.free rfl ?_
        simp only [Pj.puts, List.foldl_cons, List.foldl_nil, Act.put, List.setIfInBounds_toArray, List.set_cons_zero, List.set_cons_succ, e0]
        go_simp
        exact hK _ _ ⟨Pj.vset V 1 (.int .i64 n0), by simp only [Pj.puts, List.foldl_cons, List.foldl_nil, Act.put, List.setIfInBounds_toArray, List.set_cons_zero, List.set_cons_succ, Pj.vset, Nat.reduceEqDiff, if_true, if_false, e0], HJ.out.more HP.out (by decide) (by decide) hL (Kept.refl _) (rfl)⟩
      | 2, ho =>
        simp only [List.getElem?_toArray, List.getElem?_cons_zero, List.getElem?_cons_succ, Option.some.injEq] at ho
        have e1 : V 1 = .int .i64 n0 := hJ.h 1 (hdep 1 (by rw [← ho]; kernel_rfl))
        have HJ := Lib.hid hJ
        clear hJ
        subst ho
        refine Pj.Step.free rfl ?_
        simp only [Pj.puts, List.foldl_cons, List.foldl_nil, Act.put, List.setIfInBounds_toArray, List.set_cons_zero, List.set_cons_succ, e1]
        go_simp
        refine (HW1.out _).mono ?_
        rintro e u ⟨rfl, rfl⟩
        exact hK _ _ ⟨Pj.vset V 2 (.int .i64 (k1 : Int)), by simp only [Pj.puts, List.foldl_cons, List.foldl_nil, Act.put, List.setIfInBounds_toArray, List.set_cons_zero, List.set_cons_succ, Pj.vset, Nat.reduceEqDiff, if_true, if_false, e1], HJ.out.more HP.out (by decide) (by decide) hL (Kept.refl _) (rfl)⟩
      | 3, ho =>
        simp only [List.getElem?_toArray, List.getElem?_cons_zero, List.getElem?_cons_succ, Option.some.injEq] at ho
        have e2 : V 2 = .int .i64 (k1 : Int) := hJ.h 2 (hdep 2 (by rw [← ho]; kernel_rfl))
        have HJ := Lib.hid hJ
        clear hJ
        subst ho
        refine Pj.Step.free rfl ?_
        simp only [Pj.puts, List.foldl_cons, List.foldl_nil, Act.put, List.setIfInBounds_toArray, List.set_cons_zero, List.set_cons_succ, e2]
        go_simp
        exact hK _ _ ⟨Pj.vset V 3 (.int .i64 (kn : Int)), by simp only [Pj.puts, List.foldl_cons, List.foldl_nil, Act.put, List.setIfInBounds_toArray, List.set_cons_zero, List.set_cons_succ, Pj.vset, Nat.reduceEqDiff, if_true, if_false, e2], HJ.out.more HP.out (by decide) (by decide) hL (Kept.refl _) (rfl)⟩
      | 4, ho =>
        simp only [List.getElem?_toArray, List.getElem?_cons_zero, List.getElem?_cons_succ, Option.some.injEq] at ho
        have HJ := Lib.hid hJ
        clear hJ
        subst ho
        refine Pj.Step.free rfl ?_
        simp only [Pj.puts, List.foldl_cons, List.foldl_nil, Act.put, List.setIfInBounds_toArray, List.set_cons_zero, List.set_cons_succ]
        go_simp
        exact hK _ _ ⟨Pj.vset V 4 (.pointer (some ⟨W.heap.size, 3, none⟩)), by simp only [Pj.puts, List.foldl_cons, List.foldl_nil, Act.put, List.setIfInBounds_toArray, List.set_cons_zero, List.set_cons_succ, Pj.vset, Nat.reduceEqDiff, if_true, if_false], HJ.out.more HP.out (by decide) (by decide) hL (Kept.refl _) (rfl)⟩
      | 5, ho =>
        simp only [List.getElem?_toArray, List.getElem?_cons_zero, List.getElem?_cons_succ, Option.some.injEq] at ho
        have e4 : V 4 = .pointer (some ⟨W.heap.size, 3, none⟩) := hJ.h 4 (hdep 4 (by rw [← ho]; kernel_rfl))
        obtain ⟨a0, a1, a2, a3⟩ := HREAD.out _ (HK2.out.trans hJ.kp)
        have HJ := Lib.hid hJ
        clear hJ
        subst ho
        refine Pj.Step.free rfl ?_
        simp only [Pj.puts, List.foldl_cons, List.foldl_nil, Act.put, List.setIfInBounds_toArray, List.set_cons_zero, List.set_cons_succ, e4]
        go_simp
        exact hK _ _ ⟨Pj.vset V 5 (.int .i64 n0), by simp only [Pj.puts, List.foldl_cons, List.foldl_nil, Act.put, List.setIfInBounds_toArray, List.set_cons_zero, List.set_cons_succ, Pj.vset, Nat.reduceEqDiff, if_true, if_false, e4], HJ.out.more HP.out (by decide) (by decide) hL (Kept.refl _) (rfl)⟩
      | 6, ho =>
        simp only [List.getElem?_toArray, List.getElem?_cons_zero, List.getElem?_cons_succ, Option.some.injEq] at ho
        have e5 : V 5 = .int .i64 n0 := hJ.h 5 (hdep 5 (by rw [← ho]; kernel_rfl))
        have HJ := Lib.hid hJ
        clear hJ
        subst ho
        refine Pj.Step.free rfl ?_
        simp only [Pj.puts, List.foldl_cons, List.foldl_nil, Act.put, List.setIfInBounds_toArray, List.set_cons_zero, List.set_cons_succ, e5]
        go_simp
        exact hK _ _ ⟨Pj.vset V 6 (.int .i64 n5), by simp only [Pj.puts, List.foldl_cons, List.foldl_nil, Act.put, List.setIfInBounds_toArray, List.set_cons_zero, List.set_cons_succ, Pj.vset, Nat.reduceEqDiff, if_true, if_false, e5], HJ.out.more HP.out (by decide) (by decide) hL (Kept.refl _) (rfl)⟩
      | 7, ho =>
        simp only [List.getElem?_toArray, List.getElem?_cons_zero, List.getElem?_cons_succ, Option.some.injEq] at ho
        have e6 : V 6 = .int .i64 n5 := hJ.h 6 (hdep 6 (by rw [← ho]; kernel_rfl))
        have HJ := Lib.hid hJ
        clear hJ
        subst ho
        refine Pj.Step.free rfl ?_
        simp only [Pj.puts, List.foldl_cons, List.foldl_nil, Act.put, List.setIfInBounds_toArray, List.set_cons_zero, List.set_cons_succ, e6]
        go_simp
        refine (HW2.out _).mono ?_
        rintro e u ⟨rfl, rfl⟩
        exact hK _ _ ⟨Pj.vset V 7 (.int .i64 (s1 : Int)), by simp only [Pj.puts, List.foldl_cons, List.foldl_nil, Act.put, List.setIfInBounds_toArray, List.set_cons_zero, List.set_cons_succ, Pj.vset, Nat.reduceEqDiff, if_true, if_false, e6], HJ.out.more HP.out (by decide) (by decide) hL (Kept.refl _) (rfl)⟩
      | 8, ho =>
        simp only [List.getElem?_toArray, List.getElem?_cons_zero, List.getElem?_cons_succ, Option.some.injEq] at ho
        have e7 : V 7 = .int .i64 (s1 : Int) := hJ.h 7 (hdep 7 (by rw [← ho]; kernel_rfl))
        have HJ := Lib.hid hJ
        clear hJ
        subst ho
        refine Pj.Step.free rfl ?_
        simp only [Pj.puts, List.foldl_cons, List.foldl_nil, Act.put, List.setIfInBounds_toArray, List.set_cons_zero, List.set_cons_succ, e7]
        go_simp
        exact hK _ _ ⟨Pj.vset V 8 (.int .i64 (sn : Int)), by simp only [Pj.puts, List.foldl_cons, List.foldl_nil, Act.put, List.setIfInBounds_toArray, List.set_cons_zero, List.set_cons_succ, Pj.vset, Nat.reduceEqDiff, if_true, if_false, e7], HJ.out.more HP.out (by decide) (by decide) hL (Kept.refl _) (rfl)⟩
      | 9, ho =>
        simp only [List.getElem?_toArray, List.getElem?_cons_zero, List.getElem?_cons_succ, Option.some.injEq] at ho
        have e3 : V 3 = .int .i64 (kn : Int) := hJ.h 3 (hdep 3 (by rw [← ho]; kernel_rfl))
        have e8 : V 8 = .int .i64 (sn : Int) := hJ.h 8 (hdep 8 (by rw [← ho]; kernel_rfl))
        have HJ := Lib.hid hJ
        clear hJ
        subst ho
        refine Pj.Step.free rfl ?_
        simp only [Pj.puts, List.foldl_cons, List.foldl_nil, Act.put, List.setIfInBounds_toArray, List.set_cons_zero, List.set_cons_succ, e3, e8]
        go_simp
        exact hK _ _ ⟨Pj.vset V 9 (.agg #[.int .i64 (kn : Int), .int .i64 1, .int .i64 (sn : Int)]), by simp only [Pj.puts, List.foldl_cons, List.foldl_nil, Act.put, List.setIfInBounds_toArray, List.set_cons_zero, List.set_cons_succ, Pj.vset, Nat.reduceEqDiff, if_true, if_false, e3, e8], HJ.out.more HP.out (by decide) (by decide) hL (Kept.refl _) (rfl)⟩
      | 10, ho =>
        simp only [List.getElem?_toArray, List.getElem?_cons_zero, List.getElem?_cons_succ, Option.some.injEq] at ho
        have HJ := Lib.hid hJ
        clear hJ
        subst ho
        refine Pj.Step.free rfl ?_
        refine Pj.oper_alloc_block 31 rfl #[.int .i64 0, .int .i64 0, .int .i64 0] (by kernel_rfl) ?_
        simp only [Pj.puts, List.foldl_cons, List.foldl_nil, Act.put, List.setIfInBounds_toArray, List.set_cons_zero, List.set_cons_succ]
        exact hK _ _ ⟨Pj.vset V 10 (.pointer (some ⟨w.heap.size, 0, none⟩)), by simp only [Pj.puts, List.foldl_cons, List.foldl_nil, Act.put, List.setIfInBounds_toArray, List.set_cons_zero, List.set_cons_succ, Pj.vset, Nat.reduceEqDiff, if_true, if_false], HJ.out.made HP.out (by decide) hopen hL rfl⟩
      | 11, ho =>
        simp only [List.getElem?_toArray, List.getElem?_cons_zero, List.getElem?_cons_succ, Option.some.injEq] at ho
        have lia := hdep 10 (by rw [← ho]; kernel_rfl)
        obtain ⟨b, e10, hwb, hbz⟩ := hJ.z lia hopen
        have e9 : V 9 = .agg #[.int .i64 (kn : Int), .int .i64 1, .int .i64 (sn : Int)] := hJ.h 9 (hdep 9 (by rw [← ho]; kernel_rfl))
        have HJ := Lib.hid hJ
        clear hJ
        subst ho
        refine Pj.Step.free rfl ?_
        simp only [Pj.puts, List.foldl_cons, List.foldl_nil, Act.put, List.setIfInBounds_toArray, List.set_cons_zero, List.set_cons_succ, e10, e9]
        refine Pj.oper_store_block 31 _ _ rfl b #[.int .i64 (kn : Int), .int .i64 1, .int .i64 (sn : Int)] #[.int .i64 0, .int .i64 0, .int .i64 0] 31 rfl rfl hbz (by kernel_rfl) rfl (by simp [Value.oneCell']) ?_
        exact hK _ _ ⟨Pj.vset V 11 undef, by simp only [Pj.puts, List.foldl_cons, List.foldl_nil, Act.put, List.setIfInBounds_toArray, List.set_cons_zero, List.set_cons_succ, Pj.vset, Nat.reduceEqDiff, if_false, e10, e9], HJ.out.stored HP.out (by decide) lia hL e10 hwb hbz rfl⟩
      | n + 12, ho => simp at ho
    case ehe =>
      rintro L a w ⟨V, rfl, hJ⟩ hall
      obtain ⟨b, e10, hwb, hbx⟩ := hJ.x (hall 11 (by decide))
      have HKj := Lib.hid hJ.kp
      clear hJ hall
      simp only [Pj.puts, List.foldl_cons, List.foldl_nil, Act.put, List.setIfInBounds_toArray, List.set_cons_zero, List.set_cons_succ, e10]
      clear e10
      have HK3 := Lib.hid (HK2.out.trans HKj.out)
      obtain ⟨w3, rfl⟩ : ∃ w3, w3 = w := ⟨_, rfl⟩
      have hs4 : ∀ u, Kept w3 u → u.cell? ⟨b, 0, none⟩ = some (.int .i64 (kn : Int)) ∧ u.cell? ⟨b, 1, none⟩ = some (.int .i64 1) ∧ u.cell? ⟨b, 2, none⟩ = some (.int .i64 (sn : Int)) := fun u ku => box3c (hbx.kept ku)
      have HS4 := Lib.hid hs4
      obtain ⟨q, hq⟩ : ∃ q : Nat, q = kn * sn := ⟨_, rfl⟩
      have hmul : (kn : Int) * (sn : Int) = (q : Int) := by rw [hq]; simp
      have hq45 : q ≤ 45 := by rw [hq]; exact Nat.le_trans (Nat.mul_le_mul hkb.2 hsb.2) (by decide)
      have hq1 : 1 ≤ q := by rw [hq]; exact Nat.mul_pos (by omega) (by omega)
      have HQ := Lib.hid hmul
      have HSH := Lib.hid (show shpB (kn : Int) 1 (sn : Int) = true by unfold shpB; exact decide_eq_true (by omega))
      obtain ⟨c0, c1, c2⟩ := HS4.out _ (Kept.refl _)
      clear hs4 hbx hwb HKj hq e1 e2 e1w e2w h5w hn5 HW1 HW2 HREAD hk5 hs9
      go_upto_region 5 with (fail)
      clear hmul c0 c1 c2
      go_wp2_with fail
      go_loopw [5] (fun i wr => ∃ n : Nat, n ≤ 3 * q + 2 ∧ i = .int .i64 n ∧ Kept w3 wr) (fun i _ => 3 * q + 2 - (intOf i).toNat)
      case atStart => exact ⟨0, by omega, rfl, Kept.refl _⟩
      case round =>
        obtain ⟨n, hn, rfl, hkr⟩ := hrel
        have HKr0 := Lib.hid hkr
        clear hkr
        obtain ⟨m3, hm3⟩ : ∃ m3 : Nat, m3 = 3 * q := ⟨_, rfl⟩
        have f1 : 3 * (q : Int) = (m3 : Int) := by omega
        obtain ⟨m4, hm4⟩ : ∃ m4 : Nat, m4 = m3 + 1 := ⟨_, rfl⟩
        have f2 : (m3 : Int) + 1 = (m4 : Int) := by omega
        have HM := Lib.hid (show m4 = 3 * q + 1 by omega)
        have hmb : m3 ≤ 135 := by omega
        have hmb4 : m4 ≤ 136 := by omega
        clear hm3 hm4
        by_cases hnl : n ≤ m4
        · have hd1 : decide ((n : Int) ≤ (m4 : Int)) = true := decide_eq_true (by omega)
          have hn136 : n ≤ 136 := by omega
          have hmk : ∀ w : World, (Instr.makeSlice 55 (.int .i64 n) (.int .i64 n)).run Try.prog w = .ok (.slice (some ⟨w.heap.size, 0, none⟩) n n) (w.alloc (.cells (madeCells #[.int .u8 0] n) 5)) := makeB n (by omega)
          have hbf := madeB wr n
          generalize madeCells #[.int .u8 0] n = Z at hmk hbf
          go_upto_region 9 with (fail)
          have HKa := Lib.hid (HKr0.out.alloc (.cells Z 5))
          have HBF := Lib.hid hbf
          obtain ⟨B, hB⟩ : ∃ B, B = wr.heap.size := ⟨_, rfl⟩
          rw [← hB] at HBF ⊢
          have HBW := Lib.hid (show w3.heap.size ≤ B by have := HKr0.out.size; omega)
          clear hbf hmk f1 f2 hd1 hB
          generalize wr.alloc (.cells Z 5) = wa at *
          go_wp2_with fail
          go_loopw [7] (fun i wx => ∃ (k : Nat) (l : List UInt8), k ≤ n ∧ i = .int .i64 k ∧ l.length = n ∧ Buf wx B l ∧ Kept w3 wx) (fun i _ => n - (intOf i).toNat)
          case atStart => exact ⟨0, _, by omega, rfl, List.length_replicate, HBF.out, HKa.out⟩
          case round =>
            obtain ⟨k, l, hk, rfl, hl, hbf, hkx⟩ := hrel
            have HKx := Lib.hid hkx
            have HB2 := Lib.hid hbf
            clear hkx
            by_cases hkn : k < n
            · have hd2 : decide ((k : Int) < n) = true := decide_eq_true (by omega)
              have hkl : k < l.length := by omega
              have bc := hbf.cell k hkl
              have bfr := hbf.free k hkl
              obtain ⟨k1, hk1⟩ : ∃ k1 : Nat, k1 = k + 1 := ⟨_, rfl⟩
              have g1 : (k : Int) + 1 = (k1 : Int) := by omega
              have g2 : IntKind.u8.wrap (k1 : Int) = (k1 : Int) := by show (k1 : Int) % 256 = _; omega
              have hst := hbf.set k hkl (UInt8.ofNat k1)
              rw [show (((UInt8.ofNat k1).toNat : Nat) : Int) = (k1 : Int) by rw [UInt8.toNat_ofNat']; omega] at hst
              have HST := Lib.hid hst
              have HKK := Lib.hid hk1
              have HLN := Lib.hid hl
              clear hst hbf hk1 hl
              go_wp2
              go_roundw
              case rel => exact ⟨k + 1, l.set k (UInt8.ofNat k1), by omega, by have := HKK.out; go_num, by rw [List.length_set]; exact HLN.out, HST.out, HKx.out.setCell (p := ⟨B, k, none⟩) HBW.out _⟩
              case measure => simp [intOf]; omega
            · obtain rfl : k = n := by omega
              have hd2 : decide ((k : Int) < k) = false := decide_eq_false (by omega)
              obtain ⟨t, ht⟩ : ∃ t : ByteArray, (⟨l.toArray⟩ : ByteArray) = t := ⟨_, rfl⟩
              have hts : t.size = k := by rw [← ht]; show l.toArray.size = k; simp [hl]
              have HTL := Lib.hid ht
              have HLL := Lib.hid hl
              have hcv := hbf.string (P := Try.prog) 55 9 5 Try.underlying55 Try.underlying5 Try.underlying9 k
              rw [hl, ht] at hcv
              have ht2 : t.size ≤ 2000 := by omega
              have hgood := fun w => parts_good (kn : Int) 1 (sn : Int) t HSH.out ht2 w
              have href := fun w => parts_ref (kn : Int) 1 (sn : Int) t HSH.out ht2 w
              rw [HQ.out, Int.toNat_natCast] at hgood href
              have HG := Lib.hid hgood
              have HRF := Lib.hid href
              have HCT := Lib.hid (cat_take t q hq1)
              have HSNAP := Lib.hid (fun z (hz : z < nP t.size q) => show cat ((pcs t q).take (z + 1)) = cat ((pcs t q).take z) ++ (pcs t q).getD z ByteArray.empty by rw [pcs_take t q z hz, cat_snoc, pcs_getD t q z hz])
              have HBD := Lib.hid (fun z (hz : z < nP t.size q) => show 1 ≤ ((pcs t q).getD z ByteArray.empty).size ∧ ((pcs t q).getD z ByteArray.empty).size ≤ q by rw [pcs_getD t q z hz]; exact pcOf_bounds t q z hq1 hz)
              have hnn : nP t.size q ≤ 2000 := by
                have h1 : nP t.size q ≤ t.size := Nat.not_lt.1 (fun h => by have := (nP_lt hq1).1 h; have := Nat.le_mul_of_pos_right t.size hq1; omega)
                omega
              obtain ⟨N, hN⟩ : ∃ N, nP t.size q = N := ⟨_, rfl⟩
              rw [hN] at HG HRF HSNAP HBD HCT hnn
              have HNN := Lib.hid hN
              clear hN hgood href hbf ht hl
              obtain ⟨c0, c1, c2⟩ := HS4.out _ HKx.out
              go_wp2_with fail
              refine (HG.out _).mono ?_
              rintro e w5 ⟨ap, cp, rfl, hcp, hst, hk5⟩
              have HPS5 := Lib.hid hst
              have HK5 := Lib.hid (HKx.out.trans hk5)
              have HB5 := Lib.hid (HB2.out.kept hk5)
              clear hst hk5 c0 c1 c2 hcv
              go_wp2_with fail
              refine (num7_any _ _).mono ?_
              rintro e w' ⟨rfl, rfl⟩
              obtain ⟨c0, c1, c2⟩ := HS4.out _ HK5.out
              have hcv := HB5.out.string (P := Try.prog) 55 9 5 Try.underlying55 Try.underlying5 Try.underlying9 k
              rw [HLL.out, HTL.out] at hcv
              go_wp2_with fail
              refine (HRF.out _).mono ?_
              rintro e w7 ⟨aq, cq, rfl, hcq, hst, hk7⟩
              have HPQ7 := Lib.hid hst
              have HPS7 := Lib.hid (HPS5.out.kept hk7)
              have HK7 := Lib.hid (HK5.out.trans hk7)
              have HB7 := Lib.hid (HB5.out.kept hk7)
              clear hst hk7 c0 c1 c2 hcv
              go_wp2_with fail
              refine (eq_strings ap aq N cp cq (pcs t q) _ HPS7.out HPQ7.out).mono ?_
              rintro e w6 ⟨rfl, hk6⟩
              have HKb := Lib.hid (HK7.out.trans hk6)
              have HPS := Lib.hid (HPS7.out.kept hk6)
              have HBT := Lib.hid (HB7.out.kept hk6)
              clear hk6
              go_wp2_with fail
              go_loopw [10, 11] (fun s i wr => ∃ z : Nat, z ≤ N ∧ i = .int .i64 z ∧ s = .string (cat ((pcs t q).take z)) ∧ Kept w6 wr) (fun _ i _ => N - (intOf i).toNat)
              case atStart => exact ⟨0, by omega, rfl, rfl, Kept.refl _⟩
              case round =>
                obtain ⟨z, hz, rfl, rfl, hkq⟩ := hrel
                obtain ⟨wq, rfl⟩ : ∃ wq : World, wq = wr := ⟨_, rfl⟩
                have HKp := Lib.hid hkq
                have HKq := Lib.hid (HKb.out.trans hkq)
                clear hkq
                by_cases hzn : z < N
                · have hdz : decide ((z : Int) < N) = true := decide_eq_true (by omega)
                  obtain ⟨bp, op9, rfl, hpc⟩ := (HPS.out.kept HKp.out).at (by omega)
                  have hpz := hpc z hzn
                  have hsn := HSNAP.out z hzn
                  have hbd := HBD.out z hzn
                  generalize (pcs t q).getD z ByteArray.empty = p at hpz hsn hbd
                  obtain ⟨hp1, hp2⟩ := hbd
                  have HSN := Lib.hid hsn
                  have HPC := Lib.hid hpz
                  obtain ⟨hla, hjo⟩ := back_any (kn : Int) 1 (sn : Int) p HSH.out hp1 (by rw [HQ.out]; omega)
                  rw [Int.toNat_natCast, Int.toNat_natCast] at hla hjo
                  generalize lns p kn sn = LS at hla hjo
                  have HLA := Lib.hid hla
                  have HJO := Lib.hid hjo
                  clear hpc hpz hsn hla hjo
                  obtain ⟨c0, c1, c2⟩ := HS4.out _ HKq.out
                  go_wp2_with fail
                  refine Pj.wp_region_step (fun a0 L a w => ∃ V : Nat → Value, a = Pj.puts [(80, 0), (81, 1), (82, 2), (83, 3), (84, 4), (85, 5), (79, 6), (86, 7), (87, 8), (12, 9), (13, 10)] V a0 ∧ Pj.J wq [Pj.Is (.agg #[.int .i64 (kn : Int), .int .i64 1, .int .i64 (sn : Int)]), Pj.Is (.slice (some ⟨bp, op9, none⟩) N cp), Pj.Is (.int .i64 (z : Int)), Pj.Is (.pointer (some ⟨bp, op9 + z, none⟩)), Pj.Is (.string p), (fun w v => ∃ ap kp, v = .tuple #[.slice ap kn kp, .int .i64 0] ∧ kn ≤ kp ∧ StrsIn w ap kn LS), (fun w v => ∃ ap kp, v = .tuple #[.slice ap kn kp, .int .i64 0] ∧ kn ≤ kp ∧ StrsIn w ap kn LS), (fun w v => ∃ ap kp, v = .slice ap kn kp ∧ kn ≤ kp ∧ StrsIn w ap kn LS), Pj.Is (.int .i64 0), (fun w v => ∃ ap kp, v = .slice ap kn kp ∧ kn ≤ kp ∧ StrsIn w ap kn LS), Pj.Is (.int .i64 0)] L V w) (by as_aux_lemma => kernel_rfl) (by as_aux_lemma => kernel_rfl) ?eh0 ?ehs ?ehe
                  case eh0 =>
                    intro L hL
                    exact ⟨_, Pj.puts_self _ (fun j => ([80, 81, 82, 83, 84, 85, 79, 86, 87, 12, 13] : List Nat).getD j 0) [0, 1, 2, 3, 4, 5, 6, 7, 8, 9, 10], Pj.J.none (n := 11) (Nat.le_refl _) hL ((Kept.refl _).drew)⟩
                  case ehs =>
                    rintro L L' a w i op K ⟨V, rfl, hJ⟩ ho hopen hdep hL hK
                    have hP : Pj.AllStay [Pj.Is (.agg #[.int .i64 (kn : Int), .int .i64 1, .int .i64 (sn : Int)]), Pj.Is (.slice (some ⟨bp, op9, none⟩) N cp), Pj.Is (.int .i64 (z : Int)), Pj.Is (.pointer (some ⟨bp, op9 + z, none⟩)), Pj.Is (.string p), (fun w v => ∃ ap kp, v = .tuple #[.slice ap kn kp, .int .i64 0] ∧ kn ≤ kp ∧ StrsIn w ap kn LS), (fun w v => ∃ ap kp, v = .tuple #[.slice ap kn kp, .int .i64 0] ∧ kn ≤ kp ∧ StrsIn w ap kn LS), (fun w v => ∃ ap kp, v = .slice ap kn kp ∧ kn ≤ kp ∧ StrsIn w ap kn LS), Pj.Is (.int .i64 0), (fun w v => ∃ ap kp, v = .slice ap kn kp ∧ kn ≤ kp ∧ StrsIn w ap kn LS), Pj.Is (.int .i64 0)] := ⟨Pj.Is.stays _, Pj.Is.stays _, Pj.Is.stays _, Pj.Is.stays _, Pj.Is.stays _, fun _ _ _ ⟨ap, kp, e, h1, h⟩ k => ⟨ap, kp, e, h1, h.kept k⟩, fun _ _ _ ⟨ap, kp, e, h1, h⟩ k => ⟨ap, kp, e, h1, h.kept k⟩, fun _ _ _ ⟨ap, kp, e, h1, h⟩ k => ⟨ap, kp, e, h1, h.kept k⟩, Pj.Is.stays _, fun _ _ _ ⟨ap, kp, e, h1, h⟩ k => ⟨ap, kp, e, h1, h.kept k⟩, Pj.Is.stays _, trivial⟩
                    have HP := Lib.hid hP
                    clear hP
                    match i, ho with
                    | 0, ho =>
                      simp only [List.getElem?_toArray, List.getElem?_cons_zero, Option.some.injEq] at ho
                      obtain ⟨c0, c1, c2⟩ := HS4.out _ (HKq.out.trans hJ.kp)
                      have HJ := Lib.hid hJ
                      clear hJ
                      subst ho
                      refine Pj.Step.free rfl ?_
                      simp only [Pj.puts, List.foldl_cons, List.foldl_nil, Act.put, List.setIfInBounds_toArray, List.set_cons_zero, List.set_cons_succ]
                      go_simp
                      exact hK _ _ ⟨Pj.vset V 0 (.agg #[.int .i64 (kn : Int), .int .i64 1, .int .i64 (sn : Int)]), by simp only [Pj.puts, List.foldl_cons, List.foldl_nil, Act.put, List.setIfInBounds_toArray, List.set_cons_zero, List.set_cons_succ, Pj.vset, Nat.reduceEqDiff, if_true, if_false], HJ.out.more HP.out hL (Kept.refl _) (rfl)⟩
                    | 1, ho =>
                      simp only [List.getElem?_toArray, List.getElem?_cons_zero, List.getElem?_cons_succ, Option.some.injEq] at ho
                      have HJ := Lib.hid hJ
                      clear hJ
                      subst ho
                      refine Pj.Step.free rfl ?_
                      simp only [Pj.puts, List.foldl_cons, List.foldl_nil, Act.put, List.setIfInBounds_toArray, List.set_cons_zero, List.set_cons_succ]
                      go_simp
                      exact hK _ _ ⟨Pj.vset V 1 (.slice (some ⟨bp, op9, none⟩) N cp), by simp only [Pj.puts, List.foldl_cons, List.foldl_nil, Act.put, List.setIfInBounds_toArray, List.set_cons_zero, List.set_cons_succ, Pj.vset, Nat.reduceEqDiff, if_true, if_false], HJ.out.more HP.out hL (Kept.refl _) (rfl)⟩
                    | 2, ho =>
                      simp only [List.getElem?_toArray, List.getElem?_cons_zero, List.getElem?_cons_succ, Option.some.injEq] at ho
                      have HJ := Lib.hid hJ
                      clear hJ
                      subst ho
                      refine Pj.Step.free rfl ?_
                      simp only [Pj.puts, List.foldl_cons, List.foldl_nil, Act.put, List.setIfInBounds_toArray, List.set_cons_zero, List.set_cons_succ]
                      go_simp
                      exact hK _ _ ⟨Pj.vset V 2 (.int .i64 (z : Int)), by simp only [Pj.puts, List.foldl_cons, List.foldl_nil, Act.put, List.setIfInBounds_toArray, List.set_cons_zero, List.set_cons_succ, Pj.vset, Nat.reduceEqDiff, if_true, if_false], HJ.out.more HP.out hL (Kept.refl _) (rfl)⟩
                    | 3, ho =>
                      simp only [List.getElem?_toArray, List.getElem?_cons_zero, List.getElem?_cons_succ, Option.some.injEq] at ho
                      have e1 : V 1 = .slice (some ⟨bp, op9, none⟩) N cp := hJ.h 1 (hdep 1 (by rw [← ho]; kernel_rfl))
                      have e2 : V 2 = .int .i64 (z : Int) := hJ.h 2 (hdep 2 (by rw [← ho]; kernel_rfl))
                      have HJ := Lib.hid hJ
                      clear hJ
                      subst ho
                      refine Pj.Step.free rfl ?_
                      simp only [Pj.puts, List.foldl_cons, List.foldl_nil, Act.put, List.setIfInBounds_toArray, List.set_cons_zero, List.set_cons_succ, e1, e2]
                      go_simp
                      exact hK _ _ ⟨Pj.vset V 3 (.pointer (some ⟨bp, op9 + z, none⟩)), by simp only [Pj.puts, List.foldl_cons, List.foldl_nil, Act.put, List.setIfInBounds_toArray, List.set_cons_zero, List.set_cons_succ, Pj.vset, Nat.reduceEqDiff, if_true, if_false, e1, e2], HJ.out.more HP.out hL (Kept.refl _) (rfl)⟩
                    | 4, ho =>
                      simp only [List.getElem?_toArray, List.getElem?_cons_zero, List.getElem?_cons_succ, Option.some.injEq] at ho
                      have e3 : V 3 = .pointer (some ⟨bp, op9 + z, none⟩) := hJ.h 3 (hdep 3 (by rw [← ho]; kernel_rfl))
                      have cx := HPC.out _ hJ.kp
                      have HJ := Lib.hid hJ
                      clear hJ
                      subst ho
                      refine Pj.Step.free rfl ?_
                      simp only [Pj.puts, List.foldl_cons, List.foldl_nil, Act.put, List.setIfInBounds_toArray, List.set_cons_zero, List.set_cons_succ, e3]
                      go_simp
                      exact hK _ _ ⟨Pj.vset V 4 (.string p), by simp only [Pj.puts, List.foldl_cons, List.foldl_nil, Act.put, List.setIfInBounds_toArray, List.set_cons_zero, List.set_cons_succ, Pj.vset, Nat.reduceEqDiff, if_true, if_false, e3], HJ.out.more HP.out hL (Kept.refl _) (rfl)⟩
                    | 5, ho =>
                      simp only [List.getElem?_toArray, List.getElem?_cons_zero, List.getElem?_cons_succ, Option.some.injEq] at ho
                      have e0 : V 0 = .agg #[.int .i64 (kn : Int), .int .i64 1, .int .i64 (sn : Int)] := hJ.h 0 (hdep 0 (by rw [← ho]; kernel_rfl))
                      have e4 : V 4 = .string p := hJ.h 4 (hdep 4 (by rw [← ho]; kernel_rfl))
                      have HJ := Lib.hid hJ
                      clear hJ
                      subst ho
                      refine Pj.Step.free rfl ?_
                      simp only [Pj.puts, List.foldl_cons, List.foldl_nil, Act.put, List.setIfInBounds_toArray, List.set_cons_zero, List.set_cons_succ, e0, e4]
                      go_simp
                      refine (HLA.out _).mono ?_
                      rintro e w' ⟨ap, kp, rfl, hcp, hs9, hk9⟩
                      exact hK _ _ ⟨Pj.vset V 5 (.tuple #[.slice ap kn kp, .int .i64 0]), by simp only [Pj.puts, List.foldl_cons, List.foldl_nil, Act.put, List.setIfInBounds_toArray, List.set_cons_zero, List.set_cons_succ, Pj.vset, Nat.reduceEqDiff, if_true, if_false, e0, e4], HJ.out.more HP.out hL (hk9) (⟨_, _, rfl, hcp, hs9⟩)⟩
                    | 6, ho =>
                      simp only [List.getElem?_toArray, List.getElem?_cons_zero, List.getElem?_cons_succ, Option.some.injEq] at ho
                      obtain ⟨ap, kp, e5, hcp, hap⟩ := hJ.h 5 (hdep 5 (by rw [← ho]; kernel_rfl))
                      have HJ := Lib.hid hJ
                      clear hJ
                      subst ho
                      refine Pj.Step.free rfl ?_
                      simp only [Pj.puts, List.foldl_cons, List.foldl_nil, Act.put, List.setIfInBounds_toArray, List.set_cons_zero, List.set_cons_succ, e5]
                      go_simp
                      exact hK _ _ ⟨Pj.vset V 6 (.tuple #[.slice ap kn kp, .int .i64 0]), by simp only [Pj.puts, List.foldl_cons, List.foldl_nil, Act.put, List.setIfInBounds_toArray, List.set_cons_zero, List.set_cons_succ, Pj.vset, Nat.reduceEqDiff, if_true, if_false, e5], HJ.out.more HP.out hL (Kept.refl _) (⟨_, _, rfl, hcp, hap⟩)⟩
                    | 7, ho =>
                      simp only [List.getElem?_toArray, List.getElem?_cons_zero, List.getElem?_cons_succ, Option.some.injEq] at ho
                      obtain ⟨ap, kp, e6, hcp, hap⟩ := hJ.h 6 (hdep 6 (by rw [← ho]; kernel_rfl))
                      have HJ := Lib.hid hJ
                      clear hJ
                      subst ho
                      refine Pj.Step.free rfl ?_
                      simp only [Pj.puts, List.foldl_cons, List.foldl_nil, Act.put, List.setIfInBounds_toArray, List.set_cons_zero, List.set_cons_succ, e6]
                      go_simp
                      exact hK _ _ ⟨Pj.vset V 7 (.slice ap kn kp), by simp only [Pj.puts, List.foldl_cons, List.foldl_nil, Act.put, List.setIfInBounds_toArray, List.set_cons_zero, List.set_cons_succ, Pj.vset, Nat.reduceEqDiff, if_true, if_false, e6], HJ.out.more HP.out hL (Kept.refl _) (⟨_, _, rfl, hcp, hap⟩)⟩
                    | 8, ho =>
                      simp only [List.getElem?_toArray, List.getElem?_cons_zero, List.getElem?_cons_succ, Option.some.injEq] at ho
                      obtain ⟨ap, kp, e6, hcp, hap⟩ := hJ.h 6 (hdep 6 (by rw [← ho]; kernel_rfl))
                      have HJ := Lib.hid hJ
                      clear hJ
                      subst ho
                      refine Pj.Step.free rfl ?_
                      simp only [Pj.puts, List.foldl_cons, List.foldl_nil, Act.put, List.setIfInBounds_toArray, List.set_cons_zero, List.set_cons_succ, e6]
                      go_simp
                      exact hK _ _ ⟨Pj.vset V 8 (.int .i64 0), by simp only [Pj.puts, List.foldl_cons, List.foldl_nil, Act.put, List.setIfInBounds_toArray, List.set_cons_zero, List.set_cons_succ, Pj.vset, Nat.reduceEqDiff, if_true, if_false, e6], HJ.out.more HP.out hL (Kept.refl _) (rfl)⟩
                    | 9, ho =>
                      simp only [List.getElem?_toArray, List.getElem?_cons_zero, List.getElem?_cons_succ, Option.some.injEq] at ho
                      obtain ⟨ap, kp, e7, hcp, hap⟩ := hJ.h 7 (hdep 7 (by rw [← ho]; kernel_rfl))
                      have HJ := Lib.hid hJ
                      clear hJ
                      subst ho
                      refine Pj.Step.free rfl ?_
                      simp only [Pj.puts, List.foldl_cons, List.foldl_nil, Act.put, List.setIfInBounds_toArray, List.set_cons_zero, List.set_cons_succ, e7]
                      go_simp
                      exact hK _ _ ⟨Pj.vset V 9 (.slice ap kn kp), by simp only [Pj.puts, List.foldl_cons, List.foldl_nil, Act.put, List.setIfInBounds_toArray, List.set_cons_zero, List.set_cons_succ, Pj.vset, Nat.reduceEqDiff, if_true, if_false, e7], HJ.out.more HP.out hL (Kept.refl _) (⟨_, _, rfl, hcp, hap⟩)⟩
                    | 10, ho =>
                      simp only [List.getElem?_toArray, List.getElem?_cons_zero, List.getElem?_cons_succ, Option.some.injEq] at ho
                      have e8 : V 8 = .int .i64 0 := hJ.h 8 (hdep 8 (by rw [← ho]; kernel_rfl))
                      have HJ := Lib.hid hJ
                      clear hJ
                      subst ho
                      refine Pj.Step.free rfl ?_
                      simp only [Pj.puts, List.foldl_cons, List.foldl_nil, Act.put, List.setIfInBounds_toArray, List.set_cons_zero, List.set_cons_succ, e8]
                      go_simp
                      exact hK _ _ ⟨Pj.vset V 10 (.int .i64 0), by simp only [Pj.puts, List.foldl_cons, List.foldl_nil, Act.put, List.setIfInBounds_toArray, List.set_cons_zero, List.set_cons_succ, Pj.vset, Nat.reduceEqDiff, if_true, if_false, e8], HJ.out.more HP.out hL (Kept.refl _) (rfl)⟩
                    | n + 11, ho => simp at ho
                  case ehe =>
                    rintro L a w ⟨V, rfl, hJ⟩ hall
                    obtain ⟨ap, kp, e9, hcp, hap⟩ := hJ.h 9 (hall 9 (by decide))
                    have e10 : V 10 = .int .i64 0 := hJ.h 10 (hall 10 (by decide))
                    have HKj := Lib.hid hJ.kp
                    clear hJ hall
                    simp only [Pj.puts, List.foldl_cons, List.foldl_nil, Act.put, List.setIfInBounds_toArray, List.set_cons_zero, List.set_cons_succ, e9, e10]
                    clear e9 e10
                    have HXS := Lib.hid hap
                    have HXC := Lib.hid hcp
                    have HKz := Lib.hid HKj.out
                    have HKr := Lib.hid (HKq.out.trans HKj.out)
                    clear hap hcp HKj
                    obtain ⟨wz, rfl⟩ : ∃ wz : World, wz = w := ⟨_, rfl⟩
                    obtain ⟨ax, rfl⟩ : ∃ ax, ax = ap := ⟨_, rfl⟩
                    obtain ⟨cx9, rfl⟩ : ∃ cx9, cx9 = kp := ⟨_, rfl⟩
                    go_wp2_with fail
                    refine Pj.wp_region_step (fun a0 L a w => ∃ V : Nat → Value, a = Pj.puts [(89, 0), (90, 1), (91, 2), (92, 3), (93, 4), (94, 5), (95, 6), (96, 7), (88, 8), (97, 9), (98, 10), (14, 11), (15, 12)] V a0 ∧ Pj.J wz [Pj.Is (.agg #[.int .i64 (kn : Int), .int .i64 1, .int .i64 (sn : Int)]), Pj.Is (.slice ax kn cx9), Pj.Is (.slice (some ⟨bp, op9, none⟩) N cp), Pj.Is (.int .i64 (z : Int)), Pj.Is (.pointer (some ⟨bp, op9 + z, none⟩)), Pj.Is (.string p), Pj.Is (.int .i64 (p.size : Int)), Pj.Is (.tuple #[.string p, .int .i64 0]), Pj.Is (.tuple #[.string p, .int .i64 0]), Pj.Is (.string p), Pj.Is (.int .i64 0), Pj.Is (.string p), Pj.Is (.int .i64 0)] L V w) (by as_aux_lemma => kernel_rfl) (by as_aux_lemma => kernel_rfl) ?eh0 ?ehs ?ehe
                    case eh0 =>
                      intro L hL
                      exact ⟨_, Pj.puts_self _ (fun j => ([89, 90, 91, 92, 93, 94, 95, 96, 88, 97, 98, 14, 15] : List Nat).getD j 0) [0, 1, 2, 3, 4, 5, 6, 7, 8, 9, 10, 11, 12], Pj.J.none (n := 13) (Nat.le_refl _) hL ((Kept.refl _).drew)⟩
                    case ehs =>
                      rintro L L' a w i op K ⟨V, rfl, hJ⟩ ho hopen hdep hL hK
                      have hP : Pj.AllStay [Pj.Is (.agg #[.int .i64 (kn : Int), .int .i64 1, .int .i64 (sn : Int)]), Pj.Is (.slice ax kn cx9), Pj.Is (.slice (some ⟨bp, op9, none⟩) N cp), Pj.Is (.int .i64 (z : Int)), Pj.Is (.pointer (some ⟨bp, op9 + z, none⟩)), Pj.Is (.string p), Pj.Is (.int .i64 (p.size : Int)), Pj.Is (.tuple #[.string p, .int .i64 0]), Pj.Is (.tuple #[.string p, .int .i64 0]), Pj.Is (.string p), Pj.Is (.int .i64 0), Pj.Is (.string p), Pj.Is (.int .i64 0)] := ⟨Pj.Is.stays _, Pj.Is.stays _, Pj.Is.stays _, Pj.Is.stays _, Pj.Is.stays _, Pj.Is.stays _, Pj.Is.stays _, Pj.Is.stays _, Pj.Is.stays _, Pj.Is.stays _, Pj.Is.stays _, Pj.Is.stays _, Pj.Is.stays _, trivial⟩
                      have HP := Lib.hid hP
                      clear hP
                      match i, ho with
                      | 0, ho =>
                        simp only [List.getElem?_toArray, List.getElem?_cons_zero, Option.some.injEq] at ho
                        obtain ⟨c0, c1, c2⟩ := HS4.out _ (HKr.out.trans hJ.kp)
                        have HJ := Lib.hid hJ
                        clear hJ
                        subst ho
                        refine Pj.Step.free rfl ?_
                        simp only [Pj.puts, List.foldl_cons, List.foldl_nil, Act.put, List.setIfInBounds_toArray, List.set_cons_zero, List.set_cons_succ]
                        go_simp
                        exact hK _ _ ⟨Pj.vset V 0 (.agg #[.int .i64 (kn : Int), .int .i64 1, .int .i64 (sn : Int)]), by simp only [Pj.puts, List.foldl_cons, List.foldl_nil, Act.put, List.setIfInBounds_toArray, List.set_cons_zero, List.set_cons_succ, Pj.vset, Nat.reduceEqDiff, if_true, if_false], HJ.out.more HP.out hL (Kept.refl _) (rfl)⟩
                      | 1, ho =>
                        simp only [List.getElem?_toArray, List.getElem?_cons_zero, List.getElem?_cons_succ, Option.some.injEq] at ho
                        have HJ := Lib.hid hJ
                        clear hJ
                        subst ho
                        refine Pj.Step.free rfl ?_
                        simp only [Pj.puts, List.foldl_cons, List.foldl_nil, Act.put, List.setIfInBounds_toArray, List.set_cons_zero, List.set_cons_succ]
                        go_simp
                        exact hK _ _ ⟨Pj.vset V 1 (.slice ax kn cx9), by simp only [Pj.puts, List.foldl_cons, List.foldl_nil, Act.put, List.setIfInBounds_toArray, List.set_cons_zero, List.set_cons_succ, Pj.vset, Nat.reduceEqDiff, if_true, if_false], HJ.out.more HP.out hL (Kept.refl _) (rfl)⟩
                      | 2, ho =>
                        simp only [List.getElem?_toArray, List.getElem?_cons_zero, List.getElem?_cons_succ, Option.some.injEq] at ho
                        have HJ := Lib.hid hJ
                        clear hJ
                        subst ho
                        refine Pj.Step.free rfl ?_
                        simp only [Pj.puts, List.foldl_cons, List.foldl_nil, Act.put, List.setIfInBounds_toArray, List.set_cons_zero, List.set_cons_succ]
                        go_simp
                        exact hK _ _ ⟨Pj.vset V 2 (.slice (some ⟨bp, op9, none⟩) N cp), by simp only [Pj.puts, List.foldl_cons, List.foldl_nil, Act.put, List.setIfInBounds_toArray, List.set_cons_zero, List.set_cons_succ, Pj.vset, Nat.reduceEqDiff, if_true, if_false], HJ.out.more HP.out hL (Kept.refl _) (rfl)⟩
                      | 3, ho =>
                        simp only [List.getElem?_toArray, List.getElem?_cons_zero, List.getElem?_cons_succ, Option.some.injEq] at ho
                        have HJ := Lib.hid hJ
                        clear hJ
                        subst ho
                        refine Pj.Step.free rfl ?_
                        simp only [Pj.puts, List.foldl_cons, List.foldl_nil, Act.put, List.setIfInBounds_toArray, List.set_cons_zero, List.set_cons_succ]
                        go_simp
                        exact hK _ _ ⟨Pj.vset V 3 (.int .i64 (z : Int)), by simp only [Pj.puts, List.foldl_cons, List.foldl_nil, Act.put, List.setIfInBounds_toArray, List.set_cons_zero, List.set_cons_succ, Pj.vset, Nat.reduceEqDiff, if_true, if_false], HJ.out.more HP.out hL (Kept.refl _) (rfl)⟩
                      | 4, ho =>
                        simp only [List.getElem?_toArray, List.getElem?_cons_zero, List.getElem?_cons_succ, Option.some.injEq] at ho
                        have e2 : V 2 = .slice (some ⟨bp, op9, none⟩) N cp := hJ.h 2 (hdep 2 (by rw [← ho]; kernel_rfl))
                        have e3 : V 3 = .int .i64 (z : Int) := hJ.h 3 (hdep 3 (by rw [← ho]; kernel_rfl))
                        have HJ := Lib.hid hJ
                        clear hJ
                        subst ho
                        refine Pj.Step.free rfl ?_
                        simp only [Pj.puts, List.foldl_cons, List.foldl_nil, Act.put, List.setIfInBounds_toArray, List.set_cons_zero, List.set_cons_succ, e2, e3]
                        go_simp
                        exact hK _ _ ⟨Pj.vset V 4 (.pointer (some ⟨bp, op9 + z, none⟩)), by simp only [Pj.puts, List.foldl_cons, List.foldl_nil, Act.put, List.setIfInBounds_toArray, List.set_cons_zero, List.set_cons_succ, Pj.vset, Nat.reduceEqDiff, if_true, if_false, e2, e3], HJ.out.more HP.out hL (Kept.refl _) (rfl)⟩
                      | 5, ho =>
                        simp only [List.getElem?_toArray, List.getElem?_cons_zero, List.getElem?_cons_succ, Option.some.injEq] at ho
                        have e4 : V 4 = .pointer (some ⟨bp, op9 + z, none⟩) := hJ.h 4 (hdep 4 (by rw [← ho]; kernel_rfl))
                        have cx := HPC.out _ (HKz.out.trans hJ.kp)
                        have HJ := Lib.hid hJ
                        clear hJ
                        subst ho
                        refine Pj.Step.free rfl ?_
                        simp only [Pj.puts, List.foldl_cons, List.foldl_nil, Act.put, List.setIfInBounds_toArray, List.set_cons_zero, List.set_cons_succ, e4]
                        go_simp
                        exact hK _ _ ⟨Pj.vset V 5 (.string p), by simp only [Pj.puts, List.foldl_cons, List.foldl_nil, Act.put, List.setIfInBounds_toArray, List.set_cons_zero, List.set_cons_succ, Pj.vset, Nat.reduceEqDiff, if_true, if_false, e4], HJ.out.more HP.out hL (Kept.refl _) (rfl)⟩
                      | 6, ho =>
                        simp only [List.getElem?_toArray, List.getElem?_cons_zero, List.getElem?_cons_succ, Option.some.injEq] at ho
                        have e5 : V 5 = .string p := hJ.h 5 (hdep 5 (by rw [← ho]; kernel_rfl))
                        have HJ := Lib.hid hJ
                        clear hJ
                        subst ho
                        refine Pj.Step.free rfl ?_
                        simp only [Pj.puts, List.foldl_cons, List.foldl_nil, Act.put, List.setIfInBounds_toArray, List.set_cons_zero, List.set_cons_succ, e5]
                        go_simp
                        exact hK _ _ ⟨Pj.vset V 6 (.int .i64 (p.size : Int)), by simp only [Pj.puts, List.foldl_cons, List.foldl_nil, Act.put, List.setIfInBounds_toArray, List.set_cons_zero, List.set_cons_succ, Pj.vset, Nat.reduceEqDiff, if_true, if_false, e5], HJ.out.more HP.out hL (Kept.refl _) (rfl)⟩
                      | 7, ho =>
                        simp only [List.getElem?_toArray, List.getElem?_cons_zero, List.getElem?_cons_succ, Option.some.injEq] at ho
                        have e0 : V 0 = .agg #[.int .i64 (kn : Int), .int .i64 1, .int .i64 (sn : Int)] := hJ.h 0 (hdep 0 (by rw [← ho]; kernel_rfl))
                        have e1 : V 1 = .slice ax kn cx9 := hJ.h 1 (hdep 1 (by rw [← ho]; kernel_rfl))
                        have e6 : V 6 = .int .i64 (p.size : Int) := hJ.h 6 (hdep 6 (by rw [← ho]; kernel_rfl))
                        have hjn := HJO.out w ax cx9 (HXS.out.kept hJ.kp) HXC.out
                        have HJ := Lib.hid hJ
                        clear hJ
                        subst ho
                        refine Pj.Step.free rfl ?_
                        simp only [Pj.puts, List.foldl_cons, List.foldl_nil, Act.put, List.setIfInBounds_toArray, List.set_cons_zero, List.set_cons_succ, e0, e1, e6]
                        go_simp
                        refine hjn.mono ?_
                        rintro e w' ⟨rfl, hk9⟩
                        exact hK _ _ ⟨Pj.vset V 7 (.tuple #[.string p, .int .i64 0]), by simp only [Pj.puts, List.foldl_cons, List.foldl_nil, Act.put, List.setIfInBounds_toArray, List.set_cons_zero, List.set_cons_succ, Pj.vset, Nat.reduceEqDiff, if_true, if_false, e0, e1, e6], HJ.out.more HP.out hL (hk9) (rfl)⟩
                      | 8, ho =>
                        simp only [List.getElem?_toArray, List.getElem?_cons_zero, List.getElem?_cons_succ, Option.some.injEq] at ho
                        have e7 : V 7 = .tuple #[.string p, .int .i64 0] := hJ.h 7 (hdep 7 (by rw [← ho]; kernel_rfl))
                        have HJ := Lib.hid hJ
                        clear hJ
                        subst ho
                        refine Pj.Step.free rfl ?_
                        simp only [Pj.puts, List.foldl_cons, List.foldl_nil, Act.put, List.setIfInBounds_toArray, List.set_cons_zero, List.set_cons_succ, e7]
                        go_simp
                        exact hK _ _ ⟨Pj.vset V 8 (.tuple #[.string p, .int .i64 0]), by simp only [Pj.puts, List.foldl_cons, List.foldl_nil, Act.put, List.setIfInBounds_toArray, List.set_cons_zero, List.set_cons_succ, Pj.vset, Nat.reduceEqDiff, if_true, if_false, e7], HJ.out.more HP.out hL (Kept.refl _) (rfl)⟩
                      | 9, ho =>
                        simp only [List.getElem?_toArray, List.getElem?_cons_zero, List.getElem?_cons_succ, Option.some.injEq] at ho
                        have e8 : V 8 = .tuple #[.string p, .int .i64 0] := hJ.h 8 (hdep 8 (by rw [← ho]; kernel_rfl))
                        have HJ := Lib.hid hJ
                        clear hJ
                        subst ho
                        refine Pj.Step.free rfl ?_
                        simp only [Pj.puts, List.foldl_cons, List.foldl_nil, Act.put, List.setIfInBounds_toArray, List.set_cons_zero, List.set_cons_succ, e8]
                        go_simp
                        exact hK _ _ ⟨Pj.vset V 9 (.string p), by simp only [Pj.puts, List.foldl_cons, List.foldl_nil, Act.put, List.setIfInBounds_toArray, List.set_cons_zero, List.set_cons_succ, Pj.vset, Nat.reduceEqDiff, if_true, if_false, e8], HJ.out.more HP.out hL (Kept.refl _) (rfl)⟩
                      | 10, ho =>
                        simp only [List.getElem?_toArray, List.getElem?_cons_zero, List.getElem?_cons_succ, Option.some.injEq] at ho
                        have e8 : V 8 = .tuple #[.string p, .int .i64 0] := hJ.h 8 (hdep 8 (by rw [← ho]; kernel_rfl))
                        have HJ := Lib.hid hJ
                        clear hJ
                        subst ho
                        refine Pj.Step.free rfl ?_
                        simp only [Pj.puts, List.foldl_cons, List.foldl_nil, Act.put, List.setIfInBounds_toArray, List.set_cons_zero, List.set_cons_succ, e8]
                        go_simp
                        exact hK _ _ ⟨Pj.vset V 10 (.int .i64 0), by simp only [Pj.puts, List.foldl_cons, List.foldl_nil, Act.put, List.setIfInBounds_toArray, List.set_cons_zero, List.set_cons_succ, Pj.vset, Nat.reduceEqDiff, if_true, if_false, e8], HJ.out.more HP.out hL (Kept.refl _) (rfl)⟩
                      | 11, ho =>
                        simp only [List.getElem?_toArray, List.getElem?_cons_zero, List.getElem?_cons_succ, Option.some.injEq] at ho
                        have e9 : V 9 = .string p := hJ.h 9 (hdep 9 (by rw [← ho]; kernel_rfl))
                        have HJ := Lib.hid hJ
                        clear hJ
                        subst ho
                        refine Pj.Step.free rfl ?_
                        simp only [Pj.puts, List.foldl_cons, List.foldl_nil, Act.put, List.setIfInBounds_toArray, List.set_cons_zero, List.set_cons_succ, e9]
                        go_simp
                        exact hK _ _ ⟨Pj.vset V 11 (.string p), by simp only [Pj.puts, List.foldl_cons, List.foldl_nil, Act.put, List.setIfInBounds_toArray, List.set_cons_zero, List.set_cons_succ, Pj.vset, Nat.reduceEqDiff, if_true, if_false, e9], HJ.out.more HP.out hL (Kept.refl _) (rfl)⟩
                      | 12, ho =>
                        simp only [List.getElem?_toArray, List.getElem?_cons_zero, List.getElem?_cons_succ, Option.some.injEq] at ho
                        have e10 : V 10 = .int .i64 0 := hJ.h 10 (hdep 10 (by rw [← ho]; kernel_rfl))
                        have HJ := Lib.hid hJ
                        clear hJ
                        subst ho
                        refine Pj.Step.free rfl ?_
                        simp only [Pj.puts, List.foldl_cons, List.foldl_nil, Act.put, List.setIfInBounds_toArray, List.set_cons_zero, List.set_cons_succ, e10]
                        go_simp
                        exact hK _ _ ⟨Pj.vset V 12 (.int .i64 0), by simp only [Pj.puts, List.foldl_cons, List.foldl_nil, Act.put, List.setIfInBounds_toArray, List.set_cons_zero, List.set_cons_succ, Pj.vset, Nat.reduceEqDiff, if_true, if_false, e10], HJ.out.more HP.out hL (Kept.refl _) (rfl)⟩
                      | n + 13, ho => simp at ho
                    case ehe =>
                      rintro L a w ⟨V, rfl, hJ⟩ hall
                      have e11 : V 11 = .string p := hJ.h 11 (hall 11 (by decide))
                      have e12 : V 12 = .int .i64 0 := hJ.h 12 (hall 12 (by decide))
                      have HKj := Lib.hid hJ.kp
                      clear hJ hall
                      simp only [Pj.puts, List.foldl_cons, List.foldl_nil, Act.put, List.setIfInBounds_toArray, List.set_cons_zero, List.set_cons_succ, e11, e12]
                      clear e11 e12
                      have HKs := Lib.hid (HKr.out.trans HKj.out)
                      have HKt := Lib.hid (HKz.out.trans HKj.out)
                      clear HKj
                      go_wp2_with fail
                      refine (num7_any _ _).mono ?_
                      rintro e w' ⟨rfl, rfl⟩
                      go_wp2_with fail
                      refine (num7_any _ _).mono ?_
                      rintro e w' ⟨rfl, rfl⟩
                      obtain ⟨v, hv⟩ : ∃ v, cat ((pcs t q).take (z + 1)) = v := ⟨_, rfl⟩
                      obtain ⟨u, hu⟩ : ∃ u, cat ((pcs t q).take z) = u := ⟨_, rfl⟩
                      have huz : u.size ≤ 2000 := by rw [← hu, HCT.out z (by omega), ByteArray.size_extract]; omega
                      have hvu : v = u ++ p := by rw [← hv, ← hu]; exact HSN.out
                      have hA : ∀ w : World, (Op.stringOp .add u p).run Try.prog w = .ok (.string v) w := fun w => by rw [hvu]; exact run_string_add_sum _ _ _ (by omega)
                      have HV := Lib.hid hv
                      have HKw := Lib.hid (HKp.out.trans HKt.out)
                      rw [hu]
                      clear hv hu hvu
                      go_wp2
                      go_roundw
                      case rel => exact ⟨z + 1, by omega, by go_num, by rw [HV.out], HKw.out⟩
                      case measure => simp [intOf]; omega
                · obtain rfl : z = N := by omega
                  have hdz : decide ((z : Int) < z) = false := decide_eq_false (by omega)
                  have hfin : cat ((pcs t q).take z) = t := by rw [List.take_of_length_le (by rw [pcs_length, HNN.out]; omega)]; exact cat_pcs t q hq1
                  rw [hfin]
                  clear hfin
                  have HKf := Lib.hid (HKb.out.trans HKp.out)
                  have hcv := (HBT.out.kept HKp.out).string (P := Try.prog) 55 9 5 Try.underlying55 Try.underlying5 Try.underlying9 k
                  rw [HLL.out, HTL.out] at hcv
                  go_wp2
                  go_roundw
                  case rel => exact ⟨k + 1, by have := HM.out; omega, by go_num, HKf.out⟩
                  case measure => have := HM.out; simp [intOf]; omega
        · obtain rfl : n = 3 * q + 2 := by have := HM.out; omega
          have hd1 : decide (((3 * q + 2 : Nat) : Int) ≤ (m4 : Int)) = false := decide_eq_false (by omega)
          obtain ⟨n9, hn9⟩ : ∃ n9 : Nat, n9 = 3 * q + 2 := ⟨_, rfl⟩
          rw [← hn9] at hd1 ⊢
          have hd2 : decide (n9 ≤ m4) = false := decide_eq_false (by have := HM.out; omega)
          clear hn9 hnl hn hd1
          go_wp2_with fail
          refine (wakes7_any _).mono ?_
          rintro e w4 ⟨rfl, hk4⟩
          have HK4 := Lib.hid (HKr0.out.trans hk4)
          clear hk4
          go_wp2
          go_ret
          exact ⟨rfl, HK1.out.trans (HK3.out.trans HK4.out)⟩
end Go.Proofs.Ytlncjheifkbomaa
