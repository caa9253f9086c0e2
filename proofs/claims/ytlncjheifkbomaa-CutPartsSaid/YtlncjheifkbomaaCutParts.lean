/- The walk of the law CutParts: it answers true and changes nothing that was there (no conditions). -/
import Derived.Test.YtlncjheifkbomaaCutR
import Derived.Test.YtlncjheifkbomaaCutH
import Derived.Test.YtlncjheifkbomaaEqS
import Derived.Test.YtlncjheifkbomaaPj
namespace Go.Proofs.Ytlncjheifkbomaa
open Go.RowKit

theorem box4c {W : World} {b : Nat} {x y z u : Value} {t : TypeId} (h : BlockAt W b #[x, y, z, u] t) : W.cell? ⟨b, 0, none⟩ = some x ∧ W.cell? ⟨b, 1, none⟩ = some y ∧ W.cell? ⟨b, 2, none⟩ = some z ∧ W.cell? ⟨b, 3, none⟩ = some u :=
  ⟨by simpa using h.cell 0, by simpa using h.cell 1, by simpa using h.cell 2, by simpa using h.cell 3⟩
/-- cut.Parts, whatever it is asked: how many pieces, the error, the pieces -/
theorem parts_all (k m s : Int) (t : ByteArray) : ∃ (N : Nat) (E : Int) (PS : List ByteArray), (∀ w, Calls Try.prog 17 #[.agg #[.int .i64 k, .int .i64 m, .int .i64 s], .string t] w fun e w' => ∃ a cap, e = .returned (.tuple #[.slice a N cap, .int .i64 E]) ∧ StrsIn w' a N PS ∧ Kept w w') ∧
    ((¬ shpB k m s = true ∧ E = 1 ∧ N = 0 ∧ PS = []) ∨ (shpB k m s = true ∧ 2000 < t.size ∧ E = 2 ∧ N = 0 ∧ PS = []) ∨
     (shpB k m s = true ∧ t.size ≤ 2000 ∧ E = 0 ∧ ∀ w, Calls Try.prog 18 #[.agg #[.int .i64 k, .int .i64 m, .int .i64 s], .string t] w fun e w' => ∃ a cap, e = .returned (.slice a N cap) ∧ StrsIn w' a N PS ∧ Kept w w')) := by
  have hnone : ∀ w : World, StrsIn w none 0 [] := fun w => ⟨rfl, by omega, (fun _ h => by cases h), 0, 0, fun h => absurd h (Nat.lt_irrefl 0), fun i hi => absurd hi (Nat.not_lt_zero i)⟩
  by_cases hs : shpB k m s = true
  · by_cases ht : t.size ≤ 2000
    · refine ⟨nP t.size (k * s).toNat, 0, pcs t (k * s).toNat, fun w => (parts_good k m s t hs ht w).mono ?_, .inr (.inr ⟨hs, ht, rfl, fun w => (parts_ref k m s t hs ht w).mono ?_⟩)⟩
      · rintro e w' ⟨a, cap, h1, _, h3, h4⟩
        exact ⟨a, cap, h1, h3, h4⟩
      · rintro e w' ⟨a, cap, h1, _, h3, h4⟩
        exact ⟨a, cap, h1, h3, h4⟩
    · refine ⟨0, 2, [], fun w => (parts_long k m s t hs (by omega) w).mono ?_, .inr (.inl ⟨hs, by omega, rfl, rfl, rfl⟩)⟩
      rintro e w' ⟨h1, h2⟩
      exact ⟨_, _, h1, hnone _, h2⟩
  · refine ⟨0, 1, [], fun w => (parts_bad k m s t hs w).mono ?_, .inl ⟨hs, rfl, rfl, rfl⟩⟩
    rintro e w' ⟨h1, h2⟩
    exact ⟨_, _, h1, hnone _, h2⟩
set_option maxRecDepth 100000 in
set_option maxHeartbeats 8000000 in
theorem cut_parts (ax : Option Addr) (ls cs : Nat) (al : Option Addr) (ll cl : Nat) (ss : List ByteArray) (ab : Option Addr) (lb cb : Nat) (n : Int) (W : World) (h : AskC W ax ls cs al ll cl ss) (hn : -9223372036854775808 ≤ n ∧ n ≤ 9223372036854775807) :
    Calls Try.prog 3 #[.agg #[.slice ax ls cs, .slice al ll cl, .slice ab lb cb, .int .i64 n]] W fun e W' => e = .returned (.bool true) ∧ Below W.heap.size W W' := by
  have HA := Lib.hid h
  have HN := Lib.hid hn
  clear h hn
  have HK1 := Lib.hid ((Kept.refl W).alloc (.cells #[.slice ax ls cs, .slice al ll cl, .slice ab lb cb, .int .i64 n] 28))
  have hB1 := BlockAt.new W #[.slice ax ls cs, .slice al ll cl, .slice ab lb cb, .int .i64 n] 28
  go_enter Try.func3, Try.ntmps3
  go_upto_region 1 with (fail)
  generalize W.alloc (.cells #[.slice ax ls cs, .slice al ll cl, .slice ab lb cb, .int .i64 n] 28) = w1 at *
  have hread : ∀ w, Kept w1 w → w.cell? ⟨W.heap.size, 0, none⟩ = some (.slice ax ls cs) ∧ w.cell? ⟨W.heap.size, 1, none⟩ = some (.slice al ll cl) ∧ w.cell? ⟨W.heap.size, 2, none⟩ = some (.slice ab lb cb) ∧ w.cell? ⟨W.heap.size, 3, none⟩ = some (.int .i64 n) := fun w k => box4c (hB1.kept k)
  have HREAD := Lib.hid hread
  clear hread hB1
  obtain ⟨a0, a1, a2, a3⟩ := HREAD.out _ (Kept.refl _)
  go_wp2_with fail
  refine (heavy4_any ax ls cs al ll cl ss ab lb cb _ (HA.out.kept HK1.out)).mono ?_
  rintro e w2 ⟨he, hk2⟩
  have HK2 := Lib.hid hk2
  clear hk2 a0 a1 a2 a3
  rcases he with rfl | ⟨rfl, hll, hls, hsz⟩
  · go_wp2
    go_ret
    exact ⟨rfl, HK1.out.trans HK2.out⟩
  · have HSZ := Lib.hid hsz
    clear hsz
    go_wp2_with fail
    obtain ⟨wo, rfl⟩ : ∃ wo : World, wo = w2 := ⟨_, rfl⟩
    go_loopw [3] (fun i wr => ∃ j : Nat, j ≤ ls ∧ i = .int .i64 j ∧ Kept w1 wr) (fun i _ => ls - (intOf i).toNat)
    case atStart => exact ⟨0, by omega, rfl, HK2.out⟩
    case round =>
      obtain ⟨j, hj, rfl, hK⟩ := hrel
      have HK := Lib.hid hK
      clear hK
      obtain ⟨a0, a1, a2, a3⟩ := HREAD.out _ HK.out
      by_cases hjl : j < ls
      · by_cases hj4 : j < 4
        · obtain ⟨b, off, rfl, hc⟩ := HA.out.shapes.cell (by omega)
          obtain ⟨k, m, s, hkb, hcell⟩ := hc j hjl
          obtain ⟨c0, c1, c2⟩ := hcell _ (HK1.out.trans HK.out)
          clear hc hcell
          have hd1 : decide ((j : Int) < ls) = true := decide_eq_true (by omega)
          have hd2 : decide ((j : Int) < 4) = true := decide_eq_true (by omega)
          go_upto_region 7 with (fail)
          have hB4 := BlockAt.new wr #[.int .i64 k, .int .i64 m, .int .i64 s] 31
          have k4 : Kept wr (wr.alloc (.cells #[.int .i64 k, .int .i64 m, .int .i64 s] 31)) := (Kept.refl wr).alloc _
          generalize wr.alloc (.cells #[.int .i64 k, .int .i64 m, .int .i64 s] 31) = wa at *
          have HKa := Lib.hid (HK.out.trans k4)
          have hs4 : ∀ w, Kept wa w → w.cell? ⟨wr.heap.size, 0, none⟩ = some (.int .i64 k) ∧ w.cell? ⟨wr.heap.size, 1, none⟩ = some (.int .i64 m) ∧ w.cell? ⟨wr.heap.size, 2, none⟩ = some (.int .i64 s) := fun w kk => box3c (hB4.kept kk)
          have HS4 := Lib.hid hs4
          clear hs4 hB4 k4 a0 a1 a2 a3 c0 c1 c2
          generalize wr.heap.size = p4 at *
          obtain ⟨a0, a1, a2, a3⟩ := HREAD.out _ HKa.out
          obtain ⟨c0, c1, c2⟩ := HS4.out _ (Kept.refl _)
          go_upto_region 8 with (fail)
          have hG := BlockAt.new wa #[.int .i64 n, .int .i64 0, .int .i64 1, .int .i64 (wrap64 (k * s)), .int .i64 (wrap64 (wrap64 (k * s) + 1)), .int .i64 2000, .int .i64 2001] 3
          have kg : Kept wa (wa.alloc (.cells #[.int .i64 n, .int .i64 0, .int .i64 1, .int .i64 (wrap64 (k * s)), .int .i64 (wrap64 (wrap64 (k * s) + 1)), .int .i64 2000, .int .i64 2001] 3)) := (Kept.refl wa).alloc _
          generalize wa.alloc (.cells #[.int .i64 n, .int .i64 0, .int .i64 1, .int .i64 (wrap64 (k * s)), .int .i64 (wrap64 (wrap64 (k * s) + 1)), .int .i64 2000, .int .i64 2001] 3) = wg at *
          have hxs : ∀ z : Nat, z < 7 → ∃ x : Int, ∀ w, Kept wg w → w.cell? ⟨wa.heap.size, z, none⟩ = some (.int .i64 x) := fun z hz => by
            match z, hz with
            | 0, _ => exact ⟨_, fun w kk => by simpa using (hG.kept kk).cell 0⟩
            | 1, _ => exact ⟨_, fun w kk => by simpa using (hG.kept kk).cell 1⟩
            | 2, _ => exact ⟨_, fun w kk => by simpa using (hG.kept kk).cell 2⟩
            | 3, _ => exact ⟨_, fun w kk => by simpa using (hG.kept kk).cell 3⟩
            | 4, _ => exact ⟨_, fun w kk => by simpa using (hG.kept kk).cell 4⟩
            | 5, _ => exact ⟨_, fun w kk => by simpa using (hG.kept kk).cell 5⟩
            | 6, _ => exact ⟨_, fun w kk => by simpa using (hG.kept kk).cell 6⟩
          have HXS := Lib.hid hxs
          have HKG := Lib.hid kg
          clear hxs kg hG a0 a1 a2 a3 c0 c1 c2
          generalize wa.heap.size = g at *
          go_wp2_with fail
          go_loopw [6] (fun i wr => ∃ z : Nat, z ≤ 7 ∧ i = .int .i64 z ∧ Kept wg wr) (fun i _ => 7 - (intOf i).toNat)
          case atStart => exact ⟨0, by omega, rfl, Kept.refl _⟩
          case round =>
            obtain ⟨z, hz, rfl, hkg⟩ := hrel
            have HKg := Lib.hid hkg
            have HKy := Lib.hid (HKG.out.trans hkg)
            clear hkg
            obtain ⟨wy, rfl⟩ : ∃ wy : World, wy = wr := ⟨_, rfl⟩
            by_cases hz7 : z < 7
            · have hdz : decide ((z : Int) < 7) = true := decide_eq_true (by omega)
              obtain ⟨x, hx⟩ := HXS.out z hz7
              have HX := Lib.hid hx
              have hst := fun w => stripes_any k m s x w
              have hsr := fun (h : stB k m s x = true) w => stripes_ref k m s x h w
              have hB : (stB k m s x = true → stE k m s x = 0) ∧ (¬ stB k m s x = true → stE k m s x = 1 ∧ stN k m s x = 0) := ⟨fun h => by unfold stE; rw [if_pos h], fun h => ⟨by unfold stE; rw [if_neg h], by unfold stN; rw [if_neg h]⟩⟩
              have hBd : stB k m s x = (shpB k m s && (decide (0 ≤ x) && decide (x ≤ 2000))) := rfl
              generalize stN k m s x = N at *
              generalize stE k m s x = E at *
              have HST := Lib.hid hst
              have HBE := Lib.hid hB
              have HBD := Lib.hid hBd
              have HSRR := Lib.hid hsr
              clear hx hst hB hBd hsr
              go_wp2_with fail
              refine Pj.wp_region_step (fun a0 L a w => ∃ V : Nat → Value, a = Pj.puts [(58, 0), (59, 1), (60, 2), (61, 3), (62, 4), (63, 5), (57, 6), (64, 7), (65, 8), (7, 9), (8, 10)] V a0 ∧ Pj.J wy [Pj.Is (.agg #[.int .i64 k, .int .i64 m, .int .i64 s]), Pj.Is (.slice (some ⟨g, 0, none⟩) 7 7), Pj.Is (.int .i64 z), Pj.Is (.pointer (some ⟨g, z, none⟩)), Pj.Is (.int .i64 x), Pj.Is (.tuple #[.int .i64 N, .int .i64 E]), Pj.Is (.tuple #[.int .i64 N, .int .i64 E]), Pj.Is (.int .i64 N), Pj.Is (.int .i64 E), Pj.Is (.int .i64 N), Pj.Is (.int .i64 E)] L V w) (by as_aux_lemma => kernel_rfl) (by as_aux_lemma => kernel_rfl) ?eh0 ?ehs ?ehe
              case eh0 =>
                intro L hL
                exact ⟨_, Pj.puts_self _ (fun j => ([58, 59, 60, 61, 62, 63, 57, 64, 65, 7, 8] : List Nat).getD j 0) [0, 1, 2, 3, 4, 5, 6, 7, 8, 9, 10], Pj.J.none (n := 11) (Nat.le_refl _) hL ((Kept.refl _).drew)⟩
              case ehs =>
                rintro L L' a w i op K ⟨V, rfl, hJ⟩ ho hopen hdep hL hK
                have hP : Pj.AllStay [Pj.Is (.agg #[.int .i64 k, .int .i64 m, .int .i64 s]), Pj.Is (.slice (some ⟨g, 0, none⟩) 7 7), Pj.Is (.int .i64 z), Pj.Is (.pointer (some ⟨g, z, none⟩)), Pj.Is (.int .i64 x), Pj.Is (.tuple #[.int .i64 N, .int .i64 E]), Pj.Is (.tuple #[.int .i64 N, .int .i64 E]), Pj.Is (.int .i64 N), Pj.Is (.int .i64 E), Pj.Is (.int .i64 N), Pj.Is (.int .i64 E)] := ⟨Pj.Is.stays _, Pj.Is.stays _, Pj.Is.stays _, Pj.Is.stays _, Pj.Is.stays _, Pj.Is.stays _, Pj.Is.stays _, Pj.Is.stays _, Pj.Is.stays _, Pj.Is.stays _, Pj.Is.stays _, trivial⟩
                have HP := Lib.hid hP
                clear hP
                match i, ho with
                | 0, ho =>
                  simp only [List.getElem?_toArray, List.getElem?_cons_zero, Option.some.injEq] at ho
                  obtain ⟨c0, c1, c2⟩ := HS4.out _ (HKy.out.trans hJ.kp)
                  have HJ := Lib.hid hJ
                  clear hJ
                  subst ho
                  refine Pj.Step.free rfl ?_
                  simp only [Pj.puts, List.foldl_cons, List.foldl_nil, Act.put, List.setIfInBounds_toArray, List.set_cons_zero, List.set_cons_succ]
                  go_simp
                  exact hK _ _ ⟨Pj.vset V 0 (.agg #[.int .i64 k, .int .i64 m, .int .i64 s]), by simp only [Pj.puts, List.foldl_cons, List.foldl_nil, Act.put, List.setIfInBounds_toArray, List.set_cons_zero, List.set_cons_succ, Pj.vset, Nat.reduceEqDiff, if_true, if_false], HJ.out.more HP.out hL (Kept.refl _) (rfl)⟩
                | 1, ho =>
                  simp only [List.getElem?_toArray, List.getElem?_cons_zero, List.getElem?_cons_succ, Option.some.injEq] at ho
                  have HJ := Lib.hid hJ
                  clear hJ
                  subst ho
                  refine Pj.Step.free rfl ?_
                  simp only [Pj.puts, List.foldl_cons, List.foldl_nil, Act.put, List.setIfInBounds_toArray, List.set_cons_zero, List.set_cons_succ]
                  go_simp
                  exact hK _ _ ⟨Pj.vset V 1 (.slice (some ⟨g, 0, none⟩) 7 7), by simp only [Pj.puts, List.foldl_cons, List.foldl_nil, Act.put, List.setIfInBounds_toArray, List.set_cons_zero, List.set_cons_succ, Pj.vset, Nat.reduceEqDiff, if_true, if_false], HJ.out.more HP.out hL (Kept.refl _) (rfl)⟩
                | 2, ho =>
                  simp only [List.getElem?_toArray, List.getElem?_cons_zero, List.getElem?_cons_succ, Option.some.injEq] at ho
                  have HJ := Lib.hid hJ
                  clear hJ
                  subst ho
                  refine Pj.Step.free rfl ?_
                  simp only [Pj.puts, List.foldl_cons, List.foldl_nil, Act.put, List.setIfInBounds_toArray, List.set_cons_zero, List.set_cons_succ]
                  go_simp
                  exact hK _ _ ⟨Pj.vset V 2 (.int .i64 z), by simp only [Pj.puts, List.foldl_cons, List.foldl_nil, Act.put, List.setIfInBounds_toArray, List.set_cons_zero, List.set_cons_succ, Pj.vset, Nat.reduceEqDiff, if_true, if_false], HJ.out.more HP.out hL (Kept.refl _) (rfl)⟩
                | 3, ho =>
                  simp only [List.getElem?_toArray, List.getElem?_cons_zero, List.getElem?_cons_succ, Option.some.injEq] at ho
                  have e1 : V 1 = .slice (some ⟨g, 0, none⟩) 7 7 := hJ.h 1 (hdep 1 (by rw [← ho]; kernel_rfl))
                  have e2 : V 2 = .int .i64 z := hJ.h 2 (hdep 2 (by rw [← ho]; kernel_rfl))
                  have hz7i : (z : Int) < 7 := by omega
                  have HJ := Lib.hid hJ
                  clear hJ
                  subst ho
                  refine Pj.Step.free rfl ?_
                  simp only [Pj.puts, List.foldl_cons, List.foldl_nil, Act.put, List.setIfInBounds_toArray, List.set_cons_zero, List.set_cons_succ, e1, e2]
                  go_simp
                  exact hK _ _ ⟨Pj.vset V 3 (.pointer (some ⟨g, z, none⟩)), by simp only [Pj.puts, List.foldl_cons, List.foldl_nil, Act.put, List.setIfInBounds_toArray, List.set_cons_zero, List.set_cons_succ, Pj.vset, Nat.reduceEqDiff, if_true, if_false, e1, e2], HJ.out.more HP.out hL (Kept.refl _) (rfl)⟩
                | 4, ho =>
                  simp only [List.getElem?_toArray, List.getElem?_cons_zero, List.getElem?_cons_succ, Option.some.injEq] at ho
                  have e3 : V 3 = .pointer (some ⟨g, z, none⟩) := hJ.h 3 (hdep 3 (by rw [← ho]; kernel_rfl))
                  have cx := HX.out _ (HKg.out.trans hJ.kp)
                  have HJ := Lib.hid hJ
                  clear hJ
                  subst ho
                  refine Pj.Step.free rfl ?_
                  simp only [Pj.puts, List.foldl_cons, List.foldl_nil, Act.put, List.setIfInBounds_toArray, List.set_cons_zero, List.set_cons_succ, e3]
                  go_simp
                  exact hK _ _ ⟨Pj.vset V 4 (.int .i64 x), by simp only [Pj.puts, List.foldl_cons, List.foldl_nil, Act.put, List.setIfInBounds_toArray, List.set_cons_zero, List.set_cons_succ, Pj.vset, Nat.reduceEqDiff, if_true, if_false, e3], HJ.out.more HP.out hL (Kept.refl _) (rfl)⟩
                | 5, ho =>
                  simp only [List.getElem?_toArray, List.getElem?_cons_zero, List.getElem?_cons_succ, Option.some.injEq] at ho
                  have e0 : V 0 = .agg #[.int .i64 k, .int .i64 m, .int .i64 s] := hJ.h 0 (hdep 0 (by rw [← ho]; kernel_rfl))
                  have e4 : V 4 = .int .i64 x := hJ.h 4 (hdep 4 (by rw [← ho]; kernel_rfl))
                  have HJ := Lib.hid hJ
                  clear hJ
                  subst ho
                  refine Pj.Step.free rfl ?_
                  simp only [Pj.puts, List.foldl_cons, List.foldl_nil, Act.put, List.setIfInBounds_toArray, List.set_cons_zero, List.set_cons_succ, e0, e4]
                  go_simp
                  refine (HST.out _).mono ?_
                  rintro e w' ⟨rfl, hk9⟩
                  exact hK _ _ ⟨Pj.vset V 5 (.tuple #[.int .i64 N, .int .i64 E]), by simp only [Pj.puts, List.foldl_cons, List.foldl_nil, Act.put, List.setIfInBounds_toArray, List.set_cons_zero, List.set_cons_succ, Pj.vset, Nat.reduceEqDiff, if_true, if_false, e0, e4], HJ.out.more HP.out hL (hk9) (rfl)⟩
                | 6, ho =>
                  simp only [List.getElem?_toArray, List.getElem?_cons_zero, List.getElem?_cons_succ, Option.some.injEq] at ho
                  have e5 : V 5 = .tuple #[.int .i64 N, .int .i64 E] := hJ.h 5 (hdep 5 (by rw [← ho]; kernel_rfl))
                  have HJ := Lib.hid hJ
                  clear hJ
                  subst ho
                  refine Pj.Step.free rfl ?_
                  simp only [Pj.puts, List.foldl_cons, List.foldl_nil, Act.put, List.setIfInBounds_toArray, List.set_cons_zero, List.set_cons_succ, e5]
                  go_simp
                  exact hK _ _ ⟨Pj.vset V 6 (.tuple #[.int .i64 N, .int .i64 E]), by simp only [Pj.puts, List.foldl_cons, List.foldl_nil, Act.put, List.setIfInBounds_toArray, List.set_cons_zero, List.set_cons_succ, Pj.vset, Nat.reduceEqDiff, if_true, if_false, e5], HJ.out.more HP.out hL (Kept.refl _) (rfl)⟩
                | 7, ho =>
                  simp only [List.getElem?_toArray, List.getElem?_cons_zero, List.getElem?_cons_succ, Option.some.injEq] at ho
                  have e6 : V 6 = .tuple #[.int .i64 N, .int .i64 E] := hJ.h 6 (hdep 6 (by rw [← ho]; kernel_rfl))
                  have HJ := Lib.hid hJ
                  clear hJ
                  subst ho
                  refine Pj.Step.free rfl ?_
                  simp only [Pj.puts, List.foldl_cons, List.foldl_nil, Act.put, List.setIfInBounds_toArray, List.set_cons_zero, List.set_cons_succ, e6]
                  go_simp
                  exact hK _ _ ⟨Pj.vset V 7 (.int .i64 N), by simp only [Pj.puts, List.foldl_cons, List.foldl_nil, Act.put, List.setIfInBounds_toArray, List.set_cons_zero, List.set_cons_succ, Pj.vset, Nat.reduceEqDiff, if_true, if_false, e6], HJ.out.more HP.out hL (Kept.refl _) (rfl)⟩
                | 8, ho =>
                  simp only [List.getElem?_toArray, List.getElem?_cons_zero, List.getElem?_cons_succ, Option.some.injEq] at ho
                  have e6 : V 6 = .tuple #[.int .i64 N, .int .i64 E] := hJ.h 6 (hdep 6 (by rw [← ho]; kernel_rfl))
                  have HJ := Lib.hid hJ
                  clear hJ
                  subst ho
                  refine Pj.Step.free rfl ?_
                  simp only [Pj.puts, List.foldl_cons, List.foldl_nil, Act.put, List.setIfInBounds_toArray, List.set_cons_zero, List.set_cons_succ, e6]
                  go_simp
                  exact hK _ _ ⟨Pj.vset V 8 (.int .i64 E), by simp only [Pj.puts, List.foldl_cons, List.foldl_nil, Act.put, List.setIfInBounds_toArray, List.set_cons_zero, List.set_cons_succ, Pj.vset, Nat.reduceEqDiff, if_true, if_false, e6], HJ.out.more HP.out hL (Kept.refl _) (rfl)⟩
                | 9, ho =>
                  simp only [List.getElem?_toArray, List.getElem?_cons_zero, List.getElem?_cons_succ, Option.some.injEq] at ho
                  have e7 : V 7 = .int .i64 N := hJ.h 7 (hdep 7 (by rw [← ho]; kernel_rfl))
                  have HJ := Lib.hid hJ
                  clear hJ
                  subst ho
                  refine Pj.Step.free rfl ?_
                  simp only [Pj.puts, List.foldl_cons, List.foldl_nil, Act.put, List.setIfInBounds_toArray, List.set_cons_zero, List.set_cons_succ, e7]
                  go_simp
                  exact hK _ _ ⟨Pj.vset V 9 (.int .i64 N), by simp only [Pj.puts, List.foldl_cons, List.foldl_nil, Act.put, List.setIfInBounds_toArray, List.set_cons_zero, List.set_cons_succ, Pj.vset, Nat.reduceEqDiff, if_true, if_false, e7], HJ.out.more HP.out hL (Kept.refl _) (rfl)⟩
                | 10, ho =>
                  simp only [List.getElem?_toArray, List.getElem?_cons_zero, List.getElem?_cons_succ, Option.some.injEq] at ho
                  have e8 : V 8 = .int .i64 E := hJ.h 8 (hdep 8 (by rw [← ho]; kernel_rfl))
                  have HJ := Lib.hid hJ
                  clear hJ
                  subst ho
                  refine Pj.Step.free rfl ?_
                  simp only [Pj.puts, List.foldl_cons, List.foldl_nil, Act.put, List.setIfInBounds_toArray, List.set_cons_zero, List.set_cons_succ, e8]
                  go_simp
                  exact hK _ _ ⟨Pj.vset V 10 (.int .i64 E), by simp only [Pj.puts, List.foldl_cons, List.foldl_nil, Act.put, List.setIfInBounds_toArray, List.set_cons_zero, List.set_cons_succ, Pj.vset, Nat.reduceEqDiff, if_true, if_false, e8], HJ.out.more HP.out hL (Kept.refl _) (rfl)⟩
                | n + 11, ho => simp at ho
              case ehe =>
                rintro L a w ⟨V, rfl, hJ⟩ hall
                have e0 : V 0 = .agg #[.int .i64 k, .int .i64 m, .int .i64 s] := hJ.h 0 (hall 0 (by decide))
                have e1 : V 1 = .slice (some ⟨g, 0, none⟩) 7 7 := hJ.h 1 (hall 1 (by decide))
                have e2 : V 2 = .int .i64 z := hJ.h 2 (hall 2 (by decide))
                have e3 : V 3 = .pointer (some ⟨g, z, none⟩) := hJ.h 3 (hall 3 (by decide))
                have e4 : V 4 = .int .i64 x := hJ.h 4 (hall 4 (by decide))
                have e5 : V 5 = .tuple #[.int .i64 N, .int .i64 E] := hJ.h 5 (hall 5 (by decide))
                have e6 : V 6 = .tuple #[.int .i64 N, .int .i64 E] := hJ.h 6 (hall 6 (by decide))
                have e7 : V 7 = .int .i64 N := hJ.h 7 (hall 7 (by decide))
                have e8 : V 8 = .int .i64 E := hJ.h 8 (hall 8 (by decide))
                have e9 : V 9 = .int .i64 N := hJ.h 9 (hall 9 (by decide))
                have e10 : V 10 = .int .i64 E := hJ.h 10 (hall 10 (by decide))
                have HKj := Lib.hid hJ.kp
                clear hJ hall
                simp only [Pj.puts, List.foldl_cons, List.foldl_nil, Act.put, List.setIfInBounds_toArray, List.set_cons_zero, List.set_cons_succ, e0, e1, e2, e3, e4, e5, e6, e7, e8, e9, e10]
                clear e0 e1 e2 e3 e4 e5 e6 e7 e8 e9 e10
                have HKp := Lib.hid (HKy.out.trans HKj.out)
                have HKh := Lib.hid (HKg.out.trans HKj.out)
                obtain ⟨c0, c1, c2⟩ := HS4.out _ HKp.out
                have hNN : (N != N) = false := by simp
                go_wp2_with fail
                refine (shape_ref k m s _).mono ?_
                rintro e w5 ⟨rfl, hk5⟩
                have HKq := Lib.hid (HKh.out.trans hk5)
                have HKq4 := Lib.hid (HKp.out.trans hk5)
                clear hk5 c0 c1 c2
                obtain ⟨c0, c1, c2⟩ := HS4.out _ HKq4.out
                have cx := HX.out _ HKq.out
                by_cases hs : shpB k m s = true
                · rw [hs]
                  go_wp2_with fail
                  refine (num_any x 2000 _).mono ?_
                  rintro e w6 ⟨rfl, rfl⟩
                  by_cases hb : (decide (0 ≤ x) && decide (x ≤ 2000)) = true
                  · have hst : stB k m s x = true := by rw [HBD.out, hs, hb]; rfl
                    have hE := HBE.out.1 hst
                    have HSR := Lib.hid (HSRR.out hst)
                    subst hE
                    rw [hb]
                    have hqq : Kept w5 w5 := Kept.refl _
                    clear hst hb hs
                    go_wp2_with fail
                    refine Pj.wp_region_step (fun a0 L a w => ∃ V : Nat → Value, a = Pj.puts [(75, 0), (76, 1), (77, 2), (78, 3), (79, 4), (80, 5), (9, 6), (10, 7)] V a0 ∧ Pj.J w5 [Pj.Is (.agg #[.int .i64 k, .int .i64 m, .int .i64 s]), Pj.Is (.slice (some ⟨g, 0, none⟩) 7 7), Pj.Is (.int .i64 z), Pj.Is (.pointer (some ⟨g, z, none⟩)), Pj.Is (.int .i64 x), Pj.Is (.int .i64 N), Pj.Is (.int .i64 0), Pj.Is (.int .i64 N)] L V w) (by as_aux_lemma => kernel_rfl) (by as_aux_lemma => kernel_rfl) ?eh0 ?ehs ?ehe
                    case eh0 =>
                      intro L hL
                      exact ⟨_, Pj.puts_self _ (fun j => ([75, 76, 77, 78, 79, 80, 9, 10] : List Nat).getD j 0) [0, 1, 2, 3, 4, 5, 6, 7], Pj.J.none (n := 8) (Nat.le_refl _) hL ((Kept.refl _).drew)⟩
                    case ehs =>
                      rintro L L' a w i op K ⟨V, rfl, hJ⟩ ho hopen hdep hL hK
                      have hP : Pj.AllStay [Pj.Is (.agg #[.int .i64 k, .int .i64 m, .int .i64 s]), Pj.Is (.slice (some ⟨g, 0, none⟩) 7 7), Pj.Is (.int .i64 z), Pj.Is (.pointer (some ⟨g, z, none⟩)), Pj.Is (.int .i64 x), Pj.Is (.int .i64 N), Pj.Is (.int .i64 0), Pj.Is (.int .i64 N)] := ⟨Pj.Is.stays _, Pj.Is.stays _, Pj.Is.stays _, Pj.Is.stays _, Pj.Is.stays _, Pj.Is.stays _, Pj.Is.stays _, Pj.Is.stays _, trivial⟩
                      have HP := Lib.hid hP
                      clear hP
                      match i, ho with
                      | 0, ho =>
                        simp only [List.getElem?_toArray, List.getElem?_cons_zero, Option.some.injEq] at ho
                        obtain ⟨c0, c1, c2⟩ := HS4.out _ (HKq4.out.trans hJ.kp)
                        have HJ := Lib.hid hJ
                        clear hJ
                        subst ho
                        refine Pj.Step.free rfl ?_
                        simp only [Pj.puts, List.foldl_cons, List.foldl_nil, Act.put, List.setIfInBounds_toArray, List.set_cons_zero, List.set_cons_succ]
                        go_simp
                        exact hK _ _ ⟨Pj.vset V 0 (.agg #[.int .i64 k, .int .i64 m, .int .i64 s]), by simp only [Pj.puts, List.foldl_cons, List.foldl_nil, Act.put, List.setIfInBounds_toArray, List.set_cons_zero, List.set_cons_succ, Pj.vset, Nat.reduceEqDiff, if_true, if_false], HJ.out.more HP.out hL (Kept.refl _) (rfl)⟩
                      | 1, ho =>
                        simp only [List.getElem?_toArray, List.getElem?_cons_zero, List.getElem?_cons_succ, Option.some.injEq] at ho
                        have HJ := Lib.hid hJ
                        clear hJ
                        subst ho
                        refine Pj.Step.free rfl ?_
                        simp only [Pj.puts, List.foldl_cons, List.foldl_nil, Act.put, List.setIfInBounds_toArray, List.set_cons_zero, List.set_cons_succ]
                        go_simp
                        exact hK _ _ ⟨Pj.vset V 1 (.slice (some ⟨g, 0, none⟩) 7 7), by simp only [Pj.puts, List.foldl_cons, List.foldl_nil, Act.put, List.setIfInBounds_toArray, List.set_cons_zero, List.set_cons_succ, Pj.vset, Nat.reduceEqDiff, if_true, if_false], HJ.out.more HP.out hL (Kept.refl _) (rfl)⟩
                      | 2, ho =>
                        simp only [List.getElem?_toArray, List.getElem?_cons_zero, List.getElem?_cons_succ, Option.some.injEq] at ho
                        have HJ := Lib.hid hJ
                        clear hJ
                        subst ho
                        refine Pj.Step.free rfl ?_
                        simp only [Pj.puts, List.foldl_cons, List.foldl_nil, Act.put, List.setIfInBounds_toArray, List.set_cons_zero, List.set_cons_succ]
                        go_simp
                        exact hK _ _ ⟨Pj.vset V 2 (.int .i64 z), by simp only [Pj.puts, List.foldl_cons, List.foldl_nil, Act.put, List.setIfInBounds_toArray, List.set_cons_zero, List.set_cons_succ, Pj.vset, Nat.reduceEqDiff, if_true, if_false], HJ.out.more HP.out hL (Kept.refl _) (rfl)⟩
                      | 3, ho =>
                        simp only [List.getElem?_toArray, List.getElem?_cons_zero, List.getElem?_cons_succ, Option.some.injEq] at ho
                        have e1 : V 1 = .slice (some ⟨g, 0, none⟩) 7 7 := hJ.h 1 (hdep 1 (by rw [← ho]; kernel_rfl))
                        have e2 : V 2 = .int .i64 z := hJ.h 2 (hdep 2 (by rw [← ho]; kernel_rfl))
                        have hz7i : (z : Int) < 7 := by omega
                        have HJ := Lib.hid hJ
                        clear hJ
                        subst ho
                        refine Pj.Step.free rfl ?_
                        simp only [Pj.puts, List.foldl_cons, List.foldl_nil, Act.put, List.setIfInBounds_toArray, List.set_cons_zero, List.set_cons_succ, e1, e2]
                        go_simp
                        exact hK _ _ ⟨Pj.vset V 3 (.pointer (some ⟨g, z, none⟩)), by simp only [Pj.puts, List.foldl_cons, List.foldl_nil, Act.put, List.setIfInBounds_toArray, List.set_cons_zero, List.set_cons_succ, Pj.vset, Nat.reduceEqDiff, if_true, if_false, e1, e2], HJ.out.more HP.out hL (Kept.refl _) (rfl)⟩
                      | 4, ho =>
                        simp only [List.getElem?_toArray, List.getElem?_cons_zero, List.getElem?_cons_succ, Option.some.injEq] at ho
                        have e3 : V 3 = .pointer (some ⟨g, z, none⟩) := hJ.h 3 (hdep 3 (by rw [← ho]; kernel_rfl))
                        have cx := HX.out _ (HKq.out.trans hJ.kp)
                        have HJ := Lib.hid hJ
                        clear hJ
                        subst ho
                        refine Pj.Step.free rfl ?_
                        simp only [Pj.puts, List.foldl_cons, List.foldl_nil, Act.put, List.setIfInBounds_toArray, List.set_cons_zero, List.set_cons_succ, e3]
                        go_simp
                        exact hK _ _ ⟨Pj.vset V 4 (.int .i64 x), by simp only [Pj.puts, List.foldl_cons, List.foldl_nil, Act.put, List.setIfInBounds_toArray, List.set_cons_zero, List.set_cons_succ, Pj.vset, Nat.reduceEqDiff, if_true, if_false, e3], HJ.out.more HP.out hL (Kept.refl _) (rfl)⟩
                      | 5, ho =>
                        simp only [List.getElem?_toArray, List.getElem?_cons_zero, List.getElem?_cons_succ, Option.some.injEq] at ho
                        have e0 : V 0 = .agg #[.int .i64 k, .int .i64 m, .int .i64 s] := hJ.h 0 (hdep 0 (by rw [← ho]; kernel_rfl))
                        have e4 : V 4 = .int .i64 x := hJ.h 4 (hdep 4 (by rw [← ho]; kernel_rfl))
                        have HJ := Lib.hid hJ
                        clear hJ
                        subst ho
                        refine Pj.Step.free rfl ?_
                        simp only [Pj.puts, List.foldl_cons, List.foldl_nil, Act.put, List.setIfInBounds_toArray, List.set_cons_zero, List.set_cons_succ, e0, e4]
                        go_simp
                        refine (HSR.out _).mono ?_
                        rintro e w' ⟨rfl, hk9⟩
                        exact hK _ _ ⟨Pj.vset V 5 (.int .i64 N), by simp only [Pj.puts, List.foldl_cons, List.foldl_nil, Act.put, List.setIfInBounds_toArray, List.set_cons_zero, List.set_cons_succ, Pj.vset, Nat.reduceEqDiff, if_true, if_false, e0, e4], HJ.out.more HP.out hL (hk9) (rfl)⟩
                      | 6, ho =>
                        simp only [List.getElem?_toArray, List.getElem?_cons_zero, List.getElem?_cons_succ, Option.some.injEq] at ho
                        have HJ := Lib.hid hJ
                        clear hJ
                        subst ho
                        refine Pj.Step.free rfl ?_
                        simp only [Pj.puts, List.foldl_cons, List.foldl_nil, Act.put, List.setIfInBounds_toArray, List.set_cons_zero, List.set_cons_succ]
                        go_simp
                        exact hK _ _ ⟨Pj.vset V 6 (.int .i64 0), by simp only [Pj.puts, List.foldl_cons, List.foldl_nil, Act.put, List.setIfInBounds_toArray, List.set_cons_zero, List.set_cons_succ, Pj.vset, Nat.reduceEqDiff, if_true, if_false], HJ.out.more HP.out hL (Kept.refl _) (rfl)⟩
                      | 7, ho =>
                        simp only [List.getElem?_toArray, List.getElem?_cons_zero, List.getElem?_cons_succ, Option.some.injEq] at ho
                        have e5 : V 5 = .int .i64 N := hJ.h 5 (hdep 5 (by rw [← ho]; kernel_rfl))
                        have HJ := Lib.hid hJ
                        clear hJ
                        subst ho
                        refine Pj.Step.free rfl ?_
                        simp only [Pj.puts, List.foldl_cons, List.foldl_nil, Act.put, List.setIfInBounds_toArray, List.set_cons_zero, List.set_cons_succ, e5]
                        go_simp
                        exact hK _ _ ⟨Pj.vset V 7 (.int .i64 N), by simp only [Pj.puts, List.foldl_cons, List.foldl_nil, Act.put, List.setIfInBounds_toArray, List.set_cons_zero, List.set_cons_succ, Pj.vset, Nat.reduceEqDiff, if_true, if_false, e5], HJ.out.more HP.out hL (Kept.refl _) (rfl)⟩
                      | n + 8, ho => simp at ho
                    case ehe =>
                      rintro L a w ⟨V, rfl, hJ⟩ hall
                      have e0 : V 0 = .agg #[.int .i64 k, .int .i64 m, .int .i64 s] := hJ.h 0 (hall 0 (by decide))
                      have e1 : V 1 = .slice (some ⟨g, 0, none⟩) 7 7 := hJ.h 1 (hall 1 (by decide))
                      have e2 : V 2 = .int .i64 z := hJ.h 2 (hall 2 (by decide))
                      have e3 : V 3 = .pointer (some ⟨g, z, none⟩) := hJ.h 3 (hall 3 (by decide))
                      have e4 : V 4 = .int .i64 x := hJ.h 4 (hall 4 (by decide))
                      have e5 : V 5 = .int .i64 N := hJ.h 5 (hall 5 (by decide))
                      have e6 : V 6 = .int .i64 0 := hJ.h 6 (hall 6 (by decide))
                      have e7 : V 7 = .int .i64 N := hJ.h 7 (hall 7 (by decide))
                      have HKj := Lib.hid hJ.kp
                      clear hJ hall
                      simp only [Pj.puts, List.foldl_cons, List.foldl_nil, Act.put, List.setIfInBounds_toArray, List.set_cons_zero, List.set_cons_succ, e0, e1, e2, e3, e4, e5, e6, e7]
                      clear e0 e1 e2 e3 e4 e5 e6 e7
                      clear c0 c1 c2 cx
                      have HK8 := Lib.hid (HKq.out.trans HKj.out)
                      go_wp2_with fail
                      refine (num7_any _ _).mono ?_
                      rintro e w' ⟨rfl, rfl⟩
                      go_wp2
                      go_roundw
                      case rel => exact ⟨z + 1, by omega, by go_num, HK8.out⟩
                      case measure => simp [intOf]; omega
                  · have hst : ¬ stB k m s x = true := by rw [HBD.out, hs]; simpa using hb
                    obtain ⟨hE, hN0⟩ := HBE.out.2 hst
                    subst hE
                    subst hN0
                    rw [Bool.eq_false_iff.2 hb]
                    clear hst hb hs
                    go_wp2_with fail
                    refine (num7_any _ _).mono ?_
                    rintro e w' ⟨rfl, rfl⟩
                    go_wp2
                    go_roundw
                    case rel => exact ⟨z + 1, by omega, by go_num, HKq.out⟩
                    case measure => simp [intOf]; omega
                · have hst : ¬ stB k m s x = true := by rw [HBD.out, Bool.eq_false_iff.2 hs]; simp
                  obtain ⟨hE, hN0⟩ := HBE.out.2 hst
                  subst hE
                  subst hN0
                  rw [Bool.eq_false_iff.2 hs]
                  clear hst hs
                  go_wp2_with fail
                  refine (num7_any _ _).mono ?_
                  rintro e w' ⟨rfl, rfl⟩
                  go_wp2
                  go_roundw
                  case rel => exact ⟨z + 1, by omega, by go_num, HKq.out⟩
                  case measure => simp [intOf]; omega
            · have hdz : decide ((z : Int) < 7) = false := decide_eq_false (by omega)
              clear hdz
              go_wp2_with fail
              go_loopw [11] (fun i wr => ∃ z : Nat, z ≤ ll ∧ i = .int .i64 z ∧ Kept wa wr) (fun i _ => ll - (intOf i).toNat)
              case atStart => exact ⟨0, by omega, rfl, HKy.out⟩
              case round =>
                clear HXS HKG HKg HKy hz
                obtain ⟨z, hz, rfl, hkx⟩ := hrel
                have HKx := Lib.hid hkx
                obtain ⟨wx, rfl⟩ : ∃ wx : World, wx = wr := ⟨_, rfl⟩
                obtain ⟨a0, a1, a2, a3⟩ := HREAD.out _ (HKa.out.trans hkx)
                clear hkx
                by_cases hzl : z < ll
                · have hdz : decide ((z : Int) < ll) = true := decide_eq_true (by omega)
                  obtain ⟨bt, ot, rfl, htc⟩ : ∃ bt ot, al = some ⟨bt, ot, none⟩ ∧ ∀ i, i < ll → ∀ w, Kept w1 w → w.cell? ⟨bt, ot + i, none⟩ = some (.string (ss.getD i ByteArray.empty)) := by
                    obtain ⟨b, off, ha, hc⟩ := (HA.out.texts.kept HK1.out).strs.cells
                    exact ⟨b, off, ha (by omega), fun i hi w kk => kk.cell (hc i hi).1 (hc i hi).2⟩
                  have htx := htc z hzl
                  have hsz := HSZ.out z hzl
                  generalize ss.getD z ByteArray.empty = t at *
                  have HTX := Lib.hid htx
                  clear htx htc
                  obtain ⟨N, E, PS, hpt, hpe⟩ := parts_all k m s t
                  have HPT := Lib.hid hpt
                  have HPE := Lib.hid hpe
                  clear hpt hpe
                  go_wp2_with fail
                  refine Pj.wp_region_step (fun a0 L a w => ∃ V : Nat → Value, a = Pj.puts [(99, 0), (100, 1), (101, 2), (102, 3), (103, 4), (104, 5), (105, 6), (106, 7), (98, 8), (107, 9), (108, 10), (12, 11), (13, 12)] V a0 ∧ Pj.J wx [Pj.Is (.agg #[.int .i64 k, .int .i64 m, .int .i64 s]), Pj.Is (.pointer (some ⟨W.heap.size, 0, none⟩)), Pj.Is (.pointer (some ⟨W.heap.size, 1, none⟩)), Pj.Is (.slice (some ⟨bt, ot, none⟩) ll cl), Pj.Is (.int .i64 z), Pj.Is (.pointer (some ⟨bt, ot + z, none⟩)), Pj.Is (.string t), (fun w v => ∃ ap kp, v = .tuple #[.slice ap N kp, .int .i64 E] ∧ StrsIn w ap N PS), (fun w v => ∃ ap kp, v = .tuple #[.slice ap N kp, .int .i64 E] ∧ StrsIn w ap N PS), (fun w v => ∃ ap kp, v = .slice ap N kp ∧ StrsIn w ap N PS), Pj.Is (.int .i64 E), (fun w v => ∃ ap kp, v = .slice ap N kp ∧ StrsIn w ap N PS), Pj.Is (.int .i64 E)] L V w) (by as_aux_lemma => kernel_rfl) (by as_aux_lemma => kernel_rfl) ?eh0 ?ehs ?ehe
                  case eh0 =>
                    intro L hL
                    exact ⟨_, Pj.puts_self _ (fun j => ([99, 100, 101, 102, 103, 104, 105, 106, 98, 107, 108, 12, 13] : List Nat).getD j 0) [0, 1, 2, 3, 4, 5, 6, 7, 8, 9, 10, 11, 12], Pj.J.none (n := 13) (Nat.le_refl _) hL ((Kept.refl _).drew)⟩
                  case ehs =>
                    rintro L L' a w i op K ⟨V, rfl, hJ⟩ ho hopen hdep hL hK
                    have hP : Pj.AllStay [Pj.Is (.agg #[.int .i64 k, .int .i64 m, .int .i64 s]), Pj.Is (.pointer (some ⟨W.heap.size, 0, none⟩)), Pj.Is (.pointer (some ⟨W.heap.size, 1, none⟩)), Pj.Is (.slice (some ⟨bt, ot, none⟩) ll cl), Pj.Is (.int .i64 z), Pj.Is (.pointer (some ⟨bt, ot + z, none⟩)), Pj.Is (.string t), (fun w v => ∃ ap kp, v = .tuple #[.slice ap N kp, .int .i64 E] ∧ StrsIn w ap N PS), (fun w v => ∃ ap kp, v = .tuple #[.slice ap N kp, .int .i64 E] ∧ StrsIn w ap N PS), (fun w v => ∃ ap kp, v = .slice ap N kp ∧ StrsIn w ap N PS), Pj.Is (.int .i64 E), (fun w v => ∃ ap kp, v = .slice ap N kp ∧ StrsIn w ap N PS), Pj.Is (.int .i64 E)] := ⟨Pj.Is.stays _, Pj.Is.stays _, Pj.Is.stays _, Pj.Is.stays _, Pj.Is.stays _, Pj.Is.stays _, Pj.Is.stays _, fun _ _ _ ⟨ap, kp, e, h⟩ k => ⟨ap, kp, e, h.kept k⟩, fun _ _ _ ⟨ap, kp, e, h⟩ k => ⟨ap, kp, e, h.kept k⟩, fun _ _ _ ⟨ap, kp, e, h⟩ k => ⟨ap, kp, e, h.kept k⟩, Pj.Is.stays _, fun _ _ _ ⟨ap, kp, e, h⟩ k => ⟨ap, kp, e, h.kept k⟩, Pj.Is.stays _, trivial⟩
                    have HP := Lib.hid hP
                    clear hP
                    match i, ho with
                    | 0, ho =>
                      simp only [List.getElem?_toArray, List.getElem?_cons_zero, Option.some.injEq] at ho
                      obtain ⟨c0, c1, c2⟩ := HS4.out _ (HKx.out.trans hJ.kp)
                      have HJ := Lib.hid hJ
                      clear hJ
                      subst ho
                      refine Pj.Step.free rfl ?_
                      simp only [Pj.puts, List.foldl_cons, List.foldl_nil, Act.put, List.setIfInBounds_toArray, List.set_cons_zero, List.set_cons_succ]
                      go_simp
                      exact hK _ _ ⟨Pj.vset V 0 (.agg #[.int .i64 k, .int .i64 m, .int .i64 s]), by simp only [Pj.puts, List.foldl_cons, List.foldl_nil, Act.put, List.setIfInBounds_toArray, List.set_cons_zero, List.set_cons_succ, Pj.vset, Nat.reduceEqDiff, if_true, if_false], HJ.out.more HP.out hL (Kept.refl _) (rfl)⟩
                    | 1, ho =>
                      simp only [List.getElem?_toArray, List.getElem?_cons_zero, List.getElem?_cons_succ, Option.some.injEq] at ho
                      have HJ := Lib.hid hJ
                      clear hJ
                      subst ho
                      refine Pj.Step.free rfl ?_
                      simp only [Pj.puts, List.foldl_cons, List.foldl_nil, Act.put, List.setIfInBounds_toArray, List.set_cons_zero, List.set_cons_succ]
                      go_simp
                      exact hK _ _ ⟨Pj.vset V 1 (.pointer (some ⟨W.heap.size, 0, none⟩)), by simp only [Pj.puts, List.foldl_cons, List.foldl_nil, Act.put, List.setIfInBounds_toArray, List.set_cons_zero, List.set_cons_succ, Pj.vset, Nat.reduceEqDiff, if_true, if_false], HJ.out.more HP.out hL (Kept.refl _) (rfl)⟩
                    | 2, ho =>
                      simp only [List.getElem?_toArray, List.getElem?_cons_zero, List.getElem?_cons_succ, Option.some.injEq] at ho
                      have e1 : V 1 = .pointer (some ⟨W.heap.size, 0, none⟩) := hJ.h 1 (hdep 1 (by rw [← ho]; kernel_rfl))
                      have HJ := Lib.hid hJ
                      clear hJ
                      subst ho
                      refine Pj.Step.free rfl ?_
                      simp only [Pj.puts, List.foldl_cons, List.foldl_nil, Act.put, List.setIfInBounds_toArray, List.set_cons_zero, List.set_cons_succ, e1]
                      go_simp
                      exact hK _ _ ⟨Pj.vset V 2 (.pointer (some ⟨W.heap.size, 1, none⟩)), by simp only [Pj.puts, List.foldl_cons, List.foldl_nil, Act.put, List.setIfInBounds_toArray, List.set_cons_zero, List.set_cons_succ, Pj.vset, Nat.reduceEqDiff, if_true, if_false, e1], HJ.out.more HP.out hL (Kept.refl _) (rfl)⟩
                    | 3, ho =>
                      simp only [List.getElem?_toArray, List.getElem?_cons_zero, List.getElem?_cons_succ, Option.some.injEq] at ho
                      have e2 : V 2 = .pointer (some ⟨W.heap.size, 1, none⟩) := hJ.h 2 (hdep 2 (by rw [← ho]; kernel_rfl))
                      obtain ⟨a0, a1, a2, a3⟩ := HREAD.out _ (HKa.out.trans (HKx.out.trans hJ.kp))
                      have HJ := Lib.hid hJ
                      clear hJ
                      subst ho
                      refine Pj.Step.free rfl ?_
                      simp only [Pj.puts, List.foldl_cons, List.foldl_nil, Act.put, List.setIfInBounds_toArray, List.set_cons_zero, List.set_cons_succ, e2]
                      go_simp
                      exact hK _ _ ⟨Pj.vset V 3 (.slice (some ⟨bt, ot, none⟩) ll cl), by simp only [Pj.puts, List.foldl_cons, List.foldl_nil, Act.put, List.setIfInBounds_toArray, List.set_cons_zero, List.set_cons_succ, Pj.vset, Nat.reduceEqDiff, if_true, if_false, e2], HJ.out.more HP.out hL (Kept.refl _) (rfl)⟩
                    | 4, ho =>
                      simp only [List.getElem?_toArray, List.getElem?_cons_zero, List.getElem?_cons_succ, Option.some.injEq] at ho
                      have HJ := Lib.hid hJ
                      clear hJ
                      subst ho
                      refine Pj.Step.free rfl ?_
                      simp only [Pj.puts, List.foldl_cons, List.foldl_nil, Act.put, List.setIfInBounds_toArray, List.set_cons_zero, List.set_cons_succ]
                      go_simp
                      exact hK _ _ ⟨Pj.vset V 4 (.int .i64 z), by simp only [Pj.puts, List.foldl_cons, List.foldl_nil, Act.put, List.setIfInBounds_toArray, List.set_cons_zero, List.set_cons_succ, Pj.vset, Nat.reduceEqDiff, if_true, if_false], HJ.out.more HP.out hL (Kept.refl _) (rfl)⟩
                    | 5, ho =>
                      simp only [List.getElem?_toArray, List.getElem?_cons_zero, List.getElem?_cons_succ, Option.some.injEq] at ho
                      have e3 : V 3 = .slice (some ⟨bt, ot, none⟩) ll cl := hJ.h 3 (hdep 3 (by rw [← ho]; kernel_rfl))
                      have e4 : V 4 = .int .i64 z := hJ.h 4 (hdep 4 (by rw [← ho]; kernel_rfl))
                      have HJ := Lib.hid hJ
                      clear hJ
                      subst ho
                      refine Pj.Step.free rfl ?_
                      simp only [Pj.puts, List.foldl_cons, List.foldl_nil, Act.put, List.setIfInBounds_toArray, List.set_cons_zero, List.set_cons_succ, e3, e4]
                      go_simp
                      exact hK _ _ ⟨Pj.vset V 5 (.pointer (some ⟨bt, ot + z, none⟩)), by simp only [Pj.puts, List.foldl_cons, List.foldl_nil, Act.put, List.setIfInBounds_toArray, List.set_cons_zero, List.set_cons_succ, Pj.vset, Nat.reduceEqDiff, if_true, if_false, e3, e4], HJ.out.more HP.out hL (Kept.refl _) (rfl)⟩
                    | 6, ho =>
                      simp only [List.getElem?_toArray, List.getElem?_cons_zero, List.getElem?_cons_succ, Option.some.injEq] at ho
                      have e5 : V 5 = .pointer (some ⟨bt, ot + z, none⟩) := hJ.h 5 (hdep 5 (by rw [← ho]; kernel_rfl))
                      have ct := HTX.out _ (HKa.out.trans (HKx.out.trans hJ.kp))
                      have HJ := Lib.hid hJ
                      clear hJ
                      subst ho
                      refine Pj.Step.free rfl ?_
                      simp only [Pj.puts, List.foldl_cons, List.foldl_nil, Act.put, List.setIfInBounds_toArray, List.set_cons_zero, List.set_cons_succ, e5]
                      go_simp
                      exact hK _ _ ⟨Pj.vset V 6 (.string t), by simp only [Pj.puts, List.foldl_cons, List.foldl_nil, Act.put, List.setIfInBounds_toArray, List.set_cons_zero, List.set_cons_succ, Pj.vset, Nat.reduceEqDiff, if_true, if_false, e5], HJ.out.more HP.out hL (Kept.refl _) (rfl)⟩
                    | 7, ho =>
                      simp only [List.getElem?_toArray, List.getElem?_cons_zero, List.getElem?_cons_succ, Option.some.injEq] at ho
                      have e0 : V 0 = .agg #[.int .i64 k, .int .i64 m, .int .i64 s] := hJ.h 0 (hdep 0 (by rw [← ho]; kernel_rfl))
                      have e6 : V 6 = .string t := hJ.h 6 (hdep 6 (by rw [← ho]; kernel_rfl))
                      have HJ := Lib.hid hJ
                      clear hJ
                      subst ho
                      refine Pj.Step.free rfl ?_
                      simp only [Pj.puts, List.foldl_cons, List.foldl_nil, Act.put, List.setIfInBounds_toArray, List.set_cons_zero, List.set_cons_succ, e0, e6]
                      go_simp
                      refine (HPT.out _).mono ?_
                      rintro e w' ⟨ap, kp, rfl, hs9, hk9⟩
                      exact hK _ _ ⟨Pj.vset V 7 (.tuple #[.slice ap N kp, .int .i64 E]), by simp only [Pj.puts, List.foldl_cons, List.foldl_nil, Act.put, List.setIfInBounds_toArray, List.set_cons_zero, List.set_cons_succ, Pj.vset, Nat.reduceEqDiff, if_true, if_false, e0, e6], HJ.out.more HP.out hL (hk9) (⟨_, _, rfl, hs9⟩)⟩
                    | 8, ho =>
                      simp only [List.getElem?_toArray, List.getElem?_cons_zero, List.getElem?_cons_succ, Option.some.injEq] at ho
                      obtain ⟨ap, kp, e7, hap⟩ := hJ.h 7 (hdep 7 (by rw [← ho]; kernel_rfl))
                      have HJ := Lib.hid hJ
                      clear hJ
                      subst ho
                      refine Pj.Step.free rfl ?_
                      simp only [Pj.puts, List.foldl_cons, List.foldl_nil, Act.put, List.setIfInBounds_toArray, List.set_cons_zero, List.set_cons_succ, e7]
                      go_simp
                      exact hK _ _ ⟨Pj.vset V 8 (.tuple #[.slice ap N kp, .int .i64 E]), by simp only [Pj.puts, List.foldl_cons, List.foldl_nil, Act.put, List.setIfInBounds_toArray, List.set_cons_zero, List.set_cons_succ, Pj.vset, Nat.reduceEqDiff, if_true, if_false, e7], HJ.out.more HP.out hL (Kept.refl _) (⟨_, _, rfl, hap⟩)⟩
                    | 9, ho =>
                      simp only [List.getElem?_toArray, List.getElem?_cons_zero, List.getElem?_cons_succ, Option.some.injEq] at ho
                      obtain ⟨ap, kp, e8, hap⟩ := hJ.h 8 (hdep 8 (by rw [← ho]; kernel_rfl))
                      have HJ := Lib.hid hJ
                      clear hJ
                      subst ho
                      refine Pj.Step.free rfl ?_
                      simp only [Pj.puts, List.foldl_cons, List.foldl_nil, Act.put, List.setIfInBounds_toArray, List.set_cons_zero, List.set_cons_succ, e8]
                      go_simp
                      exact hK _ _ ⟨Pj.vset V 9 (.slice ap N kp), by simp only [Pj.puts, List.foldl_cons, List.foldl_nil, Act.put, List.setIfInBounds_toArray, List.set_cons_zero, List.set_cons_succ, Pj.vset, Nat.reduceEqDiff, if_true, if_false, e8], HJ.out.more HP.out hL (Kept.refl _) (⟨_, _, rfl, hap⟩)⟩
                    | 10, ho =>
                      simp only [List.getElem?_toArray, List.getElem?_cons_zero, List.getElem?_cons_succ, Option.some.injEq] at ho
                      obtain ⟨ap, kp, e8, hap⟩ := hJ.h 8 (hdep 8 (by rw [← ho]; kernel_rfl))
                      have HJ := Lib.hid hJ
                      clear hJ
                      subst ho
                      refine Pj.Step.free rfl ?_
                      simp only [Pj.puts, List.foldl_cons, List.foldl_nil, Act.put, List.setIfInBounds_toArray, List.set_cons_zero, List.set_cons_succ, e8]
                      go_simp
                      exact hK _ _ ⟨Pj.vset V 10 (.int .i64 E), by simp only [Pj.puts, List.foldl_cons, List.foldl_nil, Act.put, List.setIfInBounds_toArray, List.set_cons_zero, List.set_cons_succ, Pj.vset, Nat.reduceEqDiff, if_true, if_false, e8], HJ.out.more HP.out hL (Kept.refl _) (rfl)⟩
                    | 11, ho =>
                      simp only [List.getElem?_toArray, List.getElem?_cons_zero, List.getElem?_cons_succ, Option.some.injEq] at ho
                      obtain ⟨ap, kp, e9, hap⟩ := hJ.h 9 (hdep 9 (by rw [← ho]; kernel_rfl))
                      have HJ := Lib.hid hJ
                      clear hJ
                      subst ho
                      refine Pj.Step.free rfl ?_
                      simp only [Pj.puts, List.foldl_cons, List.foldl_nil, Act.put, List.setIfInBounds_toArray, List.set_cons_zero, List.set_cons_succ, e9]
                      go_simp
                      exact hK _ _ ⟨Pj.vset V 11 (.slice ap N kp), by simp only [Pj.puts, List.foldl_cons, List.foldl_nil, Act.put, List.setIfInBounds_toArray, List.set_cons_zero, List.set_cons_succ, Pj.vset, Nat.reduceEqDiff, if_true, if_false, e9], HJ.out.more HP.out hL (Kept.refl _) (⟨_, _, rfl, hap⟩)⟩
                    | 12, ho =>
                      simp only [List.getElem?_toArray, List.getElem?_cons_zero, List.getElem?_cons_succ, Option.some.injEq] at ho
                      have e10 : V 10 = .int .i64 E := hJ.h 10 (hdep 10 (by rw [← ho]; kernel_rfl))
                      have HJ := Lib.hid hJ
                      clear hJ
                      subst ho
                      refine Pj.Step.free rfl ?_
                      simp only [Pj.puts, List.foldl_cons, List.foldl_nil, Act.put, List.setIfInBounds_toArray, List.set_cons_zero, List.set_cons_succ, e10]
                      go_simp
                      exact hK _ _ ⟨Pj.vset V 12 (.int .i64 E), by simp only [Pj.puts, List.foldl_cons, List.foldl_nil, Act.put, List.setIfInBounds_toArray, List.set_cons_zero, List.set_cons_succ, Pj.vset, Nat.reduceEqDiff, if_true, if_false, e10], HJ.out.more HP.out hL (Kept.refl _) (rfl)⟩
                    | n + 13, ho => simp at ho
                  case ehe =>
                    rintro L a w ⟨V, rfl, hJ⟩ hall
                    obtain ⟨ap, kp, e11, hap⟩ := hJ.h 11 (hall 11 (by decide))
                    have e12 : V 12 = .int .i64 E := hJ.h 12 (hall 12 (by decide))
                    have HKj := Lib.hid hJ.kp
                    clear hJ hall
                    simp only [Pj.puts, List.foldl_cons, List.foldl_nil, Act.put, List.setIfInBounds_toArray, List.set_cons_zero, List.set_cons_succ, e11, e12]
                    clear e11 e12
                    have HST3 := Lib.hid hap
                    have HKz := Lib.hid (HKx.out.trans HKj.out)
                    clear hap
                    obtain ⟨c0, c1, c2⟩ := HS4.out _ HKz.out
                    go_wp2_with fail
                    refine (shape_ref k m s _).mono ?_
                    rintro e w5 ⟨rfl, hk5⟩
                    have HKz5 := Lib.hid (HKz.out.trans hk5)
                    have HST5 := Lib.hid (HST3.out.kept hk5)
                    clear hk5 c0 c1 c2
                    obtain ⟨a0, a1, a2, a3⟩ := HREAD.out _ (HKa.out.trans HKz5.out)
                    have ct := HTX.out _ (HKa.out.trans HKz5.out)
                    rcases HPE.out with ⟨hs, hE, hN, hP⟩ | ⟨hs, ht, hE, hN, hP⟩ | ⟨hs, ht, hE, hpr⟩
                    · rw [Bool.eq_false_iff.2 hs]
                      subst hE
                      subst hN
                      subst hP
                      clear hs
                      go_wp2_with fail
                      refine (num7_any _ _).mono ?_
                      rintro e w' ⟨rfl, rfl⟩
                      go_wp2_with fail
                      refine (eq_strings ap none _ _ _ [] _ HST5.out (⟨rfl, by omega, (fun _ h => by cases h), 0, 0, fun h => absurd h (Nat.lt_irrefl 0), fun i hi => absurd hi (Nat.not_lt_zero i)⟩)).mono ?_
                      rintro e w9 ⟨rfl, hk9⟩
                      have HK9 := Lib.hid (HKz5.out.trans hk9)
                      clear hk9
                      go_wp2
                      go_roundw
                      case rel => exact ⟨z + 1, by omega, by go_num, HK9.out⟩
                      case measure => simp [intOf]; omega
                    · rw [hs]
                      subst hE
                      subst hN
                      subst hP
                      have hd2 : decide ((t.size : Int) ≤ 2000) = false := decide_eq_false (by omega)
                      clear hs
                      go_wp2_with fail
                      refine (num7_any _ _).mono ?_
                      rintro e w' ⟨rfl, rfl⟩
                      go_wp2_with fail
                      refine (eq_strings ap none _ _ _ [] _ HST5.out (⟨rfl, by omega, (fun _ h => by cases h), 0, 0, fun h => absurd h (Nat.lt_irrefl 0), fun i hi => absurd hi (Nat.not_lt_zero i)⟩)).mono ?_
                      rintro e w9 ⟨rfl, hk9⟩
                      have HK9 := Lib.hid (HKz5.out.trans hk9)
                      clear hk9
                      go_wp2
                      go_roundw
                      case rel => exact ⟨z + 1, by omega, by go_num, HK9.out⟩
                      case measure => simp [intOf]; omega
                    · rw [hs]
                      subst hE
                      have hd2 : decide ((t.size : Int) ≤ 2000) = true := decide_eq_true (by omega)
                      have HPR := Lib.hid hpr
                      clear hs hpr
                      go_wp2_with fail
                      refine Pj.wp_region_step (fun a0 L a w => ∃ V : Nat → Value, a = Pj.puts [(119, 0), (120, 1), (121, 2), (122, 3), (123, 4), (124, 5), (125, 6), (126, 7), (14, 8), (15, 9)] V a0 ∧ Pj.J w5 [Pj.Is (.agg #[.int .i64 k, .int .i64 m, .int .i64 s]), Pj.Is (.pointer (some ⟨W.heap.size, 0, none⟩)), Pj.Is (.pointer (some ⟨W.heap.size, 1, none⟩)), Pj.Is (.slice (some ⟨bt, ot, none⟩) ll cl), Pj.Is (.int .i64 z), Pj.Is (.pointer (some ⟨bt, ot + z, none⟩)), Pj.Is (.string t), (fun w v => ∃ ap kp, v = .slice ap N kp ∧ StrsIn w ap N PS), Pj.Is (.int .i64 0), (fun w v => ∃ ap kp, v = .slice ap N kp ∧ StrsIn w ap N PS)] L V w) (by as_aux_lemma => kernel_rfl) (by as_aux_lemma => kernel_rfl) ?eh0 ?ehs ?ehe
                      case eh0 =>
                        intro L hL
                        exact ⟨_, Pj.puts_self _ (fun j => ([119, 120, 121, 122, 123, 124, 125, 126, 14, 15] : List Nat).getD j 0) [0, 1, 2, 3, 4, 5, 6, 7, 8, 9], Pj.J.none (n := 10) (Nat.le_refl _) hL ((Kept.refl _).drew)⟩
                      case ehs =>
                        rintro L L' a w i op K ⟨V, rfl, hJ⟩ ho hopen hdep hL hK
                        have hP : Pj.AllStay [Pj.Is (.agg #[.int .i64 k, .int .i64 m, .int .i64 s]), Pj.Is (.pointer (some ⟨W.heap.size, 0, none⟩)), Pj.Is (.pointer (some ⟨W.heap.size, 1, none⟩)), Pj.Is (.slice (some ⟨bt, ot, none⟩) ll cl), Pj.Is (.int .i64 z), Pj.Is (.pointer (some ⟨bt, ot + z, none⟩)), Pj.Is (.string t), (fun w v => ∃ ap kp, v = .slice ap N kp ∧ StrsIn w ap N PS), Pj.Is (.int .i64 0), (fun w v => ∃ ap kp, v = .slice ap N kp ∧ StrsIn w ap N PS)] := ⟨Pj.Is.stays _, Pj.Is.stays _, Pj.Is.stays _, Pj.Is.stays _, Pj.Is.stays _, Pj.Is.stays _, Pj.Is.stays _, fun _ _ _ ⟨ap, kp, e, h⟩ k => ⟨ap, kp, e, h.kept k⟩, Pj.Is.stays _, fun _ _ _ ⟨ap, kp, e, h⟩ k => ⟨ap, kp, e, h.kept k⟩, trivial⟩
                        have HP := Lib.hid hP
                        clear hP
                        match i, ho with
                        | 0, ho =>
                          simp only [List.getElem?_toArray, List.getElem?_cons_zero, Option.some.injEq] at ho
                          obtain ⟨c0, c1, c2⟩ := HS4.out _ (HKz5.out.trans hJ.kp)
                          have HJ := Lib.hid hJ
                          clear hJ
                          subst ho
                          refine Pj.Step.free rfl ?_
                          simp only [Pj.puts, List.foldl_cons, List.foldl_nil, Act.put, List.setIfInBounds_toArray, List.set_cons_zero, List.set_cons_succ]
                          go_simp
                          exact hK _ _ ⟨Pj.vset V 0 (.agg #[.int .i64 k, .int .i64 m, .int .i64 s]), by simp only [Pj.puts, List.foldl_cons, List.foldl_nil, Act.put, List.setIfInBounds_toArray, List.set_cons_zero, List.set_cons_succ, Pj.vset, Nat.reduceEqDiff, if_true, if_false], HJ.out.more HP.out hL (Kept.refl _) (rfl)⟩
                        | 1, ho =>
                          simp only [List.getElem?_toArray, List.getElem?_cons_zero, List.getElem?_cons_succ, Option.some.injEq] at ho
                          have HJ := Lib.hid hJ
                          clear hJ
                          subst ho
                          refine Pj.Step.free rfl ?_
                          simp only [Pj.puts, List.foldl_cons, List.foldl_nil, Act.put, List.setIfInBounds_toArray, List.set_cons_zero, List.set_cons_succ]
                          go_simp
                          exact hK _ _ ⟨Pj.vset V 1 (.pointer (some ⟨W.heap.size, 0, none⟩)), by simp only [Pj.puts, List.foldl_cons, List.foldl_nil, Act.put, List.setIfInBounds_toArray, List.set_cons_zero, List.set_cons_succ, Pj.vset, Nat.reduceEqDiff, if_true, if_false], HJ.out.more HP.out hL (Kept.refl _) (rfl)⟩
                        | 2, ho =>
                          simp only [List.getElem?_toArray, List.getElem?_cons_zero, List.getElem?_cons_succ, Option.some.injEq] at ho
                          have e1 : V 1 = .pointer (some ⟨W.heap.size, 0, none⟩) := hJ.h 1 (hdep 1 (by rw [← ho]; kernel_rfl))
                          have HJ := Lib.hid hJ
                          clear hJ
                          subst ho
                          refine Pj.Step.free rfl ?_
                          simp only [Pj.puts, List.foldl_cons, List.foldl_nil, Act.put, List.setIfInBounds_toArray, List.set_cons_zero, List.set_cons_succ, e1]
                          go_simp
                          exact hK _ _ ⟨Pj.vset V 2 (.pointer (some ⟨W.heap.size, 1, none⟩)), by simp only [Pj.puts, List.foldl_cons, List.foldl_nil, Act.put, List.setIfInBounds_toArray, List.set_cons_zero, List.set_cons_succ, Pj.vset, Nat.reduceEqDiff, if_true, if_false, e1], HJ.out.more HP.out hL (Kept.refl _) (rfl)⟩
                        | 3, ho =>
                          simp only [List.getElem?_toArray, List.getElem?_cons_zero, List.getElem?_cons_succ, Option.some.injEq] at ho
                          have e2 : V 2 = .pointer (some ⟨W.heap.size, 1, none⟩) := hJ.h 2 (hdep 2 (by rw [← ho]; kernel_rfl))
                          obtain ⟨a0, a1, a2, a3⟩ := HREAD.out _ (HKa.out.trans (HKz5.out.trans hJ.kp))
                          have HJ := Lib.hid hJ
                          clear hJ
                          subst ho
                          refine Pj.Step.free rfl ?_
                          simp only [Pj.puts, List.foldl_cons, List.foldl_nil, Act.put, List.setIfInBounds_toArray, List.set_cons_zero, List.set_cons_succ, e2]
                          go_simp
                          exact hK _ _ ⟨Pj.vset V 3 (.slice (some ⟨bt, ot, none⟩) ll cl), by simp only [Pj.puts, List.foldl_cons, List.foldl_nil, Act.put, List.setIfInBounds_toArray, List.set_cons_zero, List.set_cons_succ, Pj.vset, Nat.reduceEqDiff, if_true, if_false, e2], HJ.out.more HP.out hL (Kept.refl _) (rfl)⟩
                        | 4, ho =>
                          simp only [List.getElem?_toArray, List.getElem?_cons_zero, List.getElem?_cons_succ, Option.some.injEq] at ho
                          have HJ := Lib.hid hJ
                          clear hJ
                          subst ho
                          refine Pj.Step.free rfl ?_
                          simp only [Pj.puts, List.foldl_cons, List.foldl_nil, Act.put, List.setIfInBounds_toArray, List.set_cons_zero, List.set_cons_succ]
                          go_simp
                          exact hK _ _ ⟨Pj.vset V 4 (.int .i64 z), by simp only [Pj.puts, List.foldl_cons, List.foldl_nil, Act.put, List.setIfInBounds_toArray, List.set_cons_zero, List.set_cons_succ, Pj.vset, Nat.reduceEqDiff, if_true, if_false], HJ.out.more HP.out hL (Kept.refl _) (rfl)⟩
                        | 5, ho =>
                          simp only [List.getElem?_toArray, List.getElem?_cons_zero, List.getElem?_cons_succ, Option.some.injEq] at ho
                          have e3 : V 3 = .slice (some ⟨bt, ot, none⟩) ll cl := hJ.h 3 (hdep 3 (by rw [← ho]; kernel_rfl))
                          have e4 : V 4 = .int .i64 z := hJ.h 4 (hdep 4 (by rw [← ho]; kernel_rfl))
                          have HJ := Lib.hid hJ
                          clear hJ
                          subst ho
                          refine Pj.Step.free rfl ?_
                          simp only [Pj.puts, List.foldl_cons, List.foldl_nil, Act.put, List.setIfInBounds_toArray, List.set_cons_zero, List.set_cons_succ, e3, e4]
                          go_simp
                          exact hK _ _ ⟨Pj.vset V 5 (.pointer (some ⟨bt, ot + z, none⟩)), by simp only [Pj.puts, List.foldl_cons, List.foldl_nil, Act.put, List.setIfInBounds_toArray, List.set_cons_zero, List.set_cons_succ, Pj.vset, Nat.reduceEqDiff, if_true, if_false, e3, e4], HJ.out.more HP.out hL (Kept.refl _) (rfl)⟩
                        | 6, ho =>
                          simp only [List.getElem?_toArray, List.getElem?_cons_zero, List.getElem?_cons_succ, Option.some.injEq] at ho
                          have e5 : V 5 = .pointer (some ⟨bt, ot + z, none⟩) := hJ.h 5 (hdep 5 (by rw [← ho]; kernel_rfl))
                          have ct := HTX.out _ (HKa.out.trans (HKz5.out.trans hJ.kp))
                          have HJ := Lib.hid hJ
                          clear hJ
                          subst ho
                          refine Pj.Step.free rfl ?_
                          simp only [Pj.puts, List.foldl_cons, List.foldl_nil, Act.put, List.setIfInBounds_toArray, List.set_cons_zero, List.set_cons_succ, e5]
                          go_simp
                          exact hK _ _ ⟨Pj.vset V 6 (.string t), by simp only [Pj.puts, List.foldl_cons, List.foldl_nil, Act.put, List.setIfInBounds_toArray, List.set_cons_zero, List.set_cons_succ, Pj.vset, Nat.reduceEqDiff, if_true, if_false, e5], HJ.out.more HP.out hL (Kept.refl _) (rfl)⟩
                        | 7, ho =>
                          simp only [List.getElem?_toArray, List.getElem?_cons_zero, List.getElem?_cons_succ, Option.some.injEq] at ho
                          have e0 : V 0 = .agg #[.int .i64 k, .int .i64 m, .int .i64 s] := hJ.h 0 (hdep 0 (by rw [← ho]; kernel_rfl))
                          have e6 : V 6 = .string t := hJ.h 6 (hdep 6 (by rw [← ho]; kernel_rfl))
                          have HJ := Lib.hid hJ
                          clear hJ
                          subst ho
                          refine Pj.Step.free rfl ?_
                          simp only [Pj.puts, List.foldl_cons, List.foldl_nil, Act.put, List.setIfInBounds_toArray, List.set_cons_zero, List.set_cons_succ, e0, e6]
                          go_simp
                          refine (HPR.out _).mono ?_
                          rintro e w' ⟨ap, kp, rfl, hs9, hk9⟩
                          exact hK _ _ ⟨Pj.vset V 7 (.slice ap N kp), by simp only [Pj.puts, List.foldl_cons, List.foldl_nil, Act.put, List.setIfInBounds_toArray, List.set_cons_zero, List.set_cons_succ, Pj.vset, Nat.reduceEqDiff, if_true, if_false, e0, e6], HJ.out.more HP.out hL (hk9) (⟨_, _, rfl, hs9⟩)⟩
                        | 8, ho =>
                          simp only [List.getElem?_toArray, List.getElem?_cons_zero, List.getElem?_cons_succ, Option.some.injEq] at ho
                          have HJ := Lib.hid hJ
                          clear hJ
                          subst ho
                          refine Pj.Step.free rfl ?_
                          simp only [Pj.puts, List.foldl_cons, List.foldl_nil, Act.put, List.setIfInBounds_toArray, List.set_cons_zero, List.set_cons_succ]
                          go_simp
                          exact hK _ _ ⟨Pj.vset V 8 (.int .i64 0), by simp only [Pj.puts, List.foldl_cons, List.foldl_nil, Act.put, List.setIfInBounds_toArray, List.set_cons_zero, List.set_cons_succ, Pj.vset, Nat.reduceEqDiff, if_true, if_false], HJ.out.more HP.out hL (Kept.refl _) (rfl)⟩
                        | 9, ho =>
                          simp only [List.getElem?_toArray, List.getElem?_cons_zero, List.getElem?_cons_succ, Option.some.injEq] at ho
                          obtain ⟨ap, kp, e7, hap⟩ := hJ.h 7 (hdep 7 (by rw [← ho]; kernel_rfl))
                          have HJ := Lib.hid hJ
                          clear hJ
                          subst ho
                          refine Pj.Step.free rfl ?_
                          simp only [Pj.puts, List.foldl_cons, List.foldl_nil, Act.put, List.setIfInBounds_toArray, List.set_cons_zero, List.set_cons_succ, e7]
                          go_simp
                          exact hK _ _ ⟨Pj.vset V 9 (.slice ap N kp), by simp only [Pj.puts, List.foldl_cons, List.foldl_nil, Act.put, List.setIfInBounds_toArray, List.set_cons_zero, List.set_cons_succ, Pj.vset, Nat.reduceEqDiff, if_true, if_false, e7], HJ.out.more HP.out hL (Kept.refl _) (⟨_, _, rfl, hap⟩)⟩
                        | n + 10, ho => simp at ho
                      case ehe =>
                        rintro L a w ⟨V, rfl, hJ⟩ hall
                        have e8 : V 8 = .int .i64 0 := hJ.h 8 (hall 8 (by decide))
                        obtain ⟨ap, kp, e9, hap⟩ := hJ.h 9 (hall 9 (by decide))
                        have HKj := Lib.hid hJ.kp
                        clear hJ hall
                        simp only [Pj.puts, List.foldl_cons, List.foldl_nil, Act.put, List.setIfInBounds_toArray, List.set_cons_zero, List.set_cons_succ, e8, e9]
                        clear e8 e9
                        have HK8 := Lib.hid (HKz5.out.trans HKj.out)
                        have HSA := Lib.hid (HST5.out.kept HKj.out)
                        have HSB := Lib.hid hap
                        clear hap
                        go_wp2_with fail
                        refine (num7_any _ _).mono ?_
                        rintro e w' ⟨rfl, rfl⟩
                        go_wp2_with fail
                        refine (eq_strings _ _ _ _ _ PS _ HSA.out HSB.out).mono ?_
                        rintro e w9 ⟨rfl, hk9⟩
                        have HK9 := Lib.hid (HK8.out.trans hk9)
                        clear hk9
                        go_wp2
                        go_roundw
                        case rel => exact ⟨z + 1, by omega, by go_num, HK9.out⟩
                        case measure => simp [intOf]; omega
                · have hdz : decide ((z : Int) < ll) = false := decide_eq_false (by omega)
                  go_wp2
                  go_roundw
                  case rel => exact ⟨j + 1, by omega, by go_num, HKa.out.trans HKx.out⟩
                  case measure => simp [intOf]; omega
        · have hd1 : decide ((j : Int) < ls) = true := decide_eq_true (by omega)
          have hd2 : decide ((j : Int) < 4) = false := decide_eq_false (by omega)
          go_wp2_with fail
          refine (wakes7_any _).mono ?_
          rintro e w3 ⟨rfl, hk3⟩
          have HK3 := Lib.hid (HK.out.trans hk3)
          clear hk3 a0 a1 a2 a3
          go_wp2
          go_ret
          exact ⟨rfl, HK1.out.trans HK3.out⟩
      · have hd1 : decide ((j : Int) < ls) = false := decide_eq_false (by omega)
        go_wp2_with fail
        refine (wakes7_any _).mono ?_
        rintro e w3 ⟨rfl, hk3⟩
        have HK3 := Lib.hid (HK.out.trans hk3)
        clear hk3 a0 a1 a2 a3
        go_wp2
        go_ret
        exact ⟨rfl, HK1.out.trans HK3.out⟩
end Go.Proofs.Ytlncjheifkbomaa
