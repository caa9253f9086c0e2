/- The walk of the law SpanParts: it answers true and changes nothing that was there (no conditions). -/
import Derived.Test.YtlncjheifkbomaaSpnH
import Derived.Test.YtlncjheifkbomaaRl9
import Derived.Test.YtlncjheifkbomaaTail
namespace Go.Proofs.Ytlncjheifkbomaa
open Go.RowKit

/-- is this a number up to m? -/
def numB (x m : Int) : Bool := decide (0 ≤ x) && decide (x ≤ m)
theorem numB_any (x m : Int) (w : World) : Calls Try.prog 14 #[.int .i64 x, .int .i64 m] w fun e w' => e = .returned (.bool (numB x m)) ∧ w = w' := num_any x m w
theorem spB_num (k m s n f many : Int) : spB k m s n f many = ((shpB k m s && numB n 2000) && (numB f n && decide (0 ≤ many))) := by
  unfold spB stB numB
  rfl
def w100 (x : Int) : Nat := wthn x 100
theorem within_100 (x : Int) (w : World) : Calls Try.prog 28 #[.int .i64 x, .int .i64 100] w fun e w' => e = .returned (.int .i64 (w100 x : Nat)) ∧ w = w' := within_ref x 100 (by omega) w
set_option maxRecDepth 100000 in
set_option maxHeartbeats 8000000 in
theorem span_parts (ax : Option Addr) (ls cs : Nat) (al : Option Addr) (ll cl : Nat) (ss : List ByteArray) (ab : Option Addr) (lb cb : Nat) (n0 a0 b0 : Int) (ap : Option Addr) (lp cp : Nat) (ps : List (Int × Int × Int)) (W : World) (h : AskQ W ax ls cs al ll cl ss n0 a0 b0 ap lp cp ps) :
    Calls Try.prog 7 #[.agg #[.slice ax ls cs, .slice al ll cl, .slice ab lb cb, .int .i64 n0, .int .i64 a0, .int .i64 b0, .slice ap lp cp]] W fun e W' => e = .returned (.bool true) ∧ Below W.heap.size W W' := by
  have HA := Lib.hid h
  clear h
  have HK1 := Lib.hid ((Kept.refl W).alloc (.cells #[.slice ax ls cs, .slice al ll cl, .slice ab lb cb, .int .i64 n0, .int .i64 a0, .int .i64 b0, .slice ap lp cp] 58))
  have hB1 := BlockAt.new W #[.slice ax ls cs, .slice al ll cl, .slice ab lb cb, .int .i64 n0, .int .i64 a0, .int .i64 b0, .slice ap lp cp] 58
  go_enter Try.func7, Try.ntmps7
  go_upto_region 1 with (fail)
  generalize W.alloc (.cells #[.slice ax ls cs, .slice al ll cl, .slice ab lb cb, .int .i64 n0, .int .i64 a0, .int .i64 b0, .slice ap lp cp] 58) = w1 at *
  have HREAD := Lib.hid (fun w (kk : Kept w1 w) => box7 (hB1.kept kk))
  clear hB1
  generalize W.heap.size = p0 at HREAD ⊢
  obtain ⟨r0, r1, r2, r3, r4, r5, r6⟩ := HREAD.out _ (Kept.refl _)
  go_wp2_with fail
  refine (heavy8_any ax ls cs al ll cl ss ab lb cb n0 a0 b0 ap lp cp _ (HA.out.c.kept HK1.out)).mono ?_
  rintro e w2 ⟨he, hk2⟩
  have HK2 := Lib.hid hk2
  clear hk2 r0 r1 r2 r3 r4 r5 r6
  rcases he with rfl | ⟨rfl, ⟨hll, hls, hsz⟩, hlp⟩
  · go_wp2
    go_ret
    exact ⟨rfl, HK1.out.trans HK2.out⟩
  · clear hsz
    go_wp2_with fail
    obtain ⟨wo, rfl⟩ : ∃ wo : World, wo = w2 := ⟨_, rfl⟩
    go_loopw [3] (fun i wr => ∃ j : Nat, j ≤ ls ∧ i = .int .i64 j ∧ Kept w1 wr) (fun i _ => ls - (intOf i).toNat)
    case atStart => exact ⟨0, by omega, rfl, HK2.out⟩
    case round =>
      obtain ⟨j, hj, rfl, hK⟩ := hrel
      have HK := Lib.hid hK
      clear hK
      obtain ⟨r0, r1, r2, r3, r4, r5, r6⟩ := HREAD.out _ HK.out
      by_cases hjl : j < ls
      · by_cases hj4 : j < 4
        · obtain ⟨b, off, rfl, hc⟩ := HA.out.c.shapes.cell (by omega)
          obtain ⟨k, m, s, hkb, hcell⟩ := hc j hjl
          obtain ⟨c0, c1, c2⟩ := hcell _ (HK1.out.trans HK.out)
          clear hc hcell
          have hd1 : decide ((j : Int) < ls) = true := decide_eq_true (by omega)
          have hd2 : decide ((j : Int) < 4) = true := decide_eq_true (by omega)
          go_upto_region 7 with (fail)
          have hB4 := BlockAt.new wr #[.int .i64 k, .int .i64 m, .int .i64 s] 31
          have k4 : Kept wr (wr.alloc (.cells #[.int .i64 k, .int .i64 m, .int .i64 s] 31)) := (Kept.refl wr).alloc _
          generalize wr.alloc (.cells #[.int .i64 k, .int .i64 m, .int .i64 s] 31) = wa at *
          have HKa := Lib.hid (HK.out.trans k4)
          have HS4 := Lib.hid (fun w (kk : Kept wa w) => box3c (hB4.kept kk))
          clear hB4 k4 r0 r1 r2 r3 r4 r5 r6 c0 c1 c2
          generalize wr.heap.size = p4 at *
          obtain ⟨r0, r1, r2, r3, r4, r5, r6⟩ := HREAD.out _ HKa.out
          refine (wpIn_wide (n := 0)).1 ?_
          refine wpIn_region_quiet_tail_lit 23 (by kernel_rfl) (by kernel_rfl) (by kernel_rfl) ?_
          simp only [List.take_succ_cons, List.take_zero, List.drop_succ_cons, List.drop_zero]
          repeat (gi_big_quiet_step ((gi_at_call 28; exact callsIn_wide.2 (quietly (within_100 _ _)))))
          refine wpQuietIn_nil ?_
          intro _ hw'
          obtain ⟨nq, hw''⟩ := hw'
          subst hw''
          gi_wp2
          have hG := BlockAt.new (wa.drewN nq) #[.int .i64 n0, .int .i64 a0, .int .i64 b0, .int .i64 (w100 n0 : Nat), .int .i64 (w100 a0 : Nat), .int .i64 (w100 b0 : Nat), .int .i64 50, .int .i64 7, .int .i64 b0, .int .i64 2000, .int .i64 0, .int .i64 2000, .int .i64 5, .int .i64 5, .int .i64 1, .int .i64 5, .int .i64 6, .int .i64 0] 60
          have kg : Kept wa ((wa.drewN nq).alloc (.cells #[.int .i64 n0, .int .i64 a0, .int .i64 b0, .int .i64 (w100 n0 : Nat), .int .i64 (w100 a0 : Nat), .int .i64 (w100 b0 : Nat), .int .i64 50, .int .i64 7, .int .i64 b0, .int .i64 2000, .int .i64 0, .int .i64 2000, .int .i64 5, .int .i64 5, .int .i64 1, .int .i64 5, .int .i64 6, .int .i64 0] 60)) := ((Kept.refl wa).drewN nq).alloc _
          rw [show (wa.drewN nq).heap.size = wa.heap.size from rfl] at hG
          generalize (wa.drewN nq).alloc (.cells #[.int .i64 n0, .int .i64 a0, .int .i64 b0, .int .i64 (w100 n0 : Nat), .int .i64 (w100 a0 : Nat), .int .i64 (w100 b0 : Nat), .int .i64 50, .int .i64 7, .int .i64 b0, .int .i64 2000, .int .i64 0, .int .i64 2000, .int .i64 5, .int .i64 5, .int .i64 1, .int .i64 5, .int .i64 6, .int .i64 0] 60) = wg at *
          have hxs : ∀ z : Nat, z < 6 → ∃ x y u : Int, ∀ w, Kept wg w → w.cell? ⟨wa.heap.size, z * 3, none⟩ = some (.int .i64 x) ∧ w.cell? ⟨wa.heap.size, z * 3 + 1, none⟩ = some (.int .i64 y) ∧ w.cell? ⟨wa.heap.size, z * 3 + 2, none⟩ = some (.int .i64 u) := fun z hz => by
            match z, hz with
            | 0, _ => exact ⟨_, _, _, fun w kk => ⟨by simpa using (hG.kept kk).cell 0, by simpa using (hG.kept kk).cell 1, by simpa using (hG.kept kk).cell 2⟩⟩
            | 1, _ => exact ⟨_, _, _, fun w kk => ⟨by simpa using (hG.kept kk).cell 3, by simpa using (hG.kept kk).cell 4, by simpa using (hG.kept kk).cell 5⟩⟩
            | 2, _ => exact ⟨_, _, _, fun w kk => ⟨by simpa using (hG.kept kk).cell 6, by simpa using (hG.kept kk).cell 7, by simpa using (hG.kept kk).cell 8⟩⟩
            | 3, _ => exact ⟨_, _, _, fun w kk => ⟨by simpa using (hG.kept kk).cell 9, by simpa using (hG.kept kk).cell 10, by simpa using (hG.kept kk).cell 11⟩⟩
            | 4, _ => exact ⟨_, _, _, fun w kk => ⟨by simpa using (hG.kept kk).cell 12, by simpa using (hG.kept kk).cell 13, by simpa using (hG.kept kk).cell 14⟩⟩
            | 5, _ => exact ⟨_, _, _, fun w kk => ⟨by simpa using (hG.kept kk).cell 15, by simpa using (hG.kept kk).cell 16, by simpa using (hG.kept kk).cell 17⟩⟩
          have HXS := Lib.hid hxs
          have HKG := Lib.hid kg
          clear hxs kg hG r0 r1 r2 r3 r4 r5 r6
          generalize wa.heap.size = g at *
          go_wp2_with fail
          go_loopw [6] (fun i wr => ∃ z : Nat, z ≤ 6 ∧ i = .int .i64 z ∧ Kept wg wr) (fun i _ => 6 - (intOf i).toNat)
          case atStart => exact ⟨0, by omega, rfl, Kept.refl _⟩
          case round =>
            obtain ⟨z, hz, rfl, hkg⟩ := hrel
            have HKg := Lib.hid hkg
            have HKy := Lib.hid (HKG.out.trans hkg)
            clear hkg
            obtain ⟨wy, rfl⟩ : ∃ wy : World, wy = wr := ⟨_, rfl⟩
            by_cases hz7 : z < 6
            · have hdz : decide ((z : Int) < 6) = true := decide_eq_true (by omega)
              obtain ⟨x, y, u, hx⟩ := HXS.out z hz7
              obtain ⟨x0, x1, x2⟩ := hx _ HKg.out
              obtain ⟨N, E, PS, hpa, hpe⟩ := span_all k m s x y u
              have HPA := Lib.hid hpa
              have HPE := Lib.hid hpe
              clear hx hpa hpe
              go_wp2_with fail
              go_quiet (fail)
              have kq : Kept wy (wy.drewN nq) := (Kept.refl _).drewN nq
              have HKz := Lib.hid (HKg.out.trans kq)
              have HKv := Lib.hid (HKy.out.trans kq)
              clear x0 x1 x2 kq
              generalize wy.drewN nq = wz at *
              obtain ⟨c0, c1, c2⟩ := HS4.out _ HKv.out
              go_wp2_with fail
              refine (HPA.out _).mono ?_
              rintro e w5 ⟨ap, cp, rfl, hst, hk5⟩
              have HST5 := Lib.hid hst
              have HKz5 := Lib.hid (HKz.out.trans hk5)
              have HKv5 := Lib.hid (HKv.out.trans hk5)
              clear hst hk5 c0 c1 c2
              obtain ⟨c0, c1, c2⟩ := HS4.out _ HKv5.out
              go_wp2_with fail
              refine (shape_ref k m s _).mono ?_
              rintro e w6 ⟨rfl, hk6⟩
              have HST6 := Lib.hid (HST5.out.kept hk6)
              have HKz6 := Lib.hid (HKz5.out.trans hk6)
              have HKv6 := Lib.hid (HKv5.out.trans hk6)
              clear hk6 c0 c1 c2
              rcases HPE.out with ⟨hsp, hE, hN, hP⟩ | ⟨hsp, hE, hpr⟩
              · rw [spB_num] at hsp
                subst hE
                subst hN
                subst hP
                cases h1 : shpB k m s with
                | false =>
                  clear hsp
                  go_wp2_with fail
                  refine (num8_any _ _).mono ?_
                  rintro e w' ⟨rfl, rfl⟩
                  go_wp2_with fail
                  refine (eq_parts ap none 0 cp 0 [] _ HST6.out (PartsIn.nil _ _)).mono ?_
                  rintro e w9 ⟨rfl, hk9⟩
                  have HK9 := Lib.hid (HKz6.out.trans hk9)
                  clear hk9
                  go_wp2
                  go_roundw
                  case rel => exact ⟨z + 1, by omega, by go_num, HK9.out⟩
                  case measure => simp [intOf]; omega
                | true =>
                  go_wp2_with fail
                  refine (numB_any _ _ _).mono ?_
                  rintro e w' ⟨rfl, rfl⟩
                  cases h2 : numB x 2000 with
                  | false =>
                    clear hsp
                    go_wp2_with fail
                    refine (num8_any _ _).mono ?_
                    rintro e w' ⟨rfl, rfl⟩
                    go_wp2_with fail
                    refine (eq_parts ap none 0 cp 0 [] _ HST6.out (PartsIn.nil _ _)).mono ?_
                    rintro e w9 ⟨rfl, hk9⟩
                    have HK9 := Lib.hid (HKz6.out.trans hk9)
                    clear hk9
                    go_wp2
                    go_roundw
                    case rel => exact ⟨z + 1, by omega, by go_num, HK9.out⟩
                    case measure => simp [intOf]; omega
                  | true =>
                    go_wp2_with fail
                    refine (numB_any _ _ _).mono ?_
                    rintro e w' ⟨rfl, rfl⟩
                    cases h3 : numB y x with
                    | false =>
                      clear hsp
                      go_wp2_with fail
                      refine (num8_any _ _).mono ?_
                      rintro e w' ⟨rfl, rfl⟩
                      go_wp2_with fail
                      refine (eq_parts ap none 0 cp 0 [] _ HST6.out (PartsIn.nil _ _)).mono ?_
                      rintro e w9 ⟨rfl, hk9⟩
                      have HK9 := Lib.hid (HKz6.out.trans hk9)
                      clear hk9
                      go_wp2
                      go_roundw
                      case rel => exact ⟨z + 1, by omega, by go_num, HK9.out⟩
                      case measure => simp [intOf]; omega
                    | true =>
                      have h4 : decide (0 ≤ u) = false := by rw [h1, h2, h3] at hsp; simpa using hsp
                      clear hsp
                      go_wp2_with fail
                      refine (num8_any _ _).mono ?_
                      rintro e w' ⟨rfl, rfl⟩
                      go_wp2_with fail
                      refine (eq_parts ap none 0 cp 0 [] _ HST6.out (PartsIn.nil _ _)).mono ?_
                      rintro e w9 ⟨rfl, hk9⟩
                      have HK9 := Lib.hid (HKz6.out.trans hk9)
                      clear hk9
                      go_wp2
                      go_roundw
                      case rel => exact ⟨z + 1, by omega, by go_num, HK9.out⟩
                      case measure => simp [intOf]; omega
              · rw [spB_num, Bool.and_eq_true, Bool.and_eq_true, Bool.and_eq_true] at hsp
                obtain ⟨⟨h1, h2⟩, h3, h4⟩ := hsp
                subst hE
                have HPR := Lib.hid hpr
                clear hpr
                go_wp2_with fail
                refine (numB_any _ _ _).mono ?_
                rintro e w' ⟨rfl, rfl⟩
                go_wp2_with fail
                refine (numB_any _ _ _).mono ?_
                rintro e w' ⟨rfl, rfl⟩
                obtain ⟨c0, c1, c2⟩ := HS4.out _ HKv6.out
                go_wp2_with fail
                refine (HPR.out _).mono ?_
                rintro e w7 ⟨aq, cq, rfl, hst, hk7⟩
                have HST7 := Lib.hid hst
                have HSA7 := Lib.hid (HST6.out.kept hk7)
                have HKz7 := Lib.hid (HKz6.out.trans hk7)
                clear hst hk7 c0 c1 c2
                go_wp2_with fail
                refine (num8_any _ _).mono ?_
                rintro e w' ⟨rfl, rfl⟩
                go_wp2_with fail
                refine (eq_parts ap aq N cp cq PS _ HSA7.out HST7.out).mono ?_
                rintro e w9 ⟨rfl, hk9⟩
                have HK9 := Lib.hid (HKz7.out.trans hk9)
                clear hk9
                go_wp2
                go_roundw
                case rel => exact ⟨z + 1, by omega, by go_num, HK9.out⟩
                case measure => simp [intOf]; omega
            · obtain rfl : z = 6 := by omega
              have HKx := HKg
              go_wp2
              go_roundw
              case rel => exact ⟨j + 1, by omega, by go_num, HKa.out.trans HKy.out⟩
              case measure => simp [intOf]; omega
        · have hd1 : decide ((j : Int) < ls) = true := decide_eq_true (by omega)
          have hd2 : decide ((j : Int) < 4) = false := decide_eq_false (by omega)
          go_wp2_with fail
          refine (wakes8_any _).mono ?_
          rintro e w3 ⟨rfl, hk3⟩
          have HK3 := Lib.hid (HK.out.trans hk3)
          clear hk3 r0 r1 r2 r3 r4 r5 r6
          go_wp2
          go_ret
          exact ⟨rfl, HK1.out.trans HK3.out⟩
      · have hd1 : decide ((j : Int) < ls) = false := decide_eq_false (by omega)
        go_wp2_with fail
        refine (wakes8_any _).mono ?_
        rintro e w3 ⟨rfl, hk3⟩
        have HK3 := Lib.hid (HK.out.trans hk3)
        clear hk3 r0 r1 r2 r3 r4 r5 r6
        go_wp2
        go_ret
        exact ⟨rfl, HK1.out.trans HK3.out⟩
end Go.Proofs.Ytlncjheifkbomaa
