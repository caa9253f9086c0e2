/- The walk of the law MatrixBack: it answers true and changes nothing that was there (no conditions). -/
import Derived.Test.YtlpjpeonejbpjaaMatLaw
import Derived.Test.YtlpjpeonejbpjaaMatOne
import Derived.Test.YtlpjpeonejbpjaaMatInv
import Derived.Test.YtlpjpeonejbpjaaWake3
namespace Go.Proofs.Ytlpjpeonejbpjaa
open Go.ChangeShapes Go.WideShapes Go.ChangeAt Go.RowKit Go.Joins

theorem gt_min (R r c : Nat) (h1 : R ≤ r) (h2 : R ≤ c) : decide ((if (c : Int) < (r : Int) then (c : Int) else (r : Int)) < (R : Int)) = false := by
  apply decide_eq_false
  split <;> omega
theorem flat_one (n : Nat) {F : Nat → Nat → Nat} {w : World} {a : Option Addr} (h : ∀ i j, i < n → j < n → F i j = oneF i j) (hb : ByIn w a (n * n) (flat n F)) : ByIn w a (n * n) (flat n oneF) :=
  hb.congr fun k hk => by
    have hn : 0 < n := Nat.pos_of_ne_zero (fun e => by rw [e] at hk; simp at hk)
    exact h _ _ ((Nat.div_lt_iff_lt_mul hn).2 hk) (Nat.mod_lt k hn)
theorem flat_same (n : Nat) {F G : Nat → Nat → Nat} {w : World} {a : Option Addr} (h : ∀ i j, i < n → j < n → F i j = G i j) (hb : ByIn w a (n * n) (flat n F)) : ByIn w a (n * n) (flat n G) :=
  hb.congr fun k hk => by
    have hn : 0 < n := Nat.pos_of_ne_zero (fun e => by rw [e] at hk; simp at hk)
    exact h _ _ ((Nat.div_lt_iff_lt_mul hn).2 hk) (Nat.mod_lt k hn)

/-- what a round knows: the matrix, its inverse, and that all of before is kept -/
structure BackSt (W w1 : World) (bX bx ox cap bY bi oi R : Nat) (F : Nat → Nat → Nat) (w : World) : Prop where
  x : BlockAt w bX #[.int .i64 R, .int .i64 R, .slice (some ⟨bx, ox, none⟩) (R * R) cap] 50
  y : BlockAt w bY #[.int .i64 R, .int .i64 R, .slice (some ⟨bi, oi, none⟩) (R * R) (R * R)] 50
  m : MatR w bx ox R R F
  i : MatR w bi oi R R (invF R F)
  k : Kept W w
  k1 : Kept w1 w
theorem BackSt.kept {W w1 : World} {bX bx ox cap bY bi oi R : Nat} {F : Nat → Nat → Nat} {w w' : World} (h : BackSt W w1 bX bx ox cap bY bi oi R F w) (k : Kept w w') : BackSt W w1 bX bx ox cap bY bi oi R F w' :=
  ⟨h.x.kept k, h.y.kept k, h.m.kept k, h.i.kept k, h.k.trans k, h.k1.trans k⟩
/-- a result: its three cells, and its bytes -/
structure ResM (R : Nat) (H : Nat → Nat) (bA : Nat) (a : Option Addr) (w : World) : Prop where
  b : BlockAt w bA #[.int .i64 R, .int .i64 R, .slice a (R * R) (R * R)] 50
  h : ByIn w a (R * R) H
theorem ResM.kept {R : Nat} {H : Nat → Nat} {bA : Nat} {a : Option Addr} {w w' : World} (h : ResM R H bA a w) (k : Kept w w') : ResM R H bA a w' := ⟨h.b.kept k, h.h.kept k⟩
theorem ResM.new {R : Nat} {H : Nat → Nat} {a : Option Addr} {w : World} (h : ByIn w a (R * R) H) : ResM R H w.heap.size a (w.alloc (.cells #[.int .i64 R, .int .i64 R, .slice a (R * R) (R * R)] 50)) :=
  ⟨BlockAt.new w _ _, h.kept ((Kept.refl w).alloc _)⟩

set_option maxRecDepth 100000 in
set_option maxHeartbeats 4000000 in
theorem matrixBack_walk {W : World} {v : Value} {am : Option Addr} {lm cm : Nat} {an : Option Addr} {ln cn : Nat} {zs : List Int} {al : Option Addr} {ll cl : Nat} {ss : List ByteArray} (h : AskM W v am lm cm an ln cn zs al ll cl ss) :
    Calls Try.prog 10 #[v] W fun e W' => e = .returned (.bool true) ∧ Below W.heap.size W W' := by
  obtain ⟨rfl, hM, hN, hS, hcaps⟩ := h
  have hle := hM.le
  have k1 : Kept W (W.alloc (.cells #[.slice am lm cm, .slice an ln cn, .slice al ll cl] 47)) := (Kept.refl W).alloc _
  have HB := Lib.hid (BlockAt.new W #[.slice am lm cm, .slice an ln cn, .slice al ll cl] 47)
  have HM := Lib.hid (hM.kept k1)
  have HS := Lib.hid (hS.kept k1)
  have HK1 := Lib.hid k1
  clear hM hN hS hcaps k1
  go_enter Try.func10, Try.ntmps10
  go_wp2_with fail
  generalize W.alloc (.cells #[.slice am lm cm, .slice an ln cn, .slice al ll cl] 47) = w0 at *
  refine (heavy3_any am an al lm cm ln cn ll cl ss w0 HM.out HS.out).mono ?_
  rintro e w1 ⟨⟨bv, rfl⟩, hk⟩
  have HB1 := Lib.hid (HB.out.kept hk)
  have HM1 := Lib.hid (HM.out.kept hk)
  have HK2 := Lib.hid (HK1.out.trans hk)
  clear hk HB HM HS HK1
  cases bv
  case true =>
    go_wp2
    go_ret
    exact ⟨rfl, HK2.out⟩
  go_wp2_with fail
  go_loopw [3] (fun i wr => ∃ k : Nat, k ≤ 4 ∧ i = .int .i64 k ∧ Kept w1 wr) (fun i _ => 4 - (intOf i).toNat)
  case atStart => exact ⟨0, by omega, rfl, Kept.refl _⟩
  case round =>
    obtain ⟨k, hk, rfl, hK⟩ := hrel
    have hBr := HB1.out.kept hK
    have hMr := HM1.out.kept hK
    have HK := Lib.hid (HK2.out.trans hK)
    have HKr := Lib.hid hK
    obtain ⟨a0, a1, a2⟩ := box3 hBr
    clear hK hBr
    by_cases hlt : k < lm
    · by_cases h5 : k < 4
      · obtain ⟨b, off, ha, hc⟩ := hMr.cells
        obtain rfl := ha (by omega)
        obtain ⟨r, c, x, l, cap, xs, h1, h2, h3, h4, g5, g6, h7, h8⟩ := hc k hlt
        have hd5 : decide ((k : Int) < 4) = true := decide_eq_true (by omega)
        have hll := h8.le
        clear hc ha hMr
        go_wp2_with fail
        have HX := Lib.hid (BlockAt.new wr #[.int .i64 r, .int .i64 c, .slice x l cap] 50)
        have kx : Kept wr (wr.alloc (.cells #[.int .i64 r, .int .i64 c, .slice x l cap] 50)) := (Kept.refl wr).alloc _
        have HKx := Lib.hid (HK.out.trans kx)
        have HKm := Lib.hid (HKr.out.trans kx)
        have hx := h8.kept kx
        clear kx a0 a1 a2 h1 h2 h3 h4 h8 HK HKr
        generalize wr.alloc (.cells #[.int .i64 r, .int .i64 c, .slice x l cap] 50) = w2 at *
        generalize wr.heap.size = bX at *
        by_cases hE : matE r c l = 0
        · obtain ⟨r', c', bx, ox, F, rfl, rfl, rfl, rfl, hr, hc, hF, hm⟩ := mat_of hE hx
          have HX2 := Lib.hid hm
          clear hE hx hm
          refine (rank_any r' c' bx ox cap F hr hc hF w2 HX2.out).mono ?_
          rintro e w3 ⟨rfl, hk3⟩
          have HXa := Lib.hid (HX.out.kept hk3)
          have HMa := Lib.hid (HX2.out.kept hk3)
          have HKa := Lib.hid (HKx.out.trans hk3)
          have HKb := Lib.hid (HKm.out.trans hk3)
          have hrl := redTo_le r' F c'
          have hrr := rank_red r' c' F
          generalize (redTo r' F c').1 = R at *
          obtain ⟨a0, a1, a2⟩ := box3 HXa.out
          clear hk3 HX HX2 HKx HKm
          go_wp2_with fail
          refine (num3_any _ _).mono ?_
          rintro e w' ⟨rfl, rfl⟩
          go_wp2_with fail
          by_cases hsq : r' = c'
          · subst hsq
            refine (invert_any r' bx ox cap F hr h7 hF w3 HMa.out).mono ?_
            rintro e w4 ⟨hfull, hless, hk4⟩
            by_cases hR : R = r'
            · subst hR
              obtain ⟨bi, oi, rfl, hbi, hmi⟩ := hfull hrr
              have ky : Kept w4 (w4.alloc (.cells #[.int .i64 R, .int .i64 R, .slice (some ⟨bi, oi, none⟩) (R * R) (R * R)] 50)) := (Kept.refl w4).alloc _
              have k5 := Kept.trans hk4 ky
              have HZ := Lib.hid (BackSt.mk (W := W) (w1 := w1) (HXa.out.kept k5) (BlockAt.new w4 #[.int .i64 R, .int .i64 R, .slice (some ⟨bi, oi, none⟩) (R * R) (R * R)] 50) (HMa.out.kept k5) (Mat.kept hmi ky).cell (HKa.out.trans k5) (HKb.out.trans k5))
              have hnn : ((R : Int) == (R : Int)) = true := by simp
              clear hk4 ky k5 hfull hless hmi hbi HXa HMa HKa HKb a0 a1 a2
              go_wp2_with fail
              generalize w4.alloc (.cells #[.int .i64 R, .int .i64 R, .slice (some ⟨bi, oi, none⟩) (R * R) (R * R)] 50) = w5 at *
              generalize w4.heap.size = bY at *
              obtain ⟨a0, a1, a2⟩ := box3 HZ.out.x
              go_quiet ((go_at_call 41; exact quietly (num3_any _ _)))
              have HZ6 := Lib.hid (HZ.out.kept ((Kept.refl w5).drewN nq))
              clear HZ a0 a1 a2
              generalize w5.drewN nq = w6 at *
              obtain ⟨a0, a1, a2⟩ := box3 HZ6.out.x
              obtain ⟨c0, c1, c2⟩ := box3 HZ6.out.y
              go_wp2_with (go_at_call 41; refine (num3_any _ _).mono ?_; rintro e w' ⟨rfl, rfl⟩)
              refine (mat_mul_any R R R bx ox cap bi oi (R * R) F (invF R F) hr hr hr h7 (Nat.le_refl _) hF (invF_bt hF R) w6 HZ6.out.m HZ6.out.i).mono ?_
              rintro e w7 ⟨b1, o1, rfl, _, hm1, hk7⟩
              have HA := Lib.hid (ResM.new (flat_one R (fun i j hi hj => inv_right hF hrr hi) hm1.cell.flat))
              have HZ7 := Lib.hid (HZ6.out.kept (Kept.trans hk7 ((Kept.refl w7).alloc (.cells #[.int .i64 R, .int .i64 R, .slice (some ⟨b1, o1, none⟩) (R * R) (R * R)] 50))))
              clear hm1 hk7 HZ6 a0 a1 a2 c0 c1 c2
              obtain ⟨a0, a1, a2⟩ := box3 HZ7.out.x
              obtain ⟨c0, c1, c2⟩ := box3 HZ7.out.y
              go_wp2_with fail
              generalize w7.alloc (.cells #[.int .i64 R, .int .i64 R, .slice (some ⟨b1, o1, none⟩) (R * R) (R * R)] 50) = w8 at *
              generalize w7.heap.size = bA at *
              refine (mat_mul_any R R R bi oi (R * R) bx ox cap (invF R F) F hr hr hr (Nat.le_refl _) h7 (invF_bt hF R) hF w8 HZ7.out.i HZ7.out.m).mono ?_
              rintro e w9 ⟨b2, o2, rfl, _, hm2, hk9⟩
              have kz := Kept.trans hk9 ((Kept.refl w9).alloc (.cells #[.int .i64 R, .int .i64 R, .slice (some ⟨b2, o2, none⟩) (R * R) (R * R)] 50))
              have HA2 := Lib.hid (HA.out.kept kz)
              have HB2 := Lib.hid (ResM.new (flat_one R (fun i j hi hj => inv_left hF hrr hi hj) hm2.cell.flat))
              have HZ9 := Lib.hid (HZ7.out.kept kz)
              clear hm2 hk9 kz HA HZ7 a0 a1 a2 c0 c1 c2
              obtain ⟨a0, a1, a2⟩ := box3 HZ9.out.x
              obtain ⟨c0, c1, c2⟩ := box3 HZ9.out.y
              go_wp2_with fail
              generalize w9.alloc (.cells #[.int .i64 R, .int .i64 R, .slice (some ⟨b2, o2, none⟩) (R * R) (R * R)] 50) = w10 at *
              generalize w9.heap.size = bB at *
              refine (one_any R hr.1 hr.2 w10).mono ?_
              rintro e w11 ⟨b3, o3, rfl, _, hm3, hk11⟩
              have kz := Kept.trans hk11 ((Kept.refl w11).alloc (.cells #[.int .i64 R, .int .i64 R, .slice (some ⟨b3, o3, none⟩) (R * R) (R * R)] 50))
              have HA3 := Lib.hid (HA2.out.kept kz)
              have HB3 := Lib.hid (HB2.out.kept kz)
              have HC3 := Lib.hid (ResM.new hm3.cell.flat)
              have HZ11 := Lib.hid (HZ9.out.kept kz)
              clear hm3 hk11 kz HA2 HB2 HZ9 a0 a1 a2 c0 c1 c2
              obtain ⟨a0, a1, a2⟩ := box3 HZ11.out.x
              obtain ⟨c0, c1, c2⟩ := box3 HZ11.out.y
              go_wp2_with fail
              generalize w11.alloc (.cells #[.int .i64 R, .int .i64 R, .slice (some ⟨b3, o3, none⟩) (R * R) (R * R)] 50) = w12 at *
              generalize w11.heap.size = bC at *
              refine (invert_any R bi oi (R * R) (invF R F) hr (Nat.le_refl _) (invF_bt hF R) w12 HZ11.out.i).mono ?_
              rintro e w13 ⟨hfull, hless, hk13⟩
              obtain ⟨b4, o4, rfl, _, hm4⟩ := hfull (inv_rank hF hrr)
              have kz := Kept.trans hk13 ((Kept.refl w13).alloc (.cells #[.int .i64 R, .int .i64 R, .slice (some ⟨b4, o4, none⟩) (R * R) (R * R)] 50))
              have HA4 := Lib.hid (HA3.out.kept kz)
              have HB4 := Lib.hid (HB3.out.kept kz)
              have HC4 := Lib.hid (HC3.out.kept kz)
              have HD4 := Lib.hid (ResM.new (flat_same R (fun i j hi hj => inv_back hF hrr hi hj) hm4.cell.flat))
              have HZ13 := Lib.hid (HZ11.out.kept kz)
              clear hm4 hk13 kz HA3 HB3 HC3 HZ11 hfull hless a0 a1 a2 c0 c1 c2
              have hRR : R * R ≤ 9223372036854775807 := Nat.le_trans (Nat.mul_le_mul hr.2 hr.2) (by decide)
              obtain ⟨a0, a1, a2⟩ := box3 HA4.out.b
              obtain ⟨c0, c1, c2⟩ := box3 HC4.out.b
              go_wp2_with (go_at_call 41; refine (num3_any _ _).mono ?_; rintro e w' ⟨rfl, rfl⟩)
              generalize w13.alloc (.cells #[.int .i64 R, .int .i64 R, .slice (some ⟨b4, o4, none⟩) (R * R) (R * R)] 50) = w14 at *
              generalize w13.heap.size = bD at *
              refine (eq_matrix R R _ _ (R * R) (R * R) (R * R) _ hRR w14 HA4.out.h HC4.out.h).mono ?_
              rintro e w15 ⟨rfl, hk15⟩
              have HB5 := Lib.hid (HB4.out.kept hk15)
              have HC5 := Lib.hid (HC4.out.kept hk15)
              have HD5 := Lib.hid (HD4.out.kept hk15)
              have HZ15 := Lib.hid (HZ13.out.kept hk15)
              clear hk15 HA4 HB4 HC4 HD4 HZ13 a0 a1 a2 c0 c1 c2
              obtain ⟨a0, a1, a2⟩ := box3 HB5.out.b
              obtain ⟨c0, c1, c2⟩ := box3 HC5.out.b
              go_wp2_with fail
              refine (eq_matrix R R _ _ (R * R) (R * R) (R * R) _ hRR w15 HB5.out.h HC5.out.h).mono ?_
              rintro e w16 ⟨rfl, hk16⟩
              have HD6 := Lib.hid (HD5.out.kept hk16)
              have HZ16 := Lib.hid (HZ15.out.kept hk16)
              clear hk16 HB5 HC5 HD5 HZ15 a0 a1 a2 c0 c1 c2
              obtain ⟨a0, a1, a2⟩ := box3 HD6.out.b
              obtain ⟨c0, c1, c2⟩ := box3 HZ16.out.x
              go_wp2_with fail
              refine (eq_matrix R R _ _ (R * R) (R * R) cap _ hRR w16 HD6.out.h HZ16.out.m.flat).mono ?_
              rintro e w17 ⟨rfl, hk17⟩
              have HK17 := Lib.hid (HZ16.out.k1.trans hk17)
              clear hk17 HD6 HZ16 a0 a1 a2 c0 c1 c2
              go_wp2_with fail
              go_roundw
              case rel => exact ⟨k + 1, by omega, by go_num, HK17.out⟩
              case measure => simp [intOf]; omega
            · obtain rfl := hless (by rw [hrr]; exact hR)
              clear hfull hless
              have hRne : ((R : Int) == (r' : Int)) = false := beq_false_of_ne (fun h => hR (Int.ofNat.inj h))
              have hnn : ((r' : Int) == (r' : Int)) = true := by simp
              have hgt : decide ((r' : Int) < (R : Int)) = false := decide_eq_false (by omega)
              have ky : Kept w4 (w4.alloc (.cells #[.int .i64 0, .int .i64 0, .slice none 0 0] 50)) := (Kept.refl w4).alloc _
              have k5 := Kept.trans hk4 ky
              have HXb := Lib.hid (HXa.out.kept k5)
              have HKd := Lib.hid (HKb.out.trans k5)
              clear hk4 ky k5 HXa HMa HKa HKb a0 a1 a2
              go_wp2_with fail
              generalize w4.alloc (.cells #[.int .i64 0, .int .i64 0, .slice none 0 0] 50) = w5 at *
              generalize w4.heap.size = bY at *
              obtain ⟨a0, a1, a2⟩ := box3 HXb.out
              go_quiet ((go_at_call 41; exact quietly (num3_any _ _)))
              have HKq := Lib.hid (HKd.out.drewN nq)
              clear a0 a1 a2 HXb HKd
              generalize w5.drewN nq = w6 at *
              go_wp2_with (go_at_call 41; refine (num3_any _ _).mono ?_; rintro e w' ⟨rfl, rfl⟩)
              go_roundw
              case rel => exact ⟨k + 1, by omega, by go_num, HKq.out⟩
              case measure => simp [intOf]; omega
          · refine (invert_bad r' c' _ (r' * c') cap (.inr (by omega)) w3).mono ?_
            rintro e w4 ⟨rfl, hk4⟩
            have hne : ((r' : Int) == (c' : Int)) = false := beq_false_of_ne (fun h => hsq (Int.ofNat.inj h))
            have hgm := gt_min R r' c' (by omega) (by omega)
            have ky : Kept w4 (w4.alloc (.cells #[.int .i64 0, .int .i64 0, .slice none 0 0] 50)) := (Kept.refl w4).alloc _
            have k5 := Kept.trans hk4 ky
            have HXb := Lib.hid (HXa.out.kept k5)
            have HKd := Lib.hid (HKb.out.trans k5)
            clear hk4 ky k5 HXa HMa HKa HKb a0 a1 a2
            go_wp2_with fail
            generalize w4.alloc (.cells #[.int .i64 0, .int .i64 0, .slice none 0 0] 50) = w5 at *
            generalize w4.heap.size = bY at *
            obtain ⟨a0, a1, a2⟩ := box3 HXb.out
            go_quiet ((go_at_call 41; exact quietly (num3_any _ _)))
            have HKq := Lib.hid (HKd.out.drewN nq)
            clear a0 a1 a2 HXb HKd
            generalize w5.drewN nq = w6 at *
            go_wp2_with (go_at_call 41; refine (num3_any _ _).mono ?_; rintro e w' ⟨rfl, rfl⟩)
            go_roundw
            case rel => exact ⟨k + 1, by omega, by go_num, HKq.out⟩
            case measure => simp [intOf]; omega
        · refine (rank_bad r c x l cap hE w2).mono ?_
          rintro e w3 ⟨rfl, hk3⟩
          have HKm := Lib.hid (HKm.out.trans hk3)
          clear hk3
          go_wp2_with (go_at_call 41; refine (num3_any _ _).mono ?_; rintro e w' ⟨rfl, rfl⟩)
          go_roundw
          case rel => exact ⟨k + 1, by omega, by go_num, HKm.out⟩
          case measure => simp [intOf]; omega
      · clear hMr
        have hd5 : decide ((k : Int) < 4) = false := decide_eq_false (by omega)
        go_wp2_with fail
        refine (wakes3_any _).mono ?_
        rintro e w2 ⟨rfl, hk2⟩
        go_wp2
        go_ret
        exact ⟨rfl, HK.out.trans hk2⟩
    · clear hMr
      go_wp2_with fail
      refine (wakes3_any _).mono ?_
      rintro e w2 ⟨rfl, hk2⟩
      go_wp2
      go_ret
      exact ⟨rfl, HK.out.trans hk2⟩
end Go.Proofs.Ytlpjpeonejbpjaa
