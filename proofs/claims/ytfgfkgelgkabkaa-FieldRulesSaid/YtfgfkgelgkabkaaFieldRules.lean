/- The walk of the law FieldRules: it answers true and changes nothing that was there (no conditions). -/
import Derived.Test.YtfgfkgelgkabkaaFieldLog
import Derived.Test.YtfgfkgelgkabkaaAsk1
namespace Go.Proofs.Ytfgfkgelgkabkaa
open Go.ChangeShapes Go.WideShapes Go.ChangeAt Go.RowKit Go.Joins

theorem ne_false {a b : Nat} (h : a = b) : (((a : Nat) : Int) != ((b : Nat) : Int)) = false := by rw [h]; simp

set_option maxRecDepth 100000 in
set_option maxHeartbeats 2000000 in
theorem fieldRules_walk {W : World} {v : Value} {a0 a1 : Option Addr} {l0 c0 l1 c1 : Nat} {B N : List Int} (h : AskIn W v a0 l0 c0 B a1 l1 c1 N) :
    Calls Try.prog 6 #[v] W fun e W' => e = .returned (.bool true) ∧ Below W.heap.size W W' := by
  obtain ⟨rfl, hB, hN⟩ := h
  have hle := hB.le
  have hend : ∀ wr, Kept (W.alloc (.cells #[.slice a0 l0 c0, .slice a1 l1 c1] 25)) wr → Below W.heap.size W wr := fun wr h => ((Kept.refl W).alloc _).trans h
  have hask : ∀ wr, Kept (W.alloc (.cells #[.slice a0 l0 c0, .slice a1 l1 c1] 25)) wr → wr.cell? ⟨W.heap.size, 0, none⟩ = some (.slice a0 l0 c0) := fun wr h => h.cell (by simp) (cell_new _ _ _ 0)
  have HE := Lib.hid hend
  have HA := Lib.hid hask
  clear hend hask hN
  go_enter Try.func6, Try.ntmps6
  go_wp2
  go_loopw [3] (fun i wr => ∃ k : Nat, k ≤ 20 ∧ i = .int .i64 k ∧ Kept (W.alloc (.cells #[.slice a0 l0 c0, .slice a1 l1 c1] 25)) wr) (fun i _ => 20 - (intOf i).toNat)
  case atStart => exact ⟨0, by omega, rfl, Kept.refl _⟩
  case round =>
    obtain ⟨k, hk, rfl, hK⟩ := hrel
    have hca := HA.out wr hK
    have HK := Lib.hid hK
    by_cases hlt : k + 2 < l0
    · by_cases h4 : k < 20
      · obtain ⟨b, off, x, rfl, hbs, hx, hc, _⟩ := hB.byteAt k (by omega)
        obtain ⟨b', off', y, hab, _, hy, hd, _⟩ := hB.byteAt (k + 1) (by omega)
        simp only [Option.some.injEq, Addr.mk.injEq, and_true] at hab
        obtain ⟨rfl, rfl⟩ := hab
        obtain ⟨b', off', z, hab, _, hz, he, _⟩ := hB.byteAt (k + 2) hlt
        simp only [Option.some.injEq, Addr.mk.injEq, and_true] at hab
        obtain ⟨rfl, rfl⟩ := hab
        have hc' := hK.cell (Nat.lt_of_lt_of_le hbs (by simp)) (cell_old hbs hc _)
        have hd' := hK.cell (Nat.lt_of_lt_of_le hbs (by simp)) (cell_old hbs hd _)
        have he' := hK.cell (Nat.lt_of_lt_of_le hbs (by simp)) (cell_old hbs he _)
        have hd20 : decide ((k : Int) < 20) = true := decide_eq_true (by omega)
        have hxy := Gf.mul_lt hx y
        have hyx := Gf.mul_lt hy x
        have hxz := Gf.mul_lt hx z
        have hyz := Gf.mul_lt hy z
        have hxx := Gf.xor_lt hy hz
        have t1 := ne_false (Gf.mul_comm x y hx hy)
        have t2 := ne_false (Gf.mul_assoc x y z hx hy hz)
        have t3 := ne_false (Gf.mul_right x y z)
        have t4 := ne_false (Gf.mul_one x hx)
        have T1 := Lib.hid t1
        have T2 := Lib.hid t2
        have T3 := Lib.hid t3
        have T4 := Lib.hid t4
        clear t1 t2 t3 t4 hB hc hd he hK
        go_wp2
        have e1 : IntKind.i64.wrap ((k : Int) + 1) = k + 1 := IntWalk.i64_in _ (by omega)
        have e2 : IntKind.i64.wrap ((k : Int) + 2) = k + 2 := IntWalk.i64_in _ (by omega)
        go_quiet (fail)
        clear e1 e2 hc' hd' he' hca hd20
        have t1 := T1.out
        have t2 := T2.out
        have t3 := T3.out
        have t4 := T4.out
        rcases Nat.eq_zero_or_pos y with h0 | h0
        · have ty : ((y : Int) == 0) = true := by rw [h0]; rfl
          clear h0
          go_wp2_with (first
            | (go_at_call 12; refine (add_any _ _ (by assumption) (by assumption) _).mono ?_; rintro e w' ⟨rfl, rfl⟩)
            | (go_at_call 10; first
                | (refine (mul_any _ _ (by assumption) (by assumption) _).mono ?_; rintro e w' ⟨rfl, rfl⟩)
                | (refine (mul_any x 1 hx (by omega) _).mono ?_; rintro e w' ⟨rfl, rfl⟩)))
          go_roundw
          case rel => exact ⟨k + 1, by omega, by go_num, HK.out.drewN _⟩
          case measure => simp [intOf]; omega
        · have ty : ((y : Int) == 0) = false := by rw [beq_eq_false_iff_ne]; omega
          have hq := Gf.mul_lt hx (Gf.inv y)
          obtain ⟨hl, hdl⟩ := Gf.log_lt y h0 hy
          have t5 := ne_false (Gf.div_mul x y hx h0 hy)
          have t6 := ne_false hdl
          have H5 := Lib.hid t5
          have H6 := Lib.hid t6
          clear t5 t6 hdl
          go_wp2_with (first
            | (go_at_call 12; refine (add_any _ _ (by assumption) (by assumption) _).mono ?_; rintro e w' ⟨rfl, rfl⟩)
            | (go_at_call 10; first
                | (refine (mul_any _ _ (by assumption) (by assumption) _).mono ?_; rintro e w' ⟨rfl, rfl⟩)
                | (refine (mul_any x 1 hx (by omega) _).mono ?_; rintro e w' ⟨rfl, rfl⟩)))
          clear t1 t2 t3 t4
          refine (div_any x y hx h0 hy _).mono ?_
          rintro e w' ⟨rfl, rfl⟩
          go_wp2_with fail
          refine (log_any y h0 hy _).mono ?_
          rintro e w1 ⟨rfl, hb⟩
          have HB := Lib.hid hb
          clear hb
          go_wp2_with fail
          refine (exp_any (Gf.log y) (by omega) _).mono ?_
          rintro e w' ⟨rfl, rfl⟩
          have t5 := H5.out
          have t6 := H6.out
          go_wp2_with (first
            | (go_at_call 17; refine (num_any _ _).mono ?_; rintro e w' ⟨rfl, rfl⟩)
            | (go_at_call 10; refine (mul_any _ _ (by assumption) (by assumption) _).mono ?_; rintro e w' ⟨rfl, rfl⟩))
          go_roundw
          case rel => exact ⟨k + 1, by omega, by go_num, (HK.out.drewN _).trans HB.out⟩
          case measure => simp [intOf]; omega
      · go_wp2_with (go_at_call 13; refine (wakes_any _).mono ?_; rintro e w' ⟨rfl, rfl⟩)
        go_ret
        exact ⟨rfl, HE.out _ HK.out⟩
    · go_wp2_with (go_at_call 13; refine (wakes_any _).mono ?_; rintro e w' ⟨rfl, rfl⟩)
      go_ret
      exact ⟨rfl, HE.out _ HK.out⟩
end Go.Proofs.Ytfgfkgelgkabkaa
