/- Powers, inverses and quotients in packages field and siloref1, function by function, each by what it computes (the exponent fits an int; no other condition). -/
import Derived.Test.YtlpjpeonejbpjaaField
namespace Go.Proofs.Ytlpjpeonejbpjaa
open Go.RowKit

theorem ret_u8n {a b : Nat} (h : a = b) : Ending.returned (.int .u8 (a : Int)) = .returned (.int .u8 (b : Int)) := by rw [h]

set_option maxHeartbeats 400000 in
theorem raise_any (a n : Nat) (ha : a < 256) (hn : n ≤ 9223372036854775807) (w : World) :
    Calls Try.prog 97 #[.int .u8 a, .int .i64 n] w fun e w' => e = .returned (.int .u8 (Gf.pow a n : Nat)) ∧ w = w' := by
  go_enter Try.func97, Try.ntmps97
  go_wp2
  go_loop [5, 6, 7] (fun r s i => ∃ R S m : Nat, m ≤ n ∧ i = .int .i64 m ∧ r = .int .u8 (R : Int) ∧ s = .int .u8 (S : Int) ∧ R < 256 ∧ S < 256 ∧ Gf.mul R (Gf.pow S m) = Gf.pow a n) (fun _ _ i => (intOf i).toNat)
  case atStart => exact ⟨1, a, n, Nat.le_refl _, rfl, rfl, rfl, by omega, ha, Gf.one_mul _ (Gf.pow_lt256 ha n)⟩
  case round =>
    obtain ⟨R, S, m, hm, rfl, rfl, rfl, hR, hS, hinv⟩ := hrel
    have HI := Lib.hid hinv
    clear hinv
    by_cases hlt : 0 < m
    · have e1 := i64_and_one m (by omega)
      have hm2 : m / 2 ≤ n := by omega
      rcases Nat.mod_two_eq_zero_or_one m with hbit | hbit
      all_goals
        have H1 : (bits .and .i64 (m : Int) 1 == 1) = decide (m % 2 = 1) := by rw [e1, hbit]; rfl
        rw [hbit] at H1
        simp only [decide_true, Nat.zero_ne_one, decide_false] at H1
        have HB := Lib.hid hbit
        clear e1 hbit
      · go_wp2_with fail
        refine (mul_any S S hS hS w).mono ?_
        rintro e w' ⟨rfl, rfl⟩
        go_wp2
        go_round
        case rel => exact ⟨R, Gf.mul S S, m / 2, hm2, by go_num, rfl, rfl, hR, Gf.mul_lt hS S, by rw [Gf.round_even hS HB.out]; exact HI.out⟩
        case measure => simp [intOf]; omega
      · go_wp2_with fail
        refine (mul_any R S hR hS w).mono ?_
        rintro e w' ⟨rfl, rfl⟩
        go_wp2_with fail
        refine (mul_any S S hS hS w).mono ?_
        rintro e w' ⟨rfl, rfl⟩
        go_wp2
        go_round
        case rel => exact ⟨Gf.mul R S, Gf.mul S S, m / 2, hm2, by go_num, rfl, rfl, Gf.mul_lt hR S, Gf.mul_lt hS S, by rw [Gf.round_odd hR hS HB.out]; exact HI.out⟩
        case measure => simp [intOf]; omega
    · go_wp2
      go_ret
      obtain rfl : m = 0 := by omega
      have h := HI.out
      rw [show Gf.pow S 0 = 1 from rfl, Gf.mul_one R hR] at h
      exact ⟨ret_u8n h, rfl⟩
set_option maxHeartbeats 400000 in
theorem refpow_any (a n : Nat) (ha : a < 256) (hn : n ≤ 9223372036854775807) (w : World) :
    Calls Try.prog 80 #[.int .u8 a, .int .i64 n] w fun e w' => e = .returned (.int .u8 (Gf.pow a n : Nat)) ∧ w = w' := by
  go_enter Try.func80, Try.ntmps80
  go_wp2
  go_loop [5, 0, 1] (fun r s i => ∃ R S m : Nat, m ≤ n ∧ i = .int .i64 m ∧ r = .int .u8 (R : Int) ∧ s = .int .u8 (S : Int) ∧ R < 256 ∧ S < 256 ∧ Gf.mul R (Gf.pow S m) = Gf.pow a n) (fun _ _ i => (intOf i).toNat)
  case atStart => exact ⟨1, a, n, Nat.le_refl _, rfl, rfl, rfl, by omega, ha, Gf.one_mul _ (Gf.pow_lt256 ha n)⟩
  case round =>
    obtain ⟨R, S, m, hm, rfl, rfl, rfl, hR, hS, hinv⟩ := hrel
    have HI := Lib.hid hinv
    clear hinv
    by_cases hlt : 0 < m
    · have e1 := i64_and_one m (by omega)
      have hm2 : m / 2 ≤ n := by omega
      rcases Nat.mod_two_eq_zero_or_one m with hbit | hbit
      all_goals
        have H1 : (bits .and .i64 (m : Int) 1 == 1) = decide (m % 2 = 1) := by rw [e1, hbit]; rfl
        rw [hbit] at H1
        simp only [decide_true, Nat.zero_ne_one, decide_false] at H1
        have HB := Lib.hid hbit
        clear e1 hbit
      · go_wp2_with fail
        refine (refmul_any S S hS hS w).mono ?_
        rintro e w' ⟨rfl, rfl⟩
        go_wp2
        go_round
        case rel => exact ⟨R, Gf.mul S S, m / 2, hm2, by go_num, rfl, rfl, hR, Gf.mul_lt hS S, by rw [Gf.round_even hS HB.out]; exact HI.out⟩
        case measure => simp [intOf]; omega
      · go_wp2_with fail
        refine (refmul_any R S hR hS w).mono ?_
        rintro e w' ⟨rfl, rfl⟩
        go_wp2_with fail
        refine (refmul_any S S hS hS w).mono ?_
        rintro e w' ⟨rfl, rfl⟩
        go_wp2
        go_round
        case rel => exact ⟨Gf.mul R S, Gf.mul S S, m / 2, hm2, by go_num, rfl, rfl, Gf.mul_lt hR S, Gf.mul_lt hS S, by rw [Gf.round_odd hR hS HB.out]; exact HI.out⟩
        case measure => simp [intOf]; omega
    · go_wp2
      go_ret
      obtain rfl : m = 0 := by omega
      have h := HI.out
      rw [show Gf.pow S 0 = 1 from rfl, Gf.mul_one R hR] at h
      exact ⟨ret_u8n h, rfl⟩
theorem refinv_any (a : Nat) (ha : a < 256) (w : World) :
    Calls Try.prog 92 #[.int .u8 a] w fun e w' => e = .returned (.int .u8 (Gf.inv a : Nat)) ∧ w = w' := by
  go_enter Try.func92, Try.ntmps92
  go_wp2_with fail
  refine (refpow_any a 254 ha (by omega) w).mono ?_
  rintro e w' ⟨rfl, rfl⟩
  go_wp2
  go_ret
  exact ⟨rfl, rfl⟩
/-! ### two results: a byte (or a number), an error -/
abbrev two8 (x : Nat) (e : Int) : Value := .tuple #[.int .u8 (x : Int), .int .i64 e]
theorem inv_any (a : Nat) (h0 : 0 < a) (ha : a < 256) (w : World) :
    Calls Try.prog 88 #[.int .u8 a] w fun e w' => e = .returned (two8 (Gf.inv a) 0) ∧ w = w' := by
  go_enter Try.func88, Try.ntmps88
  have hb : ((a : Int) == 0) = false := by rw [beq_eq_false_iff_ne]; omega
  go_wp2_with fail
  refine (raise_any a 254 ha (by omega) w).mono ?_
  rintro e w' ⟨rfl, rfl⟩
  go_wp2
  go_ret2
  exact ⟨rfl, rfl⟩
theorem inv_zero (w : World) :
    Calls Try.prog 88 #[.int .u8 0] w fun e w' => e = .returned (two8 0 1) ∧ w = w' := by
  go_enter Try.func88, Try.ntmps88
  go_wp2
  go_ret2
  exact ⟨rfl, rfl⟩
theorem exp_any (n : Nat) (hn : n ≤ 9223372036854775807) (w : World) :
    Calls Try.prog 100 #[.int .i64 n] w fun e w' => e = .returned (two8 (Gf.dbls n) 0) ∧ w = w' := by
  go_enter Try.func100, Try.ntmps100
  go_wp2_with fail
  refine (raise_any 2 (n % 255) (by omega) (by omega) w).mono ?_
  rintro e w' ⟨rfl, rfl⟩
  go_wp2
  go_ret2
  refine ⟨?_, rfl⟩
  show Ending.returned (two8 (Gf.pow 2 (n % 255)) 0) = _
  rw [Gf.pow_two, Gf.dbls_mod]
theorem exp_neg (n : Int) (hn : n < 0) (w : World) :
    Calls Try.prog 100 #[.int .i64 n] w fun e w' => e = .returned (two8 0 1) ∧ w = w' := by
  go_enter Try.func100, Try.ntmps100
  go_wp2
  go_ret2
  exact ⟨rfl, rfl⟩
end Go.Proofs.Ytlpjpeonejbpjaa
