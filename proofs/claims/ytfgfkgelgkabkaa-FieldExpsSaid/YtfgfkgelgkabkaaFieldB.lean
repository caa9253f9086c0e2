/- Powers, inverses and quotients in packages field and siloref1, function by function, each by what it computes (the exponent fits an int; no other condition). -/
import Derived.Test.YtfgfkgelgkabkaaField
namespace Go.Proofs.Ytfgfkgelgkabkaa
open Go.RowKit

theorem ret_u8n {a b : Nat} (h : a = b) : Ending.returned (.int .u8 (a : Int)) = .returned (.int .u8 (b : Int)) := by rw [h]

set_option maxHeartbeats 400000 in
theorem raise_any (a n : Nat) (ha : a < 256) (hn : n ≤ 9223372036854775807) (w : World) :
    Calls Try.prog 24 #[.int .u8 a, .int .i64 n] w fun e w' => e = .returned (.int .u8 (Gf.pow a n : Nat)) ∧ w = w' := by
  go_enter Try.func24, Try.ntmps24
  go_wp2
  go_loop [5, 6, 7] (fun r s i => ∃ R S m : Nat, m ≤ n ∧ i = .int .i64 m ∧ r = .int .u8 (R : Int) ∧ s = .int .u8 (S : Int) ∧ R < 256 ∧ S < 256 ∧ Gf.mul R (Gf.pow S m) = Gf.pow a n) (fun _ _ i => (intOf i).toNat)
  case atStart => exact ⟨1, a, n, Nat.le_refl _, rfl, rfl, rfl, by omega, ha, Gf.one_mul _ (Gf.pow_lt256 ha n)⟩
  case round =>
    obtain ⟨R, S, m, hm, rfl, rfl, rfl, hR, hS, hinv⟩ := hrel
    have HI := Lib.hid hinv
    clear hinv
    by_cases hlt : 0 < m
    · have e1 := i64_and_one m (by omega)
      have hm2 : m / 2 ≤ n := by omega
      rcases Nat.mod_two_eq_zero_or_one m with hbit | hbit
      all_goals
        have H1 : (bits .and .i64 (m : Int) 1 == 1) = decide (m % 2 = 1) := by rw [e1, hbit]; rfl
        rw [hbit] at H1
        simp only [decide_true, Nat.zero_ne_one, decide_false] at H1
        have HB := Lib.hid hbit
        clear e1 hbit
      · go_wp2_with fail
        refine (mul_any S S hS hS w).mono ?_
        rintro e w' ⟨rfl, rfl⟩
        go_wp2
        go_round
        case rel => exact ⟨R, Gf.mul S S, m / 2, hm2, by go_num, rfl, rfl, hR, Gf.mul_lt hS S, by rw [Gf.round_even hS HB.out]; exact HI.out⟩
        case measure => simp [intOf]; omega
      · go_wp2_with fail
        refine (mul_any R S hR hS w).mono ?_
        rintro e w' ⟨rfl, rfl⟩
        go_wp2_with fail
        refine (mul_any S S hS hS w).mono ?_
        rintro e w' ⟨rfl, rfl⟩
        go_wp2
        go_round
        case rel => exact ⟨Gf.mul R S, Gf.mul S S, m / 2, hm2, by go_num, rfl, rfl, Gf.mul_lt hR S, Gf.mul_lt hS S, by rw [Gf.round_odd hR hS HB.out]; exact HI.out⟩
        case measure => simp [intOf]; omega
    · go_wp2
      go_ret
      obtain rfl : m = 0 := by omega
      have h := HI.out
      rw [show Gf.pow S 0 = 1 from rfl, Gf.mul_one R hR] at h
      exact ⟨ret_u8n h, rfl⟩

set_option maxHeartbeats 400000 in
theorem refpow_any (a n : Nat) (ha : a < 256) (hn : n ≤ 9223372036854775807) (w : World) :
    Calls Try.prog 21 #[.int .u8 a, .int .i64 n] w fun e w' => e = .returned (.int .u8 (Gf.pow a n : Nat)) ∧ w = w' := by
  go_enter Try.func21, Try.ntmps21
  go_wp2
  go_loop [5, 0, 1] (fun r s i => ∃ R S m : Nat, m ≤ n ∧ i = .int .i64 m ∧ r = .int .u8 (R : Int) ∧ s = .int .u8 (S : Int) ∧ R < 256 ∧ S < 256 ∧ Gf.mul R (Gf.pow S m) = Gf.pow a n) (fun _ _ i => (intOf i).toNat)
  case atStart => exact ⟨1, a, n, Nat.le_refl _, rfl, rfl, rfl, by omega, ha, Gf.one_mul _ (Gf.pow_lt256 ha n)⟩
  case round =>
    obtain ⟨R, S, m, hm, rfl, rfl, rfl, hR, hS, hinv⟩ := hrel
    have HI := Lib.hid hinv
    clear hinv
    by_cases hlt : 0 < m
    · have e1 := i64_and_one m (by omega)
      have hm2 : m / 2 ≤ n := by omega
      rcases Nat.mod_two_eq_zero_or_one m with hbit | hbit
      all_goals
        have H1 : (bits .and .i64 (m : Int) 1 == 1) = decide (m % 2 = 1) := by rw [e1, hbit]; rfl
        rw [hbit] at H1
        simp only [decide_true, Nat.zero_ne_one, decide_false] at H1
        have HB := Lib.hid hbit
        clear e1 hbit
      · go_wp2_with fail
        refine (refmul_any S S hS hS w).mono ?_
        rintro e w' ⟨rfl, rfl⟩
        go_wp2
        go_round
        case rel => exact ⟨R, Gf.mul S S, m / 2, hm2, by go_num, rfl, rfl, hR, Gf.mul_lt hS S, by rw [Gf.round_even hS HB.out]; exact HI.out⟩
        case measure => simp [intOf]; omega
      · go_wp2_with fail
        refine (refmul_any R S hR hS w).mono ?_
        rintro e w' ⟨rfl, rfl⟩
        go_wp2_with fail
        refine (refmul_any S S hS hS w).mono ?_
        rintro e w' ⟨rfl, rfl⟩
        go_wp2
        go_round
        case rel => exact ⟨Gf.mul R S, Gf.mul S S, m / 2, hm2, by go_num, rfl, rfl, Gf.mul_lt hR S, Gf.mul_lt hS S, by rw [Gf.round_odd hR hS HB.out]; exact HI.out⟩
        case measure => simp [intOf]; omega
    · go_wp2
      go_ret
      obtain rfl : m = 0 := by omega
      have h := HI.out
      rw [show Gf.pow S 0 = 1 from rfl, Gf.mul_one R hR] at h
      exact ⟨ret_u8n h, rfl⟩

theorem refinv_any (a : Nat) (ha : a < 256) (w : World) :
    Calls Try.prog 18 #[.int .u8 a] w fun e w' => e = .returned (.int .u8 (Gf.inv a : Nat)) ∧ w = w' := by
  go_enter Try.func18, Try.ntmps18
  go_wp2_with fail
  refine (refpow_any a 254 ha (by omega) w).mono ?_
  rintro e w' ⟨rfl, rfl⟩
  go_wp2
  go_ret
  exact ⟨rfl, rfl⟩

theorem reflog_any (a : Nat) (h0 : 0 < a) (ha : a < 256) (w : World) :
    Calls Try.prog 19 #[.int .u8 a] w fun e w' => e = .returned (.int .i64 (Gf.log a : Nat)) ∧ w = w' := by
  obtain ⟨hl, hd⟩ := Gf.log_lt a h0 ha
  have HD := Lib.hid hd
  clear hd
  go_enter Try.func19, Try.ntmps19
  go_wp2
  go_loop [3, 4] (fun i x => ∃ k : Nat, k ≤ Gf.log a ∧ i = .int .i64 k ∧ x = .int .u8 (Gf.dbls k : Nat)) (fun i _ => Gf.log a - (intOf i).toNat)
  case atStart => exact ⟨0, by omega, rfl, rfl⟩
  case round =>
    obtain ⟨k, hk, rfl, rfl⟩ := hrel
    have hx := Gf.dbls_lt k
    by_cases hlt : k < Gf.log a
    · have hne : ((Gf.dbls k : Int) != (a : Int)) = true := by
        have := Gf.dbls_ne a k hlt h0 ha
        rw [bne_iff_ne]; omega
      go_wp2_with fail
      refine (refmul_any (Gf.dbls k) 2 hx (by omega) w).mono ?_
      rintro e w' ⟨rfl, rfl⟩
      go_wp2
      go_round
      case rel => exact ⟨k + 1, by omega, by go_num, by rw [Gf.dbl_mul _ hx]; rfl⟩
      case measure => simp [intOf]; omega
    · have he : k = Gf.log a := by omega
      have hne : ((Gf.dbls k : Int) != (a : Int)) = false := by
        rw [he, HD.out]; simp
      have HE := Lib.hid he
      clear he
      go_wp2
      go_ret
      exact ⟨by rw [HE.out]; rfl, rfl⟩

/-! ### two results: a byte (or a number), an error -/
abbrev two8 (x : Nat) (e : Int) : Value := .tuple #[.int .u8 (x : Int), .int .i64 e]
theorem inv_any (a : Nat) (h0 : 0 < a) (ha : a < 256) (w : World) :
    Calls Try.prog 15 #[.int .u8 a] w fun e w' => e = .returned (two8 (Gf.inv a) 0) ∧ w = w' := by
  go_enter Try.func15, Try.ntmps15
  have hb : ((a : Int) == 0) = false := by rw [beq_eq_false_iff_ne]; omega
  go_wp2_with fail
  refine (raise_any a 254 ha (by omega) w).mono ?_
  rintro e w' ⟨rfl, rfl⟩
  go_wp2
  go_ret2
  exact ⟨rfl, rfl⟩
theorem inv_zero (w : World) :
    Calls Try.prog 15 #[.int .u8 0] w fun e w' => e = .returned (two8 0 1) ∧ w = w' := by
  go_enter Try.func15, Try.ntmps15
  go_wp2
  go_ret2
  exact ⟨rfl, rfl⟩
theorem div_any (a b : Nat) (ha : a < 256) (h0 : 0 < b) (hb : b < 256) (w : World) :
    Calls Try.prog 14 #[.int .u8 a, .int .u8 b] w fun e w' => e = .returned (two8 (Gf.mul a (Gf.inv b)) 0) ∧ w = w' := by
  go_enter Try.func14, Try.ntmps14
  go_wp2_with fail
  refine (inv_any b h0 hb w).mono ?_
  rintro e w' ⟨rfl, rfl⟩
  go_wp2_with fail
  refine (mul_any a _ ha (Gf.inv_lt hb) w).mono ?_
  rintro e w' ⟨rfl, rfl⟩
  go_wp2
  go_ret2
  exact ⟨rfl, rfl⟩
theorem div_zero (a : Nat) (w : World) :
    Calls Try.prog 14 #[.int .u8 a, .int .u8 0] w fun e w' => e = .returned (two8 0 1) ∧ w = w' := by
  go_enter Try.func14, Try.ntmps14
  go_wp2_with fail
  refine (inv_zero w).mono ?_
  rintro e w' ⟨rfl, rfl⟩
  go_wp2
  go_ret2
  exact ⟨rfl, rfl⟩
theorem pow_any (a n : Nat) (ha : a < 256) (hn : n ≤ 9223372036854775807) (w : World) :
    Calls Try.prog 22 #[.int .u8 a, .int .i64 n] w fun e w' => e = .returned (two8 (Gf.pow a n) 0) ∧ w = w' := by
  go_enter Try.func22, Try.ntmps22
  go_wp2_with fail
  refine (raise_any a n ha hn w).mono ?_
  rintro e w' ⟨rfl, rfl⟩
  go_wp2
  go_ret2
  exact ⟨rfl, rfl⟩
theorem pow_neg (a : Nat) (n : Int) (hn : n < 0) (w : World) :
    Calls Try.prog 22 #[.int .u8 a, .int .i64 n] w fun e w' => e = .returned (two8 0 1) ∧ w = w' := by
  go_enter Try.func22, Try.ntmps22
  go_wp2
  go_ret2
  exact ⟨rfl, rfl⟩
theorem exp_any (n : Nat) (hn : n ≤ 9223372036854775807) (w : World) :
    Calls Try.prog 20 #[.int .i64 n] w fun e w' => e = .returned (two8 (Gf.dbls n) 0) ∧ w = w' := by
  go_enter Try.func20, Try.ntmps20
  go_wp2_with fail
  refine (raise_any 2 (n % 255) (by omega) (by omega) w).mono ?_
  rintro e w' ⟨rfl, rfl⟩
  go_wp2
  go_ret2
  refine ⟨?_, rfl⟩
  show Ending.returned (two8 (Gf.pow 2 (n % 255)) 0) = _
  rw [Gf.pow_two, Gf.dbls_mod]
theorem exp_neg (n : Int) (hn : n < 0) (w : World) :
    Calls Try.prog 20 #[.int .i64 n] w fun e w' => e = .returned (two8 0 1) ∧ w = w' := by
  go_enter Try.func20, Try.ntmps20
  go_wp2
  go_ret2
  exact ⟨rfl, rfl⟩
theorem num_any (n : Int) (w : World) :
    Calls Try.prog 17 #[.int .i64 n] w fun e w' => e = .returned (.int .i64 n) ∧ w = w' := by
  go_enter Try.func17, Try.ntmps17
  go_wp2
  go_ret
  exact ⟨rfl, rfl⟩
theorem wakes_any (w : World) :
    Calls Try.prog 13 #[] w fun e w' => e = .returned (.bool true) ∧ w = w' := by
  have h1 : Gf.mul 2 128 = 29 := by decide +kernel
  go_enter Try.func13, Try.ntmps13
  go_wp2_with fail
  refine (mul_any 2 128 (by omega) (by omega) w).mono ?_
  rintro e w' ⟨rfl, rfl⟩
  go_wp2_with fail
  refine (add_any 3 5 (by omega) (by omega) w).mono ?_
  rintro e w' ⟨rfl, rfl⟩
  go_wp2
  go_ret
  exact ⟨rfl, rfl⟩
end Go.Proofs.Ytfgfkgelgkabkaa
