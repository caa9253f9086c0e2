/- The calls of packages field and siloref1 on numbers below 256, function by function, each by what it computes (no condition but that the arguments are bytes). -/
import Derived.Test.YtlpjpeonejbpjaaProg
import Derived.Test.YtlpjpeonejbpjaaGf
import Derived.WalkKit
import Derived.WalkSpells
import Derived.Outline
import Derived.Lib.Hide
namespace Go.Proofs.Ytlpjpeonejbpjaa
open Go.RowKit

theorem xor_u8 (a b : Nat) (ha : a < 256) (hb : b < 256) : bits .xor .u8 (a : Int) (b : Int) = ((a ^^^ b : Nat) : Int) := u8_xor_nat a b ha hb
theorem ret_u8 {a b : Int} (h : a = b) : Ending.returned (.int .u8 a) = .returned (.int .u8 b) := by rw [h]

theorem double_any (a : Nat) (ha : a < 256) (w : World) :
    Calls Try.prog 98 #[.int .u8 a] w fun e w' => e = .returned (.int .u8 (Gf.dbl a : Nat)) ∧ w = w' := by
  have h1 : a * 2 % 256 < 256 := by omega
  have h2 : a / 128 * 29 < 256 := by omega
  go_enter Try.func98, Try.ntmps98
  go_wp2
  go_ret
  exact ⟨ret_u8 (by rw [Gf.dbl, ← xor_u8 _ _ h1 h2]; rfl), rfl⟩

theorem add_any (a b : Nat) (ha : a < 256) (hb : b < 256) (w : World) :
    Calls Try.prog 69 #[.int .u8 a, .int .u8 b] w fun e w' => e = .returned (.int .u8 ((a ^^^ b : Nat) : Int)) ∧ w = w' := by
  go_enter Try.func69, Try.ntmps69
  go_wp2
  go_ret
  exact ⟨ret_u8 (xor_u8 a b ha hb), rfl⟩

theorem and_one (n : Nat) (hn : n < 256) : bits .and .u8 (n : Int) 1 = ((n % 2 : Nat) : Int) := by
  have h := u8_and_nat n 1 hn (by omega)
  rw [Nat.and_one_is_mod] at h
  exact h
theorem shift_lt (b k : Nat) (hb : b < 256) : b / 2 ^ k < 256 := Nat.lt_of_le_of_lt (Nat.div_le_self _ _) hb
theorem bit_arg (x b k : Nat) (hx : x < 256) (hb : b < 256) : ((x : Int) * bits .and .u8 ((b : Int) / 2 ^ k) 1 % 256) = ((x * (b / 2 ^ k % 2) : Nat) : Int) := by
  have e : ((b : Int) / 2 ^ k) = ((b / 2 ^ k : Nat) : Int) := by simp
  rw [e, and_one _ (shift_lt b k hb)]
  rcases Gf.bit01 b k with h | h <;> rw [h] <;> simp <;> omega
theorem bit_lt (x b k : Nat) (hx : x < 256) : x * (b / 2 ^ k % 2) < 256 := by
  rcases Gf.bit01 b k with h | h <;> rw [h] <;> omega
set_option maxHeartbeats 400000 in
theorem mul_any (a b : Nat) (ha : a < 256) (hb : b < 256) (w : World) :
    Calls Try.prog 95 #[.int .u8 a, .int .u8 b] w fun e w' => e = .returned (.int .u8 (Gf.mul a b : Nat)) ∧ w = w' := by
  go_enter Try.func95, Try.ntmps95
  go_wp2
  go_loop [0, 5, 7] (fun x s i => ∃ k : Nat, k ≤ 8 ∧ i = .int .i64 k ∧ x = .int .u8 ((Gf.mulTo a b k).2 : Nat) ∧ s = .int .u8 ((Gf.mulTo a b k).1 : Nat)) (fun _ _ i => 8 - (intOf i).toNat)
  case atStart => exact ⟨0, by omega, rfl, rfl, rfl⟩
  case round =>
    obtain ⟨k, hk, rfl, rfl, rfl⟩ := hrel
    by_cases hlt : k < 8
    · obtain ⟨h1, h2⟩ := Gf.mulTo_lt ha b k
      have h3 := bit_arg (Gf.mulTo a b k).2 b k h2 hb
      have h4 := bit_lt (Gf.mulTo a b k).2 b k h2
      have H3 := Lib.hid h3
      clear h3
      go_wp2_with fail
      rw [H3.out]
      refine (add_any _ _ h1 h4 w).mono ?_
      rintro e w' ⟨rfl, rfl⟩
      go_wp2_with fail
      refine (double_any _ h2 w).mono ?_
      rintro e w' ⟨rfl, rfl⟩
      go_wp2
      go_round
      case rel => exact ⟨k + 1, by omega, by go_num, rfl, rfl⟩
      case measure => simp [intOf]; omega
    · go_wp2
      go_ret
      exact ⟨ret_u8 (by obtain rfl : k = 8 := by omega
                        rfl), rfl⟩

/-! ### int64: bits of numbers that are not below 0 -/
theorem wrap_i64_nat (n : Nat) (hn : n < 9223372036854775808) : IntKind.i64.wrap (n : Int) = n := by
  rw [IntKind.wrap_i64]; omega
theorem ofInt_i64 (a : Nat) (ha : a < 18446744073709551616) : (BitVec.ofInt 64 (a : Int)).toNat = a := ofInt_u64 a ha
theorem i64_xor (a b : Nat) (ha : a < 2 ^ 62) (hb : b < 2 ^ 62) : bits .xor .i64 (a : Int) (b : Int) = ((a ^^^ b : Nat) : Int) := by
  have hx : a ^^^ b < 2 ^ 62 := Nat.xor_lt_two_pow ha hb
  show IntKind.i64.wrap ((BitVec.ofInt 64 (a : Int) ^^^ BitVec.ofInt 64 (b : Int)).toNat : Int) = _
  rw [BitVec.toNat_xor, ofInt_i64 a (by omega), ofInt_i64 b (by omega), wrap_i64_nat _ (by omega)]
theorem i64_and_one (a : Nat) (ha : a < 9223372036854775808) : bits .and .i64 (a : Int) 1 = ((a % 2 : Nat) : Int) := by
  show IntKind.i64.wrap ((BitVec.ofInt 64 (a : Int) &&& BitVec.ofInt 64 ((1 : Nat) : Int)).toNat : Int) = _
  rw [BitVec.toNat_and, ofInt_i64 a (by omega), ofInt_i64 1 (by omega), Nat.and_one_is_mod, wrap_i64_nat _ (by omega)]

/-! ### the reference's product -/
theorem ref_low (x : Nat) (hx : x * 2 ≤ 255) : Gf.dbl x = x * 2 := by
  unfold Gf.dbl
  rw [show x / 128 = 0 by omega, Nat.zero_mul, Nat.xor_zero]; omega
set_option maxRecDepth 100000 in
theorem ref_high (x : Nat) (hx : x < 256) (h : ¬ x * 2 ≤ 255) : Gf.dbl x = (x * 2) ^^^ 285 := by
  have := Gf.below (fun x => x * 2 ≤ 255 || Gf.dbl x == (x * 2) ^^^ 285) (by decide +kernel) x hx
  simp at this
  omega
set_option maxHeartbeats 400000 in
theorem refmul_any (a b : Nat) (ha : a < 256) (hb : b < 256) (w : World) :
    Calls Try.prog 68 #[.int .u8 a, .int .u8 b] w fun e w' => e = .returned (.int .u8 (Gf.mul a b : Nat)) ∧ w = w' := by
  go_enter Try.func68, Try.ntmps68
  go_wp2
  go_loop [5, 6, 7] (fun x s i => ∃ k : Nat, k ≤ 8 ∧ i = .int .i64 k ∧ x = .int .i64 ((Gf.mulTo a b k).2 : Nat) ∧ s = .int .i64 ((Gf.mulTo a b k).1 : Nat)) (fun _ _ i => 8 - (intOf i).toNat)
  case atStart => exact ⟨0, by omega, rfl, rfl, rfl⟩
  case round =>
    obtain ⟨k, hk, rfl, rfl, rfl⟩ := hrel
    obtain ⟨h1, h2⟩ := Gf.mulTo_lt ha b k
    by_cases hlt : k < 8
    · have e0 : ((b : Int) / 2 ^ k) = ((b / 2 ^ k : Nat) : Int) := by simp
      have e1 := and_one _ (shift_lt b k hb)
      rw [← e0] at e1
      rcases Gf.bit01 b k with hbit | hbit
      all_goals
        have H1 : (bits .and .u8 ((b : Int) / 2 ^ k) 1 == 1) = decide (b / 2 ^ k % 2 = 1) := by rw [e1, hbit]; rfl
        rw [hbit] at H1
        simp only [decide_true, Nat.zero_ne_one, decide_false] at H1
        have HB := Lib.hid hbit
        clear e0 e1 hbit
        by_cases hx : (Gf.mulTo a b k).2 * 2 ≤ 255
        all_goals
          go_wp2
          go_round
          case rel =>
            refine ⟨k + 1, by omega, by go_num, ?_, ?_⟩
            · simp only [Gf.mulTo]
              first
                | (rw [ref_low _ hx]; go_num)
                | (rw [ref_high _ h2 hx, ← i64_xor _ _ (by omega) (by omega)]; rfl)
            · simp only [Gf.mulTo, HB.out, Nat.mul_zero, Nat.mul_one, Nat.xor_zero]
              try rw [← i64_xor _ _ (by omega) (by omega)]
          case measure => simp [intOf]; omega
    · go_wp2
      go_ret
      exact ⟨ret_u8 (by obtain rfl : k = 8 := by omega
                        show _ = ((Gf.mulTo a b 8).1 : Int)
                        omega), rfl⟩
end Go.Proofs.Ytlpjpeonejbpjaa
