/- May a matrix be: the program's and the reference's word (no conditions). -/
import Derived.Test.YtlpjpeonejbpjaaKit
import Derived.Test.YtlpjpeonejbpjaaProg
namespace Go.Proofs.Ytlpjpeonejbpjaa
open Go.RowKit

def sideB (n : Int) : Bool := decide (1 ≤ n) && decide (n ≤ 16)
def matB (r c : Int) (l : Nat) : Bool := sideB r && sideB c && decide ((l : Int) = r * c)

theorem side_any (n : Int) (w : World) : Calls Try.prog 75 #[.int .i64 n] w fun e w' => e = .returned (.bool (sideB n)) ∧ w = w' := by
  unfold sideB
  go_enter Try.func75, Try.ntmps75
  by_cases h : 1 ≤ n
  · go_wp2
    go_ret
    exact ⟨by simp [h], rfl⟩
  · have hd : decide (1 ≤ n) = false := decide_eq_false h
    go_wp2
    go_ret
    exact ⟨rfl, rfl⟩
theorem between_any (n lo hi : Int) (w : World) : Calls Try.prog 39 #[.int .i64 n, .int .i64 lo, .int .i64 hi] w fun e w' => e = .returned (.bool (decide (lo ≤ n) && decide (n ≤ hi))) ∧ w = w' := by
  go_enter Try.func39, Try.ntmps39
  by_cases h : lo ≤ n
  · go_wp2
    go_ret
    exact ⟨by simp [h], rfl⟩
  · have hd : decide (lo ≤ n) = false := decide_eq_false h
    go_wp2
    go_ret
    exact ⟨rfl, rfl⟩
theorem sideB_bounds {n : Int} (h : sideB n = true) : 1 ≤ n ∧ n ≤ 16 := by
  simpa [sideB] using h
theorem prod_bounds {r c : Int} (h1 : 1 ≤ r ∧ r ≤ 16) (h2 : 1 ≤ c ∧ c ≤ 16) : 1 ≤ r * c ∧ r * c ≤ 256 := by
  have a := Int.mul_le_mul h1.1 h2.1 (by omega) (by omega)
  have b := Int.mul_le_mul h1.2 h2.2 (by omega) (by omega)
  omega

def matE (r c : Int) (l : Nat) : Int := if matB r c l then 0 else 1
theorem matE_bad {r c : Int} {l : Nat} (h : matB r c l = false) : matE r c l = 1 := by unfold matE; rw [h]; rfl
theorem matE_good {r c : Int} {l : Nat} (h : matB r c l = true) : matE r c l = 0 := by unfold matE; rw [h]; rfl
set_option maxRecDepth 100000 in
theorem check_any (r c : Int) (a : Option Addr) (l cap : Nat) (w : World) :
    Calls Try.prog 42 #[.agg #[.int .i64 r, .int .i64 c, .slice a l cap]] w fun e w' => e = .returned (.int .i64 (matE r c l)) ∧ Kept w w' := by
  go_enter Try.func42, Try.ntmps42
  go_wp2_with fail
  refine (side_any _ _).mono ?_
  rintro e w' ⟨rfl, rfl⟩
  cases hr : sideB r
  · have HM := Lib.hid (matE_bad (r := r) (c := c) (l := l) (by unfold matB; rw [hr]; rfl))
    clear hr
    go_wp2
    go_ret
    exact ⟨by rw [HM.out]; rfl, (Kept.refl w).alloc _⟩
  · go_wp2_with fail
    refine (side_any _ _).mono ?_
    rintro e w' ⟨rfl, rfl⟩
    cases hc : sideB c
    · have HM := Lib.hid (matE_bad (r := r) (c := c) (l := l) (by unfold matB; rw [hr, hc]; rfl))
      clear hr hc
      go_wp2
      go_ret
      exact ⟨by rw [HM.out]; rfl, (Kept.refl w).alloc _⟩
    · have hp := prod_bounds (sideB_bounds hr) (sideB_bounds hc)
      by_cases he : (l : Int) = r * c
      · have HM := Lib.hid (matE_good (r := r) (c := c) (l := l) (by unfold matB; rw [hr, hc, decide_eq_true he]; rfl))
        have hn : ((l : Int) != r * c) = false := by rw [he]; simp
        clear he hr hc
        go_wp2
        go_ret
        exact ⟨by rw [HM.out]; rfl, (Kept.refl w).alloc _⟩
      · have HM := Lib.hid (matE_bad (r := r) (c := c) (l := l) (by unfold matB; rw [hr, hc, decide_eq_false he]; rfl))
        have hn : ((l : Int) != r * c) = true := by rw [bne_iff_ne]; exact he
        clear he hr hc
        go_wp2
        go_ret
        exact ⟨by rw [HM.out]; rfl, (Kept.refl w).alloc _⟩
set_option maxRecDepth 100000 in
theorem refmat_any (r c : Int) (a : Option Addr) (l cap : Nat) (w : World) :
    Calls Try.prog 33 #[.agg #[.int .i64 r, .int .i64 c, .slice a l cap]] w fun e w' => e = .returned (.bool (matB r c l)) ∧ Kept w w' := by
  go_enter Try.func33, Try.ntmps33
  go_wp2_with fail
  refine (between_any r 1 16 _).mono ?_
  rintro e w' ⟨rfl, rfl⟩
  rw [show (decide (1 ≤ r) && decide (r ≤ 16)) = sideB r from rfl]
  cases hr : sideB r
  · have HM := Lib.hid (show matB r c l = false by unfold matB; rw [hr]; rfl)
    clear hr
    go_wp2
    go_ret
    exact ⟨by rw [HM.out]; rfl, (Kept.refl w).alloc _⟩
  · go_wp2_with fail
    refine (between_any c 1 16 _).mono ?_
    rintro e w' ⟨rfl, rfl⟩
    rw [show (decide (1 ≤ c) && decide (c ≤ 16)) = sideB c from rfl]
    cases hc : sideB c
    · have HM := Lib.hid (show matB r c l = false by unfold matB; rw [hr, hc]; rfl)
      clear hr hc
      go_wp2
      go_ret
      exact ⟨by rw [HM.out]; rfl, (Kept.refl w).alloc _⟩
    · have hp := prod_bounds (sideB_bounds hr) (sideB_bounds hc)
      by_cases he : (l : Int) = r * c
      · have HM := Lib.hid (show matB r c l = true by unfold matB; rw [hr, hc, decide_eq_true he]; rfl)
        have hn : ((l : Int) == r * c) = true := by rw [he]; simp
        clear he hr hc
        go_wp2
        go_ret
        exact ⟨by rw [HM.out]; rfl, (Kept.refl w).alloc _⟩
      · have HM := Lib.hid (show matB r c l = false by unfold matB; rw [hr, hc, decide_eq_false he]; rfl)
        have hn : ((l : Int) == r * c) = false := by rw [beq_eq_false_iff_ne]; exact he
        clear he hr hc
        go_wp2
        go_ret
        exact ⟨by rw [HM.out]; rfl, (Kept.refl w).alloc _⟩
end Go.Proofs.Ytlpjpeonejbpjaa
