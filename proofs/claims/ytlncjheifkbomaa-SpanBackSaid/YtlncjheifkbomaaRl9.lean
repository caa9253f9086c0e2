/- silolaw0.Within, by what it answers (no conditions but that the bound is a bound). -/
import Derived.Test.YtlncjheifkbomaaStd
namespace Go.Proofs.Ytlncjheifkbomaa
open Go.RowKit
/-- a number brought below another one -/
def wthn (x : Int) (n : Nat) : Nat := (IntKind.u64.wrap x % (n : Int)).toNat
theorem wthn_lt (x : Int) {n : Nat} (h : 0 < n) : wthn x n < n := by
  have h1 := Int.emod_nonneg (IntKind.u64.wrap x) (show (n : Int) ≠ 0 by omega)
  have h2 := Int.emod_lt_of_pos (IntKind.u64.wrap x) (show (0 : Int) < (n : Int) by omega)
  unfold wthn
  omega
theorem within_ref (x : Int) (n : Nat) (hn : 1 ≤ n ∧ n ≤ 1099511627776) (w : World) : Calls Try.prog 28 #[.int .i64 x, .int .i64 n] w fun e w' => e = .returned (.int .i64 (wthn x n : Nat)) ∧ w = w' := by
  have hu : IntKind.u64.wrap (n : Int) = (n : Int) := by rw [IntKind.wrap_u64]; omega
  have hne : ((n : Int) == 0) = false := by rw [beq_eq_false_iff_ne]; omega
  have h0 : 0 ≤ IntKind.u64.wrap x := by rw [IntKind.wrap_u64]; omega
  go_enter Try.func28, Try.ntmps28
  go_wp2
  go_ret
  have h1 := Int.emod_nonneg (IntKind.u64.wrap x) (show (n : Int) ≠ 0 by omega)
  have h2 := Int.emod_lt_of_pos (IntKind.u64.wrap x) (show (0 : Int) < (n : Int) by omega)
  have h3 : wrap64 (IntKind.u64.wrap x % (n : Int)) = IntKind.u64.wrap x % (n : Int) := by
    unfold wrap64
    omega
  refine ⟨?_, rfl⟩
  unfold wthn
  rw [Int.toNat_of_nonneg h1]
  show Ending.returned (.int .i64 (wrap64 (IntKind.u64.wrap x % (n : Int)))) = _
  rw [h3]
end Go.Proofs.Ytlncjheifkbomaa
