/- The walk of the law FieldInverses: it answers true and changes nothing that was there (no conditions). -/
import Derived.Test.YtfgfkgelgkabkaaFieldB
import Derived.Test.YtfgfkgelgkabkaaAsk1
import Derived.Test.YtfgfkgelgkabkaaKit
namespace Go.Proofs.Ytfgfkgelgkabkaa
open Go.ChangeShapes Go.WideShapes Go.ChangeAt Go.RowKit Go.Joins

set_option maxRecDepth 100000 in
set_option maxHeartbeats 1000000 in
theorem fieldInverses_walk {W : World} {v : Value} {a0 a1 : Option Addr} {l0 c0 l1 c1 : Nat} {B N : List Int} (h : AskIn W v a0 l0 c0 B a1 l1 c1 N) :
    Calls Try.prog 7 #[v] W fun e W' => e = .returned (.bool true) ∧ Below W.heap.size W W' := by
  obtain ⟨rfl, hB, hN⟩ := h
  have hle := hB.le
  clear hB hN
  go_enter Try.func7, Try.ntmps7
  go_wp2
  go_loop [3] (fun i => ∃ k : Nat, 1 ≤ k ∧ k ≤ 256 ∧ i = .int .i64 k) (fun i => 256 - (intOf i).toNat)
  case atStart => exact ⟨1, by omega, by omega, rfl⟩
  case round =>
    obtain ⟨k, h1, hk, rfl⟩ := hrel
    by_cases hlt : k < 256
    · have h0 : 0 < k := h1
      have hi := Gf.inv_lt hlt
      have hip := Gf.inv_pos k h0 hlt
      have hii := Gf.inv_inv k h0 hlt
      go_wp2_with (first
        | (go_at_call 15; refine (inv_any _ (by assumption) (by assumption) _).mono ?_; rintro e w' ⟨rfl, rfl⟩)
        | (go_at_call 18; refine (refinv_any _ (by assumption) _).mono ?_; rintro e w' ⟨rfl, rfl⟩)
        | (go_at_call 17; refine (num_any _ _).mono ?_; rintro e w' ⟨rfl, rfl⟩))
      go_round
      case rel => exact ⟨k + 1, by omega, by omega, by go_num⟩
      case measure => simp [intOf]; omega
    · go_wp2_with (go_at_call 13; refine (wakes_any _).mono ?_; rintro e w' ⟨rfl, rfl⟩)
      go_ret
      exact ⟨rfl, (Kept.refl W).alloc _⟩
end Go.Proofs.Ytfgfkgelgkabkaa
