/- siloref0.EqParts, by what it answers of the same parts (no conditions). -/
import Derived.Test.YtlncjheifkbomaaSpn2
import Derived.Test.YtlncjheifkbomaaStd
namespace Go.Proofs.Ytlncjheifkbomaa
open Go.RowKit
set_option maxRecDepth 100000 in
set_option maxHeartbeats 1000000 in
theorem eq_parts (a a' : Option Addr) (l cap cap' : Nat) (ps : List (Int × Int × Int)) (w : World) (h : PartsIn w a l ps) (h' : PartsIn w a' l ps) :
    Calls Try.prog 33 #[.slice a l cap, .slice a' l cap'] w fun e w' => e = .returned (.bool true) ∧ Kept w w' := by
  have hle := h.le
  go_enter Try.func33, Try.ntmps33
  go_wp2
  go_loopw [5] (fun i wr => ∃ k : Nat, k ≤ l ∧ i = .int .i64 k ∧ Kept w wr) (fun i _ => l - (intOf i).toNat)
  case atStart => exact ⟨0, by omega, rfl, Kept.refl _⟩
  case round =>
    obtain ⟨k, hk, rfl, hK⟩ := hrel
    have HK := Lib.hid hK
    by_cases hlt : k < l
    · obtain ⟨b, off, ha, hc⟩ := h.cells
      obtain ⟨b', off', ha', hc'⟩ := h'.cells
      obtain rfl := ha (by omega)
      obtain rfl := ha' (by omega)
      have c0 := hK.cell (hc k hlt).1 (hc k hlt).2.1
      have c1 := hK.cell (hc k hlt).1 (hc k hlt).2.2.1
      have c2 := hK.cell (hc k hlt).1 (hc k hlt).2.2.2
      have d0 := hK.cell (hc' k hlt).1 (hc' k hlt).2.1
      have d1 := hK.cell (hc' k hlt).1 (hc' k hlt).2.2.1
      have d2 := hK.cell (hc' k hlt).1 (hc' k hlt).2.2.2
      generalize ps.getD k (0, 0, 0) = t at *
      obtain ⟨x, y, z⟩ := t
      dsimp only at c0 c1 c2 d0 d1 d2
      clear h h' hc hc' ha ha' hK
      go_wp2_with fail
      go_quiet (fail)
      go_wp2
      go_roundw
      case rel => exact ⟨k + 1, by omega, by go_num, HK.out.drewN nq⟩
      case measure => simp [intOf]; omega
    · clear h h' hK
      go_wp2
      go_ret
      exact ⟨rfl, HK.out⟩
end Go.Proofs.Ytlncjheifkbomaa
