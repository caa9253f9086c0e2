/- siloref0.EqStrings, by what it answers of the same texts (no condition but that lengths fit an int). -/
import Derived.Test.YtjiefcjjgadjiaaDoorTextsIn
import Derived.Test.YtjiefcjjgadjiaaDoorText
import Derived.Test.YtjiefcjjgadjiaaDoorTail
namespace Go.Proofs.YtjiefcjjgadjiaaDoor
open Go.RowKit

set_option maxRecDepth 100000 in
set_option maxHeartbeats 400000 in
/-- the same texts, twice -/
theorem eq_strings (a a' : Option Addr) (l cap cap' : Nat) (ss : List ByteArray) (w : World) (h : StrsIn w a l ss) (h' : StrsIn w a' l ss) :
    Calls Tryd.prog 15 #[.slice a l cap, .slice a' l cap'] w fun e w' => e = .returned (.bool true) ∧ Kept w w' := by
  have hle := h.le
  go_enter Tryd.func15, Tryd.ntmps15
  go_wp2
  go_loopw [5] (fun i wr => ∃ k : Nat, k ≤ l ∧ i = .int .i64 k ∧ Kept w wr) (fun i _ => l - (intOf i).toNat)
  case atStart => exact ⟨0, by omega, rfl, Kept.refl _⟩
  case round =>
    obtain ⟨k, hk, rfl, hK⟩ := hrel
    have HK := Lib.hid hK
    by_cases hlt : k < l
    · obtain ⟨b, off, ha, hc⟩ := h.cells
      obtain ⟨b', off', ha', hc'⟩ := h'.cells
      obtain rfl := ha (by omega)
      obtain rfl := ha' (by omega)
      have hck := hK.cell (hc k hlt).1 (hc k hlt).2
      have hck' := hK.cell (hc' k hlt).1 (hc' k hlt).2
      have hsk := h.size k hlt
      generalize ss.getD k ByteArray.empty = t at hck hck' hsk
      clear h h' hc hc' ha ha' hK
      go_wp2_with fail
      go_quiet (fail)
      go_wp2
      go_roundw
      case rel => exact ⟨k + 1, by omega, by go_num, HK.out.drewN nq⟩
      case measure => simp [intOf]; omega
    · clear h h' hK
      go_wp2
      go_ret
      exact ⟨rfl, HK.out⟩
end Go.Proofs.YtjiefcjjgadjiaaDoor
