/- record's parse, by what it answers (no conditions but on the text's length). -/
import Derived.Test.YtoanldoocmmhjaaRc8
import Derived.Test.YtoanldoocmmhjaaRc9
import Derived.Test.YtoanldoocmmhjaaRc9b
import Derived.Test.YtoanldoocmmhjaaRc9c
import Derived.Deep.AppendLies
import Derived.Deep.RegionWith
import Derived.Deep.RegionLaw
namespace Go.Proofs.Ytoanldoocmmhjaa
open Go.RowKit
theorem parse_any (p : Nat) (rest : ByteArray) (short : Bool) (w : World) (h : BlockAt w p #[.string rest, .bool short] 63) (hz : rest.size ≤ 140737488351232) :
    Calls Try.prog 39 #[.pointer (some ⟨p, 0, none⟩)] w (ParseP p w (parse (rest, short))) := by
  have hb := pv1_lt (rest, short)
  obtain ⟨v, hv⟩ : ∃ v : Nat, v = pv 1 (rest, short) := ⟨_, rfl⟩
  rw [← hv] at hb
  have hcase : v = 1 ∨ v = 2 ∨ v = 3 ∨ v = 4 ∨ v = 5 ∨ v = 6 ∨ v = 7 ∨ v = 8 ∨ (v ≠ 1 ∧ v ≠ 2 ∧ v ≠ 3 ∧ v ≠ 4 ∧ v ≠ 5 ∧ v ≠ 6 ∧ v ≠ 7 ∧ v ≠ 8) := by omega
  rcases hcase with rfl | rfl | rfl | rfl | rfl | rfl | rfl | rfl | hn
  · exact parse_1 p rest short w h hz (by rw [← hv]; rfl)
  · exact parse_2 p rest short w h hz (by rw [← hv]; rfl)
  · exact parse_3 p rest short w h hz (by rw [← hv]; rfl)
  · exact parse_4 p rest short w h hz (by rw [← hv]; rfl)
  · exact parse_5 p rest short w h hz (by rw [← hv]; rfl)
  · exact parse_6 p rest short w h hz (by rw [← hv]; rfl)
  · exact parse_7 p rest short w h hz (by rw [← hv]; rfl)
  · exact parse_8 p rest short w h hz (by rw [← hv]; rfl)
  · exact parse_9 p rest short (v : Int) ⟨by unfold Rc.fI; exact decide_eq_false (by omega), by unfold Rc.fN; exact decide_eq_false (by omega), by unfold Rc.fD; exact decide_eq_false (by omega), by unfold Rc.fL; exact decide_eq_false (by omega), by unfold Rc.fS; exact decide_eq_false (by omega)⟩ (by omega) w h hz (by rw [← hv])
end Go.Proofs.Ytoanldoocmmhjaa
