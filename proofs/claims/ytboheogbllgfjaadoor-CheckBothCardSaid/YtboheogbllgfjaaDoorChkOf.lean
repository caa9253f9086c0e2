/- check.Of, and that package check wakes (no condition but that the table lies as it is laid). -/
import Derived.Test.YtboheogbllgfjaaDoorChk
import Derived.Test.YtboheogbllgfjaaDoorRes
namespace Go.Proofs.YtboheogbllgfjaaDoor
open Go.RowKit

theorem of_any (s : ByteArray) (hs : s.size ≤ 9223372036854775807) (w : World) (hf : Fours w) :
    Calls Tryd.prog 9 #[.string s] w fun e w' => e = .returned (.int .u64 (Crc.more 0 s.data.toList : Nat)) ∧ w = w' := by
  have hm := more_any 0 (by decide) s hs w hf
  clear hf
  go_enter Tryd.func9, Tryd.ntmps9
  go_wp2_with fail
  refine (show Calls Tryd.prog 10 #[.int .u64 0, .string s] w _ from hm).mono ?_
  rintro e w' ⟨rfl, rfl⟩
  go_wp2
  go_ret
  exact ⟨rfl, rfl⟩
theorem nine_digits : Crc.more 0 [49, 50, 51, 52, 53, 54, 55, 56, 57] = 11051210869376104954 := by decide +kernel
theorem wakes9_any (w : World) (hf : Fours w) : Calls Tryd.prog 12 #[] w fun e w' => e = .returned (.bool true) ∧ w = w' := by
  have ho := of_any ⟨#[49, 50, 51, 52, 53, 54, 55, 56, 57]⟩ (by decide) w hf
  rw [show (⟨#[49, 50, 51, 52, 53, 54, 55, 56, 57]⟩ : ByteArray).data.toList = [49, 50, 51, 52, 53, 54, 55, 56, 57] from rfl, nine_digits] at ho
  clear hf
  go_enter Tryd.func12, Tryd.ntmps12
  go_wp2_with fail
  refine ho.mono ?_
  rintro e w' ⟨rfl, rfl⟩
  go_wp2
  go_ret
  exact ⟨rfl, rfl⟩
end Go.Proofs.YtboheogbllgfjaaDoor
