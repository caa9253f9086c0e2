/- silolaw13.wakes, by what it answers (no conditions). -/
import Derived.Test.YtoanldoocmmhjaaRl5
namespace Go.Proofs.Ytoanldoocmmhjaa
open Go.RowKit
def wakeRec : Rec := ⟨8, 0, ⟨#[97]⟩, ⟨#[]⟩, [], []⟩
theorem wake_bytes : bytesT wakeRec = ⟨#[8, 1, 97]⟩ := by kernel_rfl
theorem wake_may : Rec.may wakeRec = true := by kernel_rfl
theorem wake_take : takeP ⟨#[8, 1, 97]⟩ = (wakeRec, true) := by kernel_rfl
theorem wake_in (w : World) : RecIn w wakeRec none 0 none 0 := ⟨IntsIn.nil _ _ _, SlotsIn.nil _ _, by show -9223372036854775808 ≤ (8 : Int) ∧ (8 : Int) ≤ 9223372036854775807; omega, by show -9223372036854775808 ≤ (0 : Int) ∧ (0 : Int) ≤ 9223372036854775807; omega, (by decide), (by decide)⟩
theorem wake_cells : recCells wakeRec none 0 0 none 0 0 = #[.int .i64 8, .int .i64 0, .string ⟨#[97]⟩, .string ⟨#[]⟩, .slice none 0 0, .slice none 0 0] := rfl
set_option maxRecDepth 100000 in
set_option maxHeartbeats 2000000 in
theorem wakes_any (w : World) : Calls Try.prog 23 #[] w fun e w' => e = .returned (.bool true) ∧ Kept w w' := by
  have HB := Lib.hid (rbytes2_any wakeRec none 0 0 none 0 0 w (wake_in w))
  rw [wake_bytes, wake_may, wake_cells] at HB
  have HT := Lib.hid (fun w' => take_any ⟨#[8, 1, 97]⟩ w' (by decide))
  rw [wake_take] at HT
  go_enter Try.func23, Try.ntmps23
  go_wp2_with fail
  refine (HB.out).mono ?_
  rintro e w1 ⟨rfl, k1⟩
  clear HB
  have he : errF true = 0 := rfl
  rw [he]
  clear he
  go_wp2_with fail
  refine (HT.out _).mono ?_
  clear HT
  rintro e w2 ⟨al, cl, az, cz, rfl, hi, k2⟩
  have k02 := k1.trans k2
  clear hi k1 k2
  unfold recCells wakeRec errT
  dsimp only [List.length]
  have k3 := k02.trans ((Kept.refl w2).alloc (.cells #[.int .i64 8, .int .i64 0, .string ⟨#[97]⟩, .string ⟨#[]⟩, .slice al 0 cl, .slice az 0 cz] 31))
  have hb := BlockAt.new w2 #[.int .i64 8, .int .i64 0, .string ⟨#[97]⟩, .string ⟨#[]⟩, .slice al 0 cl, .slice az 0 cz] 31
  go_upto_region 3 with (fail)
  generalize w2.alloc (.cells #[.int .i64 8, .int .i64 0, .string ⟨#[97]⟩, .string ⟨#[]⟩, .slice al 0 cl, .slice az 0 cz] 31) = w3 at *
  obtain ⟨a0, a1, a2, a3, a4, a5⟩ := box6 hb
  clear hb k02
  go_wp2_with fail
  refine (num_law 0 _).mono ?_
  rintro e w' ⟨rfl, rfl⟩
  go_wp2_with fail
  refine (num_law 0 _).mono ?_
  rintro e w' ⟨rfl, rfl⟩
  go_wp2
  go_ret
  exact ⟨rfl, k3⟩
end Go.Proofs.Ytoanldoocmmhjaa
