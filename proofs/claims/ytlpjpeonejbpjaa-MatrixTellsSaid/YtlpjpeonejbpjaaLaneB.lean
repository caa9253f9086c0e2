/- Lanes in the package: a table's product, and the iterator over a lane's bytes, by what they compute (no condition but that the factor is a byte). -/
import Derived.Test.YtlpjpeonejbpjaaLane
import Derived.Test.YtlpjpeonejbpjaaRange
namespace Go.Proofs.Ytlpjpeonejbpjaa
open Go.RowKit Go.Shelf

set_option maxRecDepth 100000 in
theorem halves (x : Nat) (hx : x < 256) : (x % 16) ^^^ (x / 16 * 16) = x := by
  simpa using Gf.below (fun x => (x % 16) ^^^ (x / 16 * 16) == x) (by decide +kernel) x hx
theorem mul_halves (c x : Nat) (hx : x < 256) : Gf.mul c (x % 16) ^^^ Gf.mul c (x / 16 * 16) = Gf.mul c x := by
  rw [← Gf.mul_right, halves x hx]
theorem and_15 (x : Nat) (hx : x < 256) : bits .and .u8 (x : Int) 15 = ((x % 16 : Nat) : Int) := by
  have h := u8_and_nat x 15 hx (by omega)
  rw [show x &&& 15 = x % 16 from Nat.and_two_pow_sub_one_eq_mod x 4] at h
  exact h

set_option maxRecDepth 100000 in
set_option maxHeartbeats 400000 in
theorem of_any (M c x : Nat) (hc : c < 256) (hx : x < 256) (w : World) (hb : BlockAt w M (mulCells c 16) 114) :
    Calls Try.prog 85 #[.pointer (some ⟨M, 0, none⟩), .int .u8 x] w fun e w' => e = .returned (.int .u8 (Gf.mul c x : Nat)) ∧ Kept w w' := by
  have h15 := and_15 x hx
  have hm : x % 16 < 16 := by omega
  have hd : x / 16 < 16 := by omega
  have c1 := hb.cell (x % 16)
  have c2 := hb.cell (16 + x / 16)
  rw [mulCells_get c 16 _ (by omega)] at c1 c2
  have e1 : mulCell c 16 (x % 16) = Gf.mul c (x % 16) := by unfold mulCell; rw [if_pos hm, if_pos hm]
  have e2 : mulCell c 16 (16 + x / 16) = Gf.mul c (x / 16 * 16) := by unfold mulCell; rw [if_neg (by omega), if_pos (by omega), Nat.add_sub_cancel_left]
  rw [e1] at c1
  rw [e2] at c2
  have m1 := Gf.mul_lt hc (x % 16)
  have m2 := Gf.mul_lt hc (x / 16 * 16)
  have HM := Lib.hid (mul_halves c x hx)
  clear hb e1 e2
  go_enter Try.func85, Try.ntmps85
  go_wp2
  go_quiet ((go_at_call 69; exact quietly (add_any _ _ m1 m2 _)))
  go_wp2
  go_ret
  exact ⟨ret_u8n HM.out, (Kept.refl w).drewN _⟩

theorem times_any (a : ByteArray) (c : Nat) (w : World) :
    Calls Try.prog 67 #[.string a, .int .u8 c] w fun e w' => e = .returned (.func (.func 83) #[] #[.pointer (some ⟨w.heap.size + 1, 0, none⟩), .pointer (some ⟨w.heap.size, 0, none⟩)]) ∧
      w' = (w.alloc (.cells #[.string a] 9)).alloc (.cells #[.int .u8 (c : Int)] 5) := by
  go_enter Try.func67, Try.ntmps67
  go_wp2
  go_ret
  exact ⟨rfl, rfl⟩
end Go.Proofs.Ytlpjpeonejbpjaa
