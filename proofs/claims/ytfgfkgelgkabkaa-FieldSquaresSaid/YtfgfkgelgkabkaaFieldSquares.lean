/- The walk of the law FieldSquares: it answers true and changes nothing that was there (no conditions). -/
import Derived.Test.YtfgfkgelgkabkaaFieldB
import Derived.Test.YtfgfkgelgkabkaaAsk1
import Derived.Test.YtfgfkgelgkabkaaKit
namespace Go.Proofs.Ytfgfkgelgkabkaa
open Go.ChangeShapes Go.WideShapes Go.ChangeAt Go.RowKit Go.Joins

theorem pow34 (a k : Nat) (ha : a < 256) : Gf.mul (Gf.pow a (3 + k)) (Gf.pow a 4) = Gf.pow a (7 + k) := by
  rw [← Gf.pow_add ha, show 3 + k + 4 = 7 + k by omega]

set_option maxRecDepth 100000 in
set_option maxHeartbeats 1000000 in
theorem fieldSquares_walk {W : World} {v : Value} {a0 a1 : Option Addr} {l0 c0 l1 c1 : Nat} {B N : List Int} (h : AskIn W v a0 l0 c0 B a1 l1 c1 N) :
    Calls Try.prog 9 #[v] W fun e W' => e = .returned (.bool true) ∧ Below W.heap.size W W' := by
  obtain ⟨rfl, hB, hN⟩ := h
  have hle := hB.le
  have hend : ∀ wr, Kept (W.alloc (.cells #[.slice a0 l0 c0, .slice a1 l1 c1] 25)) wr → Below W.heap.size W wr := fun wr h => ((Kept.refl W).alloc _).trans h
  have hask : ∀ wr, Kept (W.alloc (.cells #[.slice a0 l0 c0, .slice a1 l1 c1] 25)) wr → wr.cell? ⟨W.heap.size, 0, none⟩ = some (.slice a0 l0 c0) := fun wr h => h.cell (by simp) (cell_new _ _ _ 0)
  have HE := Lib.hid hend
  have HA := Lib.hid hask
  clear hend hask
  go_enter Try.func9, Try.ntmps9
  go_wp2
  go_loopw [3] (fun i wr => ∃ k : Nat, k ≤ 20 ∧ i = .int .i64 k ∧ Kept (W.alloc (.cells #[.slice a0 l0 c0, .slice a1 l1 c1] 25)) wr) (fun i _ => 20 - (intOf i).toNat)
  case atStart => exact ⟨0, by omega, rfl, Kept.refl _⟩
  case round =>
    obtain ⟨k, hk, rfl, hK⟩ := hrel
    have hca := HA.out wr hK
    have HK := Lib.hid hK
    by_cases hlt : k + 1 < l0
    · by_cases h4 : k < 20
      · obtain ⟨b, off, x, rfl, hbs, hx, hc, _⟩ := hB.byteAt k (by omega)
        obtain ⟨b', off', y, hab, hbs', hy, hd, _⟩ := hB.byteAt (k + 1) hlt
        simp only [Option.some.injEq, Addr.mk.injEq, and_true] at hab
        obtain ⟨rfl, rfl⟩ := hab
        have hc' := hK.cell (Nat.lt_of_lt_of_le hbs (by simp)) (cell_old hbs hc _)
        have hd' := hK.cell (Nat.lt_of_lt_of_le hbs (by simp)) (cell_old hbs hd _)
        have hxy := Gf.xor_lt hx hy
        have hxx := Gf.mul_lt hx x
        have hyy := Gf.mul_lt hy y
        have hp3 := Gf.pow_lt256 hx (3 + k)
        have hp4 := Gf.pow_lt256 hx 4
        have hs : (((Gf.mul (x ^^^ y) (x ^^^ y) : Nat) : Int) != ((Gf.mul x x ^^^ Gf.mul y y : Nat) : Int)) = false := by rw [Gf.square_xor x y hx hy]; simp
        have hp : (((Gf.mul (Gf.pow x (3 + k)) (Gf.pow x 4) : Nat) : Int) != ((Gf.pow x (7 + k) : Nat) : Int)) = false := by rw [pow34 x k hx]; simp
        clear hB hN hc hd hK
        go_wp2
        have e1 : IntKind.i64.wrap ((k : Int) + 1) = k + 1 := IntWalk.i64_in _ (by omega)
        go_quiet (fail)
        clear e1 hc' hd' hca
        have e3 : ((3 : Int) + (k : Int)) = ((3 + k : Nat) : Int) := by omega
        have e7 : ((7 : Int) + (k : Int)) = ((7 + k : Nat) : Int) := by omega
        have E3 := Lib.hid e3
        have E7 := Lib.hid e7
        clear e3 e7
        go_wp2_with (first
          | (go_at_call 12; refine (add_any _ _ (by assumption) (by assumption) _).mono ?_; rintro e w' ⟨rfl, rfl⟩)
          | (go_at_call 10; refine (mul_any _ _ (by assumption) (by assumption) _).mono ?_; rintro e w' ⟨rfl, rfl⟩)
          | (go_at_call 17; refine (num_any _ _).mono ?_; rintro e w' ⟨rfl, rfl⟩))
        rw [E3.out]
        refine (pow_any x (3 + k) hx (by omega) _).mono ?_
        rintro e w' ⟨rfl, rfl⟩
        go_wp2_with fail
        refine (pow_any x 4 hx (by omega) _).mono ?_
        rintro e w' ⟨rfl, rfl⟩
        go_wp2_with fail
        rw [E7.out]
        refine (pow_any x (7 + k) hx (by omega) _).mono ?_
        rintro e w' ⟨rfl, rfl⟩
        go_wp2_with (first
          | (go_at_call 10; refine (mul_any _ _ (by assumption) (by assumption) _).mono ?_; rintro e w' ⟨rfl, rfl⟩)
          | (go_at_call 17; refine (num_any _ _).mono ?_; rintro e w' ⟨rfl, rfl⟩))
        go_roundw
        case rel => exact ⟨k + 1, by omega, by go_num, HK.out.drewN _⟩
        case measure => simp [intOf]; omega
      · go_wp2_with (go_at_call 13; refine (wakes_any _).mono ?_; rintro e w' ⟨rfl, rfl⟩)
        go_ret
        exact ⟨rfl, HE.out _ HK.out⟩
    · go_wp2_with (go_at_call 13; refine (wakes_any _).mono ?_; rintro e w' ⟨rfl, rfl⟩)
      go_ret
      exact ⟨rfl, HE.out _ HK.out⟩
end Go.Proofs.Ytfgfkgelgkabkaa
