/- The law FieldMul answers true for every input, and the input reads behind the call as before (no conditions). -/
import Derived.Test.YtfgfkgelgkabkaaFieldB
import Derived.Test.YtfgfkgelgkabkaaAsk1
import Derived.Test.YtfgfkgelgkabkaaKit
namespace Go.Proofs.Ytfgfkgelgkabkaa
open Go.ChangeShapes Go.WideShapes Go.ChangeAt Go.RowKit Go.Joins

set_option maxRecDepth 100000 in
set_option maxHeartbeats 1000000 in
theorem fieldMul_walk {W : World} {v : Value} {a0 a1 : Option Addr} {l0 c0 l1 c1 : Nat} {B N : List Int} (h : AskIn W v a0 l0 c0 B a1 l1 c1 N) :
    Calls Try.prog 3 #[v] W fun e W' => e = .returned (.bool true) ∧ Below W.heap.size W W' := by
  obtain ⟨rfl, hB, hN⟩ := h
  have hle := hB.le
  have hend : ∀ wr, Kept (W.alloc (.cells #[.slice a0 l0 c0, .slice a1 l1 c1] 25)) wr → Below W.heap.size W wr := fun wr h => ((Kept.refl W).alloc _).trans h
  have hask : ∀ wr, Kept (W.alloc (.cells #[.slice a0 l0 c0, .slice a1 l1 c1] 25)) wr → wr.cell? ⟨W.heap.size, 0, none⟩ = some (.slice a0 l0 c0) := fun wr h => h.cell (by simp) (cell_new _ _ _ 0)
  have HE := Lib.hid hend
  have HA := Lib.hid hask
  clear hend hask
  go_enter Try.func3, Try.ntmps3
  go_wp2
  go_loopw [3] (fun i wr => ∃ k : Nat, k ≤ l0 ∧ i = .int .i64 k ∧ Kept (W.alloc (.cells #[.slice a0 l0 c0, .slice a1 l1 c1] 25)) wr) (fun i _ => l0 - (intOf i).toNat)
  case atStart => exact ⟨0, by omega, rfl, Kept.refl _⟩
  case round =>
    obtain ⟨k, hk, rfl, hK⟩ := hrel
    have hca := HA.out wr hK
    have HK := Lib.hid hK
    by_cases hlt : k < l0
    · by_cases h4 : k < 4
      · obtain ⟨b, off, x, rfl, hbs, hx, hc, _⟩ := hB.byteAt k hlt
        have hc' := hK.cell (Nat.lt_of_lt_of_le hbs (by simp)) (cell_old hbs hc _)
        clear hB hN hc hK
        go_wp2
        obtain ⟨wo, rfl⟩ : ∃ wo : World, wo = wr := ⟨_, rfl⟩
        go_loopw [4] (fun j wr => ∃ m : Nat, m ≤ 256 ∧ j = .int .i64 m ∧ Kept wo wr) (fun j _ => 256 - (intOf j).toNat)
        case atStart => exact ⟨0, by omega, rfl, Kept.refl _⟩
        case round =>
          obtain ⟨m, hm, rfl, hK2⟩ := hrel
          have hca2 := hK2.cell (cell_lt hca) hca
          have hc2 := hK2.cell (cell_lt hc') hc'
          have HK2 := Lib.hid hK2
          clear hca hc' hK2
          by_cases hlm : m < 256
          · go_wp2
            have hw : IntKind.u8.wrap (m : Int) = m := by rw [IntKind.wrap_u8']; omega
            have hxm := xor_u8 x m hx hlm
            go_quiet (first
              | (go_at_call 10; exact quietly (mul_any x m hx hlm _))
              | (go_at_call 11; exact quietly (refmul_any x m hx hlm _))
              | (go_at_call 12; exact quietly (add_any x m hx hlm _)))
            clear hw hxm
            go_wp2
            go_roundw
            case rel => exact ⟨m + 1, by omega, by go_num, HK2.out.drewN _⟩
            case measure => simp [intOf]; omega
          · go_wp2
            go_roundw
            case rel => exact ⟨k + 1, by omega, by go_num, HK.out.trans HK2.out⟩
            case measure => simp [intOf]; omega
      · go_wp2_with fail
        refine (wakes_any _).mono ?_
        rintro e w' ⟨rfl, rfl⟩
        go_wp2
        go_ret
        exact ⟨rfl, HE.out _ HK.out⟩
    · go_wp2_with fail
      refine (wakes_any _).mono ?_
      rintro e w' ⟨rfl, rfl⟩
      go_wp2
      go_ret
      exact ⟨rfl, HE.out _ HK.out⟩
end Go.Proofs.Ytfgfkgelgkabkaa
