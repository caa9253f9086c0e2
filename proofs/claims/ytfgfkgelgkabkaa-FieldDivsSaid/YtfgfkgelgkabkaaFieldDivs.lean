/- The walk of the law FieldDivs: it answers true and changes nothing that was there (no conditions). -/
import Derived.Test.YtfgfkgelgkabkaaFieldLog
import Derived.Test.YtfgfkgelgkabkaaAsk1
namespace Go.Proofs.Ytfgfkgelgkabkaa
open Go.ChangeShapes Go.WideShapes Go.ChangeAt Go.RowKit Go.Joins

set_option maxRecDepth 100000 in
set_option maxHeartbeats 2000000 in
theorem fieldDivs_walk {W : World} {v : Value} {a0 a1 : Option Addr} {l0 c0 l1 c1 : Nat} {B N : List Int} (h : AskIn W v a0 l0 c0 B a1 l1 c1 N) :
    Calls Try.prog 4 #[v] W fun e W' => e = .returned (.bool true) ∧ Below W.heap.size W W' := by
  obtain ⟨rfl, hB, hN⟩ := h
  have hle := hB.le
  have hend : ∀ wr, Kept (W.alloc (.cells #[.slice a0 l0 c0, .slice a1 l1 c1] 25)) wr → Below W.heap.size W wr := fun wr h => ((Kept.refl W).alloc _).trans h
  have hask : ∀ wr, Kept (W.alloc (.cells #[.slice a0 l0 c0, .slice a1 l1 c1] 25)) wr → wr.cell? ⟨W.heap.size, 0, none⟩ = some (.slice a0 l0 c0) := fun wr h => h.cell (by simp) (cell_new _ _ _ 0)
  have HE := Lib.hid hend
  have HA := Lib.hid hask
  clear hend hask hN
  go_enter Try.func4, Try.ntmps4
  go_wp2
  go_loopw [3] (fun i wr => ∃ k : Nat, k ≤ 4 ∧ i = .int .i64 k ∧ Kept (W.alloc (.cells #[.slice a0 l0 c0, .slice a1 l1 c1] 25)) wr) (fun i _ => 4 - (intOf i).toNat)
  case atStart => exact ⟨0, by omega, rfl, Kept.refl _⟩
  case round =>
    obtain ⟨k, hk, rfl, hK⟩ := hrel
    have hca := HA.out wr hK
    have HK := Lib.hid hK
    by_cases hlt : k < l0
    · by_cases h4 : k < 4
      · obtain ⟨b, off, x, rfl, hbs, hx, hc, _⟩ := hB.byteAt k hlt
        have hc' := hK.cell (Nat.lt_of_lt_of_le hbs (by simp)) (cell_old hbs hc _)
        have hd4 : decide ((k : Int) < 4) = true := decide_eq_true (by omega)
        clear hB hc hK
        go_wp2
        clear hd4
        obtain ⟨wo, rfl⟩ : ∃ wo : World, wo = wr := ⟨_, rfl⟩
        go_loopw [4] (fun j wr => ∃ m : Nat, m ≤ 256 ∧ j = .int .i64 m ∧ Kept wo wr) (fun j _ => 256 - (intOf j).toNat)
        case atStart => exact ⟨0, by omega, rfl, Kept.refl _⟩
        case round =>
          obtain ⟨m, hm, rfl, hK2⟩ := hrel
          have hca2 := hK2.cell (cell_lt hca) hca
          have hc2 := hK2.cell (cell_lt hc') hc'
          have HK2 := Lib.hid hK2
          clear hca hc' hK2
          by_cases hlm : m < 256
          · rcases Nat.eq_zero_or_pos m with h0 | h0
            · subst h0
              go_wp2_with fail
              refine (div_zero x _).mono ?_
              rintro e w' ⟨rfl, rfl⟩
              go_wp2_with fail
              refine (inv_zero _).mono ?_
              rintro e w' ⟨rfl, rfl⟩
              go_wp2_with fail
              refine (log_zero _).mono ?_
              rintro e w1 ⟨rfl, hb⟩
              have HB := Lib.hid hb
              clear hb
              go_wp2_with (go_at_call 17; refine (num_any _ _).mono ?_; rintro e w' ⟨rfl, rfl⟩)
              go_roundw
              case rel => exact ⟨1, by omega, by go_num, HK2.out.trans HB.out⟩
              case measure => simp [intOf]
            · have ty : ((m : Int) == 0) = false := by rw [beq_eq_false_iff_ne]; omega
              have hi := Gf.inv_lt hlm
              go_wp2_with fail
              refine (div_any x m hx h0 hlm _).mono ?_
              rintro e w' ⟨rfl, rfl⟩
              go_wp2_with fail
              refine (inv_any m h0 hlm _).mono ?_
              rintro e w' ⟨rfl, rfl⟩
              go_wp2_with fail
              refine (log_any m h0 hlm _).mono ?_
              rintro e w1 ⟨rfl, hb⟩
              have hb' : Kept wr w1 := hb
              have g1 := hb'.cell (cell_lt hca2) hca2
              have g2 := hb'.cell (cell_lt hc2) hc2
              have HB := Lib.hid hb'
              clear hb hb' hca2 hc2
              go_wp2
              go_quiet (first
                | (go_at_call 17; exact quietly (num_any _ _))
                | (go_at_call 18; exact quietly (refinv_any m hlm _))
                | (go_at_call 11; exact quietly (refmul_any x _ hx hi _))
                | (go_at_call 19; exact quietly (reflog_any m h0 hlm _)))
              go_wp2
              go_roundw
              case rel => exact ⟨m + 1, by omega, by go_num, (HK2.out.trans HB.out).drewN _⟩
              case measure => simp [intOf]; omega
          · go_wp2
            go_roundw
            case rel => exact ⟨k + 1, by omega, by go_num, HK.out.trans HK2.out⟩
            case measure => simp [intOf]; omega
      · go_wp2_with (go_at_call 13; refine (wakes_any _).mono ?_; rintro e w' ⟨rfl, rfl⟩)
        go_ret
        exact ⟨rfl, HE.out _ HK.out⟩
    · go_wp2_with (go_at_call 13; refine (wakes_any _).mono ?_; rintro e w' ⟨rfl, rfl⟩)
      go_ret
      exact ⟨rfl, HE.out _ HK.out⟩
end Go.Proofs.Ytfgfkgelgkabkaa
