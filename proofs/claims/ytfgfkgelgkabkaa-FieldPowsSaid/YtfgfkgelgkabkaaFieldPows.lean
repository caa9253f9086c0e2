/- The walk of the law FieldPows: it answers true and changes nothing that was there (no conditions). -/
import Derived.Test.YtfgfkgelgkabkaaFieldB
import Derived.Test.YtfgfkgelgkabkaaAsk1
import Derived.Test.YtfgfkgelgkabkaaKit
namespace Go.Proofs.Ytfgfkgelgkabkaa
open Go.ChangeShapes Go.WideShapes Go.ChangeAt Go.RowKit Go.Joins

/-- What a power is by sign: the byte and the error. -/
def powOf (a : Nat) (z : Int) : Nat := if z < 0 then 0 else Gf.pow a z.toNat
def badOf (z : Int) : Int := if z < 0 then 1 else 0
theorem powOf_neg {a : Nat} {z : Int} (h : z < 0) : powOf a z = 0 := if_pos h
theorem powOf_pos {a : Nat} {z : Int} (h : 0 ≤ z) : powOf a z = Gf.pow a z.toNat := if_neg (by omega)

theorem i64_bounds {z : Int} (h : (Lit.int .i64 z).wf = true) : -9223372036854775808 ≤ z ∧ z ≤ 9223372036854775807 := bounds_i64 h

theorem six_cells (wr : World) (z : Int) (k : Nat) (hz : -9223372036854775808 ≤ z ∧ z ≤ 9223372036854775807) (hk : k ≤ 9) (j : Nat) (hj : j < 6) :
    ∃ e : Int, -9223372036854775808 ≤ e ∧ e ≤ 9223372036854775807 ∧ (wr.alloc (.cells #[.int .i64 z, .int .i64 k, .int .i64 255, .int .i64 254, .int .i64 0, .int .i64 (-1)] 3)).cell? ⟨wr.heap.size, j, none⟩ = some (.int .i64 e) := by
  match j, hj with
  | 0, _ => exact ⟨z, hz.1, hz.2, cell_new _ _ _ 0⟩
  | 1, _ => exact ⟨k, by omega, by omega, cell_new _ _ _ 1⟩
  | 2, _ => exact ⟨255, by omega, by omega, cell_new _ _ _ 2⟩
  | 3, _ => exact ⟨254, by omega, by omega, cell_new _ _ _ 3⟩
  | 4, _ => exact ⟨0, by omega, by omega, cell_new _ _ _ 4⟩
  | 5, _ => exact ⟨-1, by omega, by omega, cell_new _ _ _ 5⟩

set_option maxRecDepth 100000 in
set_option maxHeartbeats 1000000 in
theorem fieldPows_walk {W : World} {v : Value} {a0 a1 : Option Addr} {l0 c0 l1 c1 : Nat} {B N : List Int} (h : AskIn W v a0 l0 c0 B a1 l1 c1 N) :
    Calls Try.prog 5 #[v] W fun e W' => e = .returned (.bool true) ∧ Below W.heap.size W W' := by
  obtain ⟨rfl, hB, hN⟩ := h
  have hle := hB.le
  have hle1 := hN.le
  have hend : ∀ wr, Kept (W.alloc (.cells #[.slice a0 l0 c0, .slice a1 l1 c1] 25)) wr → Below W.heap.size W wr := fun wr h => ((Kept.refl W).alloc _).trans h
  have hask : ∀ wr, Kept (W.alloc (.cells #[.slice a0 l0 c0, .slice a1 l1 c1] 25)) wr → wr.cell? ⟨W.heap.size, 0, none⟩ = some (.slice a0 l0 c0) ∧ wr.cell? ⟨W.heap.size, 1, none⟩ = some (.slice a1 l1 c1) :=
    fun wr h => ⟨h.cell (by simp) (cell_new _ _ _ 0), h.cell (by simp) (cell_new _ _ _ 1)⟩
  have HE := Lib.hid hend
  have HA := Lib.hid hask
  clear hend hask
  go_enter Try.func5, Try.ntmps5
  go_wp2
  go_loopw [3] (fun i wr => ∃ k : Nat, k ≤ 8 ∧ i = .int .i64 k ∧ Kept (W.alloc (.cells #[.slice a0 l0 c0, .slice a1 l1 c1] 25)) wr) (fun i _ => 8 - (intOf i).toNat)
  case atStart => exact ⟨0, by omega, rfl, Kept.refl _⟩
  case round =>
    obtain ⟨k, hk, rfl, hK⟩ := hrel
    obtain ⟨hca, hcn⟩ := HA.out wr hK
    by_cases hlt : k < l1
    · by_cases h4 : k < 8
      · obtain ⟨b, off, hab, hc⟩ := hN.cells
        obtain rfl := hab (by omega)
        obtain ⟨hbs, hc0⟩ := hc k hlt
        have hz := i64_bounds (hN.wf (N.getD k 0) (by have := hN.len_eq; simp [List.getD, this, hlt]))
        generalize N.getD k 0 = z at hc0 hz
        have hc' := hK.cell (Nat.lt_of_lt_of_le hbs (by simp)) (cell_old hbs hc0 _)
        have HK := Lib.hid hK
        clear hN hc hc0 hK hab
        have hd8 : decide ((k : Int) < 8) = true := decide_eq_true (by omega)
        go_wp2
        clear hd8
        have hel : ∀ j : Nat, j < 6 → ∃ e : Int, -9223372036854775808 ≤ e ∧ e ≤ 9223372036854775807 ∧ (wr.alloc (.cells #[.int .i64 z, .int .i64 k, .int .i64 255, .int .i64 254, .int .i64 0, .int .i64 (-1)] 3)).cell? ⟨wr.heap.size, j, none⟩ = some (.int .i64 e) :=
          fun j hj => six_cells wr z k hz (by omega) j hj
        have hsz : wr.heap.size < (wr.alloc (.cells #[.int .i64 z, .int .i64 k, .int .i64 255, .int .i64 254, .int .i64 0, .int .i64 (-1)] 3)).heap.size := by simp
        have hwb := cell_lt hca
        have hbb := cell_lt hc'
        have hKo := HK.out.alloc (.cells #[.int .i64 z, .int .i64 k, .int .i64 255, .int .i64 254, .int .i64 0, .int .i64 (-1)] 3)
        generalize wr.heap.size = sb at hel hsz
        generalize (wr.alloc (.cells #[.int .i64 z, .int .i64 k, .int .i64 255, .int .i64 254, .int .i64 0, .int .i64 (-1)] 3)) = wo at hel hsz hKo
        have hca := (HA.out _ hKo).1
        have HO := Lib.hid hKo
        have HL := Lib.hid hel
        clear hel hcn hwb hbb hKo hc'
        go_loopw [5] (fun j wr => ∃ m : Nat, m ≤ 6 ∧ j = .int .i64 m ∧ Kept wo wr) (fun j _ => 6 - (intOf j).toNat)
        case atStart => exact ⟨0, by omega, rfl, Kept.refl _⟩
        case round =>
          obtain ⟨m, hm, rfl, hK2⟩ := hrel
          by_cases hlm : m < 6
          · obtain ⟨e, he1, he2, hce⟩ := HL.out m hlm
            have hce2 := hK2.cell hsz hce
            have hca2 := hK2.cell (cell_lt hca) hca
            have HK2 := Lib.hid hK2
            clear hce hca hK2
            by_cases hneg : e < 0
            · go_wp2_with (first
                | (go_at_call 20; refine (exp_neg _ (by assumption) _).mono ?_; rintro e w' ⟨rfl, rfl⟩)
                | (go_at_call 17; refine (num_any _ _).mono ?_; rintro e w' ⟨rfl, rfl⟩))
              obtain ⟨wi, rfl⟩ : ∃ wi : World, wi = wr := ⟨_, rfl⟩
              go_loopw [10] (fun j wr => ∃ q : Nat, q ≤ 6 ∧ j = .int .i64 q ∧ Kept wi wr) (fun j _ => 6 - (intOf j).toNat)
              case atStart => exact ⟨0, by omega, rfl, Kept.refl _⟩
              case round =>
                obtain ⟨q, hq, rfl, hK3⟩ := hrel
                have hca3 := hK3.cell (cell_lt hca2) hca2
                by_cases hlq : q < l0
                · by_cases h6 : q < 6
                  · obtain ⟨b', off', x, rfl, hbs', hx, hcx, _⟩ := hB.byteAt q hlq
                    have hce3 := hK3.cell (cell_lt hce2) hce2
                    have hcx3 := ((HO.out.trans HK2.out).trans hK3).cell (Nat.lt_of_lt_of_le hbs' (by simp)) (cell_old hbs' hcx _)
                    have HK3 := Lib.hid hK3
                    clear hB hcx hce2 hca2 hK3
                    have hd6 : decide ((q : Int) < 6) = true := decide_eq_true (by omega)
                    go_wp2
                    clear hd6
                    go_quiet (first | (go_at_call 22; exact quietly (pow_neg x e hneg _)))
                    go_wp2_with (first
                      | (go_at_call 17; refine (num_any _ _).mono ?_; rintro e w' ⟨rfl, rfl⟩))
                    go_roundw
                    case rel => exact ⟨q + 1, by omega, by go_num, HK3.out.drewN _⟩
                    case measure => simp [intOf]; omega
                  · go_wp2
                    go_roundw
                    case rel => exact ⟨m + 1, by omega, by go_num, HK2.out.trans hK3⟩
                    case measure => simp [intOf]; omega
                · go_wp2
                  go_roundw
                  case rel => exact ⟨m + 1, by omega, by go_num, HK2.out.trans hK3⟩
                  case measure => simp [intOf]; omega
            · obtain ⟨n, rfl⟩ := Int.eq_ofNat_of_zero_le (Int.not_lt.1 hneg)
              have hn2 : n ≤ 9223372036854775807 := by omega
              have h2 := Gf.pow_two n
              clear he1 he2
              go_wp2_with fail
              refine (exp_any n hn2 _).mono ?_
              rintro e w' ⟨rfl, rfl⟩
              go_wp2_with fail
              refine (refpow_any 2 n (by omega) hn2 _).mono ?_
              rintro e w' ⟨rfl, rfl⟩
              go_wp2_with (first
                | (go_at_call 17; refine (num_any _ _).mono ?_; rintro e w' ⟨rfl, rfl⟩))
              clear h2
              obtain ⟨wi, rfl⟩ : ∃ wi : World, wi = wr := ⟨_, rfl⟩
              go_loopw [10] (fun j wr => ∃ q : Nat, q ≤ 6 ∧ j = .int .i64 q ∧ Kept wi wr) (fun j _ => 6 - (intOf j).toNat)
              case atStart => exact ⟨0, by omega, rfl, Kept.refl _⟩
              case round =>
                obtain ⟨q, hq, rfl, hK3⟩ := hrel
                have hca3 := hK3.cell (cell_lt hca2) hca2
                by_cases hlq : q < l0
                · by_cases h6 : q < 6
                  · obtain ⟨b', off', x, rfl, hbs', hx, hcx, _⟩ := hB.byteAt q hlq
                    have hce3 := hK3.cell (cell_lt hce2) hce2
                    have hcx3 := ((HO.out.trans HK2.out).trans hK3).cell (Nat.lt_of_lt_of_le hbs' (by simp)) (cell_old hbs' hcx _)
                    have HK3 := Lib.hid hK3
                    clear hB hcx hce2 hca2 hK3
                    have hd6 : decide ((q : Int) < 6) = true := decide_eq_true (by omega)
                    go_wp2
                    clear hd6
                    go_quiet (first | (go_at_call 22; exact quietly (pow_any x n hx hn2 _)))
                    go_wp2_with (first
                      | (go_at_call 17; refine (num_any _ _).mono ?_; rintro e w' ⟨rfl, rfl⟩))
                    have kq := (Kept.refl wr).drewN nq
                    have g1 := kq.cell (cell_lt hca3) hca3
                    have g2 := kq.cell (cell_lt hce3) hce3
                    have g3 := kq.cell (cell_lt hcx3) hcx3
                    clear hca3 hce3 hcx3
                    generalize wr.drewN nq = wq at kq g1 g2 g3 ⊢
                    have KQ := Lib.hid kq
                    clear kq
                    go_quiet (first | (go_at_call 21; exact quietly (refpow_any x n hx hn2 _)))
                    go_wp2_with (first
                      | (go_at_call 17; refine (num_any _ _).mono ?_; rintro e w' ⟨rfl, rfl⟩))
                    go_roundw
                    case rel => exact ⟨q + 1, by omega, by go_num, (HK3.out.trans KQ.out).drewN _⟩
                    case measure => simp [intOf]; omega
                  · go_wp2
                    go_roundw
                    case rel => exact ⟨m + 1, by omega, by go_num, HK2.out.trans hK3⟩
                    case measure => simp [intOf]; omega
                · go_wp2
                  go_roundw
                  case rel => exact ⟨m + 1, by omega, by go_num, HK2.out.trans hK3⟩
                  case measure => simp [intOf]; omega
          · go_wp2
            go_roundw
            case rel => exact ⟨k + 1, by omega, by go_num, HO.out.trans hK2⟩
            case measure => simp [intOf]; omega
      · go_wp2_with (go_at_call 13; refine (wakes_any _).mono ?_; rintro e w' ⟨rfl, rfl⟩)
        go_ret
        exact ⟨rfl, HE.out _ hK⟩
    · go_wp2_with (go_at_call 13; refine (wakes_any _).mono ?_; rintro e w' ⟨rfl, rfl⟩)
      go_ret
      exact ⟨rfl, HE.out _ hK⟩
end Go.Proofs.Ytfgfkgelgkabkaa
