/- Shapes, as the reference and package code tell whether they may be; how many stripes a text takes; how heavy an argument of layer 4 is (no conditions but that lengths fit). -/
import Derived.Test.YtlncjheifkbomaaAsk7
import Derived.IntWalk
import Derived.Outline
namespace Go.Proofs.Ytlncjheifkbomaa
open Go.RowKit

theorem box3c {W : World} {b : Nat} {x y z : Value} {t : TypeId} (h : BlockAt W b #[x, y, z] t) : W.cell? ⟨b, 0, none⟩ = some x ∧ W.cell? ⟨b, 1, none⟩ = some y ∧ W.cell? ⟨b, 2, none⟩ = some z :=
  ⟨h.cell 0, h.cell 1, h.cell 2⟩
theorem shpB_and (k m s : Int) : shpB k m s = ((decide (1 ≤ k) && decide (k ≤ 8)) && ((decide (0 ≤ m) && decide (m ≤ 6)) && (decide (1 ≤ s) && decide (s ≤ 120)))) := by
  unfold shpB
  rw [Bool.eq_iff_iff]
  simp
  omega
set_option maxRecDepth 100000 in
theorem shape_ref (k m s : Int) (w : World) : Calls Try.prog 13 #[.agg #[.int .i64 k, .int .i64 m, .int .i64 s]] w fun e w' => e = .returned (.bool (shpB k m s)) ∧ Kept w w' := by
  have h1 := fun w => between_any k 1 8 w
  have h2 := fun w => num_any m 6 w
  have h3 := fun w => between_any s 1 120 w
  have hs := shpB_and k m s
  have HB := Lib.hid (BlockAt.new w #[.int .i64 k, .int .i64 m, .int .i64 s] 31)
  generalize (decide (1 ≤ k) && decide (k ≤ 8)) = b1 at *
  generalize (decide (0 ≤ m) && decide (m ≤ 6)) = b2 at *
  generalize (decide (1 ≤ s) && decide (s ≤ 120)) = b3 at *
  have H1 := Lib.hid h1
  have H2 := Lib.hid h2
  have H3 := Lib.hid h3
  have HS := Lib.hid hs
  have HK := Lib.hid ((Kept.refl w).alloc (.cells #[.int .i64 k, .int .i64 m, .int .i64 s] 31))
  clear h1 h2 h3 hs
  go_enter Try.func13, Try.ntmps13
  go_wp2_with fail
  refine (H1.out _).mono ?_
  rintro e w' ⟨rfl, rfl⟩
  cases b1
  · go_wp2
    go_ret
    exact ⟨by rw [HS.out]; rfl, HK.out⟩
  · go_wp2_with fail
    refine (H2.out _).mono ?_
    rintro e w' ⟨rfl, rfl⟩
    cases b2
    · go_wp2
      go_ret
      exact ⟨by rw [HS.out]; rfl, HK.out⟩
    · go_wp2_with fail
      refine (H3.out _).mono ?_
      rintro e w' ⟨rfl, rfl⟩
      go_wp2
      go_ret
      exact ⟨by rw [HS.out]; rfl, HK.out⟩
def shpE (k m s : Int) : Int := if shpB k m s = true then 0 else 1
set_option maxRecDepth 100000 in
theorem code_check (k m s : Int) (w : World) : Calls Try.prog 40 #[.agg #[.int .i64 k, .int .i64 m, .int .i64 s]] w fun e w' => e = .returned (.int .i64 (shpE k m s)) ∧ Kept w w' := by
  have HK := Lib.hid ((Kept.refl w).alloc (.cells #[.int .i64 k, .int .i64 m, .int .i64 s] 31))
  by_cases h : shpB k m s = true
  · obtain ⟨h1, h2, h3, h4, h5, h6⟩ := shpB_true h
    have he : shpE k m s = 0 := by unfold shpE; rw [if_pos h]
    have HE := Lib.hid he
    clear he h
    go_enter Try.func40, Try.ntmps40
    go_wp2
    go_ret
    exact ⟨by rw [HE.out]; rfl, HK.out⟩
  · have he : shpE k m s = 1 := by unfold shpE; rw [if_neg h]
    have hn : ¬ (1 ≤ k ∧ k ≤ 8 ∧ 0 ≤ m ∧ m ≤ 6 ∧ 1 ≤ s ∧ s ≤ 120) := fun q => h (decide_eq_true q)
    have HE := Lib.hid he
    have HN := Lib.hid hn
    clear he h hn
    have fin : ∀ A : Prop, ¬ A ∨ A := fun A => (Classical.em A).symm
    by_cases c1 : k < 1
    · go_enter Try.func40, Try.ntmps40
      go_wp2
      go_ret
      exact ⟨by rw [HE.out]; rfl, HK.out⟩
    have d1 : decide (k < 1) = false := decide_eq_false c1
    by_cases c2 : 8 < k
    · go_enter Try.func40, Try.ntmps40
      go_wp2
      go_ret
      exact ⟨by rw [HE.out]; rfl, HK.out⟩
    have d2 : decide (8 < k) = false := decide_eq_false c2
    by_cases c3 : m < 0
    · go_enter Try.func40, Try.ntmps40
      go_wp2
      go_ret
      exact ⟨by rw [HE.out]; rfl, HK.out⟩
    have d3 : decide (m < 0) = false := decide_eq_false c3
    by_cases c4 : 6 < m
    · go_enter Try.func40, Try.ntmps40
      go_wp2
      go_ret
      exact ⟨by rw [HE.out]; rfl, HK.out⟩
    have d4 : decide (6 < m) = false := decide_eq_false c4
    by_cases c5 : s < 1
    · go_enter Try.func40, Try.ntmps40
      go_wp2
      go_ret
      exact ⟨by rw [HE.out]; rfl, HK.out⟩
    have d5 : decide (s < 1) = false := decide_eq_false c5
    have c6 : 120 < s := by
      rcases fin (120 < s) with h | h
      · exact absurd ⟨by omega, by omega, by omega, by omega, by omega, by omega⟩ HN.out
      · exact h
    go_enter Try.func40, Try.ntmps40
    go_wp2
    go_ret
    exact ⟨by rw [HE.out]; rfl, HK.out⟩
end Go.Proofs.Ytlncjheifkbomaa
