
/- Package array: what the calls tell that read alone (no conditions but that the array lies as it should). -/
import Derived.Test.YtkfomaoillnehaaAr1
namespace Go.Proofs.Ytkfomaoillnehaa
open Go.RowKit
attribute [local go_sem] Oper.semAt_some

theorem box6m {W : World} {b : Nat} {x0 x1 x2 x3 x4 x5 : Value} {t : TypeId} (h : BlockAt W b #[x0, x1, x2, x3, x4, x5] t) : W.cell? ⟨b, 0, none⟩ = some x0 ∧ W.cell? ⟨b, 1, none⟩ = some x1 ∧ W.cell? ⟨b, 2, none⟩ = some x2 ∧ W.cell? ⟨b, 3, none⟩ = some x3 ∧ W.cell? ⟨b, 4, none⟩ = some x4 ∧ W.cell? ⟨b, 5, none⟩ = some x5 :=
  ⟨by rw [h.cell]; rfl, by rw [h.cell]; rfl, by rw [h.cell]; rfl, by rw [h.cell]; rfl, by rw [h.cell]; rfl, by rw [h.cell]; rfl⟩
set_option maxRecDepth 100000 in
set_option maxHeartbeats 2000000 in
theorem disks_any {w : World} {p D : Nat} {K C : Nat → Nat} {S : Arr} (h : ArP w p D K C S) : Calls Try.prog 42 #[.pointer (some ⟨p, 0, none⟩)] w fun e w' => e = .returned (.int .i64 S.m) ∧ Kept w w' := by
  obtain ⟨cap, off, bound, left, ht, hp⟩ := h.top
  obtain ⟨c0, c1, c2, c3, c4, c5⟩ := box6m ht
  have hm := h.m2
  clear ht
  go_enter Try.func42, Try.ntmps42
  go_wp2
  go_ret
  exact ⟨rfl, by first | exact Kept.refl _ | exact (Kept.refl _).drew | exact (Kept.refl _).drewN _⟩
set_option maxRecDepth 100000 in
set_option maxHeartbeats 2000000 in
theorem sectors_any {w : World} {p D : Nat} {K C : Nat → Nat} {S : Arr} (h : ArP w p D K C S) : Calls Try.prog 43 #[.pointer (some ⟨p, 0, none⟩)] w fun e w' => e = .returned (.int .i64 S.n) ∧ Kept w w' := by
  obtain ⟨cap, off, bound, left, ht, hp⟩ := h.top
  obtain ⟨c0, c1, c2, c3, c4, c5⟩ := box6m ht
  have hm := h.m2
  clear ht
  go_enter Try.func43, Try.ntmps43
  go_wp2
  go_ret
  exact ⟨rfl, by first | exact Kept.refl _ | exact (Kept.refl _).drew | exact (Kept.refl _).drewN _⟩
set_option maxRecDepth 100000 in
set_option maxHeartbeats 2000000 in
theorem changes_any {w : World} {p D : Nat} {K C : Nat → Nat} {S : Arr} (h : ArP w p D K C S) : Calls Try.prog 44 #[.pointer (some ⟨p, 0, none⟩)] w fun e w' => e = .returned (.int .i64 S.g) ∧ Kept w w' := by
  obtain ⟨cap, off, bound, left, ht, hp⟩ := h.top
  obtain ⟨c0, c1, c2, c3, c4, c5⟩ := box6m ht
  have hm := h.m2
  clear ht
  go_enter Try.func44, Try.ntmps44
  go_wp2
  go_ret
  exact ⟨rfl, by first | exact Kept.refl _ | exact (Kept.refl _).drew | exact (Kept.refl _).drewN _⟩
set_option maxRecDepth 100000 in
set_option maxHeartbeats 2000000 in
theorem there_any {w : World} {p D : Nat} {K C : Nat → Nat} {S : Arr} (h : ArP w p D K C S) (d : Int) : Calls Try.prog 52 #[.pointer (some ⟨p, 0, none⟩), .int .i64 d] w fun e w' => e = .returned (.bool (isThere S d)) ∧ Kept w w' := by
  obtain ⟨cap, off, bound, left, ht, hp⟩ := h.top
  obtain ⟨c0, c1, c2, c3, c4, c5⟩ := box6m ht
  have hm := h.m2
  clear ht
  obtain ⟨B, hB⟩ : ∃ B, B = isThere S d := ⟨_, rfl⟩
  rw [← hB]
  have HB := Lib.hid hB
  clear hB h hp
  by_cases h1 : 0 ≤ d
  · have e1 : decide (0 ≤ d) = true := decide_eq_true h1
    by_cases h2 : d < (S.m : Int)
    · have e2 : decide (d < (S.m : Int)) = true := decide_eq_true h2
      obtain rfl : B = true := by rw [HB.out]; exact decide_eq_true ⟨h1, h2⟩
      go_enter Try.func52, Try.ntmps52
      go_wp2
      go_ret
      exact ⟨rfl, by first | exact Kept.refl _ | exact (Kept.refl _).drew | exact (Kept.refl _).drewN _⟩
    · have e2 : decide (d < (S.m : Int)) = false := decide_eq_false h2
      obtain rfl : B = false := by rw [HB.out]; exact decide_eq_false (fun q => h2 q.2)
      go_enter Try.func52, Try.ntmps52
      go_wp2
      go_ret
      exact ⟨rfl, by first | exact Kept.refl _ | exact (Kept.refl _).drew | exact (Kept.refl _).drewN _⟩
  · have e1 : decide (0 ≤ d) = false := decide_eq_false h1
    obtain rfl : B = false := by rw [HB.out]; exact decide_eq_false (fun q => h1 q.1)
    go_enter Try.func52, Try.ntmps52
    go_wp2
    go_ret
    exact ⟨rfl, by first | exact Kept.refl _ | exact (Kept.refl _).drew | exact (Kept.refl _).drewN _⟩
end Go.Proofs.Ytkfomaoillnehaa
