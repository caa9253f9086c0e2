
/- The reference of package array: Off (no conditions but that the array lies as it should). -/
import Derived.Test.YtkfomaoillnehaaAr11
namespace Go.Proofs.Ytkfomaoillnehaa
open Go.RowKit
attribute [local go_sem] Oper.semAt_some

set_option maxRecDepth 100000 in
set_option maxHeartbeats 4000000 in
theorem off_ar {B : Nat} {w : World} {p A D E : Nat} {K C : Nat → Nat} {S : Arr} (h : RfP w p A D E K C S) (hB : B ≤ p) (hBw : B ≤ w.heap.size) (n : Int) : Calls Try.prog 32 #[.pointer (some ⟨p, 0, none⟩), .int .i64 n] w fun e w' => e = .returned (.tuple #[]) ∧ RfP w' p A D E K C (offA S n) ∧ RfN B w p A D E K C S.m w' K C := by
  obtain ⟨a1, a2, a3, ht⟩ := h.top
  obtain ⟨c0, c1, c2, c3, c4, c5, c6⟩ := box7r ht
  have f5 := ht.free 5
  have HT := Lib.hid ht
  have HP := Lib.hid h
  have HB := Lib.hid (And.intro hB hBw)
  clear ht h hB hBw
  by_cases hl : S.l = 0
  · have hlb : (S.l != 0) = false := by simpa using hl
    have hS : offA S n = S := if_pos hl
    rw [hS]
    clear hl hS
    go_enter Try.func32, Try.ntmps32
    go_wp2
    go_end0
    exact ⟨rfl, HP.out, RfN.of_kept (Kept.refl _) HB.out.2⟩
  · have hlb : (S.l != 0) = true := by simpa using hl
    have hS : offA S n = { S with l := max (-1) n } := if_neg hl
    rw [hS]
    obtain ⟨M, hM⟩ : ∃ M, M = max (-1) n := ⟨_, rfl⟩
    rw [← hM]
    have HM := Lib.hid hM
    clear hl hS hM
    by_cases h1 : -1 < n
    · have hm : M = n := by rw [HM.out]; omega
      subst hm
      have e1 : decide (-1 < M) = true := decide_eq_true h1
      have e2 : decide (M < -1) = false := decide_eq_false (by omega)
      have e3 : decide (M ≤ -1) = false := decide_eq_false (by omega)
      have e4 : max (-1) M = M := by omega
      go_enter Try.func32, Try.ntmps32
      go_wp2
      go_end0
      have b1 := HT.out.set (i := 5) (.int .i64 M)
      have k1 := CellsBut.setCell (R := fun b => b = p) w (.int .i64 M) (i := 5) (b := p) rfl
      exact ⟨rfl, HP.out.setTop rfl rfl rfl k1 ⟨a1, a2, a3, b1⟩, RfN.of_one (Below.setCell (Below.refl _ _) HB.out.1 _) k1 (.inl rfl)⟩
    · have hm : M = -1 := by rw [HM.out]; omega
      subst hm
      have e1 : decide (-1 < n) = false := decide_eq_false h1
      have e4 : max (-1) n = -1 := by omega
      go_enter Try.func32, Try.ntmps32
      go_wp2
      go_end0
      have b1 := HT.out.set (i := 5) (.int .i64 (-1))
      have k1 := CellsBut.setCell (R := fun b => b = p) w (.int .i64 (-1)) (i := 5) (b := p) rfl
      exact ⟨rfl, HP.out.setTop rfl rfl rfl k1 ⟨a1, a2, a3, b1⟩, RfN.of_one (Below.setCell (Below.refl _ _) HB.out.1 _) k1 (.inl rfl)⟩
end Go.Proofs.Ytkfomaoillnehaa
