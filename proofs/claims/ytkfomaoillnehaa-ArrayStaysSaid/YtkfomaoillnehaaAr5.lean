
/- Package array: changed and Off: the power (conditions: the array lies as it should; not too many changes). -/
import Derived.Test.YtkfomaoillnehaaAr4
namespace Go.Proofs.Ytkfomaoillnehaa
open Go.RowKit
attribute [local go_sem] Oper.semAt_some

set_option maxRecDepth 100000 in
set_option maxHeartbeats 4000000 in
theorem changed_arr {B : Nat} {w : World} {p D : Nat} {K C : Nat → Nat} {S : Arr} (h : ArP w p D K C S) (hB : B ≤ p) (h0 : S.l ≠ 0) (hg : S.g ≤ 9007199254740992) : Calls Try.prog 51 #[.pointer (some ⟨p, 0, none⟩)] w fun e w' => e = .returned (.tuple #[]) ∧ ArP w' p D K C (chgA S) ∧ ArN B w p D K C S.m w' K C := by
  obtain ⟨cap, off, bound, left, ht, hp, hlb⟩ := h.top
  have HPC := Lib.hid (hp.change h0)
  obtain ⟨c0, c1, c2, c3, c4, c5⟩ := box6m ht
  have f2 := ht.free 2
  have f3 := ht.free 3
  have f5 := ht.free 5
  have HT := Lib.hid ht
  have HP := Lib.hid h
  have HB := Lib.hid hB
  have hlt : p < w.heap.size := ht.lt
  have hl1 : bound = true → 1 ≤ left := fun e => by
    rcases hp with ⟨_, q⟩ | ⟨_, q, _⟩ | ⟨_, _, q, q2⟩
    · exact absurd q h0
    · rw [e] at q; cases q
    · omega
  clear ht h hB hp
  cases bound with
  | false =>
    clear hl1
    go_enter Try.func51, Try.ntmps51
    go_wp2
    go_end0
    have b1 := HT.out.set (i := 2) (.int .i64 ((S.g : Int) + 1))
    have k1 := CellsBut.setCell (R := fun b => b = p) w (.int .i64 ((S.g : Int) + 1)) (i := 2) (b := p) rfl
    exact ⟨rfl, HP.out.setTop rfl rfl rfl k1 ⟨cap, off, false, left, b1, HPC.out, hlb⟩, ArN.of_top (Below.setCell (Below.refl _ _) HB.out _) k1 (KeepsOthers.setCell _ _ _)⟩
  | true =>
    have hl := hl1 rfl
    clear hl1
    go_enter Try.func51, Try.ntmps51
    go_wp2
    go_end0
    have b1 := ((HT.out.set (i := 2) (.int .i64 ((S.g : Int) + 1))).set (i := 5) (.int .i64 (left - 1))).set (i := 3) (.bool (decide (left - 1 ≤ 0)))
    have k1 := ((CellsBut.setCell (R := fun b => b = p) w (.int .i64 ((S.g : Int) + 1)) (i := 2) (b := p) rfl).trans' (CellsBut.setCell (R := fun b => b = p) _ (.int .i64 (left - 1)) (i := 5) (b := p) rfl)).trans' (CellsBut.setCell (R := fun b => b = p) _ (.bool (decide (left - 1 ≤ 0))) (i := 3) (b := p) rfl)
    exact ⟨rfl, HP.out.setTop rfl rfl rfl k1 ⟨cap, decide (left - 1 ≤ 0), true, left - 1, b1, HPC.out, by omega⟩, ArN.of_top (Below.setCell (Below.setCell (Below.setCell (Below.refl _ _) HB.out _) HB.out _) HB.out _) k1 (((KeepsOthers.setCell _ _ _).trans (KeepsOthers.setCell _ _ _)).trans (KeepsOthers.setCell _ _ _))⟩
set_option maxRecDepth 100000 in
set_option maxHeartbeats 4000000 in
theorem off_arr {B : Nat} {w : World} {p D : Nat} {K C : Nat → Nat} {S : Arr} (h : ArP w p D K C S) (hB : B ≤ p) (n : Int) (hn : n ≤ 9223372036854775807) : Calls Try.prog 31 #[.pointer (some ⟨p, 0, none⟩), .int .i64 n] w fun e w' => e = .returned (.tuple #[]) ∧ ArP w' p D K C (offA S n) ∧ ArN B w p D K C S.m w' K C := by
  obtain ⟨cap, off, bound, left, ht, hp, hlb⟩ := h.top
  have ho := hp.off_iff
  obtain ⟨c0, c1, c2, c3, c4, c5⟩ := box6m ht
  have f3 := ht.free 3
  have f4 := ht.free 4
  have f5 := ht.free 5
  have HT := Lib.hid ht
  have HP := Lib.hid h
  have HB := Lib.hid hB
  have hlt : p < w.heap.size := ht.lt
  clear ht h hB hp
  by_cases hl : S.l = 0
  · obtain rfl : off = true := by rw [ho]; exact decide_eq_true hl
    have hS : offA S n = S := if_pos hl
    rw [hS]
    clear ho hl hS
    go_enter Try.func31, Try.ntmps31
    go_wp2
    (try simp only [Exit.inBlock, Exit.then])
    refine bodyPost_ret (results_none rfl _ _ _) rfl ?_
    exact ⟨rfl, HP.out, ArN.of_kept (Kept.refl _) (by have := HB.out; omega)⟩
  · obtain rfl : off = false := by rw [ho]; exact decide_eq_false hl
    have hS : offA S n = { S with l := max (-1) n } := if_neg hl
    rw [hS]
    clear ho hl hS
    go_enter Try.func31, Try.ntmps31
    go_wp2
    go_end0
    have b1 := ((HT.out.set (i := 4) (.bool (decide (0 ≤ n)))).set (i := 5) (.int .i64 n)).set (i := 3) (.bool (n == 0))
    have k1 := ((CellsBut.setCell (R := fun b => b = p) w (.bool (decide (0 ≤ n))) (i := 4) (b := p) rfl).trans' (CellsBut.setCell (R := fun b => b = p) _ (.int .i64 n) (i := 5) (b := p) rfl)).trans' (CellsBut.setCell (R := fun b => b = p) _ (.bool (n == 0)) (i := 3) (b := p) rfl)
    exact ⟨rfl, HP.out.setTop rfl rfl rfl k1 ⟨cap, n == 0, decide (0 ≤ n), n, b1, by have q := Pow.turn n; rwa [show decide (n = 0) = (n == 0) by rw [Bool.eq_iff_iff]; simp] at q, hn⟩, ArN.of_top (Below.setCell (Below.setCell (Below.setCell (Below.refl _ _) HB.out _) HB.out _) HB.out _) k1 (((KeepsOthers.setCell _ _ _).trans (KeepsOthers.setCell _ _ _)).trans (KeepsOthers.setCell _ _ _))⟩
end Go.Proofs.Ytkfomaoillnehaa
