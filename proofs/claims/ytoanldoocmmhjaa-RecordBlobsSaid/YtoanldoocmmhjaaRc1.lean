/- record's named, within, numbers, places, by what they answer (no conditions but that numbers are ints). -/
import Derived.Test.YtoanldoocmmhjaaRc0
namespace Go.Proofs.Ytoanldoocmmhjaa
open Go.RowKit

theorem within_any (n a b : Int) (w : World) : Calls Try.prog 45 #[.int .i64 n, .int .i64 a, .int .i64 b] w fun e w' => e = .returned (.bool (Rc.within n a b)) ∧ w = w' := by
  by_cases h : a ≤ n
  · have hb : Rc.within n a b = decide (n ≤ b) := by unfold Rc.within; simp [h]
    rw [hb]
    clear hb
    go_enter Try.func45, Try.ntmps45
    go_wp2
    go_ret
    exact ⟨by simp, rfl⟩
  · have hb : Rc.within n a b = false := by unfold Rc.within; simp [h]
    rw [hb]
    have hd : decide (a ≤ n) = false := decide_eq_false h
    clear hb
    go_enter Try.func45, Try.ntmps45
    go_wp2
    go_ret
    exact ⟨rfl, rfl⟩
theorem Try.infoFields : (Try.prog.info? 72).map (·.size) = some 5 := by kernel_rfl
def kfields (k : Int) : Array Value := #[.bool (Rc.fI k), .bool (Rc.fN k), .bool (Rc.fD k), .bool (Rc.fL k), .bool (Rc.fS k)]
set_option maxRecDepth 100000 in
set_option maxHeartbeats 1000000 in
theorem named_any (k : Int) (w : World) : Calls Try.prog 44 #[.int .i64 k] w fun e w' => e = .returned (.tuple #[.agg (kfields k), .bool (Rc.okK k)]) ∧ Kept w w' := by
  have hcase : k = 1 ∨ k = 2 ∨ k = 3 ∨ k = 4 ∨ k = 5 ∨ k = 6 ∨ k = 7 ∨ k = 8 ∨ (k ≠ 1 ∧ k ≠ 2 ∧ k ≠ 3 ∧ k ≠ 4 ∧ k ≠ 5 ∧ k ≠ 6 ∧ k ≠ 7 ∧ k ≠ 8) := by omega
  have HB := Lib.hid (BlockAt.new w #[.bool false, .bool false, .bool false, .bool false, .bool false] 72)
  have HK := Lib.hid ((Kept.refl w).alloc (.cells #[.bool false, .bool false, .bool false, .bool false, .bool false] 72))
  rcases hcase with rfl | rfl | rfl | rfl | rfl | rfl | rfl | rfl | ⟨h1, h2, h3, h4, h5, h6, h7, h8⟩
  all_goals clear HB HK
  · go_enter Try.func44, Try.ntmps44
    go_wp2
    exact bodyPost_ret (results_row_tmp rfl _ _ w.heap.size 72 #[.bool true, .bool false, .bool false, .bool false, .bool true] _ rfl (BlockAt.new w #[.bool true, .bool false, .bool false, .bool false, .bool true] 72) Try.underlying72 rfl Try.infoFields _ rfl) rfl ⟨rfl, (Kept.refl w).alloc _⟩
  · go_enter Try.func44, Try.ntmps44
    go_wp2
    exact bodyPost_ret (results_row_tmp rfl _ _ w.heap.size 72 #[.bool true, .bool false, .bool false, .bool true, .bool true] _ rfl (BlockAt.new w #[.bool true, .bool false, .bool false, .bool true, .bool true] 72) Try.underlying72 rfl Try.infoFields _ rfl) rfl ⟨rfl, (Kept.refl w).alloc _⟩
  · go_enter Try.func44, Try.ntmps44
    go_wp2
    exact bodyPost_ret (results_row_tmp rfl _ _ w.heap.size 72 #[.bool true, .bool false, .bool false, .bool false, .bool false] _ rfl (BlockAt.new w #[.bool true, .bool false, .bool false, .bool false, .bool false] 72) Try.underlying72 rfl Try.infoFields _ rfl) rfl ⟨rfl, (Kept.refl w).alloc _⟩
  · go_enter Try.func44, Try.ntmps44
    go_wp2
    exact bodyPost_ret (results_row_tmp rfl _ _ w.heap.size 72 #[.bool true, .bool false, .bool true, .bool true, .bool false] _ rfl (BlockAt.new w #[.bool true, .bool false, .bool true, .bool true, .bool false] 72) Try.underlying72 rfl Try.infoFields _ rfl) rfl ⟨rfl, (Kept.refl w).alloc _⟩
  · go_enter Try.func44, Try.ntmps44
    go_wp2
    exact bodyPost_ret (results_row_tmp rfl _ _ w.heap.size 72 #[.bool true, .bool false, .bool true, .bool true, .bool false] _ rfl (BlockAt.new w #[.bool true, .bool false, .bool true, .bool true, .bool false] 72) Try.underlying72 rfl Try.infoFields _ rfl) rfl ⟨rfl, (Kept.refl w).alloc _⟩
  · go_enter Try.func44, Try.ntmps44
    go_wp2
    exact bodyPost_ret (results_row_tmp rfl _ _ w.heap.size 72 #[.bool false, .bool false, .bool true, .bool false, .bool false] _ rfl (BlockAt.new w #[.bool false, .bool false, .bool true, .bool false, .bool false] 72) Try.underlying72 rfl Try.infoFields _ rfl) rfl ⟨rfl, (Kept.refl w).alloc _⟩
  · go_enter Try.func44, Try.ntmps44
    go_wp2
    exact bodyPost_ret (results_row_tmp rfl _ _ w.heap.size 72 #[.bool false, .bool true, .bool true, .bool false, .bool false] _ rfl (BlockAt.new w #[.bool false, .bool true, .bool true, .bool false, .bool false] 72) Try.underlying72 rfl Try.infoFields _ rfl) rfl ⟨rfl, (Kept.refl w).alloc _⟩
  · go_enter Try.func44, Try.ntmps44
    go_wp2
    exact bodyPost_ret (results_row_tmp rfl _ _ w.heap.size 72 #[.bool false, .bool true, .bool false, .bool false, .bool false] _ rfl (BlockAt.new w #[.bool false, .bool true, .bool false, .bool false, .bool false] 72) Try.underlying72 rfl Try.infoFields _ rfl) rfl ⟨rfl, (Kept.refl w).alloc _⟩
  · have e1 : (k == 1) = false := beq_false_of_ne h1
    have e2 : (k == 2) = false := beq_false_of_ne h2
    have e3 : (k == 3) = false := beq_false_of_ne h3
    have e4 : (k == 4) = false := beq_false_of_ne h4
    have e5 : (k == 5) = false := beq_false_of_ne h5
    have e6 : (k == 6) = false := beq_false_of_ne h6
    have e7 : (k == 7) = false := beq_false_of_ne h7
    have e8 : (k == 8) = false := beq_false_of_ne h8
    have ho : Rc.okK k = false := by unfold Rc.okK; exact decide_eq_false (by omega)
    have hk : kfields k = #[.bool false, .bool false, .bool false, .bool false, .bool false] := by
      unfold kfields Rc.fI Rc.fN Rc.fD Rc.fL Rc.fS
      rw [decide_eq_false (by omega), decide_eq_false (by omega), decide_eq_false (by omega), decide_eq_false (by omega), decide_eq_false (by omega)]
    rw [ho, hk]
    clear ho hk h1 h2 h3 h4 h5 h6 h7 h8
    go_enter Try.func44, Try.ntmps44
    go_wp2
    exact bodyPost_ret (results_row_tmp rfl _ _ w.heap.size 72 #[.bool false, .bool false, .bool false, .bool false, .bool false] _ rfl (BlockAt.new w #[.bool false, .bool false, .bool false, .bool false, .bool false] 72) Try.underlying72 rfl Try.infoFields _ rfl) rfl ⟨rfl, (Kept.refl w).alloc _⟩
end Go.Proofs.Ytoanldoocmmhjaa
