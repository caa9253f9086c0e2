/- siloref0's EqSlotList, EqRecord, by what they answer (no conditions but that numbers are ints). -/
import Derived.Test.YtoanldoocmmhjaaRr1
import Derived.Test.YtoanldoocmmhjaaSlotEq
namespace Go.Proofs.Ytoanldoocmmhjaa
open Go.RowKit
set_option maxRecDepth 100000 in
set_option maxHeartbeats 800000 in
theorem eq_slots (a b : Option Addr) (l m ca cb : Nat) (xs ys : List (Int × Int)) (w : World) (h : SlotsIn w a l xs) (h2 : SlotsIn w b m ys) :
    Calls Try.prog 38 #[.slice a l ca, .slice b m cb] w fun e w' => e = .returned (.bool (decide (xs = ys))) ∧ Kept w w' := by
  obtain ⟨D, hD⟩ : ∃ D : Bool, D = decide (xs = ys) := ⟨_, rfl⟩
  rw [← hD]
  have HD := Lib.hid hD
  have HL := Lib.hid h.len_eq
  have HM := Lib.hid h2.len_eq
  have hle := h.le
  have hle2 := h2.le
  clear hD
  by_cases hlm : l = m
  · obtain rfl : l = m := hlm
    have hgo : ∀ i : Nat, i < l → ∃ b1 o1 b2 o2, a = some ⟨b1, o1, none⟩ ∧ b = some ⟨b2, o2, none⟩ ∧ ∀ w', Kept w w' → (w'.cell? ⟨b1, o1 + i * 2, none⟩ = some (.int .i64 (xs.getD i (0, 0)).1) ∧ w'.cell? ⟨b1, o1 + i * 2 + 1, none⟩ = some (.int .i64 (xs.getD i (0, 0)).2)) ∧ w'.cell? ⟨b2, o2 + i * 2, none⟩ = some (.int .i64 (ys.getD i (0, 0)).1) ∧ w'.cell? ⟨b2, o2 + i * 2 + 1, none⟩ = some (.int .i64 (ys.getD i (0, 0)).2) := fun i hi => by
      obtain ⟨b1, o1, ha, hc⟩ := h.cell (by omega)
      obtain ⟨b2, o2, hb, hc2⟩ := h2.cell (by omega)
      exact ⟨b1, o1, b2, o2, ha, hb, fun w' k => ⟨hc i hi w' k, hc2 i hi w' k⟩⟩
    have HGO := Lib.hid hgo
    have hne : ((l : Int) != l) = false := by simp
    clear h h2 hgo
    go_enter Try.func38, Try.ntmps38
    go_wp2_with fail
    go_loopw [5] (fun i wr => ∃ k : Nat, k ≤ l ∧ i = .int .i64 k ∧ xs.take k = ys.take k ∧ Kept w wr) (fun i _ => l - (intOf i).toNat)
    case atStart => exact ⟨0, by omega, rfl, rfl, Kept.refl _⟩
    case round =>
      obtain ⟨k, hk, rfl, ht, hK⟩ := hrel
      have HT := Lib.hid ht
      have HK := Lib.hid hK
      clear ht hK
      by_cases hlt : k < l
      · obtain ⟨b1, o1, b2, o2, rfl, rfl, hc⟩ := HGO.out k hlt
        obtain ⟨⟨c1, c2⟩, c3, c4⟩ := hc _ HK.out
        have hki : (k : Int) < (l : Int) := by omega
        have HX := Lib.hid (show xs.take (k + 1) = xs.take k ++ [xs.getD k (0, 0)] by rw [List.take_succ_eq_append_getElem (by have := HL.out; omega)]; congr 1; simp [List.getD, show k < xs.length by have := HL.out; omega])
        have HY := Lib.hid (show ys.take (k + 1) = ys.take k ++ [ys.getD k (0, 0)] by rw [List.take_succ_eq_append_getElem (by have := HM.out; omega)]; congr 1; simp [List.getD, show k < ys.length by have := HM.out; omega])
        have HNE := Lib.hid (show xs.getD k (0, 0) ≠ ys.getD k (0, 0) → xs ≠ ys from fun h e => h (by rw [e]))
        generalize xs.getD k (0, 0) = x at *
        generalize ys.getD k (0, 0) = y at *
        clear hc
        obtain ⟨x1, x2⟩ := x
        obtain ⟨y1, y2⟩ := y
        dsimp only at c1 c2 c3 c4
        have hb0 := neq_slot x1 x2 y1 y2
        by_cases hxy : (x1, x2) = (y1, y2)
        · rw [decide_eq_true hxy] at hb0
          have hbq : ∀ w : World, (binOp .neq 57 (.agg #[.int .i64 x1, .int .i64 x2]) (.agg #[.int .i64 y1, .int .i64 y2])).run Try.prog w = .ok (.bool false) w := hb0
          clear hb0
          have hgd := guard_slot
          have hxy' := Lib.hid hxy
          clear hxy
          go_wp2_with fail
          go_quiet (fail)
          go_wp2
          go_roundw
          case rel => exact ⟨k + 1, by omega, by go_num, by rw [HX.out, HY.out, HT.out, hxy'.out], HK.out.drewN _⟩
          case measure => simp [intOf]; omega
        · rw [decide_eq_false hxy] at hb0
          have hbq : ∀ w : World, (binOp .neq 57 (.agg #[.int .i64 x1, .int .i64 x2]) (.agg #[.int .i64 y1, .int .i64 y2])).run Try.prog w = .ok (.bool true) w := hb0
          clear hb0
          have hgd := guard_slot
          have hv : D = false := by rw [HD.out]; exact decide_eq_false (HNE.out hxy)
          have HV := Lib.hid hv
          clear hv hxy
          go_wp2_with fail
          go_quiet (fail)
          go_wp2
          go_ret
          exact ⟨by rw [HV.out]; rfl, HK.out.drewN _⟩
      · obtain rfl : l = k := by omega
        have hv : D = true := by
          have := HT.out
          rw [List.take_of_length_le (by have := HL.out; omega), List.take_of_length_le (by have := HM.out; omega)] at this
          rw [HD.out]; exact decide_eq_true this
        have HV := Lib.hid hv
        clear hv
        go_wp2
        go_ret
        exact ⟨by rw [HV.out]; rfl, HK.out⟩
  · have hv : D = false := by
      rw [HD.out]
      refine decide_eq_false fun e => hlm ?_
      rw [← HL.out, ← HM.out, e]
    have HV := Lib.hid hv
    have hne : ((l : Int) != m) = true := by rw [bne_iff_ne]; omega
    clear hv hlm h h2
    go_enter Try.func38, Try.ntmps38
    go_wp2
    go_ret
    exact ⟨by rw [HV.out]; rfl, Kept.refl _⟩
end Go.Proofs.Ytoanldoocmmhjaa
