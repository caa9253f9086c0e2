/- siloref0's CopyNumbers, CopySlotList, CopyRecord, by what they answer (no conditions but on lengths). -/
import Derived.Test.YtoanldoocmmhjaaRc8
namespace Go.Proofs.Ytoanldoocmmhjaa
open Go.RowKit
theorem ints_own {w : World} {base l : Nat} {e : TypeId} {v : Value} {xs : List Int} (ho : w.ownsRow base e 1 v l (xs.map (Value.int .i64))) (hl : xs.length = l) (wf : ∀ x ∈ xs, (Lit.int .i64 x).wf = true) :
    ∃ a cap, v = .slice a l cap ∧ l ≤ cap ∧ IntsIn w .i64 a l xs := by
  rcases ho.2 with ⟨rfl, rfl⟩ | ⟨g, cap, cur, rfl, hb, hg, hn, hm, _⟩
  · obtain rfl : xs = [] := List.length_eq_zero_iff.1 hl
    exact ⟨none, 0, rfl, Nat.le_refl _, IntsIn.nil _ _ _⟩
  · refine ⟨_, cap, rfl, hn, hl, by unfold maxLen at hm; omega, wf, g, 0, fun _ => rfl, fun i hi => ⟨(ho.lt g rfl).2, ?_⟩⟩
    rw [Nat.zero_add, ho.cellAt i (by omega)]
    have hi' : i < xs.length := by omega
    simp [List.getD, hi']
theorem slots_own {w : World} {base l : Nat} {e : TypeId} {v : Value} {xs : List (Int × Int)} (ho : w.ownsRow base e 2 v l (sv xs)) (hl : xs.length = l) (wf : ∀ x ∈ xs, (-9223372036854775808 ≤ x.1 ∧ x.1 ≤ 9223372036854775807) ∧ (-9223372036854775808 ≤ x.2 ∧ x.2 ≤ 9223372036854775807)) :
    ∃ a cap, v = .slice a l cap ∧ l ≤ cap ∧ SlotsIn w a l xs := by
  rcases ho.2 with ⟨rfl, rfl⟩ | ⟨g, cap, cur, rfl, hb, hg, hn, hm, _⟩
  · obtain rfl : xs = [] := List.length_eq_zero_iff.1 hl
    exact ⟨none, 0, rfl, Nat.le_refl _, SlotsIn.nil _ _⟩
  · refine ⟨_, cap, rfl, hn, hl, by unfold maxLen at hm; omega, wf, g, 0, fun _ => rfl, fun i hi => ⟨(ho.lt g rfl).2, ?_, ?_⟩⟩
    · rw [Nat.zero_add, ho.cellAt (i * 2) (by omega)]
      exact (sv_get xs i (by omega)).1
    · rw [Nat.zero_add, ho.cellAt (i * 2 + 1) (by omega)]
      exact (sv_get xs i (by omega)).2
set_option maxRecDepth 100000 in
set_option maxHeartbeats 800000 in
theorem copy_numbers (a : Option Addr) (l cap : Nat) (zs : List Int) (w : World) (h : IntsIn w .i64 a l zs) (hl : l ≤ 1000000) :
    Calls Try.prog 27 #[.slice a l cap] w fun e w' => ∃ a' cap', e = .returned (.slice a' l cap') ∧ w'.ownsRow w.heap.size 3 1 (.slice a' l cap') l (zs.map (Value.int .i64)) ∧ Kept w w' := by
  obtain ⟨i0, hi, hz0, hz1, hz2⟩ := info_parts Try.infoI
  have HL := Lib.hid h.len_eq
  have HWF := Lib.hid h.wf
  have HI := Lib.hid (And.intro hi (And.intro hz0 (And.intro hz1 hz2)))
  clear hi hz0 hz1 hz2
  go_enter Try.func27, Try.ntmps27
  go_wp2
  go_loopw [3, 4] (fun v i wr => ∃ k : Nat, k ≤ l ∧ i = .int .i64 k ∧ wr.ownsRow w.heap.size 3 1 v k ((zs.take k).map (Value.int .i64)) ∧ Kept w wr) (fun _ i _ => l - (intOf i).toNat)
  case atStart => exact ⟨0, by omega, rfl, World.ownsRow_nil _ _ _ _, Kept.refl _⟩
  case round =>
    obtain ⟨k, hk, rfl, hown, hK⟩ := hrel
    have HK := Lib.hid hK
    have HO := Lib.hid hown
    by_cases hlt : k < l
    · obtain ⟨b, off, ha, hc⟩ := h.cells
      obtain rfl := ha (by omega)
      have hck := hK.cell (hc k hlt).1 (hc k hlt).2
      have HT := Lib.hid (show zs.take (k + 1) = zs.take k ++ [zs.getD k 0] by rw [List.take_succ_eq_append_getElem (by have := HL.out; omega)]; congr 1; simp [List.getD, show k < zs.length by have := HL.out; omega])
      generalize zs.getD k 0 = t at *
      clear h hc ha hK hown
      go_wp2_with (at_builtin; refine wpList_append_own _ rfl _ _ 24 rfl w.heap.size 3 i0 (.int .i64 0) 1 8 Try.underlying24 HI.out.1 HI.out.2.1 HI.out.2.2.1 HI.out.2.2.2 rfl (by decide) _ _ _ rfl (HO.out.alloc _) ⟨wr.heap.size, 0, none⟩ 1 1 [.int .i64 t] rfl rfl ?c1 ?c2 ?c3 ?c4 ?c5 ?_)
      case c1 =>
        intro j u hj
        match j, hj with
        | 0, hj => simp at hj; subst hj; simp [Addr.add]
      case c2 => intro u hu; simp at hu; subst hu; rfl
      case c3 => unfold maxLen; omega
      case c4 => omega
      case c5 => have := HK.out.size; simp; omega
      intro v' w1 hown' hgrow _
      have HO' := Lib.hid hown'
      have HK' := Lib.hid (kept_grown (HK.out.alloc _) (HO.out.alloc _) hgrow)
      clear hown' hgrow
      go_wp2
      go_roundw
      case rel => exact ⟨k + 1, by omega, by go_num, by rw [HT.out, List.map_append, List.map_take]; exact HO'.out, HK'.out⟩
      case measure => simp [intOf]; omega
    · obtain rfl : k = l := by omega
      rw [List.take_of_length_le (Nat.le_of_eq HL.out)] at hown
      obtain ⟨a', cap', rfl, hcl⟩ := own_len hown
      have HF := Lib.hid hown
      clear h hK hown HO
      go_wp2
      go_ret
      exact ⟨a', cap', rfl, HF.out, HK.out⟩
set_option maxRecDepth 100000 in
set_option maxHeartbeats 800000 in
theorem copy_slots (a : Option Addr) (l cap : Nat) (zs : List (Int × Int)) (w : World) (h : SlotsIn w a l zs) (hl : l ≤ 1000000) :
    Calls Try.prog 28 #[.slice a l cap] w fun e w' => ∃ a' cap', e = .returned (.slice a' l cap') ∧ w'.ownsRow w.heap.size 57 2 (.slice a' l cap') l (sv zs) ∧ Kept w w' := by
  obtain ⟨i0, hi, hz0, hz1, hz2⟩ := info_parts Try.infoSlot
  have HL := Lib.hid h.len_eq
  have HWF := Lib.hid h.wf
  have HI := Lib.hid (And.intro hi (And.intro hz0 (And.intro hz1 hz2)))
  clear hi hz0 hz1 hz2
  go_enter Try.func28, Try.ntmps28
  go_wp2
  go_loopw [3, 4] (fun v i wr => ∃ k : Nat, k ≤ l ∧ i = .int .i64 k ∧ wr.ownsRow w.heap.size 57 2 v k (sv (zs.take k)) ∧ Kept w wr) (fun _ i _ => l - (intOf i).toNat)
  case atStart => exact ⟨0, by omega, rfl, World.ownsRow_nil _ _ _ _, Kept.refl _⟩
  case round =>
    obtain ⟨k, hk, rfl, hown, hK⟩ := hrel
    have HK := Lib.hid hK
    have HO := Lib.hid hown
    by_cases hlt : k < l
    · obtain ⟨b, off, ha, hc⟩ := h.cells
      obtain rfl := ha (by omega)
      have hck := hK.cell (hc k hlt).1 (hc k hlt).2.1
      have hck2 := hK.cell (hc k hlt).1 (hc k hlt).2.2
      have HT := Lib.hid (show zs.take (k + 1) = zs.take k ++ [zs.getD k (0, 0)] by rw [List.take_succ_eq_append_getElem (by have := HL.out; omega)]; congr 1; simp [List.getD, show k < zs.length by have := HL.out; omega])
      generalize zs.getD k (0, 0) = t at *
      obtain ⟨d, p⟩ := t
      dsimp only at hck hck2
      clear h hc ha hK hown
      go_wp2_with (at_builtin; refine wpList_append_own _ rfl _ _ 29 rfl w.heap.size 57 i0 (.agg #[.int .i64 0, .int .i64 0]) 2 16 Try.underlying29 HI.out.1 HI.out.2.1 HI.out.2.2.1 HI.out.2.2.2 rfl (by decide) _ _ _ rfl (HO.out.alloc _) ⟨wr.heap.size, 0, none⟩ 1 1 [.int .i64 d, .int .i64 p] rfl rfl ?c1 ?c2 ?c3 ?c4 ?c5 ?_)
      case c1 =>
        intro j u hj
        match j, hj with
        | 0, hj => simp at hj; subst hj; simp [Addr.add]
        | 1, hj => simp at hj; subst hj; simp [Addr.add]
      case c2 =>
        intro u hu
        simp at hu
        rcases hu with rfl | rfl
        · rfl
        · rfl
      case c3 => unfold maxLen; omega
      case c4 => omega
      case c5 => have := HK.out.size; simp; omega
      intro v' w1 hown' hgrow _
      have HO' := Lib.hid hown'
      have HK' := Lib.hid (kept_grown (HK.out.alloc _) (HO.out.alloc _) hgrow)
      clear hown' hgrow
      go_wp2
      go_roundw
      case rel => exact ⟨k + 1, by omega, by go_num, by rw [HT.out, sv_append]; exact HO'.out, HK'.out⟩
      case measure => simp [intOf]; omega
    · obtain rfl : k = l := by omega
      rw [List.take_of_length_le (Nat.le_of_eq HL.out)] at hown
      obtain ⟨a', cap', rfl, hcl⟩ := own_len hown
      have HF := Lib.hid hown
      clear h hK hown HO
      go_wp2
      go_ret
      exact ⟨a', cap', rfl, HF.out, HK.out⟩
end Go.Proofs.Ytoanldoocmmhjaa
