/- What the law LaneSums asks of the reference: siloref1.Lanes, siloref0.EqStrings, Num, silolaw0.Within (no condition but that lengths fit an int). -/
import Derived.Test.YtlpjpeonejbpjaaLaneSum
import Derived.Test.YtlpjpeonejbpjaaAsk2
namespace Go.Proofs.Ytlpjpeonejbpjaa
open Go.RowKit

theorem num_ref (n m : Int) (w : World) : Calls Try.prog 30 #[.int .i64 n, .int .i64 m] w fun e w' => e = .returned (.bool (decide (0 ≤ n) && decide (n ≤ m))) ∧ w = w' := by
  go_enter Try.func30, Try.ntmps30
  by_cases h : 0 ≤ n
  · go_wp2
    go_ret
    exact ⟨by simp [h], rfl⟩
  · have hd : decide (0 ≤ n) = false := decide_eq_false h
    go_wp2
    go_ret
    exact ⟨rfl, rfl⟩

set_option maxRecDepth 100000 in
set_option maxHeartbeats 400000 in
theorem lanes_ref (a : Option Addr) (l cap : Nat) (ss : List ByteArray) (w : World) (h : StrsIn w a l ss) :
    Calls Try.prog 26 #[.slice a l cap] w fun e w' => e = .returned (.int .i64 (fitE ss)) ∧ Kept w w' := by
  have hle := h.le
  have HL := Lib.hid h.len_eq
  have HS := Lib.hid h
  go_enter Try.func26, Try.ntmps26
  go_wp2
  go_loopw [3, 4] (fun b i wr => ∃ k : Nat, k ≤ l ∧ i = .int .i64 k ∧ b = .int .i64 (fitTo ss k) ∧ (ss.take k).any long = false ∧ Kept w wr) (fun _ i _ => l - (intOf i).toNat)
  case atStart => exact ⟨0, by omega, rfl, by simp [fitTo], by simp, Kept.refl _⟩
  case round =>
    obtain ⟨k, hk, rfl, rfl, hlg, hK⟩ := hrel
    have HG := Lib.hid hlg
    have HK := Lib.hid hK
    by_cases hlt : k < l
    · obtain ⟨b, off, ha, hc⟩ := h.cells
      obtain rfl := ha (by omega)
      have hc0 := hK.cell (hc 0 (by omega)).1 (hc 0 (by omega)).2
      have hck := hK.cell (hc k hlt).1 (hc k hlt).2
      have hs0 := h.size 0 (by omega)
      have hsk := h.size k hlt
      rw [Nat.add_zero] at hc0
      have hsn := fitTo_snoc ss k (by have := HL.out; omega)
      have hlong := fitE_long ss k (by have := HL.out; omega)
      have hun : unlike ss (ss.getD k ByteArray.empty) = decide ((ss.getD k ByteArray.empty).size ≠ (ss.getD 0 ByteArray.empty).size) := rfl
      have htk := take_snoc ss k (by have := HL.out; omega)
      have hlo : (ss.take (k + 1)).any long = ((ss.take k).any long || long (ss.getD k ByteArray.empty)) := by rw [htk, List.any_append]; simp
      generalize ss.getD 0 ByteArray.empty = s at hc0 hs0 hun
      generalize ss.getD k ByteArray.empty = t at hck hsk hun hsn hlong hlo
      rw [hun] at hsn
      have hl0 : 0 < l := by omega
      clear h hc ha hK hlg hun htk
      by_cases hbig : 8192 < t.size
      · have HF := Lib.hid (hlong hbig)
        clear hlong hsn hlo
        go_wp2
        go_ret
        exact ⟨by show Ending.returned (.int .i64 2) = _; rw [HF.out], HK.out⟩
      · have HLO := Lib.hid hlo
        clear hlong hlo
        by_cases hsz : t.size = s.size
        · have hne : ((t.size : Int) != (s.size : Int)) = false := by simp [hsz]
          rw [hsz] at hsn
          have HSN := Lib.hid hsn
          clear hsn
          go_wp2_with fail
          go_quiet (fail)
          go_wp2
          go_roundw
          case rel => exact ⟨k + 1, by omega, by go_num, by rw [HSN.out]; simp, by rw [HLO.out, HG.out]; simp [long]; omega, HK.out.drewN nq⟩
          case measure => simp [intOf]; omega
        · have hne : ((t.size : Int) != (s.size : Int)) = true := by rw [bne_iff_ne]; omega
          have HSN := Lib.hid hsn
          have HZ := Lib.hid hsz
          clear hsn hsz
          go_wp2_with fail
          go_quiet (fail)
          go_wp2
          go_roundw
          case rel => exact ⟨k + 1, by omega, by go_num, by rw [HSN.out]; simp [HZ.out], by rw [HLO.out, HG.out]; simp [long]; omega, HK.out.drewN nq⟩
          case measure => simp [intOf]; omega
    · obtain rfl : k = l := by omega
      have HE := Lib.hid (fitE_all ss (by rw [HL.out]; exact hlg))
      clear h hlg hK
      go_wp2
      go_ret
      exact ⟨by show Ending.returned (.int .i64 (fitTo ss k)) = _; rw [HE.out, HL.out], HK.out⟩

set_option maxRecDepth 100000 in
set_option maxHeartbeats 400000 in
/-- the same texts, twice -/
theorem eq_strings (a a' : Option Addr) (l cap cap' : Nat) (ss : List ByteArray) (w : World) (h : StrsIn w a l ss) (h' : StrsIn w a' l ss) :
    Calls Try.prog 27 #[.slice a l cap, .slice a' l cap'] w fun e w' => e = .returned (.bool true) ∧ Kept w w' := by
  have hle := h.le
  go_enter Try.func27, Try.ntmps27
  go_wp2
  go_loopw [5] (fun i wr => ∃ k : Nat, k ≤ l ∧ i = .int .i64 k ∧ Kept w wr) (fun i _ => l - (intOf i).toNat)
  case atStart => exact ⟨0, by omega, rfl, Kept.refl _⟩
  case round =>
    obtain ⟨k, hk, rfl, hK⟩ := hrel
    have HK := Lib.hid hK
    by_cases hlt : k < l
    · obtain ⟨b, off, ha, hc⟩ := h.cells
      obtain ⟨b', off', ha', hc'⟩ := h'.cells
      obtain rfl := ha (by omega)
      obtain rfl := ha' (by omega)
      have hck := hK.cell (hc k hlt).1 (hc k hlt).2
      have hck' := hK.cell (hc' k hlt).1 (hc' k hlt).2
      have hsk := h.size k hlt
      generalize ss.getD k ByteArray.empty = t at hck hck' hsk
      clear h h' hc hc' ha ha' hK
      go_wp2_with fail
      go_quiet (fail)
      go_wp2
      go_roundw
      case rel => exact ⟨k + 1, by omega, by go_num, HK.out.drewN nq⟩
      case measure => simp [intOf]; omega
    · clear h h' hK
      go_wp2
      go_ret
      exact ⟨rfl, HK.out⟩
end Go.Proofs.Ytlpjpeonejbpjaa
