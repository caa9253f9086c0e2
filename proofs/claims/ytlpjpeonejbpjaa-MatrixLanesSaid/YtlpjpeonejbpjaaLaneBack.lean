/- The walk of the law LaneBack: it answers true and changes nothing that was there (no conditions). -/
import Derived.Test.YtlpjpeonejbpjaaLaneBytes
import Derived.Test.YtlpjpeonejbpjaaLanePure
namespace Go.Proofs.Ytlpjpeonejbpjaa
open Go.ChangeShapes Go.WideShapes Go.ChangeAt Go.RowKit Go.Joins

theorem extract_size (s : ByteArray) (n : Nat) (h : n ≤ s.size) : (s.extract 0 n).size = n := by
  rw [ByteArray.size_extract]; omega

set_option maxRecDepth 100000 in
set_option maxHeartbeats 400000 in
theorem laneBack_walk {W : World} {v : Value} {a : Option Addr} {l cap : Nat} {ss : List ByteArray} {c : Nat} {n : Int} (h : AskL W v a l cap ss c n) :
    Calls Try.prog 5 #[v] W fun e W' => e = .returned (.bool true) ∧ Below W.heap.size W W' := by
  obtain ⟨rfl, hS, hc, hn⟩ := h
  clear hn
  have hle := hS.le
  have HS := Lib.hid (hS.kept ((Kept.refl W).alloc (.cells #[.slice a l cap, .int .u8 (c : Int), .int .i64 n] 24)))
  clear hS
  have hask : ∀ wr, Kept (W.alloc (.cells #[.slice a l cap, .int .u8 (c : Int), .int .i64 n] 24)) wr → wr.cell? ⟨W.heap.size, 0, none⟩ = some (.slice a l cap) ∧ wr.cell? ⟨W.heap.size, 1, none⟩ = some (.int .u8 (c : Int)) :=
    fun wr h => ⟨h.cell (by simp) (cell_new _ _ _ 0), h.cell (by simp) (cell_new _ _ _ 1)⟩
  have hend : ∀ wr, Kept (W.alloc (.cells #[.slice a l cap, .int .u8 (c : Int), .int .i64 n] 24)) wr → Below W.heap.size W wr := fun wr h => ((Kept.refl W).alloc _).trans h
  have HE := Lib.hid hend
  have HA := Lib.hid hask
  clear hend hask
  go_enter Try.func5, Try.ntmps5
  go_wp2_with (go_at_call 15; refine (heavy2_any _ _ _ ss _ _ _ HS.out).mono ?_; rintro e w1 ⟨⟨b, rfl⟩, hB⟩)
  · go_ret
    exact ⟨rfl, HE.out _ hB⟩
  obtain rfl : b = false := by first | assumption | simp_all
  have HB := Lib.hid hB
  clear hB
  go_loopw [3] (fun i wr => ∃ k : Nat, k ≤ 5 ∧ i = .int .i64 k ∧ Kept w1 wr) (fun i _ => 5 - (intOf i).toNat)
  case atStart => exact ⟨0, by omega, rfl, Kept.refl _⟩
  case round =>
    obtain ⟨k, hk, rfl, hK⟩ := hrel
    obtain ⟨hca, hcc⟩ := HA.out wr (HB.out.trans hK)
    have hSr := HS.out.kept (HB.out.trans hK)
    have HK := Lib.hid hK
    clear hK
    by_cases hlt : k + 1 < l
    · by_cases h5 : k < 5
      · obtain ⟨bb, off, ha, hcell⟩ := hSr.cells
        obtain rfl := ha (by omega)
        obtain ⟨hbb, hc0⟩ := hcell k (by omega)
        have hs0 := hSr.size k (by omega)
        obtain ⟨m, hm⟩ : ∃ m : Nat, m = k + 1 := ⟨_, rfl⟩
        obtain ⟨_, hc1⟩ := hcell m (by omega)
        have hs1 := hSr.size m (by omega)
        have hkm : (k : Int) + 1 = (m : Int) := by omega
        have hml : m < l := by omega
        have hkl : k < l := by omega
        have HM := Lib.hid hm
        generalize ss.getD k ByteArray.empty = s at hc0 hs0
        generalize ss.getD m ByteArray.empty = t at hc1 hs1
        clear hcell hSr ha hlt hm
        have hd5 : decide ((k : Int) < 5) = true := decide_eq_true (by omega)
        go_wp2_with fail
        go_quiet (fail)
        obtain ⟨q, hq, hqs, hqt⟩ : ∃ q : Nat, (if t.size < s.size then (t.size : Int) else (s.size : Int)) = (q : Int) ∧ q ≤ s.size ∧ q ≤ t.size := by
          by_cases h : t.size < s.size
          · exact ⟨t.size, if_pos h, by omega, Nat.le_refl _⟩
          · exact ⟨s.size, if_neg h, Nat.le_refl _, by omega⟩
        rw [hq]
        clear hq
        have HK' := Lib.hid (HK.out.drewN nq)
        have hc0 : (wr.drewN nq).cell? ⟨bb, off + k, none⟩ = some (.string s) := hc0
        have hc1 : (wr.drewN nq).cell? ⟨bb, off + m, none⟩ = some (.string t) := hc1
        have hca : (wr.drewN nq).cell? ⟨W.heap.size, 0, none⟩ = some (.slice (some ⟨bb, off, none⟩) l cap) := hca
        have hcc : (wr.drewN nq).cell? ⟨W.heap.size, 1, none⟩ = some (.int .u8 (c : Int)) := hcc
        generalize wr.drewN nq = w2 at HK' hc0 hc1 hca hcc ⊢
        clear HK
        by_cases hbig : 2000 < q
        · go_wp2
          go_roundw
          case rel => exact ⟨k + 1, by omega, by have := HM.out; subst this; go_num, HK'.out⟩
          case measure => simp [intOf]; have := HM.out; omega
        · have hq2 : q ≤ 2000 := by omega
          clear hbig
          go_wp2_with fail
          go_quiet (fail)
          have hAs := extract_size s q hqs
          have hBs := extract_size t q hqt
          generalize s.extract 0 q = A at hAs ⊢
          generalize t.extract 0 q = B at hBs ⊢
          have HK3 := Lib.hid (HK'.out.drewN nq)
          have hcc : (w2.drewN nq).cell? ⟨W.heap.size, 1, none⟩ = some (.int .u8 (c : Int)) := hcc
          clear hc0 hc1 hca HK' hbb hs0 hs1 hqs hqt hml hkl hd5
          generalize w2.drewN nq = w3 at HK3 hcc ⊢
          go_wp2_with fail
          refine (add_lane A B (by omega) (by omega) _).mono ?_
          rintro e w4 ⟨rfl, h4⟩
          go_wp2_with fail
          refine (add_lane (addedS A B) B (by rw [addedS_size]; omega) (by rw [addedS_size]; omega) _).mono ?_
          rintro e w5 ⟨rfl, h5⟩
          rw [added_twice]
          have hcc := (h4.trans h5).cell (cell_lt hcc) hcc
          have HK5 := Lib.hid (HK3.out.trans (h4.trans h5))
          clear h4 h5
          go_wp2_with fail
          refine (scale_any (addedS A B) c hc (by rw [addedS_size]; omega) _).mono ?_
          rintro e w6 ⟨rfl, h6⟩
          have hcc := Kept.cell h6 (cell_lt hcc) hcc
          have HK6 := Lib.hid (HK5.out.trans h6)
          clear h6
          go_wp2_with fail
          refine (scale_any A c hc (by omega) _).mono ?_
          rintro e w7 ⟨rfl, h7⟩
          have hcc := Kept.cell h7 (cell_lt hcc) hcc
          have HK7 := Lib.hid (HK6.out.trans h7)
          clear h7
          go_wp2_with fail
          refine (muladd_any (scaledS A c) B c hc (by rw [size_scaledS]; omega) (by rw [size_scaledS]; omega) _).mono ?_
          rintro e w8 ⟨rfl, h8⟩
          rw [← scaled_added A B c (by omega)]
          have HK8 := Lib.hid (HK7.out.trans h8)
          clear h8 hcc
          generalize scaledS (addedS A B) c = Y
          go_wp2_with (go_at_call 18; refine (num2_any _ _).mono ?_; rintro e w' ⟨rfl, rfl⟩)
          go_roundw
          case rel => exact ⟨k + 1, by omega, by have := HM.out; subst this; go_num, HK8.out⟩
          case measure => simp [intOf]; have := HM.out; omega
      · clear hSr
        have hd5 : decide ((k : Int) < 5) = false := decide_eq_false (by omega)
        go_wp2_with (go_at_call 23; refine (wakes2_any _).mono ?_; rintro e w' ⟨rfl, hB⟩)
        go_ret
        exact ⟨rfl, HE.out _ (HB.out.trans (HK.out.trans hB))⟩
    · clear hSr
      go_wp2_with (go_at_call 23; refine (wakes2_any _).mono ?_; rintro e w' ⟨rfl, hB⟩)
      go_ret
      exact ⟨rfl, HE.out _ (HB.out.trans (HK.out.trans hB))⟩
end Go.Proofs.Ytlpjpeonejbpjaa
