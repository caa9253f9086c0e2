/- The walk of the law CheckOf: it answers true and changes nothing that was there (no condition but that the table lies as it is laid). -/
import Derived.Test.YtboheogbllgfjaaDoorChkOf
import Derived.Test.YtboheogbllgfjaaDoorAsk6
import Derived.Test.YtboheogbllgfjaaDoorChkMulB
namespace Go.Proofs.YtboheogbllgfjaaDoor
open Go.RowKit

theorem ext_take (s : ByteArray) (k : Nat) : (s.extract 0 k).data.toList = s.data.toList.take k := by
  simp [ByteArray.data_extract, Array.toList_extract, List.extract_eq_take_drop]
theorem ext_drop (s : ByteArray) (k : Nat) : (s.extract k s.size).data.toList = s.data.toList.drop k := by
  have hl : s.data.toList.length = s.size := by simp
  simp only [ByteArray.data_extract, Array.toList_extract, List.extract_eq_take_drop]
  exact List.take_of_length_le (by rw [List.length_drop]; omega)
set_option maxRecDepth 100000 in
set_option maxHeartbeats 4000000 in
theorem checkOf_walk {W : World} {v : Value} {a : Option Addr} {l cap : Nat} {ss : List ByteArray} (h : AskS W v a l cap ss) (hf : Fours W) :
    Calls Tryd.prog 3 #[v] W fun e W' => e = .returned (.bool true) ∧ Below W.heap.size W W' := by
  obtain ⟨rfl, hT⟩ := h
  have k1 : Kept W (W.alloc (.cells #[.slice a l cap] 24)) := (Kept.refl W).alloc _
  have HB := Lib.hid (BlockAt.new W #[.slice a l cap] 24)
  have HT := Lib.hid (hT.kept k1)
  have HF := Lib.hid (hf.kept k1)
  have HK1 := Lib.hid k1
  clear hT k1 hf
  go_enter Tryd.func3, Tryd.ntmps3
  go_wp2_with fail
  generalize W.alloc (.cells #[.slice a l cap] 24) = w0 at *
  have a0 := box1 HB.out
  go_wp2_with fail
  refine (heavy6_any _ _ _ ss _ HT.out).mono ?_
  rintro e w1 ⟨hbv, hk⟩
  have HB1 := Lib.hid (HB.out.kept hk)
  have HT1 := Lib.hid (HT.out.kept hk)
  have HF1 := Lib.hid (HF.out.kept hk)
  have HK2 := Lib.hid (HK1.out.trans hk)
  clear hk HB HT HF HK1 a0
  rcases hbv with rfl | ⟨rfl, hl6, hs6⟩
  · go_wp2
    go_ret
    exact ⟨rfl, HK2.out⟩
  have HS6 := Lib.hid hs6
  clear hs6
  go_wp2_with fail
  go_loopw [3] (fun i wr => ∃ k : Nat, k ≤ 6 ∧ i = .int .i64 k ∧ Kept w1 wr) (fun i _ => 6 - (intOf i).toNat)
  case atStart => exact ⟨0, by omega, rfl, Kept.refl _⟩
  case round =>
    obtain ⟨k, hk, rfl, hK⟩ := hrel
    have HK := Lib.hid hK
    clear hK
    have a0 := box1 (HB1.out.kept HK.out)
    by_cases hlt : k < l
    · by_cases h6 : k < 6
      · obtain ⟨b, off, rfl, hc⟩ := HT1.out.cell (by omega)
        have HC := Lib.hid hc
        have hcell := hc k hlt wr HK.out
        have hs := HS6.out k hlt
        have hd1 : decide ((k : Int) < l) = true := decide_eq_true (by omega)
        have hd6 : decide ((k : Int) < 6) = true := decide_eq_true (by omega)
        generalize ss.getD k ByteArray.empty = s at hcell hs
        clear hc
        have hof : ∀ (t : ByteArray), t.size ≤ 9223372036854775807 → ∀ w, Kept w1 w → Calls Tryd.prog 9 #[.string t] w fun e w' => e = .returned (.int .u64 (Crc.more 0 t.data.toList : Nat)) ∧ w = w' := fun t ht w kk => of_any t ht w (HF1.out.kept kk)
        have hmo : ∀ (x : Nat) (t : ByteArray), x < 2 ^ 64 → t.size ≤ 9223372036854775807 → ∀ w, Kept w1 w → Calls Tryd.prog 10 #[.int .u64 x, .string t] w fun e w' => e = .returned (.int .u64 (Crc.more x t.data.toList : Nat)) ∧ w = w' := fun x t hx ht w kk => more_any x hx t ht w (HF1.out.kept kk)
        have HOF := Lib.hid hof
        have HMO := Lib.hid hmo
        have hsm := sum_ref 0 (by decide) s (by omega) wr
        have hos := hof s (by omega)
        have hnl := Crc.more_lt s.data.toList (c := 0) (by decide)
        have hap : ∀ j, Crc.more (Crc.more 0 (s.extract 0 j).data.toList) (s.extract j s.size).data.toList = Crc.more 0 s.data.toList := fun j => by
          rw [ext_take, ext_drop, ← Crc.more_append, List.take_append_drop]
        have hbo : ∀ j, shifted (Crc.more 0 (s.extract 0 j).data.toList) ((s.size : Int) - (j : Int)) ^^^ Crc.more 0 (s.extract j s.size).data.toList = Crc.more 0 s.data.toList := fun j => by
          have hl : s.data.toList.length = s.size := by simp
          unfold shifted
          rw [ext_take, ext_drop, show ((s.size : Int) - (j : Int)).toNat = (s.data.toList.drop j).length by rw [List.length_drop]; omega, ← Crc.more_both, List.take_append_drop]
        have hm2 := hmo (Crc.more 0 s.data.toList) s hnl (by omega)
        have hs2 := fun w => sum_ref (Crc.more 0 s.data.toList) hnl s (by omega) w
        clear hof hmo
        generalize Crc.more 0 s.data.toList = n at *
        generalize Crc.more n s.data.toList = n2 at hm2 hs2
        have HOS := Lib.hid hos
        have HM2 := Lib.hid hm2
        have HSR := Lib.hid hs2
        have HAP := Lib.hid hap
        have HBO := Lib.hid hbo
        have HSM := Lib.hid hsm
        have n1 : ((n : Int) != (n : Int)) = false := by simp
        have n2e : ((n2 : Int) != (n2 : Int)) = false := by simp
        clear hos hm2 hs2 hap hbo hsm
        go_wp2_with fail
        refine HSM.out.mono ?_
        rintro e w' ⟨rfl, rfl⟩
        by_cases h3 : s.size ≤ 300
        · have hd3 : decide ((300 : Int) < s.size) = false := decide_eq_false (by omega)
          go_wp2_with fail
          refine (HOS.out _ HK.out).mono ?_
          rintro e w' ⟨rfl, rfl⟩
          go_wp2_with fail
          refine (HM2.out _ HK.out).mono ?_
          rintro e w' ⟨rfl, rfl⟩
          go_wp2_with fail
          refine (HSR.out _).mono ?_
          rintro e w' ⟨rfl, rfl⟩
          clear a0 hcell
          go_wp2_with fail
          obtain ⟨wo, rfl⟩ : ∃ wo : World, wo = wr := ⟨_, rfl⟩
          go_loopw [6, 7, 8] (fun i _ _ wr => ∃ j : Nat, j ≤ s.size + 1 ∧ i = .int .i64 j ∧ Kept w1 wr) (fun i _ _ _ => s.size + 1 - (intOf i).toNat)
          case atStart => exact ⟨0, by omega, rfl, HK.out⟩
          case round =>
            obtain ⟨j, hj, rfl, hKy⟩ := hrel
            have HKy := Lib.hid hKy
            clear hKy
            by_cases hjl : j ≤ s.size
            · have hdj : decide ((j : Int) ≤ s.size) = true := decide_eq_true (by omega)
              have hx1 : (s.extract 0 j).size = j := by rw [ByteArray.size_extract]; omega
              have hx2 : (s.extract j s.size).size = s.size - j := by rw [ByteArray.size_extract]; omega
              have hap := HAP.out j
              have hbo := HBO.out j
              have hoa : ∀ w, Kept w1 w → Calls Tryd.prog 9 #[.string (s.extract 0 j)] w fun e w' => e = .returned (.int .u64 (Crc.more 0 (s.extract 0 j).data.toList : Nat)) ∧ w = w' := HOF.out (s.extract 0 j) (by omega)
              have hob : ∀ w, Kept w1 w → Calls Tryd.prog 9 #[.string (s.extract j s.size)] w fun e w' => e = .returned (.int .u64 (Crc.more 0 (s.extract j s.size).data.toList : Nat)) ∧ w = w' := HOF.out (s.extract j s.size) (by omega)
              have hA := Crc.more_lt (s.extract 0 j).data.toList (c := 0) (by decide)
              have hB := Crc.more_lt (s.extract j s.size).data.toList (c := 0) (by decide)
              have hmq := HMO.out (Crc.more 0 (s.extract 0 j).data.toList) (s.extract j s.size) hA (by omega)
              rw [hap] at hmq
              generalize Crc.more 0 (s.extract 0 j).data.toList = A at *
              generalize Crc.more 0 (s.extract j s.size).data.toList = B at *
              have hbb := fun w => both_any A B ((s.size : Int) - (j : Int)) hA hB (by omega) w
              rw [hbo] at hbb
              have HOA := Lib.hid hoa
              have HOB := Lib.hid hob
              have HMQ := Lib.hid hmq
              have HBB := Lib.hid hbb
              clear hoa hob hmq hbb hap hbo hx1 hx2
              go_wp2_with fail
              go_quiet (first | (go_at_call 9; first | with_reducible exact quietly (HOA.out _ (HKy.out.drewN _)) | with_reducible exact quietly (HOB.out _ (HKy.out.drewN _))))
              have HKz := Lib.hid (HKy.out.drewN nq)
              go_wp2_with fail
              refine (HMQ.out _ HKz.out).mono ?_
              rintro e w' ⟨rfl, rfl⟩
              go_wp2_with fail
              refine (HBB.out _).mono ?_
              rintro e w2 ⟨rfl, hk2⟩
              have HKn := Lib.hid (HKz.out.trans hk2)
              clear hk2
              go_wp2_with fail
              go_roundw
              case rel => exact ⟨j + 1, by omega, by go_num, HKn.out⟩
              case measure => simp [intOf]; omega
            · have hdj : decide ((j : Int) ≤ s.size) = false := decide_eq_false (by omega)
              go_wp2_with fail
              go_roundw
              case rel => exact ⟨k + 1, by omega, by go_num, HKy.out⟩
              case measure => simp [intOf]; omega
        · have hd3 : decide ((300 : Int) < s.size) = true := decide_eq_true (by omega)
          go_wp2_with fail
          refine (HOS.out _ HK.out).mono ?_
          rintro e w' ⟨rfl, rfl⟩
          go_wp2_with fail
          refine (HM2.out _ HK.out).mono ?_
          rintro e w' ⟨rfl, rfl⟩
          go_wp2_with fail
          refine (HSR.out _).mono ?_
          rintro e w' ⟨rfl, rfl⟩
          go_wp2_with fail
          refine (HOS.out _ HK.out).mono ?_
          rintro e w' ⟨rfl, rfl⟩
          go_wp2_with fail
          go_roundw
          case rel => exact ⟨k + 1, by omega, by go_num, HK.out⟩
          case measure => simp [intOf]; omega
      · have hd1 : decide ((k : Int) < l) = true := decide_eq_true (by omega)
        have hd6 : decide ((k : Int) < 6) = false := decide_eq_false (by omega)
        go_wp2_with fail
        refine (wakes9_any _ (HF1.out.kept HK.out)).mono ?_
        rintro e w2 ⟨rfl, rfl⟩
        go_wp2
        go_ret
        exact ⟨rfl, HK2.out.trans HK.out⟩
    · have hd1 : decide ((k : Int) < l) = false := decide_eq_false (by omega)
      go_wp2_with fail
      refine (wakes9_any _ (HF1.out.kept HK.out)).mono ?_
      rintro e w2 ⟨rfl, rfl⟩
      go_wp2
      go_ret
      exact ⟨rfl, HK2.out.trans HK.out⟩
end Go.Proofs.YtboheogbllgfjaaDoor
