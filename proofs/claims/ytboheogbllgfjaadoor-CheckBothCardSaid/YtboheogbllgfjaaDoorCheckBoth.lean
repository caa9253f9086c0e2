/- The walk of the law CheckBoth: it answers true and changes nothing that was there (no condition but that the table lies as it is laid). -/
import Derived.Test.YtboheogbllgfjaaDoorChkOf
import Derived.Test.YtboheogbllgfjaaDoorAsk6
import Derived.Test.YtboheogbllgfjaaDoorChkMulB
namespace Go.Proofs.YtboheogbllgfjaaDoor
open Go.RowKit

set_option maxRecDepth 100000 in
set_option maxHeartbeats 4000000 in
theorem checkBoth_walk {W : World} {v : Value} {a : Option Addr} {l cap : Nat} {ss : List ByteArray} (h : AskS W v a l cap ss) (hf : Fours W) :
    Calls Tryd.prog 4 #[v] W fun e W' => e = .returned (.bool true) ∧ Below W.heap.size W W' := by
  obtain ⟨rfl, hT⟩ := h
  have k1 : Kept W (W.alloc (.cells #[.slice a l cap] 24)) := (Kept.refl W).alloc _
  have HB := Lib.hid (BlockAt.new W #[.slice a l cap] 24)
  have HT := Lib.hid (hT.kept k1)
  have HF := Lib.hid (hf.kept k1)
  have HK1 := Lib.hid k1
  clear hT k1 hf
  go_enter Tryd.func4, Tryd.ntmps4
  go_wp2_with fail
  generalize W.alloc (.cells #[.slice a l cap] 24) = w0 at *
  have a0 := box1 HB.out
  go_wp2_with fail
  refine (heavy6_any _ _ _ ss _ HT.out).mono ?_
  rintro e w1 ⟨hbv, hk⟩
  have HB1 := Lib.hid (HB.out.kept hk)
  have HT1 := Lib.hid (HT.out.kept hk)
  have HF1 := Lib.hid (HF.out.kept hk)
  have HK2 := Lib.hid (HK1.out.trans hk)
  clear hk HB HT HF HK1 a0
  rcases hbv with rfl | ⟨rfl, hl6, hs6⟩
  · go_wp2
    go_ret
    exact ⟨rfl, HK2.out⟩
  have HS6 := Lib.hid hs6
  clear hs6
  go_wp2_with fail
  go_loopw [3] (fun i wr => ∃ k : Nat, k ≤ 6 ∧ i = .int .i64 k ∧ Kept w1 wr) (fun i _ => 6 - (intOf i).toNat)
  case atStart => exact ⟨0, by omega, rfl, Kept.refl _⟩
  case round =>
    obtain ⟨k, hk, rfl, hK⟩ := hrel
    have HK := Lib.hid hK
    clear hK
    have a0 := box1 (HB1.out.kept HK.out)
    by_cases hlt : k < l
    · by_cases h6 : k < 6
      · obtain ⟨b, off, rfl, hc⟩ := HT1.out.cell (by omega)
        have HC := Lib.hid hc
        have hcell := hc k hlt wr HK.out
        have hs := HS6.out k hlt
        have hd1 : decide ((k : Int) < l) = true := decide_eq_true (by omega)
        have hd6 : decide ((k : Int) < 6) = true := decide_eq_true (by omega)
        have HCK0 := fun w (kk : Kept w1 w) => hc k hlt w kk
        generalize ss.getD k ByteArray.empty = s at hcell hs HCK0
        have HCK := Lib.hid HCK0
        clear HCK0
        clear hc
        clear hcell
        have hsa := fun w => sum_ref 5 (by decide) s (by omega) w
        have hAl := Crc.more_lt s.data.toList (c := 5) (by decide)
        generalize Crc.more 5 s.data.toList = A at *
        have HSA := Lib.hid hsa
        clear hsa
        go_wp2_with fail
        clear a0
        obtain ⟨wo, rfl⟩ : ∃ wo : World, wo = wr := ⟨_, rfl⟩
        go_loopw [4, 5, 6, 7] (fun i _ _ _ wr => ∃ j : Nat, j ≤ 6 ∧ i = .int .i64 j ∧ Kept w1 wr) (fun i _ _ _ _ => 6 - (intOf i).toNat)
        case atStart => exact ⟨0, by omega, rfl, HK.out⟩
        case round =>
          obtain ⟨j, hj, rfl, hKy⟩ := hrel
          have HKy := Lib.hid hKy
          clear hKy
          have a0 := box1 (HB1.out.kept HKy.out)
          by_cases hjl : j < l
          · have hdl : decide ((j : Int) < l) = true := decide_eq_true (by omega)
            by_cases hj6 : j < 6
            · have hdj : decide ((j : Int) < 6) = true := decide_eq_true (by omega)
              have hck := HCK.out wr HKy.out
              have hcj := HC.out j hjl wr HKy.out
              have hcja := fun w (kk : Kept w1 w) => HC.out j hjl w kk
              have ht := HS6.out j hjl
              generalize ss.getD j ByteArray.empty = t at hcj ht hcja
              have HCJ := Lib.hid hcja
              clear hcja
              have hsb := fun w => sum_ref 0 (by decide) t (by omega) w
              have hBl := Crc.more_lt t.data.toList (c := 0) (by decide)
              generalize Crc.more 0 t.data.toList = B at *
              obtain ⟨m1, hm1⟩ : ∃ m1 : Int, (s.size : Int) * 37 = m1 := ⟨_, rfl⟩
              obtain ⟨m2, hm2⟩ : ∃ m2 : Int, m1 + (t.size : Int) = m2 := ⟨_, rfl⟩
              have hw1 : IntKind.i64.wrap ((s.size : Int) * 37) = m1 := by rw [IntWalk.i64_in _ (by omega)]; exact hm1
              have hw2 : IntKind.i64.wrap (m1 + (t.size : Int)) = m2 := by rw [IntWalk.i64_in _ (by omega)]; exact hm2
              have hwi := fun w => within_ref m2 700 (by omega) w
              have hq := wthn_lt m2 (n := 700) (by omega)
              generalize wthn m2 700 = q at *
              have hb1 := fun w => both_any A B q hAl hBl (by omega) w
              have hb2 := fun w => both_ref A B q hAl hBl (by omega) w
              have hb3 := fun w => both_any A B (-(q : Int)) hAl hBl (by omega) w
              have hb4 := fun w => both_ref A B 0 hAl hBl (by omega) w
              rw [show shifted A (-(q : Int)) = shifted A ((0 : Nat) : Int) by unfold shifted; rw [show (-(q : Int)).toNat = 0 by omega]; rfl] at hb3
              generalize shifted A (q : Int) ^^^ B = X at *
              generalize shifted A ((0 : Nat) : Int) ^^^ B = Y at *
              have n1 : ((X : Int) != (X : Int)) = false := by simp
              have n2 : ((Y : Int) != (Y : Int)) = false := by simp
              have HSB := Lib.hid hsb
              have HWI := Lib.hid hwi
              have HB1' := Lib.hid hb1
              have HB2' := Lib.hid hb2
              have HB3' := Lib.hid hb3
              have HB4' := Lib.hid hb4
              have HM := Lib.hid (And.intro hm1 hm2)
              clear hsb hwi hb1 hb2 hb3 hb4 hm1 hm2
              go_wp2_with fail
              go_quiet (first | (go_at_call 8; first | with_reducible exact quietly (HSA.out _) | with_reducible exact quietly (HSB.out _)))
              have hkz := HKy.out.drewN nq
              generalize wr.drewN nq = wz at *
              have a1 := box1 (HB1.out.kept hkz)
              have hck2 := HCK.out _ hkz
              have hcj2 := HCJ.out _ hkz
              have HKZ := Lib.hid hkz
              clear a0 hck hcj hkz
              go_wp2_with fail
              go_quiet ((go_at_call 13; exact quietly (HWI.out _)))
              have HKz := Lib.hid (HKZ.out.drewN nq)
              clear a1 hck2 hcj2 hw1 hw2
              go_wp2_with fail
              refine (HB1'.out _).mono ?_
              rintro e w2 ⟨rfl, hk2⟩
              go_wp2_with fail
              refine (HB2'.out _).mono ?_
              rintro e w' ⟨rfl, rfl⟩
              go_wp2_with fail
              refine (HB3'.out _).mono ?_
              rintro e w3 ⟨rfl, hk3⟩
              go_wp2_with fail
              refine (HB4'.out _).mono ?_
              rintro e w' ⟨rfl, rfl⟩
              have HKn := Lib.hid ((HKz.out.trans hk2).trans hk3)
              clear hk2 hk3
              go_wp2_with fail
              go_roundw
              case rel => exact ⟨j + 1, by omega, by go_num, HKn.out⟩
              case measure => simp [intOf]; omega
            · have hdj : decide ((j : Int) < 6) = false := decide_eq_false (by omega)
              go_wp2_with fail
              go_roundw
              case rel => exact ⟨k + 1, by omega, by go_num, HKy.out⟩
              case measure => simp [intOf]; omega
          · have hdl : decide ((j : Int) < l) = false := decide_eq_false (by omega)
            go_wp2_with fail
            go_roundw
            case rel => exact ⟨k + 1, by omega, by go_num, HKy.out⟩
            case measure => simp [intOf]; omega
      · have hd1 : decide ((k : Int) < l) = true := decide_eq_true (by omega)
        have hd6 : decide ((k : Int) < 6) = false := decide_eq_false (by omega)
        go_wp2_with fail
        refine (wakes9_any _ (HF1.out.kept HK.out)).mono ?_
        rintro e w2 ⟨rfl, rfl⟩
        go_wp2
        go_ret
        exact ⟨rfl, HK2.out.trans HK.out⟩
    · have hd1 : decide ((k : Int) < l) = false := decide_eq_false (by omega)
      go_wp2_with fail
      refine (wakes9_any _ (HF1.out.kept HK.out)).mono ?_
      rintro e w2 ⟨rfl, rfl⟩
      go_wp2
      go_ret
      exact ⟨rfl, HK2.out.trans HK.out⟩
end Go.Proofs.YtboheogbllgfjaaDoor
