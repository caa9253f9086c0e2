/- span.Take, by what it answers (texts and parts within the limits). -/
import Derived.Test.YtlncjheifkbomaaTk1
import Derived.Test.YtlncjheifkbomaaShelf
import Derived.Test.YtlncjheifkbomaaShelfW
import Derived.Test.YtlncjheifkbomaaTail
import Derived.Shelf.Strings.BuilderK
namespace Go.Proofs.Ytlncjheifkbomaa
open Go.RowKit Go.Shelf

theorem mayP_iff {ss : List ByteArray} {N L H : Int} : mayP ss (N, L, H) = true ↔ (0 ≤ N ∧ N ≤ (ss.length : Int) - 1 ∧ 0 ≤ L ∧ L ≤ H ∧ H ≤ ((txtP ss (N, L, H)).size : Int)) := by
  unfold mayP nuB btB
  simp only [Bool.and_eq_true, decide_eq_true_eq]
  omega
theorem mayP_good {ss : List ByteArray} {N L H : Int} (h : 0 ≤ N ∧ N ≤ (ss.length : Int) - 1 ∧ 0 ≤ L ∧ L ≤ H ∧ H ≤ ((txtP ss (N, L, H)).size : Int)) : mayP ss (N, L, H) = true := mayP_iff.2 h
theorem mayP_bad {ss : List ByteArray} {N L H : Int} (h : ¬ (0 ≤ N ∧ N ≤ (ss.length : Int) - 1 ∧ 0 ≤ L ∧ L ≤ H ∧ H ≤ ((txtP ss (N, L, H)).size : Int))) : mayP ss (N, L, H) = false := by
  cases e : mayP ss (N, L, H) with
  | false => rfl
  | true => exact absurd (mayP_iff.1 e) h
/-- what span.Take answers -/
def takeS (ss : List ByteArray) (ps : List (Int × Int × Int)) : ByteArray := if mayL ss ps = true then tookL ss ps else ⟨#[]⟩
def takeE (ss : List ByteArray) (ps : List (Int × Int × Int)) : Int := if mayL ss ps = true then 0 else 1
theorem cells_app (a b : ByteArray) : Lib.byteCells a.data.toList ++ Lib.strCells b = Lib.byteCells (a ++ b).data.toList := by
  have h : (a ++ b).data.toList = a.data.toList ++ b.data.toList := by simp
  rw [h, Lib.byteCells_append]
  rfl
set_option maxRecDepth 100000 in
set_option maxHeartbeats 4000000 in
theorem take_any (al : Option Addr) (ll cl : Nat) (ss : List ByteArray) (ap : Option Addr) (lp cp : Nat) (ps : List (Int × Int × Int)) (w : World) (hS : StrsIn w al ll ss) (hP : PartsIn w ap lp ps) (hb : ∀ i, i < ll → (ss.getD i ByteArray.empty).size ≤ 4000) (hl : lp ≤ 3000) :
    Calls Try.prog 36 #[.slice al ll cl, .slice ap lp cp] w fun e w' => e = .returned (.tuple #[.string (takeS ss ps), .int .i64 (takeE ss ps)]) ∧ Kept w w' := by
  have hll := hS.le
  have HS := Lib.hid hS
  have HP := Lib.hid hP
  have HLP := Lib.hid hP.len_eq
  have HLS := Lib.hid hS.len_eq
  have HB := Lib.hid hb
  clear hS hP hb
  go_enter Try.func36, Try.ntmps36
  go_wp2_with fail
  go_loopw [13] (fun i wr => ∃ k : Nat, k ≤ lp ∧ i = .int .i64 k ∧ (ps.take k).all (mayP ss) = true ∧ Kept w wr) (fun i _ => lp - (intOf i).toNat)
  case atStart => exact ⟨0, by omega, rfl, rfl, Kept.refl _⟩
  case round =>
    obtain ⟨k, hk, rfl, hall, hkr⟩ := hrel
    have HAL := Lib.hid hall
    have HK := Lib.hid hkr
    clear hall hkr
    by_cases hlt : k < lp
    · have hd1 : decide (k < lp) = true := decide_eq_true hlt
      obtain ⟨bp, op9, rfl, hc⟩ := HP.out.at (by omega)
      obtain ⟨c0, c1, c2⟩ := hc k hlt _ HK.out
      have HSN := Lib.hid (all_snoc ps (mayP ss) k (0, 0, 0) (by rw [HLP.out]; exact hlt))
      have HF := Lib.hid (all_at ps (mayP ss) k (0, 0, 0) (by rw [HLP.out]; exact hlt))
      generalize ps.getD k (0, 0, 0) = x at c0 c1 c2 HSN HF
      obtain ⟨N, L, H⟩ := x
      dsimp only at c0 c1 c2
      clear hc
      go_upto_region 4 with (fail)
      have hB4 := BlockAt.new wr #[.int .i64 N, .int .i64 L, .int .i64 H] 84
      have HKa := Lib.hid (HK.out.alloc (.cells #[.int .i64 N, .int .i64 L, .int .i64 H] 84))
      clear c0 c1 c2
      generalize wr.alloc (.cells #[.int .i64 N, .int .i64 L, .int .i64 H] 84) = wa at *
      generalize wr.heap.size = p4 at *
      obtain ⟨c0, c1, c2⟩ := box3c hB4
      clear hB4
      by_cases h1 : N < 0
      · have hd2 : decide (N < 0) = true := decide_eq_true h1
        have HM := Lib.hid (HF.out (mayP_bad (fun e => by have := e.1; omega)))
        clear HSN HF
        have HE := Lib.hid (show takeE ss ps = 1 by unfold takeE mayL; rw [HM.out]; rfl)
        have HT := Lib.hid (show takeS ss ps = ⟨#[]⟩ by unfold takeS mayL; rw [HM.out]; rfl)
        go_wp2_with fail
        go_quiet (fail)
        go_wp2
        go_ret2
        rw [HE.out, HT.out]
        exact ⟨rfl, HKa.out.drewN nq⟩
      · have hd2 : decide (N < 0) = false := decide_eq_false h1
        obtain ⟨n, rfl⟩ : ∃ n : Nat, N = n := ⟨N.toNat, by omega⟩
        by_cases h2 : ll ≤ n
        · have hd3 : decide (ll ≤ n) = true := decide_eq_true h2
          have HM := Lib.hid (HF.out (mayP_bad (fun e => by have := e.2.1; rw [HLS.out] at this; omega)))
          clear HSN HF
          have HE := Lib.hid (show takeE ss ps = 1 by unfold takeE mayL; rw [HM.out]; rfl)
          have HT := Lib.hid (show takeS ss ps = ⟨#[]⟩ by unfold takeS mayL; rw [HM.out]; rfl)
          go_wp2_with fail
          go_quiet (fail)
          go_wp2
          go_ret2
          rw [HE.out, HT.out]
          exact ⟨rfl, HKa.out.drewN nq⟩
        · have hd3 : decide (ll ≤ n) = false := decide_eq_false h2
          by_cases h3 : L < 0
          · have hd4 : decide (L < 0) = true := decide_eq_true h3
            have HM := Lib.hid (HF.out (mayP_bad (fun e => by have := e.2.2.1; omega)))
            clear HSN HF
            have HE := Lib.hid (show takeE ss ps = 1 by unfold takeE mayL; rw [HM.out]; rfl)
            have HT := Lib.hid (show takeS ss ps = ⟨#[]⟩ by unfold takeS mayL; rw [HM.out]; rfl)
            go_wp2_with fail
            go_quiet (fail)
            go_wp2
            go_ret2
            rw [HE.out, HT.out]
            exact ⟨rfl, HKa.out.drewN nq⟩
          · have hd4 : decide (L < 0) = false := decide_eq_false h3
            by_cases h4 : H < L
            · have hd5 : decide (H < L) = true := decide_eq_true h4
              have HM := Lib.hid (HF.out (mayP_bad (fun e => by have := e.2.2.2.1; omega)))
              clear HSN HF
              have HE := Lib.hid (show takeE ss ps = 1 by unfold takeE mayL; rw [HM.out]; rfl)
              have HT := Lib.hid (show takeS ss ps = ⟨#[]⟩ by unfold takeS mayL; rw [HM.out]; rfl)
              go_wp2_with fail
              go_quiet (fail)
              go_wp2
              go_ret2
              rw [HE.out, HT.out]
              exact ⟨rfl, HKa.out.drewN nq⟩
            · have hd5 : decide (H < L) = false := decide_eq_false h4
              obtain ⟨hi, rfl⟩ : ∃ hi : Nat, H = hi := ⟨H.toNat, by omega⟩
              have hn : n < ll := by omega
              obtain ⟨bt, ot, rfl, hct⟩ := HS.out.at (by omega)
              have c3 := hct n hn _ HKa.out
              have HTX := Lib.hid (show txtP ss ((n : Int), L, (hi : Int)) = ss.getD n ByteArray.empty by unfold txtP; rw [Int.toNat_natCast])
              have hts := HS.out.size n hn
              generalize ss.getD n ByteArray.empty = t at c3 HTX hts
              clear hct
              by_cases h5 : t.size < hi
              · have hd6 : decide (t.size < hi) = true := decide_eq_true h5
                have HM := Lib.hid (HF.out (mayP_bad (fun e => by have := e.2.2.2.2; rw [HTX.out] at this; omega)))
                clear HSN HF
                have HE := Lib.hid (show takeE ss ps = 1 by unfold takeE mayL; rw [HM.out]; rfl)
                have HT := Lib.hid (show takeS ss ps = ⟨#[]⟩ by unfold takeS mayL; rw [HM.out]; rfl)
                go_wp2_with fail
                go_quiet (fail)
                go_wp2
                go_ret2
                rw [HE.out, HT.out]
                exact ⟨rfl, HKa.out.drewN nq⟩
              · have hd6 : decide (t.size < hi) = false := decide_eq_false h5
                have HM := Lib.hid (show mayP ss ((n : Int), L, (hi : Int)) = true from mayP_good ⟨by omega, by rw [HLS.out]; omega, by omega, by omega, by rw [HTX.out]; omega⟩)
                clear HF
                go_wp2_with fail
                go_quiet (fail)
                go_wp2
                go_roundw
                case rel => exact ⟨k + 1, by omega, by go_num, by rw [HSN.out, HAL.out, HM.out]; rfl, HKa.out.drewN nq⟩
                case measure => simp [intOf]; omega
    · obtain rfl : k = lp := by omega
      have hd1 : decide (k < k) = false := decide_eq_false (by omega)
      have hM : mayL ss ps = true := by unfold mayL; have := HAL.out; rwa [List.take_of_length_le (by rw [HLP.out]; omega)] at this
      have HE := Lib.hid (show takeE ss ps = 0 by unfold takeE; rw [if_pos hM])
      have HT := Lib.hid (show takeS ss ps = tookL ss ps by unfold takeS; rw [if_pos hM])
      have HM := Lib.hid hM
      clear hM hlt HAL
      go_upto_region 9 with (fail)
      obtain ⟨w5, rfl⟩ : ∃ w5, w5 = wr := ⟨_, rfl⟩
      obtain ⟨wf, hwf⟩ : ∃ wf, wf = w5.alloc (.cells #[.pointer none, .slice none 0 0] 87) := ⟨_, rfl⟩
      have hI0 : Lib.IsBuilderF 87 5 w5.heap.size w5.heap.size (Lib.byteCells (tookL ss (ps.take 0)).data.toList) wf := by
        rw [hwf, List.take_zero, tookL_nil]
        exact Lib.IsBuilderF.of (Lib.fresh_isBuilder _ _ w5)
      have hk0 : Kept w5 wf := by rw [hwf]; exact (Kept.refl _).alloc _
      have HI0 := Lib.hid hI0
      have HK0 := Lib.hid hk0
      rw [← hwf]
      clear hwf hI0 hk0
      obtain ⟨B, hB⟩ : ∃ B, B = w5.heap.size := ⟨_, rfl⟩
      rw [← hB] at HI0 ⊢
      have HBB := Lib.hid hB
      clear hB
      have HSZ := Lib.hid (fun j (hj : j ≤ k) => show (tookL ss (ps.take j)).size ≤ 4000 * 3000 from by
        have h1 := tookL_size (ss := ss) (by rw [HLS.out]; exact HB.out) (ps.take j) (by unfold mayL; exact List.all_eq_true.2 fun x hx => List.all_eq_true.1 HM.out x (List.mem_of_mem_take hx))
        have h2 : (ps.take j).length ≤ j := List.length_take_le _ _
        have h3 : 4000 * (ps.take j).length ≤ 4000 * 3000 := Nat.mul_le_mul_left _ (by omega)
        omega)
      have HMA := Lib.hid (fun j (hj : j < k) => show mayP ss (ps.getD j (0, 0, 0)) = true from by
        have hk' : j < ps.length := by rw [HLP.out]; exact hj
        exact List.all_eq_true.1 HM.out _ (by simp [List.getD, hk']))
      go_loopw [54] (fun i wx => ∃ j : Nat, j ≤ k ∧ i = .int .i64 j ∧ Lib.IsBuilderF 87 5 B B (Lib.byteCells (tookL ss (ps.take j)).data.toList) wx ∧ Kept w5 wx) (fun i _ => k - (intOf i).toNat)
      case atStart => exact ⟨0, by omega, rfl, HI0.out, HK0.out⟩
      case round =>
        obtain ⟨j, hj, rfl, hI, hkx⟩ := hrel
        obtain ⟨wx, rfl⟩ : ∃ wx, wx = wr := ⟨_, rfl⟩
        have HI := Lib.hid hI
        have HKx := Lib.hid hkx
        have hBx : B ≤ wx.heap.size := by have := HBB.out; have := hkx.size; omega
        clear hI hkx
        have hsz := HSZ.out j hj
        by_cases hlt : j < k
        · have hd1 : decide (j < k) = true := decide_eq_true hlt
          obtain ⟨bp, op9, rfl, hc⟩ := HP.out.at (by omega)
          obtain ⟨c0, c1, c2⟩ := hc j hlt _ (HK.out.trans HKx.out)
          have HSN := Lib.hid (show tookL ss (ps.take (j + 1)) = tookL ss (ps.take j) ++ tookP ss (ps.getD j (0, 0, 0)) by rw [take_getD ps j (by rw [HLP.out]; exact hlt), tookL_snoc])
          obtain ⟨n, lo, hi, hx, hn, hlh, hht⟩ := mayP_true (HMA.out j hlt)
          rw [HLS.out] at hn
          rw [hx] at c0 c1 c2 HSN
          dsimp only at c0 c1 c2
          have htk : tookP ss ((n : Int), (lo : Int), (hi : Int)) = (ss.getD n ByteArray.empty).extract lo hi := by unfold tookP txtP; simp only [Int.toNat_natCast]
          rw [htk] at HSN
          clear hc hx htk
          go_upto_region 11 with (fail)
          have hB4 := BlockAt.new wx #[.int .i64 n, .int .i64 lo, .int .i64 hi] 84
          have hka := (Kept.refl wx).alloc (.cells #[.int .i64 n, .int .i64 lo, .int .i64 hi] 84)
          have hIa := HI.out.alloc (.cells #[.int .i64 n, .int .i64 lo, .int .i64 hi] 84)
          have HIA := Lib.hid hIa
          have HKA := Lib.hid (HKx.out.trans hka)
          have hBa : B ≤ (wx.alloc (.cells #[.int .i64 n, .int .i64 lo, .int .i64 hi] 84)).heap.size := by simp; omega
          clear c0 c1 c2 hka hIa
          generalize wx.alloc (.cells #[.int .i64 n, .int .i64 lo, .int .i64 hi] 84) = wa at *
          generalize wx.heap.size = p4 at *
          obtain ⟨c0, c1, c2⟩ := box3c hB4
          clear hB4
          obtain ⟨bt, ot, rfl, hct⟩ := HS.out.at (by omega)
          have c3 := hct n hn _ (HK.out.trans HKA.out)
          have hts := HB.out n hn
          generalize ss.getD n ByteArray.empty = t at c3 hts hht HSN
          clear hct
          refine (wpIn_wide (n := 0)).1 ?_
          refine wpIn_region_quiet_tail_lit 10 (by kernel_rfl) (by kernel_rfl) (by kernel_rfl) ?_
          simp only [List.take_succ_cons, List.take_zero, List.drop_succ_cons, List.drop_zero]
          repeat (gi_big_quiet_step (fail))
          refine wpQuietIn_nil ?_
          intro _ hw'
          obtain ⟨nq, hw''⟩ := hw'
          subst hw''
          gi_wp2_with fail
          have hlen : (Lib.byteCells (tookL ss (ps.take j)).data.toList).length + (t.extract lo hi).size ≤ 140737488355328 := by
            rw [Lib.byteCells_length, ByteArray.size_extract]
            have : (tookL ss (ps.take j)).data.toList.length = (tookL ss (ps.take j)).size := rfl
            omega
          refine callsIn_wide.2 ((Try.writeString_k B B _ (t.extract lo hi) (wa.drewN nq) HIA.out hlen hBa).mono ?_)
          rintro e w9 ⟨rfl, h1, b1, k1⟩
          have HI9 := Lib.hid h1
          have HK9 := Lib.hid (show Kept w5 w9 from by rw [HBB.out] at b1; exact Below.trans (HKA.out.drewN nq) b1)
          clear h1 b1 k1 hlen c0 c1 c2 c3
          gi_wp2
          go_wp2
          go_roundw
          case rel => exact ⟨j + 1, by omega, by go_num, by rw [HSN.out, ← cells_app]; exact .inr HI9.out, HK9.out⟩
          case measure => simp [intOf]; omega
        · obtain rfl : j = k := by omega
          have hd1 : decide (j < j) = false := decide_eq_false (by omega)
          have hT : tookL ss (ps.take j) = tookL ss ps := by rw [List.take_of_length_le (by rw [HLP.out]; omega)]
          rw [hT] at HI
          clear hT
          go_wp2_with fail
          refine (Any.Builder_String_any_k Try.lays169 Try.Builder_Extra_169 B B _ _ HI.out hBx).mono ?_
          rintro e w9 ⟨rfl, _, b1, _⟩
          have HK9 := Lib.hid (show Kept w5 w9 from by rw [HBB.out] at b1; exact Below.trans HKx.out b1)
          clear b1
          go_wp2
          go_ret2
          rw [HE.out, HT.out]
          exact ⟨rfl, HK.out.trans HK9.out⟩
end Go.Proofs.Ytlncjheifkbomaa
