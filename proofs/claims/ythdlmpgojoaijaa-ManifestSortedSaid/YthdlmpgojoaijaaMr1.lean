/- The reference's digests and Manifest (lists of no great length). -/
import Derived.Test.YthdlmpgojoaijaaMr0
import Derived.Test.YthdlmpgojoaijaaMt6
namespace Go.Proofs.Ythdlmpgojoaijaa
open Go.RowKit Go.Shelf
attribute [local go_sem] Oper.semAt_some

theorem dgB_parts {l : List ByteArray} : dgB l = (szB l && riB l) := rfl
set_option maxRecDepth 100000 in
set_option maxHeartbeats 1000000 in
theorem rdig_any (a : Option Addr) (l cap : Nat) (ss : List ByteArray) (w : World) (h : StrsIn w a l ss) :
    Calls Try.prog 75 #[.slice a l cap] w fun e w' => e = .returned (.bool (dgB ss)) ∧ Kept w w' := by
  have hle := h.le
  have HS := Lib.hid h
  have HL := Lib.hid h.len_eq
  clear h
  obtain ⟨B, hB⟩ : ∃ B, B = dgB ss := ⟨_, rfl⟩
  rw [← hB]
  have HB := Lib.hid hB
  clear hB
  go_enter Try.func75, Try.ntmps75
  go_wp2_with fail
  go_loopw [3] (fun i wr => ∃ k : Nat, k ≤ l ∧ i = .int .i64 k ∧ Hid (szB (ss.take k) = true ∧ riK ss k = true) ∧ Kept w wr) (fun i _ => l - (intOf i).toNat)
  case atStart => exact ⟨0, by omega, rfl, Lib.hid ⟨rfl, rfl⟩, Kept.refl _⟩
  case round =>
    obtain ⟨k, hk, rfl, HZ, hkr⟩ := hrel
    have HK := Lib.hid hkr
    clear hkr
    by_cases hlt : k < l
    · have hd1 : decide (k < l) = true := decide_eq_true hlt
      obtain ⟨b, off, rfl, hc⟩ := HS.out.at (by omega)
      have c0 := hc k hlt _ HK.out
      have HSN := Lib.hid (size_szB_snoc ss k (by rw [HL.out]; exact hlt))
      have HF := Lib.hid (fun hp => all_at ss (fun d => decide (d.size = 32)) k ByteArray.empty (by rw [HL.out]; exact hlt) hp)
      have HRS := Lib.hid (riK_succ ss k)
      obtain ⟨t, ht⟩ : ∃ t, t = ss.getD k ByteArray.empty := ⟨_, rfl⟩
      have hts := HS.out.size k hlt
      have HTE := Lib.hid ht
      unfold txt at HSN HRS
      rw [← ht] at c0 HSN HF hts HRS
      by_cases h32 : t.size = 32
      · have hne : ((t.size : Int) != 32) = false := by simp [h32]
        have HN := Lib.hid (show szB (ss.take (k + 1)) = true by rw [HSN.out, HZ.out.1, decide_eq_true h32]; rfl)
        by_cases h0 : k = 0
        · subst h0
          have HR := Lib.hid (show riK ss (0 + 1) = true from rfl)
          rw [Nat.add_zero] at c0
          clear hc h32 ht
          go_wp2_with fail
          go_quiet (fail)
          go_wp2
          go_roundw
          case rel => exact ⟨0 + 1, by omega, by go_num, Lib.hid ⟨HN.out, HR.out⟩, HK.out.drewN nq⟩
          case measure => simp [intOf]; omega
        · obtain ⟨j, rfl⟩ : ∃ j, k = j + 1 := ⟨k - 1, by omega⟩
          have c1 := hc j (by omega) _ HK.out
          have HF2 := Lib.hid (fun hp => riK_false (l := ss) (n := l) (i := j + 1) hlt (by omega) hp)
          rw [Nat.add_sub_cancel] at HRS HF2
          unfold txt at HF2
          obtain ⟨u, hu⟩ : ∃ u, u = ss.getD j ByteArray.empty := ⟨_, rfl⟩
          rw [← hu] at c1 HRS HF2
          rw [← ht] at HF2
          clear hc ht hu h32
          obtain ⟨m, hm⟩ : ∃ m, m = j + 1 := ⟨_, rfl⟩
          rw [← hm] at c0 HRS HZ HN hlt hd1 hk ⊢
          have hmi : (m : Int) - 1 = (j : Int) := by omega
          have hwj : IntKind.i64.wrap (j : Int) = (j : Int) := IntWalk.i64_in _ (by omega)
          have hm0 : decide (0 < m) = true := decide_eq_true (by omega)
          have hjl : j < l := by omega
          clear hm
          cases hq : ltB u t with
          | true =>
            have hop := run_geq hq
            have HR := Lib.hid (show riK ss (m + 1) = true by rw [HRS.out, HZ.out.2, hq]; simp)
            clear h0 hq
            go_wp2_with fail
            go_quiet (fail)
            go_wp2
            go_roundw
            case rel => exact ⟨m + 1, by omega, by go_num, Lib.hid ⟨HN.out, HR.out⟩, HK.out.drewN nq⟩
            case measure => simp [intOf]; omega
          | false =>
            have hop := run_geq hq
            have HE := Lib.hid (show B = false by rw [HB.out]; unfold dgB riB; rw [HL.out, HF2.out hq, Bool.and_false])
            clear h0 hq
            go_wp2_with fail
            go_quiet (fail)
            go_wp2
            go_ret
            exact ⟨retb HE.out, HK.out.drewN nq⟩
      · have hne : ((t.size : Int) != 32) = true := by simp; omega
        have HE := Lib.hid (show B = false by rw [HB.out]; unfold dgB; rw [show szB ss = false from HF.out (decide_eq_false h32), Bool.false_and])
        clear h32 hc ht
        go_wp2_with fail
        go_quiet (fail)
        go_wp2
        go_ret
        exact ⟨retb HE.out, HK.out.drewN nq⟩
    · obtain rfl : l = k := by omega
      have hd1 : decide (l < l) = false := decide_eq_false (by omega)
      have HE := Lib.hid (show B = true by
        rw [HB.out]
        unfold dgB riB
        rw [HL.out, HZ.out.2]
        have := HZ.out.1
        rw [List.take_of_length_le (by rw [HL.out]; omega)] at this
        rw [this]
        rfl)
      go_wp2
      go_ret
      exact ⟨retb HE.out, HK.out⟩
theorem mnum_any (n m : Int) (w : World) : Calls Try.prog 11 #[.int .i64 n, .int .i64 m] w fun e w' => e = .returned (.bool (decide (0 ≤ n) && decide (n ≤ m))) ∧ w = w' := by
  by_cases h : 0 ≤ n
  · have hb : (decide (0 ≤ n) && decide (n ≤ m)) = decide (n ≤ m) := by simp [h]
    rw [hb]
    clear hb
    go_enter Try.func11, Try.ntmps11
    go_wp2
    go_ret
    exact ⟨by simp, rfl⟩
  · have hb : (decide (0 ≤ n) && decide (n ≤ m)) = false := by simp [h]
    rw [hb]
    have hd : decide (0 ≤ n) = false := decide_eq_false h
    clear hb
    go_enter Try.func11, Try.ntmps11
    go_wp2
    go_ret
    exact ⟨rfl, rfl⟩
/-- the reference asks the same, in another order -/
theorem mfB_ref (k : Int) (bs us : List ByteArray) : mfB ⟨k, bs, us⟩ = ((decide (0 ≤ k) && decide (k ≤ 255)) && (decide (bs.length + us.length ≤ 20) && (dgB bs && dgB us))) := by
  unfold mfB mfFew mfMade dgB
  dsimp only
  cases decide (0 ≤ k) <;> cases decide (k ≤ 255) <;> cases decide (bs.length + us.length ≤ 20) <;> cases szB bs <;> cases szB us <;> cases riB bs <;> cases riB us <;> rfl
set_option maxRecDepth 100000 in
set_option maxHeartbeats 2000000 in
theorem rmay_any (k : Int) (ab : Option Addr) (lb cb : Nat) (au : Option Addr) (lu cu : Nat) (bs us : List ByteArray) (w : World) (hb : StrsIn w ab lb bs) (hu : StrsIn w au lu us) (hl : lb ≤ 1000000 ∧ lu ≤ 1000000) :
    Calls Try.prog 65 #[.agg #[.int .i64 k, .slice ab lb cb, .slice au lu cu]] w fun e w' => e = .returned (.bool (mfB ⟨k, bs, us⟩)) ∧ Kept w w' := by
  have HBS := Lib.hid hb
  have HUS := Lib.hid hu
  have HB := Lib.hid (BlockAt.new w #[.int .i64 k, .slice ab lb cb, .slice au lu cu] 28)
  have HK := Lib.hid ((Kept.refl w).alloc (.cells #[.int .i64 k, .slice ab lb cb, .slice au lu cu] 28))
  obtain ⟨R, hR⟩ : ∃ R, R = mfB ⟨k, bs, us⟩ := ⟨_, rfl⟩
  rw [← hR]
  have HR := Lib.hid (show R = ((decide (0 ≤ k) && decide (k ≤ 255)) && (decide (lb + lu ≤ 20) && (dgB bs && dgB us))) by rw [hR, mfB_ref, hb.len_eq, hu.len_eq])
  clear hb hu hR
  obtain ⟨b1, hb1⟩ : ∃ b1, b1 = (decide (0 ≤ k) && decide (k ≤ 255)) := ⟨_, rfl⟩
  rw [← hb1] at HR
  have hnm := fun w => mnum_any k 255 w
  rw [← hb1] at hnm
  have HNM := Lib.hid hnm
  clear hb1 hnm
  go_enter Try.func65, Try.ntmps65
  go_upto_region 1 with (fail)
  generalize w.alloc (.cells #[.int .i64 k, .slice ab lb cb, .slice au lu cu] 28) = w1 at *
  obtain ⟨a0, a1, a2⟩ := box3 HB.out
  go_wp2_with fail
  refine (HNM.out _).mono ?_
  rintro e w2 ⟨rfl, rfl⟩
  cases b1 with
  | false =>
    have HE := Lib.hid (show R = false by rw [HR.out]; rfl)
    go_wp2
    go_ret
    exact ⟨retb HE.out, HK.out⟩
  | true =>
    by_cases h20 : lb + lu ≤ 20
    · have d1 : decide ((lb : Int) + (lu : Int) ≤ 20) = true := decide_eq_true (by omega)
      have HR2 := Lib.hid (show R = (dgB bs && dgB us) by rw [HR.out, decide_eq_true h20]; rfl)
      clear HR
      go_wp2_with fail
      refine (rdig_any ab lb cb bs _ (HBS.out.kept HK.out)).mono ?_
      rintro e w3 ⟨rfl, hk3⟩
      have HK3 := Lib.hid (HK.out.trans hk3)
      clear a0 a1 a2
      obtain ⟨a0, a1, a2⟩ := box3k HB.out hk3
      clear hk3
      cases hz : dgB bs with
      | false =>
        have HE := Lib.hid (show R = false by rw [HR2.out, hz]; rfl)
        clear hz HR2
        go_wp2
        go_ret
        exact ⟨retb HE.out, HK3.out⟩
      | true =>
        have HE := Lib.hid (show R = dgB us by rw [HR2.out, hz]; rfl)
        clear hz HR2
        go_wp2_with fail
        refine (rdig_any au lu cu us _ (HUS.out.kept HK3.out)).mono ?_
        rintro e w4 ⟨rfl, hk4⟩
        have HK4 := Lib.hid (HK3.out.trans hk4)
        clear a0 a1 a2 hk4
        generalize dgB us = B at *
        go_wp2
        go_ret
        exact ⟨retb HE.out, HK4.out⟩
    · have d1 : decide ((lb : Int) + (lu : Int) ≤ 20) = false := decide_eq_false (by omega)
      have HE := Lib.hid (show R = false by rw [HR.out, decide_eq_false h20]; rfl)
      clear HR
      go_wp2
      go_ret
      exact ⟨retb HE.out, HK.out⟩
end Go.Proofs.Ythdlmpgojoaijaa
