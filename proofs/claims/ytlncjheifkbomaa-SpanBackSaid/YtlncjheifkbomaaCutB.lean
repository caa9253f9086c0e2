/- cut.Stripes and the reference's: how many stripes a text takes; how heavy an argument of layer 4 is (no conditions but that lengths fit). -/
import Derived.Test.YtlncjheifkbomaaCutA
import Derived.Test.YtlncjheifkbomaaLater
namespace Go.Proofs.Ytlncjheifkbomaa
open Go.RowKit

set_option maxRecDepth 100000 in
theorem whole_any (k m s p : Int) (h1 : 1 ≤ k ∧ k ≤ 8) (h2 : 1 ≤ s ∧ s ≤ 120) (hp : k * s = p) (w : World) : Calls Try.prog 41 #[.agg #[.int .i64 k, .int .i64 m, .int .i64 s]] w fun e w' => e = .returned (.int .i64 p) ∧ Kept w w' := by
  have HK := Lib.hid ((Kept.refl w).alloc (.cells #[.int .i64 k, .int .i64 m, .int .i64 s] 31))
  have hb : 1 ≤ k * s ∧ k * s ≤ 960 := by
    have e1 := Int.mul_le_mul h1.2 h2.2 (by omega) (show (0 : Int) ≤ 8 by decide)
    have e2 := Int.mul_le_mul h1.1 h2.1 (by decide) (show 0 ≤ k by omega)
    exact ⟨by simpa using e2, by simpa using e1⟩
  go_enter Try.func41, Try.ntmps41
  go_wp2
  go_ret
  exact ⟨by rw [← hp]; rfl, HK.out⟩
theorem ks_bounds {k m s : Int} (h : shpB k m s = true) : 1 ≤ k * s ∧ k * s ≤ 960 := by
  obtain ⟨h1, h2, h3, h4, h5, h6⟩ := shpB_true h
  have e1 := Int.mul_le_mul h2 h6 (by omega) (show (0 : Int) ≤ 8 by decide)
  have e2 := Int.mul_le_mul h1 h5 (by decide) (show 0 ≤ k by omega)
  exact ⟨by simpa using e2, by simpa using e1⟩
/-- may so many bytes of this shape be? -/
def stB (k m s n : Int) : Bool := shpB k m s && (decide (0 ≤ n) && decide (n ≤ 2000))
def stE (k m s n : Int) : Int := if stB k m s n = true then 0 else 1
def stN (k m s n : Int) : Int := if stB k m s n = true then (n + k * s - 1) / (k * s) else 0
set_option maxRecDepth 100000 in
set_option maxHeartbeats 1000000 in
theorem stripes_any (k m s n : Int) (w : World) : Calls Try.prog 12 #[.agg #[.int .i64 k, .int .i64 m, .int .i64 s], .int .i64 n] w fun e w' => e = .returned (.tuple #[.int .i64 (stN k m s n), .int .i64 (stE k m s n)]) ∧ Kept w w' := by
  have hck := fun w => code_check k m s w
  have HB := Lib.hid (BlockAt.new w #[.int .i64 k, .int .i64 m, .int .i64 s] 31)
  have HK := Lib.hid ((Kept.refl w).alloc (.cells #[.int .i64 k, .int .i64 m, .int .i64 s] 31))
  have HCK := Lib.hid hck
  clear hck
  by_cases hs : shpB k m s = true
  · have hE : shpE k m s = 0 := by unfold shpE; rw [if_pos hs]
    rw [hE] at HCK
    clear hE
    by_cases hn : 0 ≤ n ∧ n ≤ 2000
    · have hok : stB k m s n = true := by unfold stB; simp [hs, hn]
      have hb := ks_bounds hs
      obtain ⟨h1, h2, h3, h4, h5, h6⟩ := shpB_true hs
      obtain ⟨p, hp⟩ : ∃ p, k * s = p := ⟨_, rfl⟩
      have hwh := fun w => whole_any k m s p ⟨h1, h2⟩ ⟨h5, h6⟩ hp w
      have hN : stN k m s n = (n + p - 1) / p := by unfold stN; rw [if_pos hok, hp]
      have hE2 : stE k m s n = 0 := by unfold stE; rw [if_pos hok]
      rw [hp] at hb
      obtain ⟨m1, hm1⟩ : ∃ m1, n + p = m1 := ⟨_, rfl⟩
      obtain ⟨m2, hm2⟩ : ∃ m2, m1 - 1 = m2 := ⟨_, rfl⟩
      obtain ⟨q, hq⟩ : ∃ q, m2 / p = q := ⟨_, rfl⟩
      have w1 : IntKind.i64.wrap (n + p) = m1 := by rw [IntWalk.i64_in _ (by omega)]; exact hm1
      have w2 : IntKind.i64.wrap (m1 - 1) = m2 := by rw [IntWalk.i64_in _ (by omega)]; exact hm2
      have hq2 : m2.tdiv p = q := by rw [Int.tdiv_eq_ediv_of_nonneg (by omega)]; exact hq
      have hqb : 0 ≤ q ∧ q ≤ m2 := by rw [← hq]; exact ⟨Int.ediv_nonneg (by omega) (by omega), Int.ediv_le_self _ (by omega)⟩
      have w3 : IntKind.i64.wrap q = q := IntWalk.i64_in _ (by omega)
      have hp0 : (p == 0) = false := by rw [beq_eq_false_iff_ne]; omega
      have HWH := Lib.hid hwh
      have HF := Lib.hid (show stN k m s n = q ∧ stE k m s n = 0 from ⟨by rw [hN, hm1, hm2, hq], hE2⟩)
      have hn0 : 0 ≤ n := hn.1
      have hn1 : n ≤ 2000 := hn.2
      clear hwh hN hE2 hok hs hp hm1 hm2 hq hn
      go_enter Try.func12, Try.ntmps12
      go_wp2_with fail
      generalize w.alloc (.cells #[.int .i64 k, .int .i64 m, .int .i64 s] 31) = w1 at *
      obtain ⟨a0, a1, a2⟩ := box3c HB.out
      go_wp2_with fail
      refine (HCK.out _).mono ?_
      rintro e w2' ⟨rfl, hk2⟩
      obtain ⟨b0, b1, b2⟩ := box3c (HB.out.kept hk2)
      have HK2 := Lib.hid (HK.out.trans hk2)
      clear a0 a1 a2 hk2
      have l0 := later_cell b0
      have l1 := later_cell b1
      have l2 := later_cell b2
      go_wp2_with fail
      refine region_later (by kernel_rfl) (by kernel_rfl) ?_
      repeat (go_big_quiet_step ((go_at_call 41; exact later_call (HWH.out _))))
      refine wpQuiet_nil ?_
      intro _ hw'
      obtain ⟨nq, hw''⟩ := hw'
      subst hw''
      have HK3 := Lib.hid (HK2.out.trans nq.2)
      clear l0 l1 l2 b0 b1 b2
      go_wp2
      go_ret2
      exact ⟨by rw [HF.out.1, HF.out.2]; rfl, HK3.out⟩
    · have hno : ¬ stB k m s n = true := by unfold stB; simp [hs]; omega
      have HF := Lib.hid (show stN k m s n = 0 ∧ stE k m s n = 1 from ⟨by unfold stN; rw [if_neg hno], by unfold stE; rw [if_neg hno]⟩)
      clear hno hs
      by_cases hn0 : n < 0
      · go_enter Try.func12, Try.ntmps12
        go_wp2_with fail
        refine (HCK.out _).mono ?_
        rintro e w2' ⟨rfl, hk2⟩
        have HK2 := Lib.hid (HK.out.trans hk2)
        clear hk2 hn
        go_wp2
        go_ret2
        exact ⟨by rw [HF.out.1, HF.out.2]; rfl, HK2.out⟩
      · have hd : decide (n < 0) = false := decide_eq_false hn0
        have hn1 : 2000 < n := by omega
        go_enter Try.func12, Try.ntmps12
        go_wp2_with fail
        refine (HCK.out _).mono ?_
        rintro e w2' ⟨rfl, hk2⟩
        have HK2 := Lib.hid (HK.out.trans hk2)
        clear hk2 hn
        go_wp2
        go_ret2
        exact ⟨by rw [HF.out.1, HF.out.2]; rfl, HK2.out⟩
  · have hE : shpE k m s = 1 := by unfold shpE; rw [if_neg hs]
    rw [hE] at HCK
    have hno : ¬ stB k m s n = true := by unfold stB; simp [hs]
    have HF := Lib.hid (show stN k m s n = 0 ∧ stE k m s n = 1 from ⟨by unfold stN; rw [if_neg hno], by unfold stE; rw [if_neg hno]⟩)
    clear hE hno hs
    go_enter Try.func12, Try.ntmps12
    go_wp2_with fail
    refine (HCK.out _).mono ?_
    rintro e w2' ⟨rfl, hk2⟩
    have HK2 := Lib.hid (HK.out.trans hk2)
    clear hk2
    go_wp2
    go_ret2
    exact ⟨by rw [HF.out.1, HF.out.2]; rfl, HK2.out⟩
set_option maxRecDepth 100000 in
theorem stripes_ref (k m s n : Int) (h : stB k m s n = true) (w : World) : Calls Try.prog 15 #[.agg #[.int .i64 k, .int .i64 m, .int .i64 s], .int .i64 n] w fun e w' => e = .returned (.int .i64 (stN k m s n)) ∧ Kept w w' := by
  have HK := Lib.hid ((Kept.refl w).alloc (.cells #[.int .i64 k, .int .i64 m, .int .i64 s] 31))
  have hN : stN k m s n = (n + k * s - 1) / (k * s) := by unfold stN; rw [if_pos h]
  have h' : shpB k m s = true ∧ 0 ≤ n ∧ n ≤ 2000 := by unfold stB at h; simpa using h
  obtain ⟨hs, hn0, hn1⟩ := h'
  have hb := ks_bounds hs
  have hsh := shpB_true hs
  obtain ⟨p, hp⟩ : ∃ p, k * s = p := ⟨_, rfl⟩
  rw [hp] at hb hN
  have hp0 : (p == 0) = false := by rw [beq_eq_false_iff_ne]; omega
  have HN := Lib.hid hN
  clear h hs hN hsh
  go_enter Try.func15, Try.ntmps15
  go_wp2
  go_ret
  exact ⟨by rw [HN.out]; rfl, HK.out⟩
end Go.Proofs.Ytlncjheifkbomaa
