/- span.Parts, where it refuses (no conditions). -/
import Derived.Test.YtlncjheifkbomaaSpn1
import Derived.Test.YtlncjheifkbomaaStd
namespace Go.Proofs.Ytlncjheifkbomaa
open Go.RowKit
/-- what may be asked of span.Parts -/
def spB (k m s n f many : Int) : Bool := stB k m s n && (decide (0 ≤ f) && decide (f ≤ n) && decide (0 ≤ many))
set_option maxRecDepth 100000 in
set_option maxHeartbeats 2000000 in
theorem sparts_bad (k m s n f many : Int) (h : spB k m s n f many = false) (w : World) :
    Calls Try.prog 30 #[.agg #[.int .i64 k, .int .i64 m, .int .i64 s], .int .i64 n, .int .i64 f, .int .i64 many] w fun e w' => e = .returned (.tuple #[.slice none 0 0, .int .i64 1]) ∧ Kept w w' := by
  have HB := Lib.hid ((BlockAt.new w #[.int .i64 k, .int .i64 m, .int .i64 s] 31).kept ((Kept.refl _).alloc (.cells #[.int .i64 f] 3)))
  have HF := Lib.hid (BlockAt.new1 w #[.int .i64 f] 3 (.cells #[.int .i64 k, .int .i64 m, .int .i64 s] 31))
  have HK := Lib.hid (((Kept.refl w).alloc (.cells #[.int .i64 k, .int .i64 m, .int .i64 s] 31)).alloc (.cells #[.int .i64 f] 3))
  have HST := Lib.hid (fun u => stripes_any k m s n u)
  unfold spB at h
  by_cases hs : stB k m s n = true
  · rw [hs, Bool.true_and] at h
    have e1 : stE k m s n = 0 := by unfold stE; rw [if_pos hs]
    rw [e1] at HST
    generalize stN k m s n = N at HST
    clear e1 hs
    by_cases h1 : f < 0
    · have hd1 : decide (f < 0) = true := decide_eq_true h1
      clear h
      go_enter Try.func30, Try.ntmps30
      go_upto_region 1 with (fail)
      generalize (w.alloc (.cells #[.int .i64 k, .int .i64 m, .int .i64 s] 31)).alloc (.cells #[.int .i64 f] 3) = w1 at *
      obtain ⟨a0, a1, a2⟩ := box3c HB.out
      go_step3
      go_wp2_with fail
      refine (HST.out _).mono ?_
      rintro e w2 ⟨rfl, hk2⟩
      have c0 := box1 (HF.out.kept hk2)
      have HK2 := Lib.hid (HK.out.trans hk2)
      clear a0 a1 a2 hk2 HB HF
      go_wp2
      rw [Exit.noGoto_ret]
      go_ret2
      exact ⟨rfl, HK2.out⟩
    · have hd1 : decide (f < 0) = false := decide_eq_false h1
      by_cases h2 : n < f
      · have hd2 : decide (n < f) = true := decide_eq_true h2
        clear h
        go_enter Try.func30, Try.ntmps30
        go_upto_region 1 with (fail)
        generalize (w.alloc (.cells #[.int .i64 k, .int .i64 m, .int .i64 s] 31)).alloc (.cells #[.int .i64 f] 3) = w1 at *
        obtain ⟨a0, a1, a2⟩ := box3c HB.out
        go_step3
        go_wp2_with fail
        refine (HST.out _).mono ?_
        rintro e w2 ⟨rfl, hk2⟩
        have c0 := box1 (HF.out.kept hk2)
        have HK2 := Lib.hid (HK.out.trans hk2)
        clear a0 a1 a2 hk2 HB HF
        go_wp2
        rw [Exit.noGoto_ret]
        go_ret2
        exact ⟨rfl, HK2.out⟩
      · have hd2 : decide (n < f) = false := decide_eq_false h2
        have h3 : many < 0 := by
          rw [decide_eq_true (show 0 ≤ f by omega), decide_eq_true (show f ≤ n by omega)] at h
          have := of_decide_eq_false h
          omega
        have hd3 : decide (many < 0) = true := decide_eq_true h3
        clear h
        go_enter Try.func30, Try.ntmps30
        go_upto_region 1 with (fail)
        generalize (w.alloc (.cells #[.int .i64 k, .int .i64 m, .int .i64 s] 31)).alloc (.cells #[.int .i64 f] 3) = w1 at *
        obtain ⟨a0, a1, a2⟩ := box3c HB.out
        go_step3
        go_wp2_with fail
        refine (HST.out _).mono ?_
        rintro e w2 ⟨rfl, hk2⟩
        have c0 := box1 (HF.out.kept hk2)
        have HK2 := Lib.hid (HK.out.trans hk2)
        clear a0 a1 a2 hk2 HB HF
        go_wp2
        rw [Exit.noGoto_ret]
        go_ret2
        exact ⟨rfl, HK2.out⟩
  · have e1 : stE k m s n = 1 := by unfold stE; rw [if_neg hs]
    rw [e1] at HST
    generalize stN k m s n = N at HST
    clear e1 hs h
    go_enter Try.func30, Try.ntmps30
    go_upto_region 1 with (fail)
    generalize (w.alloc (.cells #[.int .i64 k, .int .i64 m, .int .i64 s] 31)).alloc (.cells #[.int .i64 f] 3) = w1 at *
    obtain ⟨a0, a1, a2⟩ := box3c HB.out
    go_step3
    go_wp2_with fail
    refine (HST.out _).mono ?_
    rintro e w2 ⟨rfl, hk2⟩
    have c0 := box1 (HF.out.kept hk2)
    have HK2 := Lib.hid (HK.out.trans hk2)
    clear a0 a1 a2 hk2 HB HF
    go_wp2
    rw [Exit.noGoto_ret]
    go_ret2
    exact ⟨rfl, HK2.out⟩
end Go.Proofs.Ytlncjheifkbomaa
