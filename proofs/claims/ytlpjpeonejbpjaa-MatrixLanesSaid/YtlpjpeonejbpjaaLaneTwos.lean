/- The walk of the law LaneTwos: it answers true and changes nothing that was there (no conditions). -/
import Derived.Test.YtlpjpeonejbpjaaLaneBack
import Derived.Test.YtlpjpeonejbpjaaLater
namespace Go.Proofs.Ytlpjpeonejbpjaa
open Go.ChangeShapes Go.WideShapes Go.ChangeAt Go.RowKit Go.Joins

theorem two_any (a b : ByteArray) (w : World) : Calls Try.prog 21 #[.string a, .string b] w fun e w' => e = .returned (.int .i64 (fit2 a b)) ∧ w = w' := by
  unfold fit2
  go_enter Try.func21, Try.ntmps21
  by_cases h1 : 8192 < a.size
  · rw [if_pos (Or.inl h1)]
    go_wp2
    go_ret
    exact ⟨rfl, rfl⟩
  · by_cases h2 : 8192 < b.size
    · rw [if_pos (Or.inr h2)]
      go_wp2
      go_ret
      exact ⟨rfl, rfl⟩
    · rw [if_neg (by omega)]
      by_cases h3 : b.size = a.size
      · rw [if_neg (by omega)]
        have hd : ((a.size : Int) != (b.size : Int)) = false := by simp [h3]
        clear h3
        go_wp2
        go_ret
        exact ⟨rfl, rfl⟩
      · rw [if_pos h3]
        have hd : ((a.size : Int) != (b.size : Int)) = true := by rw [bne_iff_ne]; omega
        clear h3
        go_wp2
        go_ret
        exact ⟨rfl, rfl⟩

theorem fit2_zero (a b : ByteArray) (h : fit2 a b = 0) : a.size ≤ 8192 ∧ b.size = a.size := by
  unfold fit2 at h
  by_cases h1 : 8192 < a.size ∨ 8192 < b.size
  · rw [if_pos h1] at h; cases h
  · rw [if_neg h1] at h
    by_cases h2 : b.size = a.size
    · exact ⟨by omega, h2⟩
    · rw [if_pos h2] at h; cases h
theorem zero_fit2 (a b : ByteArray) (h1 : a.size ≤ 8192) (h2 : b.size = a.size) : fit2 a b = 0 := by
  unfold fit2
  rw [if_neg (by omega), if_neg (by omega)]
theorem two_zero (a b : ByteArray) (h1 : a.size ≤ 8192) (h2 : b.size = a.size) (w : World) : Calls Try.prog 21 #[.string a, .string b] w fun e w' => e = .returned (.int .i64 0) ∧ w = w' := by
  have h := two_any a b w
  rw [zero_fit2 a b h1 h2] at h
  exact h
theorem add_lane_bad' (a b : ByteArray) (ha : a.size ≤ 9223372036854775807) (hb : b.size ≤ 9223372036854775807) (h : fit2 a b ≠ 0) (w : World) :
    Calls Try.prog 19 #[.string a, .string b] w fun e w' => e = .returned (.tuple #[.string ⟨#[]⟩, .int .i64 (fit2 a b)]) ∧ Kept w w' := add_lane_bad a b ha hb h w
theorem muladd_bad' (a b : ByteArray) (c : Nat) (ha : a.size ≤ 9223372036854775807) (hb : b.size ≤ 9223372036854775807) (h : fit2 a b ≠ 0) (w : World) :
    Calls Try.prog 20 #[.string a, .string b, .int .u8 c] w fun e w' => e = .returned (.tuple #[.string ⟨#[]⟩, .int .i64 (fit2 a b)]) ∧ Kept w w' := muladd_bad a b c ha hb h w
theorem scale_long' (a : ByteArray) (c : Nat) (ha : a.size ≤ 9223372036854775807) (hl : 8192 < a.size) (w : World) :
    Calls Try.prog 16 #[.string a, .int .u8 c] w fun e w' => e = .returned (.tuple #[.string ⟨#[]⟩, .int .i64 2]) ∧ Kept w w' := scale_long a c ha hl w

attribute [local irreducible] scaledS addedS in
set_option maxRecDepth 100000 in
set_option maxHeartbeats 16000000 in
theorem laneTwos_walk {W : World} {v : Value} {a : Option Addr} {l cap : Nat} {ss : List ByteArray} {c : Nat} {n : Int} (h : AskL W v a l cap ss c n) :
    Calls Try.prog 3 #[v] W fun e W' => e = .returned (.bool true) ∧ Below W.heap.size W W' := by
  obtain ⟨rfl, hS, hc, hn⟩ := h
  clear hn
  have hle := hS.le
  have HS := Lib.hid (hS.kept ((Kept.refl W).alloc (.cells #[.slice a l cap, .int .u8 (c : Int), .int .i64 n] 24)))
  clear hS
  have hask : ∀ wr, Kept (W.alloc (.cells #[.slice a l cap, .int .u8 (c : Int), .int .i64 n] 24)) wr → wr.cell? ⟨W.heap.size, 0, none⟩ = some (.slice a l cap) ∧ wr.cell? ⟨W.heap.size, 1, none⟩ = some (.int .u8 (c : Int)) :=
    fun wr h => ⟨h.cell (by simp) (cell_new _ _ _ 0), h.cell (by simp) (cell_new _ _ _ 1)⟩
  have hend : ∀ wr, Kept (W.alloc (.cells #[.slice a l cap, .int .u8 (c : Int), .int .i64 n] 24)) wr → Below W.heap.size W wr := fun wr h => ((Kept.refl W).alloc _).trans h
  have HE := Lib.hid hend
  have HA := Lib.hid hask
  clear hend hask
  go_enter Try.func3, Try.ntmps3
  go_wp2_with fail
  refine (heavy2_any _ _ _ ss _ _ _ HS.out).mono ?_
  rintro e w1 ⟨⟨b, rfl⟩, hB⟩
  have HB := Lib.hid hB
  clear hB
  cases b
  rotate_left
  · go_wp2
    go_ret
    exact ⟨rfl, HE.out _ HB.out⟩
  go_wp2
  go_loopw [3] (fun i wr => ∃ k : Nat, k ≤ 5 ∧ i = .int .i64 k ∧ Kept w1 wr) (fun i _ => 5 - (intOf i).toNat)
  case atStart => exact ⟨0, by omega, rfl, Kept.refl _⟩
  case round =>
    obtain ⟨k, hk, rfl, hK⟩ := hrel
    obtain ⟨hca, hcc⟩ := HA.out wr (HB.out.trans hK)
    have hSr := HS.out.kept (HB.out.trans hK)
    have HK := Lib.hid hK
    clear hK
    by_cases hlt : k < l
    · by_cases h5 : k < 5
      · obtain ⟨bb, off, ha, hcell⟩ := hSr.cells
        obtain rfl := ha (by omega)
        obtain ⟨hbb, hc0⟩ := hcell k hlt
        have hs0 := hSr.size k hlt
        generalize ss.getD k ByteArray.empty = s at hc0 hs0
        have HCS := Lib.hid hcell
        have HSZ := Lib.hid (fun m hm => hSr.size m hm)
        clear hcell hSr ha hbb
        obtain ⟨wo, rfl⟩ : ∃ wo, wo = wr := ⟨_, rfl⟩
        have hd5 : decide ((k : Int) < 5) = true := decide_eq_true (by omega)
        have HC := Lib.hid (fun (u : World) (hu : Kept wo u) => And.intro (hu.cell (cell_lt hca) hca) (And.intro (hu.cell (cell_lt hcc) hcc) (hu.cell (cell_lt hc0) hc0)))
        by_cases hbig : 8192 < s.size
        · have hl0 := later_cell hca
          have hl1 := later_cell hcc
          have hl2 := later_cell hc0
          go_wp2_with fail
          clear hca hcc hc0
          refine region_later (by kernel_rfl) (by kernel_rfl) ?_
          repeat (go_big_quiet_step ((go_at_call 16; exact later_call (scale_long' s c hs0 hbig _))))
          refine wpQuiet_nil ?_
          intro _ hw'
          obtain ⟨nq, hw''⟩ := hw'
          subst hw''
          clear hl0 hl1 hl2
          have hK := nq.2
          generalize nq.1 = w2 at hK ⊢
          obtain ⟨hca, hcc, hc0⟩ := HC.out w2 hK
          have HK2 := Lib.hid hK
          clear hK hcc
          go_wp2_with (go_at_call 18; refine (num2_any _ _).mono ?_; rintro e w' ⟨rfl, rfl⟩)
          go_loopw [8] (fun i wr => ∃ m : Nat, m ≤ 5 ∧ i = .int .i64 m ∧ Kept w2 wr) (fun i _ => 5 - (intOf i).toNat)
          case atStart => exact ⟨0, by omega, rfl, Kept.refl _⟩
          case round =>
            obtain ⟨m, hm, rfl, hK⟩ := hrel
            obtain ⟨hca, hcc, hc0⟩ := HC.out wr (HK2.out.trans hK)
            have HK3 := Lib.hid (HK2.out.trans hK)
            have HK4 := Lib.hid hK
            clear hK
            by_cases hml : m < l
            · by_cases hm5 : m < 5
              · have hc1 := HK3.out.cell (HCS.out m hml).1 (HCS.out m hml).2
                have hs1 := HSZ.out m hml
                generalize ss.getD m ByteArray.empty = t at hc1 hs1
                have hdm : decide ((m : Int) < 5) = true := decide_eq_true (by omega)
                have HD := Lib.hid (fun (u : World) (hu : Kept wr u) => And.intro (hu.cell (cell_lt hca) hca) (And.intro (hu.cell (cell_lt hcc) hcc) (And.intro (hu.cell (cell_lt hc0) hc0) (hu.cell (cell_lt hc1) hc1))))
                by_cases hfit : fit2 s t = 0
                · obtain ⟨hf1, hf2⟩ := fit2_zero s t hfit
                  omega
                · have hfb : (fit2 s t == 0) = false := by rw [beq_eq_false_iff_ne]; exact hfit
                  have hl0 := later_cell hca
                  have hl1 := later_cell hcc
                  have hl2 := later_cell hc0
                  have hl3 := later_cell hc1
                  go_wp2_with fail
                  clear hca hcc hc0 hc1
                  refine region_later (by kernel_rfl) (by kernel_rfl) ?_
                  repeat (go_big_quiet_step ((go_at_call 19; exact later_call (add_lane_bad' s t hs0 hs1 hfit _))))
                  refine wpQuiet_nil ?_
                  intro _ hw'
                  obtain ⟨nq, hw''⟩ := hw'
                  subst hw''
                  clear hl0 hl1 hl2 hl3
                  have hK := nq.2
                  generalize nq.1 = x0 at hK ⊢
                  have HX := Lib.hid hK
                  clear hK
                  obtain ⟨hca, hcc, hc0, hc1⟩ := HD.out x0 HX.out
                  have hl0 := later_cell hca
                  have hl1 := later_cell hcc
                  have hl2 := later_cell hc0
                  have hl3 := later_cell hc1
                  go_wp2_with fail
                  clear hca hcc hc0 hc1
                  refine region_later (by kernel_rfl) (by kernel_rfl) ?_
                  repeat (go_big_quiet_step ((go_at_call 20; exact later_call (muladd_bad' s t c hs0 hs1 hfit _))))
                  refine wpQuiet_nil ?_
                  intro _ hw'
                  obtain ⟨nq, hw''⟩ := hw'
                  subst hw''
                  clear hl0 hl1 hl2 hl3
                  have hK := nq.2
                  generalize nq.1 = x1 at hK ⊢
                  have HX' := Lib.hid (HX.out.trans hK)
                  clear HX
                  have HX := Lib.hid HX'.out
                  clear HX'
                  clear hK
                  obtain ⟨hca, hcc, hc0, hc1⟩ := HD.out x1 HX.out
                  have hl0 := later_cell hca
                  have hl1 := later_cell hcc
                  have hl2 := later_cell hc0
                  have hl3 := later_cell hc1
                  go_wp2_with fail
                  clear hca hcc hc0 hc1
                  refine region_later (by kernel_rfl) (by kernel_rfl) ?_
                  repeat (go_big_quiet_step ((go_at_call 21; exact later_same (two_any s t _))))
                  refine wpQuiet_nil ?_
                  intro _ hw'
                  obtain ⟨nq, hw''⟩ := hw'
                  subst hw''
                  clear hl0 hl1 hl2 hl3
                  have hK := nq.2
                  generalize nq.1 = x2 at hK ⊢
                  have HX' := Lib.hid (HX.out.trans hK)
                  clear HX
                  have HX := Lib.hid HX'.out
                  clear HX'
                  clear hK
                  obtain ⟨hca, hcc, hc0, hc1⟩ := HD.out x2 HX.out
                  clear hca hcc hc0 hc1
                  go_wp2_with (go_at_call 18; refine (num2_any _ _).mono ?_; rintro e w' ⟨rfl, rfl⟩)
                  go_roundw
                  case rel => exact ⟨m + 1, by omega, by go_num, HK4.out.trans HX.out⟩
                  case measure => simp [intOf]; omega
              · have hdm : decide ((m : Int) < 5) = false := decide_eq_false (by omega)
                clear hcc hc0
                go_wp2
                go_roundw
                case rel => exact ⟨k + 1, by omega, by go_num, HK.out.trans HK3.out⟩
                case measure => simp [intOf]; omega
            · clear hcc hc0
              go_wp2
              go_roundw
              case rel => exact ⟨k + 1, by omega, by go_num, HK.out.trans HK3.out⟩
              case measure => simp [intOf]; omega
        · have hsm : s.size ≤ 8192 := by omega
          have hl0 := later_cell hca
          have hl1 := later_cell hcc
          have hl2 := later_cell hc0
          go_wp2_with fail
          clear hca hcc hc0
          refine region_later (by kernel_rfl) (by kernel_rfl) ?_
          repeat (go_big_quiet_step ((go_at_call 16; exact later_call (scale_any s c hc hsm _))))
          refine wpQuiet_nil ?_
          intro _ hw'
          obtain ⟨nq, hw''⟩ := hw'
          subst hw''
          clear hl0 hl1 hl2
          have hK := nq.2
          generalize nq.1 = v2 at hK ⊢
          obtain ⟨hca, hcc, hc0⟩ := HC.out v2 hK
          have HK1 := Lib.hid hK
          clear hK
          have hl0 := later_cell hca
          have hl1 := later_cell hcc
          have hl2 := later_cell hc0
          go_wp2_with fail
          clear hca hcc hc0
          refine region_later (by kernel_rfl) (by kernel_rfl) ?_
          repeat (go_big_quiet_step ((go_at_call 17; exact later_call (refscaled_any s c hc hs0 _))))
          refine wpQuiet_nil ?_
          intro _ hw'
          obtain ⟨nq, hw''⟩ := hw'
          subst hw''
          clear hl0 hl1 hl2
          have hK := nq.2
          generalize nq.1 = w2 at hK ⊢
          have HK2 := Lib.hid (HK1.out.trans hK)
          clear hK HK1
          go_wp2_with (go_at_call 18; refine (num2_any _ _).mono ?_; rintro e w' ⟨rfl, rfl⟩)
          go_loopw [8] (fun i wr => ∃ m : Nat, m ≤ 5 ∧ i = .int .i64 m ∧ Kept w2 wr) (fun i _ => 5 - (intOf i).toNat)
          case atStart => exact ⟨0, by omega, rfl, Kept.refl _⟩
          case round =>
            obtain ⟨m, hm, rfl, hK⟩ := hrel
            obtain ⟨hca, hcc, hc0⟩ := HC.out wr (HK2.out.trans hK)
            have HK3 := Lib.hid (HK2.out.trans hK)
            have HK4 := Lib.hid hK
            clear hK
            by_cases hml : m < l
            · by_cases hm5 : m < 5
              · have hc1 := HK3.out.cell (HCS.out m hml).1 (HCS.out m hml).2
                have hs1 := HSZ.out m hml
                generalize ss.getD m ByteArray.empty = t at hc1 hs1
                have hdm : decide ((m : Int) < 5) = true := decide_eq_true (by omega)
                have HD := Lib.hid (fun (u : World) (hu : Kept wr u) => And.intro (hu.cell (cell_lt hca) hca) (And.intro (hu.cell (cell_lt hcc) hcc) (And.intro (hu.cell (cell_lt hc0) hc0) (hu.cell (cell_lt hc1) hc1))))
                by_cases hfit : fit2 s t = 0
                · obtain ⟨hf1, hf2⟩ := fit2_zero s t hfit
                  have hf3 : s.size ≤ t.size := by omega
                  have hf4 : s.size ≤ (scaledS t c).size := by rw [size_scaledS]; exact hf3
                  have hf5 : (scaledS t c).size ≤ 9223372036854775807 := by rw [size_scaledS]; exact hs1
                  clear hfit
                  have hl0 := later_cell hca
                  have hl1 := later_cell hcc
                  have hl2 := later_cell hc0
                  have hl3 := later_cell hc1
                  go_wp2_with fail
                  clear hca hcc hc0 hc1
                  refine region_later (by kernel_rfl) (by kernel_rfl) ?_
                  repeat (go_big_quiet_step ((go_at_call 19; exact later_call (add_lane s t hf1 hf2 _))))
                  refine wpQuiet_nil ?_
                  intro _ hw'
                  obtain ⟨nq, hw''⟩ := hw'
                  subst hw''
                  clear hl0 hl1 hl2 hl3
                  have hK := nq.2
                  generalize nq.1 = x0 at hK ⊢
                  have HX := Lib.hid hK
                  clear hK
                  obtain ⟨hca, hcc, hc0, hc1⟩ := HD.out x0 HX.out
                  have hl0 := later_cell hca
                  have hl1 := later_cell hcc
                  have hl2 := later_cell hc0
                  have hl3 := later_cell hc1
                  go_wp2_with fail
                  clear hca hcc hc0 hc1
                  refine region_later (by kernel_rfl) (by kernel_rfl) ?_
                  repeat (go_big_quiet_step ((go_at_call 20; exact later_call (muladd_any s t c hc hf1 hf2 _))))
                  refine wpQuiet_nil ?_
                  intro _ hw'
                  obtain ⟨nq, hw''⟩ := hw'
                  subst hw''
                  clear hl0 hl1 hl2 hl3
                  have hK := nq.2
                  generalize nq.1 = x1 at hK ⊢
                  have HX' := Lib.hid (HX.out.trans hK)
                  clear HX
                  have HX := Lib.hid HX'.out
                  clear HX'
                  clear hK
                  obtain ⟨hca, hcc, hc0, hc1⟩ := HD.out x1 HX.out
                  have hl0 := later_cell hca
                  have hl1 := later_cell hcc
                  have hl2 := later_cell hc0
                  have hl3 := later_cell hc1
                  go_wp2_with fail
                  clear hca hcc hc0 hc1
                  refine region_later (by kernel_rfl) (by kernel_rfl) ?_
                  repeat (go_big_quiet_step ((go_at_call 21; exact later_same (two_zero s t hf1 hf2 _))))
                  refine wpQuiet_nil ?_
                  intro _ hw'
                  obtain ⟨nq, hw''⟩ := hw'
                  subst hw''
                  clear hl0 hl1 hl2 hl3
                  have hK := nq.2
                  generalize nq.1 = x2 at hK ⊢
                  have HX' := Lib.hid (HX.out.trans hK)
                  clear HX
                  have HX := Lib.hid HX'.out
                  clear HX'
                  clear hK
                  obtain ⟨hca, hcc, hc0, hc1⟩ := HD.out x2 HX.out
                  have hl0 := later_cell hca
                  have hl1 := later_cell hcc
                  have hl2 := later_cell hc0
                  have hl3 := later_cell hc1
                  go_wp2_with fail
                  clear hca hcc hc0 hc1
                  refine region_later (by kernel_rfl) (by kernel_rfl) ?_
                  repeat (go_big_quiet_step (first | (go_at_call 22; exact later_call (refadded_any s _ (by first | exact hf3 | exact hf4) (by first | exact hs1 | exact hf5) _)) | (go_at_call 17; exact later_call (refscaled_any t c hc hs1 _))))
                  refine wpQuiet_nil ?_
                  intro _ hw'
                  obtain ⟨nq, hw''⟩ := hw'
                  subst hw''
                  clear hl0 hl1 hl2 hl3
                  have hK := nq.2
                  generalize nq.1 = x3 at hK ⊢
                  have HX' := Lib.hid (HX.out.trans hK)
                  clear HX
                  have HX := Lib.hid HX'.out
                  clear HX'
                  clear hK
                  obtain ⟨hca, hcc, hc0, hc1⟩ := HD.out x3 HX.out
                  clear hca hcc hc0 hc1
                  go_wp2_with (go_at_call 18; refine (num2_any _ _).mono ?_; rintro e w' ⟨rfl, rfl⟩)
                  go_roundw
                  case rel => exact ⟨m + 1, by omega, by go_num, HK4.out.trans HX.out⟩
                  case measure => simp [intOf]; omega
                · have hfb : (fit2 s t == 0) = false := by rw [beq_eq_false_iff_ne]; exact hfit
                  have hl0 := later_cell hca
                  have hl1 := later_cell hcc
                  have hl2 := later_cell hc0
                  have hl3 := later_cell hc1
                  go_wp2_with fail
                  clear hca hcc hc0 hc1
                  refine region_later (by kernel_rfl) (by kernel_rfl) ?_
                  repeat (go_big_quiet_step ((go_at_call 19; exact later_call (add_lane_bad' s t hs0 hs1 hfit _))))
                  refine wpQuiet_nil ?_
                  intro _ hw'
                  obtain ⟨nq, hw''⟩ := hw'
                  subst hw''
                  clear hl0 hl1 hl2 hl3
                  have hK := nq.2
                  generalize nq.1 = x0 at hK ⊢
                  have HX := Lib.hid hK
                  clear hK
                  obtain ⟨hca, hcc, hc0, hc1⟩ := HD.out x0 HX.out
                  have hl0 := later_cell hca
                  have hl1 := later_cell hcc
                  have hl2 := later_cell hc0
                  have hl3 := later_cell hc1
                  go_wp2_with fail
                  clear hca hcc hc0 hc1
                  refine region_later (by kernel_rfl) (by kernel_rfl) ?_
                  repeat (go_big_quiet_step ((go_at_call 20; exact later_call (muladd_bad' s t c hs0 hs1 hfit _))))
                  refine wpQuiet_nil ?_
                  intro _ hw'
                  obtain ⟨nq, hw''⟩ := hw'
                  subst hw''
                  clear hl0 hl1 hl2 hl3
                  have hK := nq.2
                  generalize nq.1 = x1 at hK ⊢
                  have HX' := Lib.hid (HX.out.trans hK)
                  clear HX
                  have HX := Lib.hid HX'.out
                  clear HX'
                  clear hK
                  obtain ⟨hca, hcc, hc0, hc1⟩ := HD.out x1 HX.out
                  have hl0 := later_cell hca
                  have hl1 := later_cell hcc
                  have hl2 := later_cell hc0
                  have hl3 := later_cell hc1
                  go_wp2_with fail
                  clear hca hcc hc0 hc1
                  refine region_later (by kernel_rfl) (by kernel_rfl) ?_
                  repeat (go_big_quiet_step ((go_at_call 21; exact later_same (two_any s t _))))
                  refine wpQuiet_nil ?_
                  intro _ hw'
                  obtain ⟨nq, hw''⟩ := hw'
                  subst hw''
                  clear hl0 hl1 hl2 hl3
                  have hK := nq.2
                  generalize nq.1 = x2 at hK ⊢
                  have HX' := Lib.hid (HX.out.trans hK)
                  clear HX
                  have HX := Lib.hid HX'.out
                  clear HX'
                  clear hK
                  obtain ⟨hca, hcc, hc0, hc1⟩ := HD.out x2 HX.out
                  clear hca hcc hc0 hc1
                  go_wp2_with (go_at_call 18; refine (num2_any _ _).mono ?_; rintro e w' ⟨rfl, rfl⟩)
                  go_roundw
                  case rel => exact ⟨m + 1, by omega, by go_num, HK4.out.trans HX.out⟩
                  case measure => simp [intOf]; omega
              · have hdm : decide ((m : Int) < 5) = false := decide_eq_false (by omega)
                clear hcc hc0
                go_wp2
                go_roundw
                case rel => exact ⟨k + 1, by omega, by go_num, HK.out.trans HK3.out⟩
                case measure => simp [intOf]; omega
            · clear hcc hc0
              go_wp2
              go_roundw
              case rel => exact ⟨k + 1, by omega, by go_num, HK.out.trans HK3.out⟩
              case measure => simp [intOf]; omega
      · have hd5 : decide ((k : Int) < 5) = false := decide_eq_false (by omega)
        clear hSr hcc
        go_wp2_with (go_at_call 23; refine (wakes2_any _).mono ?_; rintro e w' ⟨rfl, hB⟩)
        go_ret
        exact ⟨rfl, HE.out _ (HB.out.trans (HK.out.trans hB))⟩
    · clear hSr hcc
      go_wp2_with (go_at_call 23; refine (wakes2_any _).mono ?_; rintro e w' ⟨rfl, hB⟩)
      go_ret
      exact ⟨rfl, HE.out _ (HB.out.trans (HK.out.trans hB))⟩
end Go.Proofs.Ytlpjpeonejbpjaa
