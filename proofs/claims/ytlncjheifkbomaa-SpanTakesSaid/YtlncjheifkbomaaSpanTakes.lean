/- The walk of the law SpanTakes: it answers true and changes nothing that was there (no conditions). -/
import Derived.Test.YtlncjheifkbomaaSpnH
import Derived.Test.YtlncjheifkbomaaTk2
import Derived.Test.YtlncjheifkbomaaLater
namespace Go.Proofs.Ytlncjheifkbomaa
open Go.RowKit

set_option maxRecDepth 100000 in
set_option maxHeartbeats 8000000 in
theorem span_takes (ax : Option Addr) (ls cs : Nat) (al : Option Addr) (ll cl : Nat) (ss : List ByteArray) (ab : Option Addr) (lb cb : Nat) (n0 a0 b0 : Int) (ap : Option Addr) (lp cp : Nat) (ps : List (Int × Int × Int)) (W : World) (h : AskQ W ax ls cs al ll cl ss n0 a0 b0 ap lp cp ps) :
    Calls Try.prog 8 #[.agg #[.slice ax ls cs, .slice al ll cl, .slice ab lb cb, .int .i64 n0, .int .i64 a0, .int .i64 b0, .slice ap lp cp]] W fun e W' => e = .returned (.bool true) ∧ Below W.heap.size W W' := by
  have HA := Lib.hid h
  clear h
  have HK1 := Lib.hid ((Kept.refl W).alloc (.cells #[.slice ax ls cs, .slice al ll cl, .slice ab lb cb, .int .i64 n0, .int .i64 a0, .int .i64 b0, .slice ap lp cp] 58))
  have hB1 := BlockAt.new W #[.slice ax ls cs, .slice al ll cl, .slice ab lb cb, .int .i64 n0, .int .i64 a0, .int .i64 b0, .slice ap lp cp] 58
  go_enter Try.func8, Try.ntmps8
  go_upto_region 1 with (fail)
  generalize W.alloc (.cells #[.slice ax ls cs, .slice al ll cl, .slice ab lb cb, .int .i64 n0, .int .i64 a0, .int .i64 b0, .slice ap lp cp] 58) = w1 at *
  have HREAD := Lib.hid (fun w (kk : Kept w1 w) => box7 (hB1.kept kk))
  clear hB1
  generalize W.heap.size = p0 at HREAD ⊢
  obtain ⟨r0, r1, r2, r3, r4, r5, r6⟩ := HREAD.out _ (Kept.refl _)
  go_wp2_with fail
  refine (heavy8_any ax ls cs al ll cl ss ab lb cb n0 a0 b0 ap lp cp _ (HA.out.c.kept HK1.out)).mono ?_
  rintro e w2 ⟨he, hk2⟩
  have HK2 := Lib.hid hk2
  clear hk2 r0 r1 r2 r3 r4 r5 r6
  rcases he with rfl | ⟨rfl, ⟨hll, hls, hsz⟩, hlp⟩
  · go_wp2
    go_ret
    exact ⟨rfl, HK1.out.trans HK2.out⟩
  · have HSZ := Lib.hid hsz
    clear hsz hls
    go_wp2_with fail
    obtain ⟨wo, rfl⟩ : ∃ wo : World, wo = w2 := ⟨_, rfl⟩
    go_loopw [3] (fun i wr => ∃ k : Nat, k ≤ lp + 1 ∧ i = .int .i64 k ∧ Kept w1 wr) (fun i _ => lp + 1 - (intOf i).toNat)
    case atStart => exact ⟨0, by omega, rfl, HK2.out⟩
    case round =>
      obtain ⟨k, hk, rfl, hkr⟩ := hrel
      have HK := Lib.hid hkr
      clear hkr
      obtain ⟨wa, rfl⟩ : ∃ wa, wa = wr := ⟨_, rfl⟩
      obtain ⟨r0, r1, r2, r3, r4, r5, r6⟩ := HREAD.out _ HK.out
      by_cases hkl : k ≤ lp
      · have hd1 : decide (k ≤ lp) = true := decide_eq_true hkl
        by_cases hk12 : k < 12
        · have hd2 : decide ((k : Int) < 12) = true := decide_eq_true (by omega)
          have hkc : k ≤ cp := Nat.le_trans hkl HA.out.pcap
          have hkc2 : (k : Int) ≤ (cp : Int) := by omega
          have HPK := Lib.hid (fun w (kk : Kept w1 w) => show PartsIn w ap k (ps.take k) from (HA.out.p.kept (HK1.out.trans kk)).take k hkl)
          have HSK := Lib.hid (fun w (kk : Kept w1 w) => show StrsIn w al ll ss from HA.out.c.texts.strs.kept (HK1.out.trans kk))
          generalize ps.take k = qs at HPK
          go_wp2_with fail
          refine (copy_parts ap k cp qs _ (HPK.out _ HK.out) (by omega)).mono ?_
          rintro e w5 ⟨a5, c5, rfl, hp5, hk5⟩
          have HP5 := Lib.hid hp5
          have HK5 := Lib.hid (HK.out.trans hk5)
          clear hp5 hk5 r0 r1 r2 r3 r4 r5 r6
          obtain ⟨r0, r1, r2, r3, r4, r5, r6⟩ := HREAD.out _ HK5.out
          go_wp2_with fail
          refine (take_any al ll cl ss a5 k c5 qs _ (HSK.out _ HK5.out) HP5.out HSZ.out (by omega)).mono ?_
          rintro e w6 ⟨rfl, hk6⟩
          have HP6 := Lib.hid (HP5.out.kept hk6)
          have HK6 := Lib.hid (HK5.out.trans hk6)
          clear hk6 r0 r1 r2 r3 r4 r5 r6
          have HMY := Lib.hid (fun (u : Later w6) => may_ref al ll cl ss ap k cp qs u.1 (HSK.out _ (HK6.out.trans u.2)) (HPK.out _ (HK6.out.trans u.2)))
          have HTK := Lib.hid (fun (h : mayL ss qs = true) w (kk : Kept w1 w) => took_ref al ll cl ss ap k cp qs w (HSK.out _ kk) (HPK.out _ kk) h HSZ.out (by omega))
          have HTS := Lib.hid (show (mayL ss qs = true → takeS ss qs = tookL ss qs ∧ takeE ss qs = 0) ∧ (mayL ss qs = false → takeS ss qs = ⟨#[]⟩ ∧ takeE ss qs = 1) from
            ⟨fun h => by unfold takeS takeE; rw [if_pos h, if_pos h]; exact ⟨rfl, rfl⟩, fun h => by unfold takeS takeE; rw [h]; exact ⟨rfl, rfl⟩⟩)
          generalize takeS ss qs = T at HTS ⊢
          generalize takeE ss qs = E at HTS ⊢
          generalize tookL ss qs = V at HTS HTK
          generalize mayL ss qs = M at HMY HTK HTS
          obtain ⟨r0, r1, r2, r3, r4, r5, r6⟩ := HREAD.out _ HK6.out
          have lc1 := later_cell r1
          have lc6 := later_cell r6
          clear r0 r1 r2 r3 r4 r5 r6
          go_wp2_with fail
          refine region_later (by kernel_rfl) (by kernel_rfl) ?_
          repeat (go_big_quiet_step ((go_at_call 37; exact later_call (HMY.out _))))
          refine wpQuiet_nil ?_
          intro _ hw'
          obtain ⟨nq, hw''⟩ := hw'
          subst hw''
          have HK7 := Lib.hid (HK6.out.trans nq.2)
          have HP7 := Lib.hid (HP6.out.kept nq.2)
          clear lc1 lc6 HMY
          generalize nq.1 = w7 at *
          cases M with
          | false =>
            obtain ⟨hT, hE⟩ := HTS.out.2 rfl
            subst hT
            subst hE
            clear HTS HTK
            go_wp2_with fail
            refine (num8_any _ _).mono ?_
            rintro e w' ⟨rfl, rfl⟩
            obtain ⟨r0, r1, r2, r3, r4, r5, r6⟩ := HREAD.out _ HK7.out
            go_wp2_with fail
            refine (eq_parts a5 ap k c5 cp qs _ HP7.out (HPK.out _ HK7.out)).mono ?_
            rintro e w9 ⟨rfl, hk9⟩
            have HK9 := Lib.hid (HK7.out.trans hk9)
            clear hk9 r0 r1 r2 r3 r4 r5 r6
            go_wp2
            go_roundw
            case rel => exact ⟨k + 1, by omega, by go_num, HK9.out⟩
            case measure => simp [intOf]; omega
          | true =>
            obtain ⟨hT, hE⟩ := HTS.out.1 rfl
            subst hT
            subst hE
            have HTL := Lib.hid (fun (u : Later w7) => HTK.out rfl u.1 (HK7.out.trans u.2))
            clear HTS HTK
            obtain ⟨r0, r1, r2, r3, r4, r5, r6⟩ := HREAD.out _ HK7.out
            have lc1 := later_cell r1
            have lc6 := later_cell r6
            clear r0 r1 r2 r3 r4 r5 r6
            go_wp2_with fail
            refine region_later (by kernel_rfl) (by kernel_rfl) ?_
            repeat (go_big_quiet_step ((go_at_call 38; exact later_call (HTL.out _))))
            refine wpQuiet_nil ?_
            intro _ hw'
            obtain ⟨nq, hw''⟩ := hw'
            subst hw''
            have HK8 := Lib.hid (HK7.out.trans nq.2)
            have HP8 := Lib.hid (HP7.out.kept nq.2)
            clear lc1 lc6 HTL
            generalize nq.1 = w8 at *
            go_wp2_with fail
            refine (num8_any _ _).mono ?_
            rintro e w' ⟨rfl, rfl⟩
            obtain ⟨r0, r1, r2, r3, r4, r5, r6⟩ := HREAD.out _ HK8.out
            go_wp2_with fail
            refine (eq_parts a5 ap k c5 cp qs _ HP8.out (HPK.out _ HK8.out)).mono ?_
            rintro e w9 ⟨rfl, hk9⟩
            have HK9 := Lib.hid (HK8.out.trans hk9)
            clear hk9 r0 r1 r2 r3 r4 r5 r6
            go_wp2
            go_roundw
            case rel => exact ⟨k + 1, by omega, by go_num, HK9.out⟩
            case measure => simp [intOf]; omega
        · have hd2 : decide ((k : Int) < 12) = false := decide_eq_false (by omega)
          go_wp2_with fail
          refine (wakes8_any _).mono ?_
          rintro e w3 ⟨rfl, hk3⟩
          have HK3 := Lib.hid (HK.out.trans hk3)
          clear hk3 r0 r1 r2 r3 r4 r5 r6
          go_wp2
          go_ret
          exact ⟨rfl, HK1.out.trans HK3.out⟩
      · have hd1 : decide (k ≤ lp) = false := decide_eq_false hkl
        go_wp2_with fail
        refine (wakes8_any _).mono ?_
        rintro e w3 ⟨rfl, hk3⟩
        have HK3 := Lib.hid (HK.out.trans hk3)
        clear hk3 r0 r1 r2 r3 r4 r5 r6
        go_wp2
        go_ret
        exact ⟨rfl, HK1.out.trans HK3.out⟩
end Go.Proofs.Ytlncjheifkbomaa
