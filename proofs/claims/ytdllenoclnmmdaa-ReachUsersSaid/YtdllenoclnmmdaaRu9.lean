/- The law ReachUsers. -/
import Derived.Test.YtdllenoclnmmdaaGz
import Derived.Test.YtdllenoclnmmdaaGc
import Derived.Test.YtdllenoclnmmdaaCsy
import Derived.Test.YtdllenoclnmmdaaGx
namespace Go.Proofs.Ytdllenoclnmmdaa
open Go.RowKit Go.Shelf
attribute [local go_sem] Oper.semAt_some

set_option maxRecDepth 100000 in
set_option maxHeartbeats 8000000 in
theorem reach_users (am : Option Addr) (lm cm : Nat) (tt : List (List Th)) (aa : Option Addr) (ls cs : Nat) (ss : List ByteArray) (wo : World) (hm : TtsIn wo am lm tt) (hs : TextsIn wo aa ls cs ss) :
    Calls Try.prog 7 #[.agg #[.slice am lm cm, .slice aa ls cs]] wo fun e w' => e = .returned (.bool true) ∧ Kept wo w' := by
  have HMS := Lib.hid hm
  have HSS := Lib.hid hs
  have HB0 := Lib.hid (BlockAt.new wo #[.slice am lm cm, .slice aa ls cs] 44)
  have HK0 := Lib.hid ((Kept.refl wo).alloc (.cells #[.slice am lm cm, .slice aa ls cs] 44))
  clear hm hs
  go_enter Try.func7, Try.ntmps7
  go_upto_region 1 with (fail)
  generalize wo.alloc (.cells #[.slice am lm cm, .slice aa ls cs] 44) = w1 at *
  have HBX0 := Lib.hid (show ∀ w, Kept w1 w → w.cell? ⟨wo.heap.size, 0, none⟩ = some (.slice am lm cm) ∧ w.cell? ⟨wo.heap.size, 1, none⟩ = some (.slice aa ls cs) from fun w k => ⟨(HB0.out.kept k).cell 0, (HB0.out.kept k).cell 1⟩)
  obtain ⟨a0, a1⟩ := HBX0.out _ (Kept.refl _)
  go_wp2_with fail
  refine (heavy21_any am lm cm tt aa ls cs ss _ (HMS.out.kept HK0.out) (HSS.out.kept HK0.out)).mono ?_
  rintro e w2 ⟨hk2, rfl | ⟨rfl, hlt, hls⟩⟩
  · have HK2 := Lib.hid (HK0.out.trans hk2)
    clear hk2 a0 a1
    go_wp2_with fail
    go_ret
    exact ⟨rfl, HK2.out⟩
  have HK2 := Lib.hid (HK0.out.trans hk2)
  obtain ⟨a0', a1'⟩ := HBX0.out _ hk2
  clear hk2 hlt a0 a1
  go_wp2_with fail
  obtain ⟨q, hq, hwi⟩ : ∃ q : Nat, q < 8 ∧ ∀ w, Calls Try.prog 38 #[.int .i64 (ls : Int), .int .i64 ((8 : Nat) : Int)] w fun e w' => e = .returned (.int .i64 (q : Int)) ∧ w = w' := ⟨wthn (ls : Int) 8, wthn_lt _ (by omega), fun w => within_ref (ls : Int) 8 (by omega) w⟩
  refine (hwi _).mono ?_
  rintro e w' ⟨rfl, rfl⟩
  obtain ⟨n, hn⟩ : ∃ n, n = 2 + q := ⟨_, rfl⟩
  have hn2 : 2 ≤ n := by omega
  have hn9 : n ≤ 9 := by omega
  have hnw : (2 : Int) + (q : Int) = (n : Int) := by omega
  have hww : IntKind.i64.wrap (2 + (q : Int)) = (n : Int) := by rw [IntWalk.i64_in _ (by omega)]; exact hnw
  clear hn hwi hnw a0' a1'
  go_wp2_with fail
  have HOK := Lib.hid (ok_y n hn2 hn9)
  have HCH := Lib.hid (chain_any n hn9 ⟨#[121]⟩ (by decide) w2)
  have HSM := Lib.hid (show ∀ s ∈ (List.range n).map (chN ⟨#[121]⟩), s.size ≤ 9223372036854775807 from fun s hs => by
    obtain ⟨i, _, rfl⟩ := List.mem_map.1 hs
    rw [chN_size]; omega)
  have HNS := Lib.hid (fun i (hi : i < n) => ns_at ⟨#[121]⟩ n i hi)
  have HNL := Lib.hid (show ((List.range n).map (chN ⟨#[121]⟩)).length = n by simp)
  generalize hts : chL ⟨#[121]⟩ n = ts at HCH
  have HT1 := Lib.hid (show thsB ts = true by rw [← hts]; exact HOK.out.ths)
  have HT2 := Lib.hid (show ∀ i, i < n → usersL ts (((List.range n).map (chN ⟨#[121]⟩)).getD i ByteArray.empty) = (if i + 1 < n then [((List.range n).map (chN ⟨#[121]⟩)).getD (i + 1) ByteArray.empty] else []) from fun i hi => by
    rw [HNS.out i hi, ← hts, HOK.out.up i hi]
    by_cases h : i + 1 < n
    · rw [if_pos h, if_pos h, HNS.out _ h]
    · rw [if_neg h, if_neg h])
  have HT3 := Lib.hid (show ∀ i, i < n → usersL ts (chD ⟨#[121]⟩ i) = [((List.range n).map (chN ⟨#[121]⟩)).getD i ByteArray.empty] from fun i hi => by
    rw [HNS.out i hi, ← hts]
    exact HOK.out.blob i hi)
  clear hts HNS HOK
  generalize (List.range n).map (chN ⟨#[121]⟩) = NL at *
  refine HCH.out.mono ?_
  rintro e w4 ⟨a, c, a2, c2, rfl, hT, hO, hk⟩
  obtain ⟨g, c2', e2⟩ := own_form hO (by omega)
  cases e2
  have HO := Lib.hid (own_strs' hO HNL.out HSM.out)
  have HT := Lib.hid hT
  have HK4 := Lib.hid (HK2.out.trans hk)
  have HCAP := Lib.hid (show n ≤ c2 by
    rcases hO.2 with ⟨e, _⟩ | ⟨g', c', cur, e, _, _, hn', _⟩
    · cases e
    · cases e; exact hn')
  have hcap := HCAP.out
  clear hT hO hk HCH
  go_wp2_with fail
  go_loopw [6] (fun kv wr => ∃ k : Nat, k ≤ n ∧ kv = .int .i64 k ∧ Kept w4 wr) (fun kv _ => n - (intOf kv).toNat)
  case atStart => exact ⟨0, by omega, rfl, Kept.refl _⟩
  case round =>
    obtain ⟨i, hi, rfl, hkr⟩ := hrel
    have HKR := Lib.hid hkr
    clear hkr
    by_cases hin : i < n
    · have hd1 : decide (i < n) = true := decide_eq_true hin
      have c0 := (HO.out.kept HKR.out).cell_of i hin
      rw [Nat.zero_add] at c0
      have HUL := Lib.hid (HT2.out i hin)
      have HBL := Lib.hid (HT3.out i hin)
      have HSI := Lib.hid (fun w (h : Kept w4 w) => strs_one (HO.out.kept h) hin)
      have HSJ := Lib.hid (fun w (h : Kept w4 w) (hj : i + 1 < n) => strs_one (HO.out.kept h) hj)
      generalize NL.getD i ByteArray.empty = d1 at *
      have HUC := Lib.hid (users_good a (2 * n) c ts d1 wr (HT.out.kept HKR.out) HT1.out)
      obtain ⟨U, hU⟩ : ∃ U, U = usersL ts d1 := ⟨_, rfl⟩
      rw [← hU] at HUC HUL
      clear hU
      go_wp2_with fail
      refine HUC.out.mono ?_
      rintro e w5 ⟨au, cu, rfl, hsu, hk⟩
      have HSU := Lib.hid hsu
      have HK5 := Lib.hid (HKR.out.trans hk)
      clear hsu hk HUC c0
      obtain ⟨b, hb⟩ : ∃ b, b = chB ⟨#[121]⟩ i := ⟨_, rfl⟩
      have hbs : b.size ≤ 200 := by rw [hb, chB_size]; show 5 + 1 + 1 ≤ 200; omega
      have hw97 : IntKind.i64.wrap (97 + (i : Int)) = 97 + (i : Int) := IntWalk.i64_in _ (by omega)
      have hw8 : IntKind.u8.wrap (97 + (i : Int)) = 97 + (i : Int) := IntWalk.u8_in _ (by omega)
      have hu8 : (97 + i) % 256 = 97 + i := by omega
      obtain ⟨cc, hcc⟩ : ∃ cc : ByteArray, cc = ⟨#[UInt8.ofNat (97 + i)]⟩ := ⟨_, rfl⟩
      have hcv : (convert 70 9 (.slice (some ⟨w5.heap.size, 0, none⟩) 1 1)).run Try.prog (w5.alloc (.cells #[.int .u8 (97 + (i : Int))] 5)) = .ok (.string cc) (w5.alloc (.cells #[.int .u8 (97 + (i : Int))] 5)) := by
        rw [hcc]
        refine run_convert_bytes_back (P := Try.prog) _ 70 9 5 ⟨w5.heap.size, 0, none⟩ 1 [UInt8.ofNat (97 + i)] Try.underlying70 Try.underlying5 Try.underlying9 (fun j hj => ?_)
        rw [addr_add, cell_new]
        match j, hj with
        | 0, hj => simp [hu8]
        | j + 1, hj => simp at hj
      clear hu8
      have HBB := Lib.hid hb
      have hbe : ((⟨#[98, 108, 111, 98, 32, 121]⟩ : ByteArray) ++ cc) = b := by rw [hb, hcc]; rfl
      have hcz : cc.size = 1 := by rw [hcc]; rfl
      clear hb hcc
      go_wp2_with fail
      have HKA := Lib.hid ((Kept.refl w5).alloc (.cells #[.int .u8 (97 + (i : Int))] 5))
      clear hcv hbe hw97 hw8 hcz
      generalize w5.alloc (.cells #[.int .u8 (97 + (i : Int))] 5) = w6 at *
      refine (rname_any b (by omega) _).mono ?_
      rintro e w7 ⟨rfl, hk⟩
      have HK7 := Lib.hid (HK5.out.trans (HKA.out.trans hk))
      have HSU7 := Lib.hid (HSU.out.kept (HKA.out.trans hk))
      have HD := Lib.hid (show dg b.data.toList = chD ⟨#[121]⟩ i by rw [HBB.out]; rfl)
      have HUC := Lib.hid (users_good a (2 * n) c ts (chD ⟨#[121]⟩ i) w7 (HT.out.kept HK7.out) HT1.out)
      rw [HBL.out, ← HD.out] at HUC
      generalize dg b.data.toList = d2 at *
      clear hk HKA HD HBB HBL HSU HK5
      go_wp2_with fail
      refine HUC.out.mono ?_
      rintro e w8 ⟨ab, cb, rfl, hsb, hk⟩
      have HSB := Lib.hid hsb
      have HK8 := Lib.hid (HK7.out.trans hk)
      have HSU8 := Lib.hid (HSU7.out.kept hk)
      clear hsb hk HUC HSU7
      go_wp2_with fail
      refine (num21_any _ _).mono ?_
      rintro e w' ⟨rfl, rfl⟩
      go_wp2_with fail
      refine (num21_any _ _).mono ?_
      rintro e w' ⟨rfl, rfl⟩
      have HSI8 := Lib.hid (HSI.out w8 HK8.out)
      rw [Nat.zero_add] at HSI8
      go_wp2_with fail
      refine (eq_strings2 _ _ _ _ _ _ [d1] [d1] _ HSB.out HSI8.out).mono ?_
      rintro e w9 ⟨rfl, hk⟩
      rw [show decide ([d1] = [d1]) = true from decide_eq_true rfl]
      have HK9 := Lib.hid (HK8.out.trans hk)
      have HSU9 := Lib.hid (HSU8.out.kept hk)
      clear hk HSU8 HSB HSI8
      by_cases hj : i + 1 < n
      · have hU : U = [NL.getD (i + 1) ByteArray.empty] := by rw [HUL.out, if_pos hj]
        have hd2 : decide (i + 1 < n) = true := decide_eq_true hj
        have hd3 : decide ((i : Int) + 1 < (n : Int)) = true := decide_eq_true (by omega)
        have HSJ9 := Lib.hid (HSJ.out w9 HK9.out hj)
        rw [Nat.zero_add, ← hU] at HSJ9
        have HUl := Lib.hid (show U.length = 1 by rw [hU]; rfl)
        rw [HUl.out] at HSU9 ⊢
        clear hU
        go_wp2_with fail
        refine (eq_strings2 _ _ _ _ _ _ U U _ HSU9.out HSJ9.out).mono ?_
        rintro e w10 ⟨rfl, hk⟩
        rw [show decide (U = U) = true from decide_eq_true rfl]
        have HK10 := Lib.hid (HK9.out.trans hk)
        have hne : ((i : Int) + 1 == (n : Int)) = false := beq_eq_false_iff_ne.2 (by omega)
        clear hk
        go_wp2_with fail
        go_roundw
        case rel => exact ⟨i + 1, by omega, by go_num, HK10.out⟩
        case measure => simp [intOf]; omega
      · have hn1 : n = i + 1 := by omega
        have hU : U = [] := by rw [HUL.out, if_neg hj]
        have hd2 : decide (i + 1 < n) = false := decide_eq_false hj
        have hd3 : decide ((i : Int) + 1 < (n : Int)) = false := decide_eq_false (by omega)
        have hne : ((i : Int) + 1 == (n : Int)) = true := beq_iff_eq.2 (by omega)
        subst hU
        clear hn1
        go_wp2_with fail
        go_roundw
        case rel => exact ⟨i + 1, by omega, by go_num, HK9.out⟩
        case measure => simp [intOf]; omega
    · obtain rfl : n = i := by omega
      have hd1 : decide (n < n) = false := decide_eq_false (by omega)
      go_wp2_with fail
      refine (wakes21_any _).mono ?_
      rintro e w9 ⟨rfl, hk⟩
      have HK9 := Lib.hid (HK4.out.trans (HKR.out.trans hk))
      clear hk
      go_wp2
      go_ret
      exact ⟨rfl, HK9.out⟩
end Go.Proofs.Ytdllenoclnmmdaa
