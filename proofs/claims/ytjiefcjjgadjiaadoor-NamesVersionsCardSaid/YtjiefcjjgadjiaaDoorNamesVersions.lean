/- The walk of the law NamesVersions: it answers true and changes nothing that was there (bytealg's limit lies as a number). -/
import Derived.Test.YtjiefcjjgadjiaaDoorNm7
import Derived.Test.YtjiefcjjgadjiaaDoorAsk6
namespace Go.Proofs.YtjiefcjjgadjiaaDoor
open Go.RowKit Go.Shelf
/-- so many letters a -/
def asB (k : Nat) : ByteArray := ⟨(List.replicate k (97 : UInt8)).toArray⟩
theorem asB_size (k : Nat) : (asB k).size = k := by show (List.replicate k (97 : UInt8)).toArray.size = k; simp
theorem asB_succ (k : Nat) : asB k ++ ⟨#[97]⟩ = asB (k + 1) := by
  apply ByteArray.ext
  apply Array.toList_inj.1
  unfold asB
  simp [List.replicate_succ']
set_option maxRecDepth 10000 in
theorem full_as : fullV (asB 39) = .tuple #[.string ⟨#[]⟩, .int .i64 2] := by
  have hh : hasB (asB 39) = false := by decide
  have hp := pathB_all (asB 39) hh
  have hv : verOf (asB 39) = latB := by unfold verOf; rw [if_neg (by rw [hh]; exact Bool.false_ne_true)]
  have hl : (asB 39).data.toList = List.replicate 39 97 := by unfold asB; simp
  have hn : nameB (asB 39) = true := by
    rw [nameB_ver, hv]
    unfold goodP
    rw [hp, hl, cntN_is _ 0 (by decide) (by decide)]
    decide
  have hs : ¬ (fullB (asB 39)).size ≤ 40 := by unfold fullB; rw [hp, hv, ByteArray.size_append, ByteArray.size_append, asB_size]; decide
  unfold fullV
  rw [if_pos hn, if_neg hs]

set_option maxRecDepth 100000 in
set_option maxHeartbeats 8000000 in
theorem names_versions (a : Option Addr) (l cap : Nat) (ss : List ByteArray) (W : World) (h : TextsIn W a l cap ss) (hm : MaxL W) :
    Calls Tryd.prog 7 #[.agg #[.slice a l cap]] W fun e W' => e = .returned (.bool true) ∧ Below W.heap.size W W' := by
  have HK1 := Lib.hid ((Kept.refl W).alloc (.cells #[.slice a l cap] 24))
  have hB1 := BlockAt.new W #[.slice a l cap] 24
  have HT := Lib.hid h
  have HM := Lib.hid (fun w (k : Kept W w) => hm.kept k)
  clear h hm
  go_enter Tryd.func7, Tryd.ntmps7
  go_upto_region 1 with (fail)
  generalize W.alloc (.cells #[.slice a l cap] 24) = w1 at *
  have HREAD := Lib.hid (fun w (kk : Kept w1 w) => box1 (hB1.kept kk))
  clear hB1
  generalize W.heap.size = p0 at HREAD ⊢
  go_wp2_with fail
  go_loopw [3] (fun i wr => ∃ b : Nat, b ≤ 256 ∧ i = .int .i64 b ∧ Kept w1 wr) (fun i _ => 256 - (intOf i).toNat)
  case atStart => exact ⟨0, by omega, rfl, Kept.refl _⟩
  case round =>
    obtain ⟨b, hb, rfl, hkr⟩ := hrel
    have HK := Lib.hid hkr
    clear hkr
    obtain ⟨wa, rfl⟩ : ∃ wa, wa = wr := ⟨_, rfl⟩
    by_cases hlt : b < 256
    · have hd1 : decide ((b : Int) < 256) = true := decide_eq_true (by omega)
      have hwb : IntKind.u8.wrap (b : Int) = (b : Int) := by show (b : Int) % 256 = _; omega
      obtain ⟨t, ht⟩ : ∃ t : ByteArray, (⟨[UInt8.ofNat b].toArray⟩ : ByteArray) = t := ⟨_, rfl⟩
      have hts : t.size = 1 := by rw [← ht]; rfl
      have hbuf : Buf (wa.alloc (.cells #[.int .u8 (b : Int)] 5)) wa.heap.size [UInt8.ofNat b] := by
        refine ⟨by simp, fun i hi => ?_, fun i hi => (BlockAt.new wa #[.int .u8 (b : Int)] 5).free i⟩
        have hi0 : i = 0 := by simpa using hi
        subst hi0
        rw [cell_new]
        show some (Value.int .u8 (b : Int)) = some (.int .u8 ((UInt8.ofNat b).toNat : Int))
        rw [UInt8.toNat_ofNat', Nat.mod_eq_of_lt hlt]
      have hcv := hbuf.string (P := Tryd.prog) 43 9 5 Tryd.underlying43 Tryd.underlying5 Tryd.underlying9 1
      rw [show [UInt8.ofNat b].length = 1 from rfl, ht] at hcv
      go_upto_region 5 with (fail)
      have HKa := Lib.hid (HK.out.alloc (.cells #[.int .u8 (b : Int)] 5))
      clear hcv hbuf hwb ht
      generalize wa.alloc (.cells #[.int .u8 (b : Int)] 5) = wb at *
      obtain ⟨u1, hu1⟩ : ∃ u1 : ByteArray, (⟨#[97, 58]⟩ : ByteArray) ++ (t : ByteArray) = u1 := ⟨_, rfl⟩
      have hu1s : u1.size = 3 := by rw [← hu1, ByteArray.size_append, hts]; rfl
      have hu1A : ∀ w : World, (Op.stringOp .add ⟨#[97, 58]⟩ t).run Tryd.prog w = .ok (.string u1) w := fun w => by rw [← hu1]; exact run_string_add_sum _ _ _ (by rw [← ByteArray.size_append, hu1, hu1s]; omega)
      obtain ⟨u2, hu2⟩ : ∃ u2 : ByteArray, (u1 : ByteArray) ++ (⟨#[120]⟩ : ByteArray) = u2 := ⟨_, rfl⟩
      have hu2s : u2.size = 4 := by rw [← hu2, ByteArray.size_append, hu1s]; rfl
      have hu2A : ∀ w : World, (Op.stringOp .add u1 ⟨#[120]⟩).run Tryd.prog w = .ok (.string u2) w := fun w => by rw [← hu2]; exact run_string_add_sum _ _ _ (by rw [← ByteArray.size_append, hu2, hu2s]; omega)
      obtain ⟨u3, hu3⟩ : ∃ u3 : ByteArray, (⟨#[97, 58, 120]⟩ : ByteArray) ++ (t : ByteArray) = u3 := ⟨_, rfl⟩
      have hu3s : u3.size = 4 := by rw [← hu3, ByteArray.size_append, hts]; rfl
      have hu3A : ∀ w : World, (Op.stringOp .add ⟨#[97, 58, 120]⟩ t).run Tryd.prog w = .ok (.string u3) w := fun w => by rw [← hu3]; exact run_string_add_sum _ _ _ (by rw [← ByteArray.size_append, hu3, hu3s]; omega)
      obtain ⟨u4, hu4⟩ : ∃ u4 : ByteArray, (u3 : ByteArray) ++ (⟨#[121]⟩ : ByteArray) = u4 := ⟨_, rfl⟩
      have hu4s : u4.size = 5 := by rw [← hu4, ByteArray.size_append, hu3s]; rfl
      have hu4A : ∀ w : World, (Op.stringOp .add u3 ⟨#[121]⟩).run Tryd.prog w = .ok (.string u4) w := fun w => by rw [← hu4]; exact run_string_add_sum _ _ _ (by rw [← ByteArray.size_append, hu4, hu4s]; omega)
      have HtS := Lib.hid (show t.size ≤ 1000000 by omega)
      have Hu1S := Lib.hid (show u1.size ≤ 1000000 by omega)
      have Hu2S := Lib.hid (show u2.size ≤ 1000000 by omega)
      have Hu3S := Lib.hid (show u3.size ≤ 1000000 by omega)
      have Hu4S := Lib.hid (show u4.size ≤ 1000000 by omega)
      clear hu1 hu1s hu2 hu2s hu3 hu3s hu4 hu4s
      clear hts
      go_wp2_with fail
      refine (same_nm u1 _ Hu1S.out (HM.out _ (HK1.out.trans HKa.out))).mono ?_
      rintro e w10 ⟨rfl, hk⟩
      have HC0 := Lib.hid (HKa.out.trans hk)
      clear hk
      go_wp2_with fail
      refine (same_nm u2 _ Hu2S.out (HM.out _ (HK1.out.trans HC0.out))).mono ?_
      rintro e w11 ⟨rfl, hk⟩
      have HC1 := Lib.hid (HC0.out.trans hk)
      clear hk
      go_wp2_with fail
      refine (same_nm u3 _ Hu3S.out (HM.out _ (HK1.out.trans HC1.out))).mono ?_
      rintro e w12 ⟨rfl, hk⟩
      have HC2 := Lib.hid (HC1.out.trans hk)
      clear hk
      go_wp2_with fail
      refine (same_nm u4 _ Hu4S.out (HM.out _ (HK1.out.trans HC2.out))).mono ?_
      rintro e w13 ⟨rfl, hk⟩
      have HC3 := Lib.hid (HC2.out.trans hk)
      clear hk
      go_wp2
      go_roundw
      case rel => exact ⟨b + 1, by omega, by go_num, HC3.out⟩
      case measure => simp [intOf]; omega
    · obtain rfl : b = 256 := by omega
      have hd1 : decide ((256 : Int) < 256) = false := by decide
      obtain ⟨w5, rfl⟩ : ∃ w5, w5 = wa := ⟨_, rfl⟩
      go_wp2_with fail
      go_loopw [5] (fun s wr => ∃ k : Nat, k ≤ 39 ∧ s = .string (asB k) ∧ Kept w1 wr) (fun s _ => match s with | .string t => 39 - t.size | _ => 0)
      case atStart => exact ⟨0, by omega, rfl, HK.out⟩
      case round =>
        obtain ⟨k, hk, rfl, hkr⟩ := hrel
        have HR := Lib.hid hkr
        clear hkr
        have hsz := asB_size k
        have HSZ := Lib.hid hsz
        have hsu := asB_succ k
        have HSS := Lib.hid (asB_size (k + 1))
        obtain ⟨u, hu⟩ : ∃ u, asB k = u := ⟨_, rfl⟩
        rw [hu] at hsz hsu HSZ ⊢
        have hul : u.size ≤ 39 := by omega
        by_cases hlt : k < 39
        · have hd2 : decide ((u.size : Int) < 39) = true := decide_eq_true (by omega)
          obtain ⟨v, hv⟩ : ∃ v, asB (k + 1) = v := ⟨_, rfl⟩
          rw [hv] at hsu HSS
          have HV := Lib.hid hv
          have hA : ∀ w : World, (Op.stringOp .add u ⟨#[97]⟩).run Tryd.prog w = .ok (.string v) w := fun w => by rw [← hsu]; exact run_string_add_sum _ _ _ (by show u.size + 1 ≤ _; omega)
          clear hsz hsu hu hv
          go_wp2
          go_roundw
          case rel => exact ⟨k + 1, by omega, by rw [HV.out], HR.out⟩
          case measure => show 39 - v.size < 39 - u.size; rw [HSS.out, HSZ.out]; omega
        · obtain rfl : k = 39 := by omega
          have hd2 : decide ((u.size : Int) < 39) = false := decide_eq_false (by omega)
          have HFU := Lib.hid (full_nm u _ (by omega) (HM.out _ (HK1.out.trans HR.out)))
          rw [← hu, full_as, hu] at HFU
          obtain ⟨v1, hv1⟩ : ∃ v, u ++ (⟨#[97]⟩ : ByteArray) = v := ⟨_, rfl⟩
          obtain ⟨v2, hv2⟩ : ∃ v, u ++ (⟨#[97, 97]⟩ : ByteArray) = v := ⟨_, rfl⟩
          have hA1 : ∀ w : World, (Op.stringOp .add u ⟨#[97]⟩).run Tryd.prog w = .ok (.string v1) w := fun w => by rw [← hv1]; exact run_string_add_sum _ _ _ (by show u.size + 1 ≤ _; omega)
          have hA2 : ∀ w : World, (Op.stringOp .add u ⟨#[97, 97]⟩).run Tryd.prog w = .ok (.string v2) w := fun w => by rw [← hv2]; exact run_string_add_sum _ _ _ (by show u.size + 2 ≤ _; omega)
          have HS1 := Lib.hid (show v1.size ≤ 1000000 by rw [← hv1, ByteArray.size_append]; show u.size + 1 ≤ _; omega)
          have HS2 := Lib.hid (show v2.size ≤ 1000000 by rw [← hv2, ByteArray.size_append]; show u.size + 2 ≤ _; omega)
          clear hsz hsu hu hv1 hv2 HSS HSZ
          go_wp2_with fail
          refine (HFU.out).mono ?_
          rintro e w20 ⟨rfl, hk⟩
          have HD0 := Lib.hid (HR.out.trans hk)
          clear hk
          go_wp2_with fail
          refine (same_nm u _ (by omega) (HM.out _ (HK1.out.trans HD0.out))).mono ?_
          rintro e w21 ⟨rfl, hk⟩
          have HD1 := Lib.hid (HD0.out.trans hk)
          clear hk
          go_wp2_with fail
          refine (same_nm v1 _ HS1.out (HM.out _ (HK1.out.trans HD1.out))).mono ?_
          rintro e w22 ⟨rfl, hk⟩
          have HD2 := Lib.hid (HD1.out.trans hk)
          clear hk
          go_wp2_with fail
          refine (same_nm v2 _ HS2.out (HM.out _ (HK1.out.trans HD2.out))).mono ?_
          rintro e w23 ⟨rfl, hk⟩
          have HD3 := Lib.hid (HD2.out.trans hk)
          clear hk hA1 hA2
          have c0 := HREAD.out _ HD3.out
          go_wp2_with fail
          refine (num19_any _ _).mono ?_
          rintro e w' ⟨rfl, rfl⟩
          go_wp2_with fail
          refine (texts_sum _ _ _ ss _ (HT.out.kept (HK1.out.trans HD3.out))).mono ?_
          rintro e w24 ⟨⟨n, rfl, hn⟩, rfl⟩
          have h0 := hn.nonneg
          clear hn c0
          have hd3 : decide (0 ≤ n) = true := decide_eq_true h0
          go_wp2_with fail
          refine (wakes19_any _ (HM.out _ (HK1.out.trans HD3.out))).mono ?_
          rintro e w25 ⟨rfl, hk⟩
          have HD4 := Lib.hid (HD3.out.trans hk)
          clear hk
          go_wp2
          go_ret
          exact ⟨rfl, HK1.out.trans HD4.out⟩
end Go.Proofs.YtjiefcjjgadjiaaDoor
