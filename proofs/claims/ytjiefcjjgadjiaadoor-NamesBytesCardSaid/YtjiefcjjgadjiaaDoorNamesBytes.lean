/- The walk of the law NamesBytes: it answers true and changes nothing that was there (bytealg's limit lies as a number). -/
import Derived.Test.YtjiefcjjgadjiaaDoorNm7
import Derived.Test.YtjiefcjjgadjiaaDoorAsk6
namespace Go.Proofs.YtjiefcjjgadjiaaDoor
open Go.RowKit Go.Shelf

set_option maxRecDepth 100000 in
set_option maxHeartbeats 8000000 in
theorem names_bytes (a : Option Addr) (l cap : Nat) (ss : List ByteArray) (W : World) (h : TextsIn W a l cap ss) (hm : MaxL W) :
    Calls Tryd.prog 6 #[.agg #[.slice a l cap]] W fun e W' => e = .returned (.bool true) ∧ Below W.heap.size W W' := by
  have HK1 := Lib.hid ((Kept.refl W).alloc (.cells #[.slice a l cap] 24))
  have hB1 := BlockAt.new W #[.slice a l cap] 24
  have HT := Lib.hid h
  have HM := Lib.hid (fun w (k : Kept W w) => hm.kept k)
  clear h hm
  go_enter Tryd.func6, Tryd.ntmps6
  go_upto_region 1 with (fail)
  generalize W.alloc (.cells #[.slice a l cap] 24) = w1 at *
  have HREAD := Lib.hid (fun w (kk : Kept w1 w) => box1 (hB1.kept kk))
  clear hB1
  generalize W.heap.size = p0 at HREAD ⊢
  go_wp2_with fail
  go_loopw [3] (fun i wr => ∃ b : Nat, b ≤ 256 ∧ i = .int .i64 b ∧ Kept w1 wr) (fun i _ => 256 - (intOf i).toNat)
  case atStart => exact ⟨0, by omega, rfl, Kept.refl _⟩
  case round =>
    obtain ⟨b, hb, rfl, hkr⟩ := hrel
    have HK := Lib.hid hkr
    clear hkr
    obtain ⟨wa, rfl⟩ : ∃ wa, wa = wr := ⟨_, rfl⟩
    by_cases hlt : b < 256
    · have hd1 : decide ((b : Int) < 256) = true := decide_eq_true (by omega)
      have hwb : IntKind.u8.wrap (b : Int) = (b : Int) := by show (b : Int) % 256 = _; omega
      obtain ⟨t, ht⟩ : ∃ t : ByteArray, (⟨[UInt8.ofNat b].toArray⟩ : ByteArray) = t := ⟨_, rfl⟩
      have hts : t.size = 1 := by rw [← ht]; rfl
      have hbuf : Buf (wa.alloc (.cells #[.int .u8 (b : Int)] 5)) wa.heap.size [UInt8.ofNat b] := by
        refine ⟨by simp, fun i hi => ?_, fun i hi => (BlockAt.new wa #[.int .u8 (b : Int)] 5).free i⟩
        have hi0 : i = 0 := by simpa using hi
        subst hi0
        rw [cell_new]
        show some (Value.int .u8 (b : Int)) = some (.int .u8 ((UInt8.ofNat b).toNat : Int))
        rw [UInt8.toNat_ofNat', Nat.mod_eq_of_lt hlt]
      have hcv := hbuf.string (P := Tryd.prog) 43 9 5 Tryd.underlying43 Tryd.underlying5 Tryd.underlying9 1
      rw [show [UInt8.ofNat b].length = 1 from rfl, ht] at hcv
      go_upto_region 5 with (fail)
      have HKa := Lib.hid (HK.out.alloc (.cells #[.int .u8 (b : Int)] 5))
      clear hcv hbuf hwb ht
      generalize wa.alloc (.cells #[.int .u8 (b : Int)] 5) = wb at *
      obtain ⟨u1, hu1⟩ : ∃ u1 : ByteArray, (t : ByteArray) ++ (⟨#[97]⟩ : ByteArray) = u1 := ⟨_, rfl⟩
      have hu1s : u1.size = 2 := by rw [← hu1, ByteArray.size_append, hts]; rfl
      have hu1A : ∀ w : World, (Op.stringOp .add t ⟨#[97]⟩).run Tryd.prog w = .ok (.string u1) w := fun w => by rw [← hu1]; exact run_string_add_sum _ _ _ (by rw [← ByteArray.size_append, hu1, hu1s]; omega)
      obtain ⟨u2, hu2⟩ : ∃ u2 : ByteArray, (⟨#[97]⟩ : ByteArray) ++ (t : ByteArray) = u2 := ⟨_, rfl⟩
      have hu2s : u2.size = 2 := by rw [← hu2, ByteArray.size_append, hts]; rfl
      have hu2A : ∀ w : World, (Op.stringOp .add ⟨#[97]⟩ t).run Tryd.prog w = .ok (.string u2) w := fun w => by rw [← hu2]; exact run_string_add_sum _ _ _ (by rw [← ByteArray.size_append, hu2, hu2s]; omega)
      obtain ⟨u3, hu3⟩ : ∃ u3 : ByteArray, (u2 : ByteArray) ++ (⟨#[98]⟩ : ByteArray) = u3 := ⟨_, rfl⟩
      have hu3s : u3.size = 3 := by rw [← hu3, ByteArray.size_append, hu2s]; rfl
      have hu3A : ∀ w : World, (Op.stringOp .add u2 ⟨#[98]⟩).run Tryd.prog w = .ok (.string u3) w := fun w => by rw [← hu3]; exact run_string_add_sum _ _ _ (by rw [← ByteArray.size_append, hu3, hu3s]; omega)
      obtain ⟨u4, hu4⟩ : ∃ u4 : ByteArray, (u2 : ByteArray) ++ (t : ByteArray) = u4 := ⟨_, rfl⟩
      have hu4s : u4.size = 3 := by rw [← hu4, ByteArray.size_append, hu2s, hts]
      have hu4A : ∀ w : World, (Op.stringOp .add u2 t).run Tryd.prog w = .ok (.string u4) w := fun w => by rw [← hu4]; exact run_string_add_sum _ _ _ (by rw [← ByteArray.size_append, hu4, hu4s]; omega)
      obtain ⟨u5, hu5⟩ : ∃ u5 : ByteArray, (u4 : ByteArray) ++ (⟨#[98]⟩ : ByteArray) = u5 := ⟨_, rfl⟩
      have hu5s : u5.size = 4 := by rw [← hu5, ByteArray.size_append, hu4s]; rfl
      have hu5A : ∀ w : World, (Op.stringOp .add u4 ⟨#[98]⟩).run Tryd.prog w = .ok (.string u5) w := fun w => by rw [← hu5]; exact run_string_add_sum _ _ _ (by rw [← ByteArray.size_append, hu5, hu5s]; omega)
      obtain ⟨u6, hu6⟩ : ∃ u6 : ByteArray, (⟨#[97, 47, 98]⟩ : ByteArray) ++ (t : ByteArray) = u6 := ⟨_, rfl⟩
      have hu6s : u6.size = 4 := by rw [← hu6, ByteArray.size_append, hts]; rfl
      have hu6A : ∀ w : World, (Op.stringOp .add ⟨#[97, 47, 98]⟩ t).run Tryd.prog w = .ok (.string u6) w := fun w => by rw [← hu6]; exact run_string_add_sum _ _ _ (by rw [← ByteArray.size_append, hu6, hu6s]; omega)
      obtain ⟨u7, hu7⟩ : ∃ u7 : ByteArray, (u6 : ByteArray) ++ (⟨#[99, 47, 100]⟩ : ByteArray) = u7 := ⟨_, rfl⟩
      have hu7s : u7.size = 7 := by rw [← hu7, ByteArray.size_append, hu6s]; rfl
      have hu7A : ∀ w : World, (Op.stringOp .add u6 ⟨#[99, 47, 100]⟩).run Tryd.prog w = .ok (.string u7) w := fun w => by rw [← hu7]; exact run_string_add_sum _ _ _ (by rw [← ByteArray.size_append, hu7, hu7s]; omega)
      obtain ⟨u8, hu8⟩ : ∃ u8 : ByteArray, (u4 : ByteArray) ++ (t : ByteArray) = u8 := ⟨_, rfl⟩
      have hu8s : u8.size = 4 := by rw [← hu8, ByteArray.size_append, hu4s, hts]
      have hu8A : ∀ w : World, (Op.stringOp .add u4 t).run Tryd.prog w = .ok (.string u8) w := fun w => by rw [← hu8]; exact run_string_add_sum _ _ _ (by rw [← ByteArray.size_append, hu8, hu8s]; omega)
      obtain ⟨u9, hu9⟩ : ∃ u9 : ByteArray, (u8 : ByteArray) ++ (⟨#[98, 58, 118]⟩ : ByteArray) = u9 := ⟨_, rfl⟩
      have hu9s : u9.size = 7 := by rw [← hu9, ByteArray.size_append, hu8s]; rfl
      have hu9A : ∀ w : World, (Op.stringOp .add u8 ⟨#[98, 58, 118]⟩).run Tryd.prog w = .ok (.string u9) w := fun w => by rw [← hu9]; exact run_string_add_sum _ _ _ (by rw [← ByteArray.size_append, hu9, hu9s]; omega)
      have HtS := Lib.hid (show t.size ≤ 1000000 by omega)
      have Hu1S := Lib.hid (show u1.size ≤ 1000000 by omega)
      have Hu2S := Lib.hid (show u2.size ≤ 1000000 by omega)
      have Hu3S := Lib.hid (show u3.size ≤ 1000000 by omega)
      have Hu4S := Lib.hid (show u4.size ≤ 1000000 by omega)
      have Hu5S := Lib.hid (show u5.size ≤ 1000000 by omega)
      have Hu6S := Lib.hid (show u6.size ≤ 1000000 by omega)
      have Hu7S := Lib.hid (show u7.size ≤ 1000000 by omega)
      have Hu8S := Lib.hid (show u8.size ≤ 1000000 by omega)
      have Hu9S := Lib.hid (show u9.size ≤ 1000000 by omega)
      clear hu1 hu1s hu2 hu2s hu3 hu3s hu4 hu4s hu5 hu5s hu6 hu6s hu7 hu7s hu8 hu8s hu9 hu9s
      clear hts
      go_wp2_with fail
      refine (same_nm t _ HtS.out (HM.out _ (HK1.out.trans HKa.out))).mono ?_
      rintro e w10 ⟨rfl, hk⟩
      have HC0 := Lib.hid (HKa.out.trans hk)
      clear hk
      go_wp2_with fail
      refine (same_nm u1 _ Hu1S.out (HM.out _ (HK1.out.trans HC0.out))).mono ?_
      rintro e w11 ⟨rfl, hk⟩
      have HC1 := Lib.hid (HC0.out.trans hk)
      clear hk
      go_wp2_with fail
      refine (same_nm u2 _ Hu2S.out (HM.out _ (HK1.out.trans HC1.out))).mono ?_
      rintro e w12 ⟨rfl, hk⟩
      have HC2 := Lib.hid (HC1.out.trans hk)
      clear hk
      go_wp2_with fail
      refine (same_nm u3 _ Hu3S.out (HM.out _ (HK1.out.trans HC2.out))).mono ?_
      rintro e w13 ⟨rfl, hk⟩
      have HC3 := Lib.hid (HC2.out.trans hk)
      clear hk
      go_wp2_with fail
      refine (same_nm u5 _ Hu5S.out (HM.out _ (HK1.out.trans HC3.out))).mono ?_
      rintro e w14 ⟨rfl, hk⟩
      have HC4 := Lib.hid (HC3.out.trans hk)
      clear hk
      go_wp2_with fail
      refine (same_nm u7 _ Hu7S.out (HM.out _ (HK1.out.trans HC4.out))).mono ?_
      rintro e w15 ⟨rfl, hk⟩
      have HC5 := Lib.hid (HC4.out.trans hk)
      clear hk
      go_wp2_with fail
      refine (same_nm u9 _ Hu9S.out (HM.out _ (HK1.out.trans HC5.out))).mono ?_
      rintro e w16 ⟨rfl, hk⟩
      have HC6 := Lib.hid (HC5.out.trans hk)
      clear hk
      go_wp2
      go_roundw
      case rel => exact ⟨b + 1, by omega, by go_num, HC6.out⟩
      case measure => simp [intOf]; omega
    · obtain rfl : b = 256 := by omega
      have hd1 : decide ((256 : Int) < 256) = false := by decide
      have c0 := HREAD.out _ HK.out
      go_wp2_with fail
      refine (wakes19_any _ (HM.out _ (HK1.out.trans HK.out))).mono ?_
      rintro e w5 ⟨rfl, hk⟩
      have HK5 := Lib.hid (HK.out.trans hk)
      clear hk c0
      go_wp2
      go_ret
      exact ⟨rfl, HK1.out.trans HK5.out⟩
end Go.Proofs.YtjiefcjjgadjiaaDoor
