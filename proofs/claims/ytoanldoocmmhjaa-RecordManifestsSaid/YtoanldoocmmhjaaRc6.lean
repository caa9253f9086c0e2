/- record.bytes, by what it answers: the bytes of a record that may be, in memory of the call's own (no conditions). -/
import Derived.Test.YtoanldoocmmhjaaRc4
import Derived.Test.YtoanldoocmmhjaaRc5
import Derived.Lib.AppendStr
namespace Go.Proofs.Ytoanldoocmmhjaa
open Go.RowKit

theorem number1 (base : Nat) (v : Value) (l : Nat) (xs : List UInt8) (n : Int) (w : World) (hown : w.ownsRow base 5 1 v l (bv xs)) (hl : l ≤ 1000000000) (hn : 0 ≤ n ∧ n < 18446744073709551616) (hb : base ≤ w.heap.size) :
    Calls Try.prog 48 #[v, .int .u64 n, .int .i64 1] w fun e w' => ∃ v', e = .returned v' ∧ w'.ownsRow base 5 1 v' (l + 1) (bv (xs ++ Rc.hi n 1)) ∧ Spare base 5 w w' := number_any base v l xs n 1 w hown hl (by omega) hn hb
theorem number4 (base : Nat) (v : Value) (l : Nat) (xs : List UInt8) (n : Int) (w : World) (hown : w.ownsRow base 5 1 v l (bv xs)) (hl : l ≤ 1000000000) (hn : 0 ≤ n ∧ n < 18446744073709551616) (hb : base ≤ w.heap.size) :
    Calls Try.prog 48 #[v, .int .u64 n, .int .i64 4] w fun e w' => ∃ v', e = .returned v' ∧ w'.ownsRow base 5 1 v' (l + 4) (bv (xs ++ Rc.hi n 4)) ∧ Spare base 5 w w' := number_any base v l xs n 4 w hown hl (by omega) hn hb
/-- what may be is within bounds -/
theorem may_bounds {r : Rec} (h : Rec.may r = true) : (0 ≤ r.id ∧ r.id ≤ 1073741824) ∧ r.name.size ≤ 40 ∧ r.dig.size ≤ 32 ∧ r.list.length ≤ 2000 ∧ (∀ i, i < r.list.length → 0 ≤ r.list.getD i 0 ∧ r.list.getD i 0 ≤ 1073741824) ∧ r.slots.length ≤ 14 ∧
    (∀ i, i < r.slots.length → (-1 ≤ (r.slots.getD i (0, 0)).1 ∧ (r.slots.getD i (0, 0)).1 ≤ 11) ∧ (0 ≤ (r.slots.getD i (0, 0)).2 ∧ (r.slots.getD i (0, 0)).2 ≤ 63)) := by
  unfold Rec.may at h
  simp only [Bool.and_eq_true] at h
  obtain ⟨⟨⟨⟨⟨h0, h1⟩, h2⟩, h3⟩, h4⟩, h5⟩ := h
  have g (n : Int) (q : Rc.gen n = true) : 0 ≤ n ∧ n ≤ 1073741824 := of_decide_eq_true q
  refine ⟨?_, ?_, ?_, ?_, ?_, ?_, ?_⟩
  · unfold Rec.idB at h1
    split at h1
    · exact g _ h1
    · have := of_decide_eq_true h1; omega
  · unfold Rec.nameB at h2
    split at h2
    · exact (of_decide_eq_true h2).2
    · have := of_decide_eq_true h2; omega
  · unfold Rec.digB at h3
    split at h3
    · have := of_decide_eq_true h3; omega
    · have := of_decide_eq_true h3; omega
  · unfold Rec.lstB at h4
    split at h4
    · unfold Rc.listB at h4
      simp only [Bool.and_eq_true] at h4
      exact of_decide_eq_true h4.1.1
    · have := of_decide_eq_true h4; omega
  · intro i hi
    unfold Rec.lstB at h4
    split at h4
    · unfold Rc.listB at h4
      simp only [Bool.and_eq_true, List.all_eq_true] at h4
      exact g _ (h4.2 _ (by rw [List.getD_eq_getElem?_getD, List.getElem?_eq_getElem hi]; exact List.getElem_mem hi))
    · have := of_decide_eq_true h4; omega
  · unfold Rec.sltB at h5
    split at h5
    · unfold Rc.slotsB at h5
      simp only [Bool.and_eq_true] at h5
      exact (of_decide_eq_true h5.1).2
    · have := of_decide_eq_true h5; omega
  · intro i hi
    unfold Rec.sltB at h5
    split at h5
    · unfold Rc.slotsB at h5
      simp only [Bool.and_eq_true, List.all_eq_true] at h5
      have h6 := h5.2 _ (show r.slots.getD i (0, 0) ∈ r.slots by rw [List.getD_eq_getElem?_getD, List.getElem?_eq_getElem hi]; exact List.getElem_mem hi)
      unfold Rc.slotB at h6
      simp only [Bool.and_eq_true] at h6
      exact ⟨of_decide_eq_true h6.1, of_decide_eq_true h6.2⟩
    · have := of_decide_eq_true h5; omega
theorem hi_wrap (n : Int) : ∀ k : Nat, k ≤ 8 → Rc.hi (n % 18446744073709551616) k = Rc.hi n k
  | 0, _ => rfl
  | k + 1, h => by
    have ih := hi_wrap n k (by omega)
    have he : n % 18446744073709551616 / 2 ^ (8 * k) % 256 = n / 2 ^ (8 * k) % 256 := by
      match k, h with
      | 0, _ => show n % 18446744073709551616 / 1 % 256 = n / 1 % 256; omega
      | 1, _ => show n % 18446744073709551616 / 256 % 256 = n / 256 % 256; omega
      | 2, _ => show n % 18446744073709551616 / 65536 % 256 = n / 65536 % 256; omega
      | 3, _ => show n % 18446744073709551616 / 16777216 % 256 = n / 16777216 % 256; omega
      | 4, _ => show n % 18446744073709551616 / 4294967296 % 256 = n / 4294967296 % 256; omega
      | 5, _ => show n % 18446744073709551616 / 1099511627776 % 256 = n / 1099511627776 % 256; omega
      | 6, _ => show n % 18446744073709551616 / 281474976710656 % 256 = n / 281474976710656 % 256; omega
      | 7, _ => show n % 18446744073709551616 / 72057594037927936 % 256 = n / 72057594037927936 % 256; omega
    simp only [Rc.hi, ih, he]
theorem hiL_snoc (zs : List Int) (k : Nat) (h : k < zs.length) : Rc.hiL (zs.take (k + 1)) = Rc.hiL (zs.take k) ++ Rc.hi (zs.getD k 0) 4 := by
  unfold Rc.hiL
  rw [List.take_succ_eq_append_getElem h, List.flatMap_append]
  congr 1
  simp [List.getD, h]
theorem hiS_snoc (zs : List (Int × Int)) (k : Nat) (h : k < zs.length) : Rc.hiS (zs.take (k + 1)) = Rc.hiS (zs.take k) ++ Rc.hi (zs.getD k (0, 0)).1 4 ++ Rc.hi (zs.getD k (0, 0)).2 4 := by
  unfold Rc.hiS
  rw [List.take_succ_eq_append_getElem h, List.flatMap_append, List.append_assoc]
  congr 1
  simp [List.getD, h]
theorem own_one (u : World) (base : Nat) (x : UInt8) (n : Int) (hn : n = (x.toNat : Int)) (hb : base ≤ u.heap.size) : (u.alloc (.cells #[.int .u8 n] 5)).ownsRow base 5 1 (.slice (some ⟨u.heap.size, 0, none⟩) 1 1) 1 (bv [x]) := by
  subst hn
  exact ⟨rfl, .inr ⟨u.heap.size, 1, _, rfl, hb, BlockAt.new u _ _, Nat.le_refl _, by unfold maxLen; omega, rfl, rfl⟩⟩
theorem own_at {w : World} {base n : Nat} {e : TypeId} {v : Value} {l : List UInt8} (h : w.ownsRow base e 1 v n (bv l)) : w.ownsRow base e 1 v l.length (bv l) := by
  have h1 := h.1
  rw [bv_length] at h1
  rw [show l.length = n by omega]
  exact h
set_option maxRecDepth 100000 in
set_option maxHeartbeats 1000000 in
theorem bytes_1 (id : Int) (name dig : ByteArray) (al : Option Addr) (nl cl : Nat) (az : Option Addr) (nz cz : Nat) (zs : List Int) (ys : List (Int × Int)) (w : World) (h : RecIn w ⟨1, id, name, dig, zs, ys⟩ al nl az nz) (hm : Rec.may ⟨1, id, name, dig, zs, ys⟩ = true) :
    Calls Try.prog 34 #[.agg #[.int .i64 1, .int .i64 id, .string name, .string dig, .slice al nl cl, .slice az nz cz]] w fun e w' => ∃ v, e = .returned v ∧ w'.ownsRow w.heap.size 5 1 v (Rec.bytes ⟨1, id, name, dig, zs, ys⟩).length (bv (Rec.bytes ⟨1, id, name, dig, zs, ys⟩)) ∧ Kept w w' := by
  obtain ⟨hid, hnm, hdg, hll, hzb, hsl, hyb⟩ := may_bounds hm
  dsimp only at hid hnm hdg hll hzb hsl hyb
  have h1 := h.list.len_eq
  have h2 := h.slots.len_eq
  dsimp only at h1 h2
  have hnl : nl ≤ 2000 := by omega
  have hnz : nz ≤ 14 := by omega
  have hfin : Rec.bytes ⟨1, id, name, dig, zs, ys⟩ = [UInt8.ofNat 1] ++ Rc.hi (id) 4 ++ Rc.hi ((nz : Int)) 1 ++ Rc.hiS ys := by
    unfold Rec.bytes
    dsimp only
    rw [show Rc.fI 1 = true from rfl, show Rc.fN 1 = false from rfl, show Rc.fD 1 = false from rfl, show Rc.fL 1 = false from rfl, show Rc.fS 1 = true from rfl, h1, h2]
    simp [Rc.hi]
  have HZB := Lib.hid (show ∀ i, i < nl → 0 ≤ zs.getD i 0 ∧ zs.getD i 0 ≤ 1073741824 from fun i hi => hzb i (by omega))
  have HYB := Lib.hid (show ∀ i, i < nz → (-1 ≤ (ys.getD i (0, 0)).1 ∧ (ys.getD i (0, 0)).1 ≤ 11) ∧ (0 ≤ (ys.getD i (0, 0)).2 ∧ (ys.getD i (0, 0)).2 ≤ 63) from fun i hi => hyb i (by omega))
  have HNL := Lib.hid (show zs.length = nl from h1)
  have HNZ := Lib.hid (show ys.length = nz from h2)
  have HFIN := Lib.hid hfin
  have HI := Lib.hid h
  obtain ⟨i0, hi, hz0, hz1, hz2⟩ := info_parts Try.infoU8
  have HIN := Lib.hid (And.intro hi (And.intro hz0 (And.intro hz1 hz2)))
  clear hi hz0 hz1 hz2 h hm h1 h2 hfin hzb hyb hll hsl
  obtain ⟨hid1, hid2⟩ := hid
  go_enter Try.func34, Try.ntmps34
  go_wp2_with fail
  refine (named_any 1 _).mono ?_
  rintro e w1 ⟨rfl, hk⟩
  have HK := Lib.hid (((Kept.refl w).alloc _).trans hk)
  have hb := (BlockAt.new w #[.int .i64 1, .int .i64 id, .string name, .string dig, .slice al nl cl, .slice az nz cz] 31).kept hk
  clear hk
  rw [show kfields 1 = #[.bool true, .bool false, .bool false, .bool false, .bool true] from rfl, show Rc.okK 1 = true from rfl]
  go_upto_region 2 with (fail)
  have HBR := Lib.hid (hb.kept ((Kept.refl w1).alloc (.cells #[.bool true, .bool false, .bool false, .bool false, .bool true] 72)))
  have HBF := Lib.hid (BlockAt.new w1 #[.bool true, .bool false, .bool false, .bool false, .bool true] 72)
  have HK2 := Lib.hid (HK.out.alloc (.cells #[.bool true, .bool false, .bool false, .bool false, .bool true] 72))
  clear hb HK
  generalize w1.alloc (.cells #[.bool true, .bool false, .bool false, .bool false, .bool true] 72) = w2 at *
  obtain ⟨a0, a1, a2, a3, a4, a5⟩ := box6 HBR.out
  go_upto_region 3 with (fail)
  have hz2 := HK2.out.size
  have HO0 := Lib.hid (own_one w2 w.heap.size (UInt8.ofNat 1) 1 rfl hz2)
  have HS0 := Lib.hid ((Spare.refl w.heap.size 5 w2).alloc (.cells #[.int .u8 1] 5))
  clear a0 a1 a2 a3 a4 a5
  generalize w2.alloc (.cells #[.int .u8 1] 5) = u0 at *
  obtain ⟨v0, hv0⟩ : ∃ v0 : Value, v0 = .slice (some ⟨w2.heap.size, 0, none⟩) 1 1 := ⟨_, rfl⟩
  rw [← hv0] at HO0 ⊢
  clear hv0
  have kcur := (Spare.of_kept (base := w.heap.size) (e := 5) HK2.out).trans HS0.out
  obtain ⟨a0, a1, a2, a3, a4, a5⟩ := box6 (HS0.out.at HBR.out (by decide))
  obtain ⟨b0, b1, b2, b3, b4⟩ := box5 (HS0.out.at HBF.out (by decide))
  have hz := kcur.size
  have HKC := Lib.hid kcur
  clear kcur
  go_wp2_with fail
  refine (number4 w.heap.size v0 (1) ([UInt8.ofNat 1]) (id) _ HO0.out (by omega) ⟨by omega, by omega⟩ (by omega)).mono ?_
  rintro e u1 ⟨v1, rfl, ho, hs⟩
  have HS1 := Lib.hid (HS0.out.trans hs)
  have HO1 := Lib.hid ho
  clear a0 a1 a2 a3 a4 a5 b0 b1 b2 b3 b4 hz HKC
  clear ho hs HO0 HS0
  have kcur := (Spare.of_kept (base := w.heap.size) (e := 5) HK2.out).trans HS1.out
  obtain ⟨a0, a1, a2, a3, a4, a5⟩ := box6 (HS1.out.at HBR.out (by decide))
  obtain ⟨b0, b1, b2, b3, b4⟩ := box5 (HS1.out.at HBF.out (by decide))
  have hz := kcur.size
  have HKC := Lib.hid kcur
  clear kcur
  go_wp2_with fail
  refine (number1 w.heap.size v1 (1 + 4) ([UInt8.ofNat 1] ++ Rc.hi (id) 4) ((nz : Int)) _ HO1.out (by omega) ⟨by omega, by omega⟩ (by omega)).mono ?_
  rintro e u2 ⟨v2, rfl, ho, hs⟩
  have HS2 := Lib.hid (HS1.out.trans hs)
  have HO2 := Lib.hid ho
  clear a0 a1 a2 a3 a4 a5 b0 b1 b2 b3 b4 hz HKC
  clear ho hs HO1 HS1
  have kcur := (Spare.of_kept (base := w.heap.size) (e := 5) HK2.out).trans HS2.out
  obtain ⟨a0, a1, a2, a3, a4, a5⟩ := box6 (HS2.out.at HBR.out (by decide))
  obtain ⟨b0, b1, b2, b3, b4⟩ := box5 (HS2.out.at HBF.out (by decide))
  have hz := kcur.size
  have HKC := Lib.hid kcur
  clear kcur
  go_wp2_with fail
  clear a0 a1 a2 a3 a4 a5 b0 b1 b2 b3 b4 hz HKC
  go_loopw [5, 76] (fun v q wr => ∃ (g : Nat) (V : Value), g ≤ nz ∧ V = v ∧ q = .int .i64 g ∧ wr.ownsRow w.heap.size 5 1 V (1 + 4 + 1 + 8 * g) (bv ([UInt8.ofNat 1] ++ Rc.hi (id) 4 ++ Rc.hi ((nz : Int)) 1 ++ Rc.hiS (ys.take g))) ∧ Spare w.heap.size 5 w2 wr) (fun _ q _ => nz - (intOf q).toNat)
  case atStart => exact ⟨0, _, by omega, rfl, rfl, by simpa [Rc.hiS] using HO2.out, HS2.out⟩
  case round =>
    obtain ⟨g, vS, hg, rfl, rfl, ho, hs⟩ := hrel
    have HO3 := Lib.hid ho
    have HS3 := Lib.hid hs
    clear ho hs HO2 HS2
    by_cases hlt : g < nz
    · have kcur := (Spare.of_kept (base := w.heap.size) (e := 5) HK2.out).trans HS3.out
      obtain ⟨a0, a1, a2, a3, a4, a5⟩ := box6 (HS3.out.at HBR.out (by decide))
      obtain ⟨b0, b1, b2, b3, b4⟩ := box5 (HS3.out.at HBF.out (by decide))
      have hz := kcur.size
      have HKC := Lib.hid kcur
      clear kcur
      obtain ⟨bs, os, rfl, hc⟩ := (HI.out.slots.kept HKC.out.kept).cell (by omega)
      obtain ⟨hc0, hc1⟩ := hc g hlt _ (Kept.refl _)
      have hzb := HYB.out g hlt
      have HSN := Lib.hid (hiS_snoc ys g (by have := HNZ.out; omega))
      generalize ys.getD g (0, 0) = x at *
      obtain ⟨d, p⟩ := x
      obtain ⟨⟨hd1, hd2⟩, hp1, hp2⟩ := hzb
      dsimp only at hc0 hc1 hd1 hd2 hp1 hp2 HSN
      obtain ⟨D, hD⟩ : ∃ D : Int, IntKind.u64.wrap d = D := ⟨_, rfl⟩
      have hD' : D = d % 18446744073709551616 := hD.symm
      have hDb : 0 ≤ D ∧ D < 18446744073709551616 := by rw [hD']; exact ⟨Int.emod_nonneg _ (by decide), Int.emod_lt_of_pos _ (by decide)⟩
      have HD := Lib.hid (show Rc.hi D 4 = Rc.hi d 4 by rw [hD']; exact hi_wrap d 4 (by omega))
      clear hc hD'
      go_wp2_with fail
      refine (number4 w.heap.size vS (1 + 4 + 1 + 8 * g) ([UInt8.ofNat 1] ++ Rc.hi (id) 4 ++ Rc.hi ((nz : Int)) 1 ++ Rc.hiS (ys.take g)) D _ (own_kept HO3.out ((Kept.refl _).alloc _)) (by omega) ⟨by omega, by omega⟩ (by simp; omega)).mono ?_
      rintro e u4 ⟨v4, rfl, ho, hs⟩
      have HS4 := Lib.hid ((HS3.out.alloc (.cells #[.int .i64 d, .int .i64 p] 57)).trans hs)
      have hb2 := hs.at (BlockAt.new _ #[.int .i64 d, .int .i64 p] 57) (by decide)
      have HO4 := Lib.hid ho
      clear a0 a1 a2 a3 a4 a5 b0 b1 b2 b3 b4 hz HKC
      clear ho hs HO3 HS3 hc0 hc1 hD
      have hc1 := hb2.cell 1
      clear hb2
      have kcur := (Spare.of_kept (base := w.heap.size) (e := 5) HK2.out).trans HS4.out
      obtain ⟨a0, a1, a2, a3, a4, a5⟩ := box6 (HS4.out.at HBR.out (by decide))
      obtain ⟨b0, b1, b2, b3, b4⟩ := box5 (HS4.out.at HBF.out (by decide))
      have hz := kcur.size
      have HKC := Lib.hid kcur
      clear kcur
      go_wp2_with fail
      refine (number4 w.heap.size v4 (1 + 4 + 1 + 8 * g + 4) ([UInt8.ofNat 1] ++ Rc.hi (id) 4 ++ Rc.hi ((nz : Int)) 1 ++ Rc.hiS (ys.take g) ++ Rc.hi D 4) p _ HO4.out (by omega) ⟨by omega, by omega⟩ (by omega)).mono ?_
      rintro e u5 ⟨v5, rfl, ho, hs⟩
      have HS5 := Lib.hid (HS4.out.trans hs)
      have HO5 := Lib.hid ho
      clear a0 a1 a2 a3 a4 a5 b0 b1 b2 b3 b4 hz HKC
      clear ho hs HO4 HS4 hc1
      go_wp2
      go_roundw
      case rel => exact ⟨g + 1, _, by omega, rfl, by go_num, by have := HO5.out; rw [HSN.out, ← HD.out, ← List.append_assoc, ← List.append_assoc, show 1 + 4 + 1 + 8 * (g + 1) = 1 + 4 + 1 + 8 * g + 4 + 4 by omega]; exact this, HS5.out⟩
      case measure => simp [intOf]; omega

    · obtain rfl : nz = g := by omega
      have kcur := (Spare.of_kept (base := w.heap.size) (e := 5) HK2.out).trans HS3.out
      obtain ⟨a0, a1, a2, a3, a4, a5⟩ := box6 (HS3.out.at HBR.out (by decide))
      obtain ⟨b0, b1, b2, b3, b4⟩ := box5 (HS3.out.at HBF.out (by decide))
      have hz := kcur.size
      have HKC := Lib.hid kcur
      clear kcur
      go_wp2
      go_ret
      refine ⟨_, rfl, ?_, ((Spare.of_kept (base := w.heap.size) (e := 5) HK2.out).trans HS3.out).kept⟩
      rw [HFIN.out]
      have := HO3.out
      rw [List.take_of_length_le (by have := HNZ.out; omega)] at this
      exact own_at this
set_option maxRecDepth 100000 in
set_option maxHeartbeats 1000000 in
theorem bytes_2 (id : Int) (name dig : ByteArray) (al : Option Addr) (nl cl : Nat) (az : Option Addr) (nz cz : Nat) (zs : List Int) (ys : List (Int × Int)) (w : World) (h : RecIn w ⟨2, id, name, dig, zs, ys⟩ al nl az nz) (hm : Rec.may ⟨2, id, name, dig, zs, ys⟩ = true) :
    Calls Try.prog 34 #[.agg #[.int .i64 2, .int .i64 id, .string name, .string dig, .slice al nl cl, .slice az nz cz]] w fun e w' => ∃ v, e = .returned v ∧ w'.ownsRow w.heap.size 5 1 v (Rec.bytes ⟨2, id, name, dig, zs, ys⟩).length (bv (Rec.bytes ⟨2, id, name, dig, zs, ys⟩)) ∧ Kept w w' := by
  obtain ⟨hid, hnm, hdg, hll, hzb, hsl, hyb⟩ := may_bounds hm
  dsimp only at hid hnm hdg hll hzb hsl hyb
  have h1 := h.list.len_eq
  have h2 := h.slots.len_eq
  dsimp only at h1 h2
  have hnl : nl ≤ 2000 := by omega
  have hnz : nz ≤ 14 := by omega
  have hfin : Rec.bytes ⟨2, id, name, dig, zs, ys⟩ = [UInt8.ofNat 2] ++ Rc.hi (id) 4 ++ Rc.hi ((nl : Int)) 4 ++ Rc.hiL zs ++ Rc.hi ((nz : Int)) 1 ++ Rc.hiS ys := by
    unfold Rec.bytes
    dsimp only
    rw [show Rc.fI 2 = true from rfl, show Rc.fN 2 = false from rfl, show Rc.fD 2 = false from rfl, show Rc.fL 2 = true from rfl, show Rc.fS 2 = true from rfl, h1, h2]
    simp [Rc.hi]
  have HZB := Lib.hid (show ∀ i, i < nl → 0 ≤ zs.getD i 0 ∧ zs.getD i 0 ≤ 1073741824 from fun i hi => hzb i (by omega))
  have HYB := Lib.hid (show ∀ i, i < nz → (-1 ≤ (ys.getD i (0, 0)).1 ∧ (ys.getD i (0, 0)).1 ≤ 11) ∧ (0 ≤ (ys.getD i (0, 0)).2 ∧ (ys.getD i (0, 0)).2 ≤ 63) from fun i hi => hyb i (by omega))
  have HNL := Lib.hid (show zs.length = nl from h1)
  have HNZ := Lib.hid (show ys.length = nz from h2)
  have HFIN := Lib.hid hfin
  have HI := Lib.hid h
  obtain ⟨i0, hi, hz0, hz1, hz2⟩ := info_parts Try.infoU8
  have HIN := Lib.hid (And.intro hi (And.intro hz0 (And.intro hz1 hz2)))
  clear hi hz0 hz1 hz2 h hm h1 h2 hfin hzb hyb hll hsl
  obtain ⟨hid1, hid2⟩ := hid
  go_enter Try.func34, Try.ntmps34
  go_wp2_with fail
  refine (named_any 2 _).mono ?_
  rintro e w1 ⟨rfl, hk⟩
  have HK := Lib.hid (((Kept.refl w).alloc _).trans hk)
  have hb := (BlockAt.new w #[.int .i64 2, .int .i64 id, .string name, .string dig, .slice al nl cl, .slice az nz cz] 31).kept hk
  clear hk
  rw [show kfields 2 = #[.bool true, .bool false, .bool false, .bool true, .bool true] from rfl, show Rc.okK 2 = true from rfl]
  go_upto_region 2 with (fail)
  have HBR := Lib.hid (hb.kept ((Kept.refl w1).alloc (.cells #[.bool true, .bool false, .bool false, .bool true, .bool true] 72)))
  have HBF := Lib.hid (BlockAt.new w1 #[.bool true, .bool false, .bool false, .bool true, .bool true] 72)
  have HK2 := Lib.hid (HK.out.alloc (.cells #[.bool true, .bool false, .bool false, .bool true, .bool true] 72))
  clear hb HK
  generalize w1.alloc (.cells #[.bool true, .bool false, .bool false, .bool true, .bool true] 72) = w2 at *
  obtain ⟨a0, a1, a2, a3, a4, a5⟩ := box6 HBR.out
  go_upto_region 3 with (fail)
  have hz2 := HK2.out.size
  have HO0 := Lib.hid (own_one w2 w.heap.size (UInt8.ofNat 2) 2 rfl hz2)
  have HS0 := Lib.hid ((Spare.refl w.heap.size 5 w2).alloc (.cells #[.int .u8 2] 5))
  clear a0 a1 a2 a3 a4 a5
  generalize w2.alloc (.cells #[.int .u8 2] 5) = u0 at *
  obtain ⟨v0, hv0⟩ : ∃ v0 : Value, v0 = .slice (some ⟨w2.heap.size, 0, none⟩) 1 1 := ⟨_, rfl⟩
  rw [← hv0] at HO0 ⊢
  clear hv0
  have kcur := (Spare.of_kept (base := w.heap.size) (e := 5) HK2.out).trans HS0.out
  obtain ⟨a0, a1, a2, a3, a4, a5⟩ := box6 (HS0.out.at HBR.out (by decide))
  obtain ⟨b0, b1, b2, b3, b4⟩ := box5 (HS0.out.at HBF.out (by decide))
  have hz := kcur.size
  have HKC := Lib.hid kcur
  clear kcur
  go_wp2_with fail
  refine (number4 w.heap.size v0 (1) ([UInt8.ofNat 2]) (id) _ HO0.out (by omega) ⟨by omega, by omega⟩ (by omega)).mono ?_
  rintro e u1 ⟨v1, rfl, ho, hs⟩
  have HS1 := Lib.hid (HS0.out.trans hs)
  have HO1 := Lib.hid ho
  clear a0 a1 a2 a3 a4 a5 b0 b1 b2 b3 b4 hz HKC
  clear ho hs HO0 HS0
  have kcur := (Spare.of_kept (base := w.heap.size) (e := 5) HK2.out).trans HS1.out
  obtain ⟨a0, a1, a2, a3, a4, a5⟩ := box6 (HS1.out.at HBR.out (by decide))
  obtain ⟨b0, b1, b2, b3, b4⟩ := box5 (HS1.out.at HBF.out (by decide))
  have hz := kcur.size
  have HKC := Lib.hid kcur
  clear kcur
  go_wp2_with fail
  refine (number4 w.heap.size v1 (1 + 4) ([UInt8.ofNat 2] ++ Rc.hi (id) 4) ((nl : Int)) _ HO1.out (by omega) ⟨by omega, by omega⟩ (by omega)).mono ?_
  rintro e u2 ⟨v2, rfl, ho, hs⟩
  have HS2 := Lib.hid (HS1.out.trans hs)
  have HO2 := Lib.hid ho
  clear a0 a1 a2 a3 a4 a5 b0 b1 b2 b3 b4 hz HKC
  clear ho hs HO1 HS1
  have kcur := (Spare.of_kept (base := w.heap.size) (e := 5) HK2.out).trans HS2.out
  obtain ⟨a0, a1, a2, a3, a4, a5⟩ := box6 (HS2.out.at HBR.out (by decide))
  obtain ⟨b0, b1, b2, b3, b4⟩ := box5 (HS2.out.at HBF.out (by decide))
  have hz := kcur.size
  have HKC := Lib.hid kcur
  clear kcur
  go_wp2_with fail
  clear a0 a1 a2 a3 a4 a5 b0 b1 b2 b3 b4 hz HKC
  go_loopw [5, 56] (fun v q wr => ∃ (j : Nat) (V : Value), j ≤ nl ∧ V = v ∧ q = .int .i64 j ∧ wr.ownsRow w.heap.size 5 1 V (1 + 4 + 4 + 4 * j) (bv ([UInt8.ofNat 2] ++ Rc.hi (id) 4 ++ Rc.hi ((nl : Int)) 4 ++ Rc.hiL (zs.take j))) ∧ Spare w.heap.size 5 w2 wr) (fun _ q _ => nl - (intOf q).toNat)
  case atStart => exact ⟨0, _, by omega, rfl, rfl, by simpa [Rc.hiL] using HO2.out, HS2.out⟩
  case round =>
    obtain ⟨j, vL, hj, rfl, rfl, ho, hs⟩ := hrel
    have HO3 := Lib.hid ho
    have HS3 := Lib.hid hs
    clear ho hs HO2 HS2
    by_cases hlt : j < nl
    · have kcur := (Spare.of_kept (base := w.heap.size) (e := 5) HK2.out).trans HS3.out
      obtain ⟨a0, a1, a2, a3, a4, a5⟩ := box6 (HS3.out.at HBR.out (by decide))
      obtain ⟨b0, b1, b2, b3, b4⟩ := box5 (HS3.out.at HBF.out (by decide))
      have hz := kcur.size
      have HKC := Lib.hid kcur
      clear kcur
      obtain ⟨bl, ol, rfl, hc⟩ := (HI.out.list.kept HKC.out.kept).cell (by omega)
      have hcj := hc j hlt _ (Kept.refl _)
      have hzb := HZB.out j hlt
      have HSN := Lib.hid (hiL_snoc zs j (by have := HNL.out; omega))
      generalize zs.getD j 0 = x at *
      clear hc
      go_wp2_with fail
      refine (number4 w.heap.size vL (1 + 4 + 4 + 4 * j) ([UInt8.ofNat 2] ++ Rc.hi (id) 4 ++ Rc.hi ((nl : Int)) 4 ++ Rc.hiL (zs.take j)) x _ HO3.out (by omega) ⟨by omega, by omega⟩ (by omega)).mono ?_
      rintro e u4 ⟨v4, rfl, ho, hs⟩
      have HS4 := Lib.hid (HS3.out.trans hs)
      have HO4 := Lib.hid ho
      clear a0 a1 a2 a3 a4 a5 b0 b1 b2 b3 b4 hz HKC
      clear ho hs HO3 HS3 hcj hzb
      go_wp2
      go_roundw
      case rel => exact ⟨j + 1, _, by omega, rfl, by go_num, by have := HO4.out; rw [HSN.out, ← List.append_assoc, show 1 + 4 + 4 + 4 * (j + 1) = 1 + 4 + 4 + 4 * j + 4 by omega]; exact this, HS4.out⟩
      case measure => simp [intOf]; omega

    · obtain rfl : nl = j := by omega
      rw [List.take_of_length_le (by have := HNL.out; omega)] at HO3
      have kcur := (Spare.of_kept (base := w.heap.size) (e := 5) HK2.out).trans HS3.out
      obtain ⟨a0, a1, a2, a3, a4, a5⟩ := box6 (HS3.out.at HBR.out (by decide))
      obtain ⟨b0, b1, b2, b3, b4⟩ := box5 (HS3.out.at HBF.out (by decide))
      have hz := kcur.size
      have HKC := Lib.hid kcur
      clear kcur
      go_wp2_with fail
      refine (number1 w.heap.size vL (1 + 4 + 4 + 4 * nl) ([UInt8.ofNat 2] ++ Rc.hi (id) 4 ++ Rc.hi ((nl : Int)) 4 ++ Rc.hiL zs) ((nz : Int)) _ HO3.out (by omega) ⟨by omega, by omega⟩ (by omega)).mono ?_
      rintro e u4 ⟨v4, rfl, ho, hs⟩
      have HS4 := Lib.hid (HS3.out.trans hs)
      have HO4 := Lib.hid ho
      clear a0 a1 a2 a3 a4 a5 b0 b1 b2 b3 b4 hz HKC
      clear ho hs HO3 HS3
      have kcur := (Spare.of_kept (base := w.heap.size) (e := 5) HK2.out).trans HS4.out
      obtain ⟨a0, a1, a2, a3, a4, a5⟩ := box6 (HS4.out.at HBR.out (by decide))
      obtain ⟨b0, b1, b2, b3, b4⟩ := box5 (HS4.out.at HBF.out (by decide))
      have hz := kcur.size
      have HKC := Lib.hid kcur
      clear kcur
      go_wp2_with fail
      clear a0 a1 a2 a3 a4 a5 b0 b1 b2 b3 b4 hz HKC
      go_loopw [5, 76] (fun v q wr => ∃ (g : Nat) (V : Value), g ≤ nz ∧ V = v ∧ q = .int .i64 g ∧ wr.ownsRow w.heap.size 5 1 V (1 + 4 + 4 + 4 * nl + 1 + 8 * g) (bv ([UInt8.ofNat 2] ++ Rc.hi (id) 4 ++ Rc.hi ((nl : Int)) 4 ++ Rc.hiL zs ++ Rc.hi ((nz : Int)) 1 ++ Rc.hiS (ys.take g))) ∧ Spare w.heap.size 5 w2 wr) (fun _ q _ => nz - (intOf q).toNat)
      case atStart => exact ⟨0, _, by omega, rfl, rfl, by simpa [Rc.hiS] using HO4.out, HS4.out⟩
      case round =>
        obtain ⟨g, vS, hg, rfl, rfl, ho, hs⟩ := hrel
        have HO5 := Lib.hid ho
        have HS5 := Lib.hid hs
        clear ho hs HO4 HS4
        by_cases hlt : g < nz
        · have kcur := (Spare.of_kept (base := w.heap.size) (e := 5) HK2.out).trans HS5.out
          obtain ⟨a0, a1, a2, a3, a4, a5⟩ := box6 (HS5.out.at HBR.out (by decide))
          obtain ⟨b0, b1, b2, b3, b4⟩ := box5 (HS5.out.at HBF.out (by decide))
          have hz := kcur.size
          have HKC := Lib.hid kcur
          clear kcur
          obtain ⟨bs, os, rfl, hc⟩ := (HI.out.slots.kept HKC.out.kept).cell (by omega)
          obtain ⟨hc0, hc1⟩ := hc g hlt _ (Kept.refl _)
          have hzb := HYB.out g hlt
          have HSN := Lib.hid (hiS_snoc ys g (by have := HNZ.out; omega))
          generalize ys.getD g (0, 0) = x at *
          obtain ⟨d, p⟩ := x
          obtain ⟨⟨hd1, hd2⟩, hp1, hp2⟩ := hzb
          dsimp only at hc0 hc1 hd1 hd2 hp1 hp2 HSN
          obtain ⟨D, hD⟩ : ∃ D : Int, IntKind.u64.wrap d = D := ⟨_, rfl⟩
          have hD' : D = d % 18446744073709551616 := hD.symm
          have hDb : 0 ≤ D ∧ D < 18446744073709551616 := by rw [hD']; exact ⟨Int.emod_nonneg _ (by decide), Int.emod_lt_of_pos _ (by decide)⟩
          have HD := Lib.hid (show Rc.hi D 4 = Rc.hi d 4 by rw [hD']; exact hi_wrap d 4 (by omega))
          clear hc hD'
          go_wp2_with fail
          refine (number4 w.heap.size vS (1 + 4 + 4 + 4 * nl + 1 + 8 * g) ([UInt8.ofNat 2] ++ Rc.hi (id) 4 ++ Rc.hi ((nl : Int)) 4 ++ Rc.hiL zs ++ Rc.hi ((nz : Int)) 1 ++ Rc.hiS (ys.take g)) D _ (own_kept HO5.out ((Kept.refl _).alloc _)) (by omega) ⟨by omega, by omega⟩ (by simp; omega)).mono ?_
          rintro e u6 ⟨v6, rfl, ho, hs⟩
          have HS6 := Lib.hid ((HS5.out.alloc (.cells #[.int .i64 d, .int .i64 p] 57)).trans hs)
          have hb2 := hs.at (BlockAt.new _ #[.int .i64 d, .int .i64 p] 57) (by decide)
          have HO6 := Lib.hid ho
          clear a0 a1 a2 a3 a4 a5 b0 b1 b2 b3 b4 hz HKC
          clear ho hs HO5 HS5 hc0 hc1 hD
          have hc1 := hb2.cell 1
          clear hb2
          have kcur := (Spare.of_kept (base := w.heap.size) (e := 5) HK2.out).trans HS6.out
          obtain ⟨a0, a1, a2, a3, a4, a5⟩ := box6 (HS6.out.at HBR.out (by decide))
          obtain ⟨b0, b1, b2, b3, b4⟩ := box5 (HS6.out.at HBF.out (by decide))
          have hz := kcur.size
          have HKC := Lib.hid kcur
          clear kcur
          go_wp2_with fail
          refine (number4 w.heap.size v6 (1 + 4 + 4 + 4 * nl + 1 + 8 * g + 4) ([UInt8.ofNat 2] ++ Rc.hi (id) 4 ++ Rc.hi ((nl : Int)) 4 ++ Rc.hiL zs ++ Rc.hi ((nz : Int)) 1 ++ Rc.hiS (ys.take g) ++ Rc.hi D 4) p _ HO6.out (by omega) ⟨by omega, by omega⟩ (by omega)).mono ?_
          rintro e u7 ⟨v7, rfl, ho, hs⟩
          have HS7 := Lib.hid (HS6.out.trans hs)
          have HO7 := Lib.hid ho
          clear a0 a1 a2 a3 a4 a5 b0 b1 b2 b3 b4 hz HKC
          clear ho hs HO6 HS6 hc1
          go_wp2
          go_roundw
          case rel => exact ⟨g + 1, _, by omega, rfl, by go_num, by have := HO7.out; rw [HSN.out, ← HD.out, ← List.append_assoc, ← List.append_assoc, show 1 + 4 + 4 + 4 * nl + 1 + 8 * (g + 1) = 1 + 4 + 4 + 4 * nl + 1 + 8 * g + 4 + 4 by omega]; exact this, HS7.out⟩
          case measure => simp [intOf]; omega

        · obtain rfl : nz = g := by omega
          have kcur := (Spare.of_kept (base := w.heap.size) (e := 5) HK2.out).trans HS5.out
          obtain ⟨a0, a1, a2, a3, a4, a5⟩ := box6 (HS5.out.at HBR.out (by decide))
          obtain ⟨b0, b1, b2, b3, b4⟩ := box5 (HS5.out.at HBF.out (by decide))
          have hz := kcur.size
          have HKC := Lib.hid kcur
          clear kcur
          go_wp2
          go_ret
          refine ⟨_, rfl, ?_, ((Spare.of_kept (base := w.heap.size) (e := 5) HK2.out).trans HS5.out).kept⟩
          rw [HFIN.out]
          have := HO5.out
          rw [List.take_of_length_le (by have := HNZ.out; omega)] at this
          exact own_at this
set_option maxRecDepth 100000 in
set_option maxHeartbeats 1000000 in
theorem bytes_3 (id : Int) (name dig : ByteArray) (al : Option Addr) (nl cl : Nat) (az : Option Addr) (nz cz : Nat) (zs : List Int) (ys : List (Int × Int)) (w : World) (h : RecIn w ⟨3, id, name, dig, zs, ys⟩ al nl az nz) (hm : Rec.may ⟨3, id, name, dig, zs, ys⟩ = true) :
    Calls Try.prog 34 #[.agg #[.int .i64 3, .int .i64 id, .string name, .string dig, .slice al nl cl, .slice az nz cz]] w fun e w' => ∃ v, e = .returned v ∧ w'.ownsRow w.heap.size 5 1 v (Rec.bytes ⟨3, id, name, dig, zs, ys⟩).length (bv (Rec.bytes ⟨3, id, name, dig, zs, ys⟩)) ∧ Kept w w' := by
  obtain ⟨hid, hnm, hdg, hll, hzb, hsl, hyb⟩ := may_bounds hm
  dsimp only at hid hnm hdg hll hzb hsl hyb
  have h1 := h.list.len_eq
  have h2 := h.slots.len_eq
  dsimp only at h1 h2
  have hnl : nl ≤ 2000 := by omega
  have hnz : nz ≤ 14 := by omega
  have hfin : Rec.bytes ⟨3, id, name, dig, zs, ys⟩ = [UInt8.ofNat 3] ++ Rc.hi (id) 4 := by
    unfold Rec.bytes
    dsimp only
    rw [show Rc.fI 3 = true from rfl, show Rc.fN 3 = false from rfl, show Rc.fD 3 = false from rfl, show Rc.fL 3 = false from rfl, show Rc.fS 3 = false from rfl, h1, h2]
    simp [Rc.hi]
  have HZB := Lib.hid (show ∀ i, i < nl → 0 ≤ zs.getD i 0 ∧ zs.getD i 0 ≤ 1073741824 from fun i hi => hzb i (by omega))
  have HYB := Lib.hid (show ∀ i, i < nz → (-1 ≤ (ys.getD i (0, 0)).1 ∧ (ys.getD i (0, 0)).1 ≤ 11) ∧ (0 ≤ (ys.getD i (0, 0)).2 ∧ (ys.getD i (0, 0)).2 ≤ 63) from fun i hi => hyb i (by omega))
  have HNL := Lib.hid (show zs.length = nl from h1)
  have HNZ := Lib.hid (show ys.length = nz from h2)
  have HFIN := Lib.hid hfin
  have HI := Lib.hid h
  obtain ⟨i0, hi, hz0, hz1, hz2⟩ := info_parts Try.infoU8
  have HIN := Lib.hid (And.intro hi (And.intro hz0 (And.intro hz1 hz2)))
  clear hi hz0 hz1 hz2 h hm h1 h2 hfin hzb hyb hll hsl
  obtain ⟨hid1, hid2⟩ := hid
  go_enter Try.func34, Try.ntmps34
  go_wp2_with fail
  refine (named_any 3 _).mono ?_
  rintro e w1 ⟨rfl, hk⟩
  have HK := Lib.hid (((Kept.refl w).alloc _).trans hk)
  have hb := (BlockAt.new w #[.int .i64 3, .int .i64 id, .string name, .string dig, .slice al nl cl, .slice az nz cz] 31).kept hk
  clear hk
  rw [show kfields 3 = #[.bool true, .bool false, .bool false, .bool false, .bool false] from rfl, show Rc.okK 3 = true from rfl]
  go_upto_region 2 with (fail)
  have HBR := Lib.hid (hb.kept ((Kept.refl w1).alloc (.cells #[.bool true, .bool false, .bool false, .bool false, .bool false] 72)))
  have HBF := Lib.hid (BlockAt.new w1 #[.bool true, .bool false, .bool false, .bool false, .bool false] 72)
  have HK2 := Lib.hid (HK.out.alloc (.cells #[.bool true, .bool false, .bool false, .bool false, .bool false] 72))
  clear hb HK
  generalize w1.alloc (.cells #[.bool true, .bool false, .bool false, .bool false, .bool false] 72) = w2 at *
  obtain ⟨a0, a1, a2, a3, a4, a5⟩ := box6 HBR.out
  go_upto_region 3 with (fail)
  have hz2 := HK2.out.size
  have HO0 := Lib.hid (own_one w2 w.heap.size (UInt8.ofNat 3) 3 rfl hz2)
  have HS0 := Lib.hid ((Spare.refl w.heap.size 5 w2).alloc (.cells #[.int .u8 3] 5))
  clear a0 a1 a2 a3 a4 a5
  generalize w2.alloc (.cells #[.int .u8 3] 5) = u0 at *
  obtain ⟨v0, hv0⟩ : ∃ v0 : Value, v0 = .slice (some ⟨w2.heap.size, 0, none⟩) 1 1 := ⟨_, rfl⟩
  rw [← hv0] at HO0 ⊢
  clear hv0
  have kcur := (Spare.of_kept (base := w.heap.size) (e := 5) HK2.out).trans HS0.out
  obtain ⟨a0, a1, a2, a3, a4, a5⟩ := box6 (HS0.out.at HBR.out (by decide))
  obtain ⟨b0, b1, b2, b3, b4⟩ := box5 (HS0.out.at HBF.out (by decide))
  have hz := kcur.size
  have HKC := Lib.hid kcur
  clear kcur
  go_wp2_with fail
  refine (number4 w.heap.size v0 (1) ([UInt8.ofNat 3]) (id) _ HO0.out (by omega) ⟨by omega, by omega⟩ (by omega)).mono ?_
  rintro e u1 ⟨v1, rfl, ho, hs⟩
  have HS1 := Lib.hid (HS0.out.trans hs)
  have HO1 := Lib.hid ho
  clear a0 a1 a2 a3 a4 a5 b0 b1 b2 b3 b4 hz HKC
  clear ho hs HO0 HS0
  have kcur := (Spare.of_kept (base := w.heap.size) (e := 5) HK2.out).trans HS1.out
  obtain ⟨a0, a1, a2, a3, a4, a5⟩ := box6 (HS1.out.at HBR.out (by decide))
  obtain ⟨b0, b1, b2, b3, b4⟩ := box5 (HS1.out.at HBF.out (by decide))
  have hz := kcur.size
  have HKC := Lib.hid kcur
  clear kcur
  go_wp2
  go_ret
  refine ⟨_, rfl, ?_, ((Spare.of_kept (base := w.heap.size) (e := 5) HK2.out).trans HS1.out).kept⟩
  rw [HFIN.out]
  exact own_at HO1.out
set_option maxRecDepth 100000 in
set_option maxHeartbeats 1000000 in
theorem bytes_4 (id : Int) (name dig : ByteArray) (al : Option Addr) (nl cl : Nat) (az : Option Addr) (nz cz : Nat) (zs : List Int) (ys : List (Int × Int)) (w : World) (h : RecIn w ⟨4, id, name, dig, zs, ys⟩ al nl az nz) (hm : Rec.may ⟨4, id, name, dig, zs, ys⟩ = true) :
    Calls Try.prog 34 #[.agg #[.int .i64 4, .int .i64 id, .string name, .string dig, .slice al nl cl, .slice az nz cz]] w fun e w' => ∃ v, e = .returned v ∧ w'.ownsRow w.heap.size 5 1 v (Rec.bytes ⟨4, id, name, dig, zs, ys⟩).length (bv (Rec.bytes ⟨4, id, name, dig, zs, ys⟩)) ∧ Kept w w' := by
  obtain ⟨hid, hnm, hdg, hll, hzb, hsl, hyb⟩ := may_bounds hm
  dsimp only at hid hnm hdg hll hzb hsl hyb
  have h1 := h.list.len_eq
  have h2 := h.slots.len_eq
  dsimp only at h1 h2
  have hnl : nl ≤ 2000 := by omega
  have hnz : nz ≤ 14 := by omega
  have hfin : Rec.bytes ⟨4, id, name, dig, zs, ys⟩ = [UInt8.ofNat 4] ++ Rc.hi (id) 4 ++ dig.data.toList ++ Rc.hi ((nl : Int)) 4 ++ Rc.hiL zs := by
    unfold Rec.bytes
    dsimp only
    rw [show Rc.fI 4 = true from rfl, show Rc.fN 4 = false from rfl, show Rc.fD 4 = true from rfl, show Rc.fL 4 = true from rfl, show Rc.fS 4 = false from rfl, h1, h2]
    simp [Rc.hi]
  have HZB := Lib.hid (show ∀ i, i < nl → 0 ≤ zs.getD i 0 ∧ zs.getD i 0 ≤ 1073741824 from fun i hi => hzb i (by omega))
  have HYB := Lib.hid (show ∀ i, i < nz → (-1 ≤ (ys.getD i (0, 0)).1 ∧ (ys.getD i (0, 0)).1 ≤ 11) ∧ (0 ≤ (ys.getD i (0, 0)).2 ∧ (ys.getD i (0, 0)).2 ≤ 63) from fun i hi => hyb i (by omega))
  have HNL := Lib.hid (show zs.length = nl from h1)
  have HNZ := Lib.hid (show ys.length = nz from h2)
  have HFIN := Lib.hid hfin
  have HI := Lib.hid h
  obtain ⟨i0, hi, hz0, hz1, hz2⟩ := info_parts Try.infoU8
  have HIN := Lib.hid (And.intro hi (And.intro hz0 (And.intro hz1 hz2)))
  clear hi hz0 hz1 hz2 h hm h1 h2 hfin hzb hyb hll hsl
  obtain ⟨hid1, hid2⟩ := hid
  go_enter Try.func34, Try.ntmps34
  go_wp2_with fail
  refine (named_any 4 _).mono ?_
  rintro e w1 ⟨rfl, hk⟩
  have HK := Lib.hid (((Kept.refl w).alloc _).trans hk)
  have hb := (BlockAt.new w #[.int .i64 4, .int .i64 id, .string name, .string dig, .slice al nl cl, .slice az nz cz] 31).kept hk
  clear hk
  rw [show kfields 4 = #[.bool true, .bool false, .bool true, .bool true, .bool false] from rfl, show Rc.okK 4 = true from rfl]
  go_upto_region 2 with (fail)
  have HBR := Lib.hid (hb.kept ((Kept.refl w1).alloc (.cells #[.bool true, .bool false, .bool true, .bool true, .bool false] 72)))
  have HBF := Lib.hid (BlockAt.new w1 #[.bool true, .bool false, .bool true, .bool true, .bool false] 72)
  have HK2 := Lib.hid (HK.out.alloc (.cells #[.bool true, .bool false, .bool true, .bool true, .bool false] 72))
  clear hb HK
  generalize w1.alloc (.cells #[.bool true, .bool false, .bool true, .bool true, .bool false] 72) = w2 at *
  obtain ⟨a0, a1, a2, a3, a4, a5⟩ := box6 HBR.out
  go_upto_region 3 with (fail)
  have hz2 := HK2.out.size
  have HO0 := Lib.hid (own_one w2 w.heap.size (UInt8.ofNat 4) 4 rfl hz2)
  have HS0 := Lib.hid ((Spare.refl w.heap.size 5 w2).alloc (.cells #[.int .u8 4] 5))
  clear a0 a1 a2 a3 a4 a5
  generalize w2.alloc (.cells #[.int .u8 4] 5) = u0 at *
  obtain ⟨v0, hv0⟩ : ∃ v0 : Value, v0 = .slice (some ⟨w2.heap.size, 0, none⟩) 1 1 := ⟨_, rfl⟩
  rw [← hv0] at HO0 ⊢
  clear hv0
  have kcur := (Spare.of_kept (base := w.heap.size) (e := 5) HK2.out).trans HS0.out
  obtain ⟨a0, a1, a2, a3, a4, a5⟩ := box6 (HS0.out.at HBR.out (by decide))
  obtain ⟨b0, b1, b2, b3, b4⟩ := box5 (HS0.out.at HBF.out (by decide))
  have hz := kcur.size
  have HKC := Lib.hid kcur
  clear kcur
  go_wp2_with fail
  refine (number4 w.heap.size v0 (1) ([UInt8.ofNat 4]) (id) _ HO0.out (by omega) ⟨by omega, by omega⟩ (by omega)).mono ?_
  rintro e u1 ⟨v1, rfl, ho, hs⟩
  have HS1 := Lib.hid (HS0.out.trans hs)
  have HO1 := Lib.hid ho
  clear a0 a1 a2 a3 a4 a5 b0 b1 b2 b3 b4 hz HKC
  clear ho hs HO0 HS0
  have kcur := (Spare.of_kept (base := w.heap.size) (e := 5) HK2.out).trans HS1.out
  obtain ⟨a0, a1, a2, a3, a4, a5⟩ := box6 (HS1.out.at HBR.out (by decide))
  obtain ⟨b0, b1, b2, b3, b4⟩ := box5 (HS1.out.at HBF.out (by decide))
  have hz := kcur.size
  have HKC := Lib.hid kcur
  clear kcur
  go_wp2_with (at_builtin; refine Lib.wpList_append_own_string _ rfl _ _ 38 9 rfl w.heap.size 5 i0 Try.underlying38 Try.underlying9 HIN.out.1 HIN.out.2.1 HIN.out.2.2.1 HIN.out.2.2.2 v1 (1 + 4) _ rfl HO1.out dig rfl (by unfold maxLen; omega) (by omega) (by omega) ?_)
  intro v2 u2 ho hg _
  have HS2 := Lib.hid (HS1.out.trans (Spare.of_grown HO1.out hg))
  have HO2 := Lib.hid (show u2.ownsRow w.heap.size 5 1 v2 (1 + 4 + dig.size) (bv ([UInt8.ofNat 4] ++ Rc.hi (id) 4 ++ dig.data.toList)) by rw [bv_append]; exact ho)
  clear a0 a1 a2 a3 a4 a5 b0 b1 b2 b3 b4 hz HKC
  clear ho hg HO1 HS1
  have kcur := (Spare.of_kept (base := w.heap.size) (e := 5) HK2.out).trans HS2.out
  obtain ⟨a0, a1, a2, a3, a4, a5⟩ := box6 (HS2.out.at HBR.out (by decide))
  obtain ⟨b0, b1, b2, b3, b4⟩ := box5 (HS2.out.at HBF.out (by decide))
  have hz := kcur.size
  have HKC := Lib.hid kcur
  clear kcur
  go_wp2_with fail
  refine (number4 w.heap.size v2 (1 + 4 + dig.size) ([UInt8.ofNat 4] ++ Rc.hi (id) 4 ++ dig.data.toList) ((nl : Int)) _ HO2.out (by omega) ⟨by omega, by omega⟩ (by omega)).mono ?_
  rintro e u3 ⟨v3, rfl, ho, hs⟩
  have HS3 := Lib.hid (HS2.out.trans hs)
  have HO3 := Lib.hid ho
  clear a0 a1 a2 a3 a4 a5 b0 b1 b2 b3 b4 hz HKC
  clear ho hs HO2 HS2
  have kcur := (Spare.of_kept (base := w.heap.size) (e := 5) HK2.out).trans HS3.out
  obtain ⟨a0, a1, a2, a3, a4, a5⟩ := box6 (HS3.out.at HBR.out (by decide))
  obtain ⟨b0, b1, b2, b3, b4⟩ := box5 (HS3.out.at HBF.out (by decide))
  have hz := kcur.size
  have HKC := Lib.hid kcur
  clear kcur
  go_wp2_with fail
  clear a0 a1 a2 a3 a4 a5 b0 b1 b2 b3 b4 hz HKC
  go_loopw [5, 56] (fun v q wr => ∃ (j : Nat) (V : Value), j ≤ nl ∧ V = v ∧ q = .int .i64 j ∧ wr.ownsRow w.heap.size 5 1 V (1 + 4 + dig.size + 4 + 4 * j) (bv ([UInt8.ofNat 4] ++ Rc.hi (id) 4 ++ dig.data.toList ++ Rc.hi ((nl : Int)) 4 ++ Rc.hiL (zs.take j))) ∧ Spare w.heap.size 5 w2 wr) (fun _ q _ => nl - (intOf q).toNat)
  case atStart => exact ⟨0, _, by omega, rfl, rfl, by simpa [Rc.hiL] using HO3.out, HS3.out⟩
  case round =>
    obtain ⟨j, vL, hj, rfl, rfl, ho, hs⟩ := hrel
    have HO4 := Lib.hid ho
    have HS4 := Lib.hid hs
    clear ho hs HO3 HS3
    by_cases hlt : j < nl
    · have kcur := (Spare.of_kept (base := w.heap.size) (e := 5) HK2.out).trans HS4.out
      obtain ⟨a0, a1, a2, a3, a4, a5⟩ := box6 (HS4.out.at HBR.out (by decide))
      obtain ⟨b0, b1, b2, b3, b4⟩ := box5 (HS4.out.at HBF.out (by decide))
      have hz := kcur.size
      have HKC := Lib.hid kcur
      clear kcur
      obtain ⟨bl, ol, rfl, hc⟩ := (HI.out.list.kept HKC.out.kept).cell (by omega)
      have hcj := hc j hlt _ (Kept.refl _)
      have hzb := HZB.out j hlt
      have HSN := Lib.hid (hiL_snoc zs j (by have := HNL.out; omega))
      generalize zs.getD j 0 = x at *
      clear hc
      go_wp2_with fail
      refine (number4 w.heap.size vL (1 + 4 + dig.size + 4 + 4 * j) ([UInt8.ofNat 4] ++ Rc.hi (id) 4 ++ dig.data.toList ++ Rc.hi ((nl : Int)) 4 ++ Rc.hiL (zs.take j)) x _ HO4.out (by omega) ⟨by omega, by omega⟩ (by omega)).mono ?_
      rintro e u5 ⟨v5, rfl, ho, hs⟩
      have HS5 := Lib.hid (HS4.out.trans hs)
      have HO5 := Lib.hid ho
      clear a0 a1 a2 a3 a4 a5 b0 b1 b2 b3 b4 hz HKC
      clear ho hs HO4 HS4 hcj hzb
      go_wp2
      go_roundw
      case rel => exact ⟨j + 1, _, by omega, rfl, by go_num, by have := HO5.out; rw [HSN.out, ← List.append_assoc, show 1 + 4 + dig.size + 4 + 4 * (j + 1) = 1 + 4 + dig.size + 4 + 4 * j + 4 by omega]; exact this, HS5.out⟩
      case measure => simp [intOf]; omega

    · obtain rfl : nl = j := by omega
      rw [List.take_of_length_le (by have := HNL.out; omega)] at HO4
      have kcur := (Spare.of_kept (base := w.heap.size) (e := 5) HK2.out).trans HS4.out
      obtain ⟨a0, a1, a2, a3, a4, a5⟩ := box6 (HS4.out.at HBR.out (by decide))
      obtain ⟨b0, b1, b2, b3, b4⟩ := box5 (HS4.out.at HBF.out (by decide))
      have hz := kcur.size
      have HKC := Lib.hid kcur
      clear kcur
      go_wp2
      go_ret
      refine ⟨_, rfl, ?_, ((Spare.of_kept (base := w.heap.size) (e := 5) HK2.out).trans HS4.out).kept⟩
      rw [HFIN.out]
      exact own_at HO4.out
set_option maxRecDepth 100000 in
set_option maxHeartbeats 1000000 in
theorem bytes_5 (id : Int) (name dig : ByteArray) (al : Option Addr) (nl cl : Nat) (az : Option Addr) (nz cz : Nat) (zs : List Int) (ys : List (Int × Int)) (w : World) (h : RecIn w ⟨5, id, name, dig, zs, ys⟩ al nl az nz) (hm : Rec.may ⟨5, id, name, dig, zs, ys⟩ = true) :
    Calls Try.prog 34 #[.agg #[.int .i64 5, .int .i64 id, .string name, .string dig, .slice al nl cl, .slice az nz cz]] w fun e w' => ∃ v, e = .returned v ∧ w'.ownsRow w.heap.size 5 1 v (Rec.bytes ⟨5, id, name, dig, zs, ys⟩).length (bv (Rec.bytes ⟨5, id, name, dig, zs, ys⟩)) ∧ Kept w w' := by
  obtain ⟨hid, hnm, hdg, hll, hzb, hsl, hyb⟩ := may_bounds hm
  dsimp only at hid hnm hdg hll hzb hsl hyb
  have h1 := h.list.len_eq
  have h2 := h.slots.len_eq
  dsimp only at h1 h2
  have hnl : nl ≤ 2000 := by omega
  have hnz : nz ≤ 14 := by omega
  have hfin : Rec.bytes ⟨5, id, name, dig, zs, ys⟩ = [UInt8.ofNat 5] ++ Rc.hi (id) 4 ++ dig.data.toList ++ Rc.hi ((nl : Int)) 4 ++ Rc.hiL zs := by
    unfold Rec.bytes
    dsimp only
    rw [show Rc.fI 5 = true from rfl, show Rc.fN 5 = false from rfl, show Rc.fD 5 = true from rfl, show Rc.fL 5 = true from rfl, show Rc.fS 5 = false from rfl, h1, h2]
    simp [Rc.hi]
  have HZB := Lib.hid (show ∀ i, i < nl → 0 ≤ zs.getD i 0 ∧ zs.getD i 0 ≤ 1073741824 from fun i hi => hzb i (by omega))
  have HYB := Lib.hid (show ∀ i, i < nz → (-1 ≤ (ys.getD i (0, 0)).1 ∧ (ys.getD i (0, 0)).1 ≤ 11) ∧ (0 ≤ (ys.getD i (0, 0)).2 ∧ (ys.getD i (0, 0)).2 ≤ 63) from fun i hi => hyb i (by omega))
  have HNL := Lib.hid (show zs.length = nl from h1)
  have HNZ := Lib.hid (show ys.length = nz from h2)
  have HFIN := Lib.hid hfin
  have HI := Lib.hid h
  obtain ⟨i0, hi, hz0, hz1, hz2⟩ := info_parts Try.infoU8
  have HIN := Lib.hid (And.intro hi (And.intro hz0 (And.intro hz1 hz2)))
  clear hi hz0 hz1 hz2 h hm h1 h2 hfin hzb hyb hll hsl
  obtain ⟨hid1, hid2⟩ := hid
  go_enter Try.func34, Try.ntmps34
  go_wp2_with fail
  refine (named_any 5 _).mono ?_
  rintro e w1 ⟨rfl, hk⟩
  have HK := Lib.hid (((Kept.refl w).alloc _).trans hk)
  have hb := (BlockAt.new w #[.int .i64 5, .int .i64 id, .string name, .string dig, .slice al nl cl, .slice az nz cz] 31).kept hk
  clear hk
  rw [show kfields 5 = #[.bool true, .bool false, .bool true, .bool true, .bool false] from rfl, show Rc.okK 5 = true from rfl]
  go_upto_region 2 with (fail)
  have HBR := Lib.hid (hb.kept ((Kept.refl w1).alloc (.cells #[.bool true, .bool false, .bool true, .bool true, .bool false] 72)))
  have HBF := Lib.hid (BlockAt.new w1 #[.bool true, .bool false, .bool true, .bool true, .bool false] 72)
  have HK2 := Lib.hid (HK.out.alloc (.cells #[.bool true, .bool false, .bool true, .bool true, .bool false] 72))
  clear hb HK
  generalize w1.alloc (.cells #[.bool true, .bool false, .bool true, .bool true, .bool false] 72) = w2 at *
  obtain ⟨a0, a1, a2, a3, a4, a5⟩ := box6 HBR.out
  go_upto_region 3 with (fail)
  have hz2 := HK2.out.size
  have HO0 := Lib.hid (own_one w2 w.heap.size (UInt8.ofNat 5) 5 rfl hz2)
  have HS0 := Lib.hid ((Spare.refl w.heap.size 5 w2).alloc (.cells #[.int .u8 5] 5))
  clear a0 a1 a2 a3 a4 a5
  generalize w2.alloc (.cells #[.int .u8 5] 5) = u0 at *
  obtain ⟨v0, hv0⟩ : ∃ v0 : Value, v0 = .slice (some ⟨w2.heap.size, 0, none⟩) 1 1 := ⟨_, rfl⟩
  rw [← hv0] at HO0 ⊢
  clear hv0
  have kcur := (Spare.of_kept (base := w.heap.size) (e := 5) HK2.out).trans HS0.out
  obtain ⟨a0, a1, a2, a3, a4, a5⟩ := box6 (HS0.out.at HBR.out (by decide))
  obtain ⟨b0, b1, b2, b3, b4⟩ := box5 (HS0.out.at HBF.out (by decide))
  have hz := kcur.size
  have HKC := Lib.hid kcur
  clear kcur
  go_wp2_with fail
  refine (number4 w.heap.size v0 (1) ([UInt8.ofNat 5]) (id) _ HO0.out (by omega) ⟨by omega, by omega⟩ (by omega)).mono ?_
  rintro e u1 ⟨v1, rfl, ho, hs⟩
  have HS1 := Lib.hid (HS0.out.trans hs)
  have HO1 := Lib.hid ho
  clear a0 a1 a2 a3 a4 a5 b0 b1 b2 b3 b4 hz HKC
  clear ho hs HO0 HS0
  have kcur := (Spare.of_kept (base := w.heap.size) (e := 5) HK2.out).trans HS1.out
  obtain ⟨a0, a1, a2, a3, a4, a5⟩ := box6 (HS1.out.at HBR.out (by decide))
  obtain ⟨b0, b1, b2, b3, b4⟩ := box5 (HS1.out.at HBF.out (by decide))
  have hz := kcur.size
  have HKC := Lib.hid kcur
  clear kcur
  go_wp2_with (at_builtin; refine Lib.wpList_append_own_string _ rfl _ _ 38 9 rfl w.heap.size 5 i0 Try.underlying38 Try.underlying9 HIN.out.1 HIN.out.2.1 HIN.out.2.2.1 HIN.out.2.2.2 v1 (1 + 4) _ rfl HO1.out dig rfl (by unfold maxLen; omega) (by omega) (by omega) ?_)
  intro v2 u2 ho hg _
  have HS2 := Lib.hid (HS1.out.trans (Spare.of_grown HO1.out hg))
  have HO2 := Lib.hid (show u2.ownsRow w.heap.size 5 1 v2 (1 + 4 + dig.size) (bv ([UInt8.ofNat 5] ++ Rc.hi (id) 4 ++ dig.data.toList)) by rw [bv_append]; exact ho)
  clear a0 a1 a2 a3 a4 a5 b0 b1 b2 b3 b4 hz HKC
  clear ho hg HO1 HS1
  have kcur := (Spare.of_kept (base := w.heap.size) (e := 5) HK2.out).trans HS2.out
  obtain ⟨a0, a1, a2, a3, a4, a5⟩ := box6 (HS2.out.at HBR.out (by decide))
  obtain ⟨b0, b1, b2, b3, b4⟩ := box5 (HS2.out.at HBF.out (by decide))
  have hz := kcur.size
  have HKC := Lib.hid kcur
  clear kcur
  go_wp2_with fail
  refine (number4 w.heap.size v2 (1 + 4 + dig.size) ([UInt8.ofNat 5] ++ Rc.hi (id) 4 ++ dig.data.toList) ((nl : Int)) _ HO2.out (by omega) ⟨by omega, by omega⟩ (by omega)).mono ?_
  rintro e u3 ⟨v3, rfl, ho, hs⟩
  have HS3 := Lib.hid (HS2.out.trans hs)
  have HO3 := Lib.hid ho
  clear a0 a1 a2 a3 a4 a5 b0 b1 b2 b3 b4 hz HKC
  clear ho hs HO2 HS2
  have kcur := (Spare.of_kept (base := w.heap.size) (e := 5) HK2.out).trans HS3.out
  obtain ⟨a0, a1, a2, a3, a4, a5⟩ := box6 (HS3.out.at HBR.out (by decide))
  obtain ⟨b0, b1, b2, b3, b4⟩ := box5 (HS3.out.at HBF.out (by decide))
  have hz := kcur.size
  have HKC := Lib.hid kcur
  clear kcur
  go_wp2_with fail
  clear a0 a1 a2 a3 a4 a5 b0 b1 b2 b3 b4 hz HKC
  go_loopw [5, 56] (fun v q wr => ∃ (j : Nat) (V : Value), j ≤ nl ∧ V = v ∧ q = .int .i64 j ∧ wr.ownsRow w.heap.size 5 1 V (1 + 4 + dig.size + 4 + 4 * j) (bv ([UInt8.ofNat 5] ++ Rc.hi (id) 4 ++ dig.data.toList ++ Rc.hi ((nl : Int)) 4 ++ Rc.hiL (zs.take j))) ∧ Spare w.heap.size 5 w2 wr) (fun _ q _ => nl - (intOf q).toNat)
  case atStart => exact ⟨0, _, by omega, rfl, rfl, by simpa [Rc.hiL] using HO3.out, HS3.out⟩
  case round =>
    obtain ⟨j, vL, hj, rfl, rfl, ho, hs⟩ := hrel
    have HO4 := Lib.hid ho
    have HS4 := Lib.hid hs
    clear ho hs HO3 HS3
    by_cases hlt : j < nl
    · have kcur := (Spare.of_kept (base := w.heap.size) (e := 5) HK2.out).trans HS4.out
      obtain ⟨a0, a1, a2, a3, a4, a5⟩ := box6 (HS4.out.at HBR.out (by decide))
      obtain ⟨b0, b1, b2, b3, b4⟩ := box5 (HS4.out.at HBF.out (by decide))
      have hz := kcur.size
      have HKC := Lib.hid kcur
      clear kcur
      obtain ⟨bl, ol, rfl, hc⟩ := (HI.out.list.kept HKC.out.kept).cell (by omega)
      have hcj := hc j hlt _ (Kept.refl _)
      have hzb := HZB.out j hlt
      have HSN := Lib.hid (hiL_snoc zs j (by have := HNL.out; omega))
      generalize zs.getD j 0 = x at *
      clear hc
      go_wp2_with fail
      refine (number4 w.heap.size vL (1 + 4 + dig.size + 4 + 4 * j) ([UInt8.ofNat 5] ++ Rc.hi (id) 4 ++ dig.data.toList ++ Rc.hi ((nl : Int)) 4 ++ Rc.hiL (zs.take j)) x _ HO4.out (by omega) ⟨by omega, by omega⟩ (by omega)).mono ?_
      rintro e u5 ⟨v5, rfl, ho, hs⟩
      have HS5 := Lib.hid (HS4.out.trans hs)
      have HO5 := Lib.hid ho
      clear a0 a1 a2 a3 a4 a5 b0 b1 b2 b3 b4 hz HKC
      clear ho hs HO4 HS4 hcj hzb
      go_wp2
      go_roundw
      case rel => exact ⟨j + 1, _, by omega, rfl, by go_num, by have := HO5.out; rw [HSN.out, ← List.append_assoc, show 1 + 4 + dig.size + 4 + 4 * (j + 1) = 1 + 4 + dig.size + 4 + 4 * j + 4 by omega]; exact this, HS5.out⟩
      case measure => simp [intOf]; omega

    · obtain rfl : nl = j := by omega
      rw [List.take_of_length_le (by have := HNL.out; omega)] at HO4
      have kcur := (Spare.of_kept (base := w.heap.size) (e := 5) HK2.out).trans HS4.out
      obtain ⟨a0, a1, a2, a3, a4, a5⟩ := box6 (HS4.out.at HBR.out (by decide))
      obtain ⟨b0, b1, b2, b3, b4⟩ := box5 (HS4.out.at HBF.out (by decide))
      have hz := kcur.size
      have HKC := Lib.hid kcur
      clear kcur
      go_wp2
      go_ret
      refine ⟨_, rfl, ?_, ((Spare.of_kept (base := w.heap.size) (e := 5) HK2.out).trans HS4.out).kept⟩
      rw [HFIN.out]
      exact own_at HO4.out
set_option maxRecDepth 100000 in
set_option maxHeartbeats 1000000 in
theorem bytes_6 (id : Int) (name dig : ByteArray) (al : Option Addr) (nl cl : Nat) (az : Option Addr) (nz cz : Nat) (zs : List Int) (ys : List (Int × Int)) (w : World) (h : RecIn w ⟨6, id, name, dig, zs, ys⟩ al nl az nz) (hm : Rec.may ⟨6, id, name, dig, zs, ys⟩ = true) :
    Calls Try.prog 34 #[.agg #[.int .i64 6, .int .i64 id, .string name, .string dig, .slice al nl cl, .slice az nz cz]] w fun e w' => ∃ v, e = .returned v ∧ w'.ownsRow w.heap.size 5 1 v (Rec.bytes ⟨6, id, name, dig, zs, ys⟩).length (bv (Rec.bytes ⟨6, id, name, dig, zs, ys⟩)) ∧ Kept w w' := by
  obtain ⟨hid, hnm, hdg, hll, hzb, hsl, hyb⟩ := may_bounds hm
  dsimp only at hid hnm hdg hll hzb hsl hyb
  have h1 := h.list.len_eq
  have h2 := h.slots.len_eq
  dsimp only at h1 h2
  have hnl : nl ≤ 2000 := by omega
  have hnz : nz ≤ 14 := by omega
  have hfin : Rec.bytes ⟨6, id, name, dig, zs, ys⟩ = [UInt8.ofNat 6] ++ dig.data.toList := by
    unfold Rec.bytes
    dsimp only
    rw [show Rc.fI 6 = false from rfl, show Rc.fN 6 = false from rfl, show Rc.fD 6 = true from rfl, show Rc.fL 6 = false from rfl, show Rc.fS 6 = false from rfl, h1, h2]
    simp [Rc.hi]
  have HZB := Lib.hid (show ∀ i, i < nl → 0 ≤ zs.getD i 0 ∧ zs.getD i 0 ≤ 1073741824 from fun i hi => hzb i (by omega))
  have HYB := Lib.hid (show ∀ i, i < nz → (-1 ≤ (ys.getD i (0, 0)).1 ∧ (ys.getD i (0, 0)).1 ≤ 11) ∧ (0 ≤ (ys.getD i (0, 0)).2 ∧ (ys.getD i (0, 0)).2 ≤ 63) from fun i hi => hyb i (by omega))
  have HNL := Lib.hid (show zs.length = nl from h1)
  have HNZ := Lib.hid (show ys.length = nz from h2)
  have HFIN := Lib.hid hfin
  have HI := Lib.hid h
  obtain ⟨i0, hi, hz0, hz1, hz2⟩ := info_parts Try.infoU8
  have HIN := Lib.hid (And.intro hi (And.intro hz0 (And.intro hz1 hz2)))
  clear hi hz0 hz1 hz2 h hm h1 h2 hfin hzb hyb hll hsl
  obtain ⟨hid1, hid2⟩ := hid
  go_enter Try.func34, Try.ntmps34
  go_wp2_with fail
  refine (named_any 6 _).mono ?_
  rintro e w1 ⟨rfl, hk⟩
  have HK := Lib.hid (((Kept.refl w).alloc _).trans hk)
  have hb := (BlockAt.new w #[.int .i64 6, .int .i64 id, .string name, .string dig, .slice al nl cl, .slice az nz cz] 31).kept hk
  clear hk
  rw [show kfields 6 = #[.bool false, .bool false, .bool true, .bool false, .bool false] from rfl, show Rc.okK 6 = true from rfl]
  go_upto_region 2 with (fail)
  have HBR := Lib.hid (hb.kept ((Kept.refl w1).alloc (.cells #[.bool false, .bool false, .bool true, .bool false, .bool false] 72)))
  have HBF := Lib.hid (BlockAt.new w1 #[.bool false, .bool false, .bool true, .bool false, .bool false] 72)
  have HK2 := Lib.hid (HK.out.alloc (.cells #[.bool false, .bool false, .bool true, .bool false, .bool false] 72))
  clear hb HK
  generalize w1.alloc (.cells #[.bool false, .bool false, .bool true, .bool false, .bool false] 72) = w2 at *
  obtain ⟨a0, a1, a2, a3, a4, a5⟩ := box6 HBR.out
  go_upto_region 3 with (fail)
  have hz2 := HK2.out.size
  have HO0 := Lib.hid (own_one w2 w.heap.size (UInt8.ofNat 6) 6 rfl hz2)
  have HS0 := Lib.hid ((Spare.refl w.heap.size 5 w2).alloc (.cells #[.int .u8 6] 5))
  clear a0 a1 a2 a3 a4 a5
  generalize w2.alloc (.cells #[.int .u8 6] 5) = u0 at *
  obtain ⟨v0, hv0⟩ : ∃ v0 : Value, v0 = .slice (some ⟨w2.heap.size, 0, none⟩) 1 1 := ⟨_, rfl⟩
  rw [← hv0] at HO0 ⊢
  clear hv0
  have kcur := (Spare.of_kept (base := w.heap.size) (e := 5) HK2.out).trans HS0.out
  obtain ⟨a0, a1, a2, a3, a4, a5⟩ := box6 (HS0.out.at HBR.out (by decide))
  obtain ⟨b0, b1, b2, b3, b4⟩ := box5 (HS0.out.at HBF.out (by decide))
  have hz := kcur.size
  have HKC := Lib.hid kcur
  clear kcur
  go_wp2_with (at_builtin; refine Lib.wpList_append_own_string _ rfl _ _ 38 9 rfl w.heap.size 5 i0 Try.underlying38 Try.underlying9 HIN.out.1 HIN.out.2.1 HIN.out.2.2.1 HIN.out.2.2.2 v0 (1) _ rfl HO0.out dig rfl (by unfold maxLen; omega) (by omega) (by omega) ?_)
  intro v1 u1 ho hg _
  have HS1 := Lib.hid (HS0.out.trans (Spare.of_grown HO0.out hg))
  have HO1 := Lib.hid (show u1.ownsRow w.heap.size 5 1 v1 (1 + dig.size) (bv ([UInt8.ofNat 6] ++ dig.data.toList)) by rw [bv_append]; exact ho)
  clear a0 a1 a2 a3 a4 a5 b0 b1 b2 b3 b4 hz HKC
  clear ho hg HO0 HS0
  have kcur := (Spare.of_kept (base := w.heap.size) (e := 5) HK2.out).trans HS1.out
  obtain ⟨a0, a1, a2, a3, a4, a5⟩ := box6 (HS1.out.at HBR.out (by decide))
  obtain ⟨b0, b1, b2, b3, b4⟩ := box5 (HS1.out.at HBF.out (by decide))
  have hz := kcur.size
  have HKC := Lib.hid kcur
  clear kcur
  go_wp2
  go_ret
  refine ⟨_, rfl, ?_, ((Spare.of_kept (base := w.heap.size) (e := 5) HK2.out).trans HS1.out).kept⟩
  rw [HFIN.out]
  exact own_at HO1.out
set_option maxRecDepth 100000 in
set_option maxHeartbeats 1000000 in
theorem bytes_7 (id : Int) (name dig : ByteArray) (al : Option Addr) (nl cl : Nat) (az : Option Addr) (nz cz : Nat) (zs : List Int) (ys : List (Int × Int)) (w : World) (h : RecIn w ⟨7, id, name, dig, zs, ys⟩ al nl az nz) (hm : Rec.may ⟨7, id, name, dig, zs, ys⟩ = true) :
    Calls Try.prog 34 #[.agg #[.int .i64 7, .int .i64 id, .string name, .string dig, .slice al nl cl, .slice az nz cz]] w fun e w' => ∃ v, e = .returned v ∧ w'.ownsRow w.heap.size 5 1 v (Rec.bytes ⟨7, id, name, dig, zs, ys⟩).length (bv (Rec.bytes ⟨7, id, name, dig, zs, ys⟩)) ∧ Kept w w' := by
  obtain ⟨hid, hnm, hdg, hll, hzb, hsl, hyb⟩ := may_bounds hm
  dsimp only at hid hnm hdg hll hzb hsl hyb
  have h1 := h.list.len_eq
  have h2 := h.slots.len_eq
  dsimp only at h1 h2
  have hnl : nl ≤ 2000 := by omega
  have hnz : nz ≤ 14 := by omega
  have hfin : Rec.bytes ⟨7, id, name, dig, zs, ys⟩ = [UInt8.ofNat 7] ++ Rc.hi ((name.size : Int)) 1 ++ name.data.toList ++ dig.data.toList := by
    unfold Rec.bytes
    dsimp only
    rw [show Rc.fI 7 = false from rfl, show Rc.fN 7 = true from rfl, show Rc.fD 7 = true from rfl, show Rc.fL 7 = false from rfl, show Rc.fS 7 = false from rfl, h1, h2]
    simp [Rc.hi]
  have HZB := Lib.hid (show ∀ i, i < nl → 0 ≤ zs.getD i 0 ∧ zs.getD i 0 ≤ 1073741824 from fun i hi => hzb i (by omega))
  have HYB := Lib.hid (show ∀ i, i < nz → (-1 ≤ (ys.getD i (0, 0)).1 ∧ (ys.getD i (0, 0)).1 ≤ 11) ∧ (0 ≤ (ys.getD i (0, 0)).2 ∧ (ys.getD i (0, 0)).2 ≤ 63) from fun i hi => hyb i (by omega))
  have HNL := Lib.hid (show zs.length = nl from h1)
  have HNZ := Lib.hid (show ys.length = nz from h2)
  have HFIN := Lib.hid hfin
  have HI := Lib.hid h
  obtain ⟨i0, hi, hz0, hz1, hz2⟩ := info_parts Try.infoU8
  have HIN := Lib.hid (And.intro hi (And.intro hz0 (And.intro hz1 hz2)))
  clear hi hz0 hz1 hz2 h hm h1 h2 hfin hzb hyb hll hsl
  obtain ⟨hid1, hid2⟩ := hid
  go_enter Try.func34, Try.ntmps34
  go_wp2_with fail
  refine (named_any 7 _).mono ?_
  rintro e w1 ⟨rfl, hk⟩
  have HK := Lib.hid (((Kept.refl w).alloc _).trans hk)
  have hb := (BlockAt.new w #[.int .i64 7, .int .i64 id, .string name, .string dig, .slice al nl cl, .slice az nz cz] 31).kept hk
  clear hk
  rw [show kfields 7 = #[.bool false, .bool true, .bool true, .bool false, .bool false] from rfl, show Rc.okK 7 = true from rfl]
  go_upto_region 2 with (fail)
  have HBR := Lib.hid (hb.kept ((Kept.refl w1).alloc (.cells #[.bool false, .bool true, .bool true, .bool false, .bool false] 72)))
  have HBF := Lib.hid (BlockAt.new w1 #[.bool false, .bool true, .bool true, .bool false, .bool false] 72)
  have HK2 := Lib.hid (HK.out.alloc (.cells #[.bool false, .bool true, .bool true, .bool false, .bool false] 72))
  clear hb HK
  generalize w1.alloc (.cells #[.bool false, .bool true, .bool true, .bool false, .bool false] 72) = w2 at *
  obtain ⟨a0, a1, a2, a3, a4, a5⟩ := box6 HBR.out
  go_upto_region 3 with (fail)
  have hz2 := HK2.out.size
  have HO0 := Lib.hid (own_one w2 w.heap.size (UInt8.ofNat 7) 7 rfl hz2)
  have HS0 := Lib.hid ((Spare.refl w.heap.size 5 w2).alloc (.cells #[.int .u8 7] 5))
  clear a0 a1 a2 a3 a4 a5
  generalize w2.alloc (.cells #[.int .u8 7] 5) = u0 at *
  obtain ⟨v0, hv0⟩ : ∃ v0 : Value, v0 = .slice (some ⟨w2.heap.size, 0, none⟩) 1 1 := ⟨_, rfl⟩
  rw [← hv0] at HO0 ⊢
  clear hv0
  have kcur := (Spare.of_kept (base := w.heap.size) (e := 5) HK2.out).trans HS0.out
  obtain ⟨a0, a1, a2, a3, a4, a5⟩ := box6 (HS0.out.at HBR.out (by decide))
  obtain ⟨b0, b1, b2, b3, b4⟩ := box5 (HS0.out.at HBF.out (by decide))
  have hz := kcur.size
  have HKC := Lib.hid kcur
  clear kcur
  go_wp2_with fail
  refine (number1 w.heap.size v0 (1) ([UInt8.ofNat 7]) ((name.size : Int)) _ HO0.out (by omega) ⟨by omega, by omega⟩ (by omega)).mono ?_
  rintro e u1 ⟨v1, rfl, ho, hs⟩
  have HS1 := Lib.hid (HS0.out.trans hs)
  have HO1 := Lib.hid ho
  clear a0 a1 a2 a3 a4 a5 b0 b1 b2 b3 b4 hz HKC
  clear ho hs HO0 HS0
  have kcur := (Spare.of_kept (base := w.heap.size) (e := 5) HK2.out).trans HS1.out
  obtain ⟨a0, a1, a2, a3, a4, a5⟩ := box6 (HS1.out.at HBR.out (by decide))
  obtain ⟨b0, b1, b2, b3, b4⟩ := box5 (HS1.out.at HBF.out (by decide))
  have hz := kcur.size
  have HKC := Lib.hid kcur
  clear kcur
  go_wp2_with (at_builtin; refine Lib.wpList_append_own_string _ rfl _ _ 38 9 rfl w.heap.size 5 i0 Try.underlying38 Try.underlying9 HIN.out.1 HIN.out.2.1 HIN.out.2.2.1 HIN.out.2.2.2 v1 (1 + 1) _ rfl HO1.out name rfl (by unfold maxLen; omega) (by omega) (by omega) ?_)
  intro v2 u2 ho hg _
  have HS2 := Lib.hid (HS1.out.trans (Spare.of_grown HO1.out hg))
  have HO2 := Lib.hid (show u2.ownsRow w.heap.size 5 1 v2 (1 + 1 + name.size) (bv ([UInt8.ofNat 7] ++ Rc.hi ((name.size : Int)) 1 ++ name.data.toList)) by rw [bv_append]; exact ho)
  clear a0 a1 a2 a3 a4 a5 b0 b1 b2 b3 b4 hz HKC
  clear ho hg HO1 HS1
  have kcur := (Spare.of_kept (base := w.heap.size) (e := 5) HK2.out).trans HS2.out
  obtain ⟨a0, a1, a2, a3, a4, a5⟩ := box6 (HS2.out.at HBR.out (by decide))
  obtain ⟨b0, b1, b2, b3, b4⟩ := box5 (HS2.out.at HBF.out (by decide))
  have hz := kcur.size
  have HKC := Lib.hid kcur
  clear kcur
  go_wp2_with (at_builtin; refine Lib.wpList_append_own_string _ rfl _ _ 38 9 rfl w.heap.size 5 i0 Try.underlying38 Try.underlying9 HIN.out.1 HIN.out.2.1 HIN.out.2.2.1 HIN.out.2.2.2 v2 (1 + 1 + name.size) _ rfl HO2.out dig rfl (by unfold maxLen; omega) (by omega) (by omega) ?_)
  intro v3 u3 ho hg _
  have HS3 := Lib.hid (HS2.out.trans (Spare.of_grown HO2.out hg))
  have HO3 := Lib.hid (show u3.ownsRow w.heap.size 5 1 v3 (1 + 1 + name.size + dig.size) (bv ([UInt8.ofNat 7] ++ Rc.hi ((name.size : Int)) 1 ++ name.data.toList ++ dig.data.toList)) by rw [bv_append]; exact ho)
  clear a0 a1 a2 a3 a4 a5 b0 b1 b2 b3 b4 hz HKC
  clear ho hg HO2 HS2
  have kcur := (Spare.of_kept (base := w.heap.size) (e := 5) HK2.out).trans HS3.out
  obtain ⟨a0, a1, a2, a3, a4, a5⟩ := box6 (HS3.out.at HBR.out (by decide))
  obtain ⟨b0, b1, b2, b3, b4⟩ := box5 (HS3.out.at HBF.out (by decide))
  have hz := kcur.size
  have HKC := Lib.hid kcur
  clear kcur
  go_wp2
  go_ret
  refine ⟨_, rfl, ?_, ((Spare.of_kept (base := w.heap.size) (e := 5) HK2.out).trans HS3.out).kept⟩
  rw [HFIN.out]
  exact own_at HO3.out
set_option maxRecDepth 100000 in
set_option maxHeartbeats 1000000 in
theorem bytes_8 (id : Int) (name dig : ByteArray) (al : Option Addr) (nl cl : Nat) (az : Option Addr) (nz cz : Nat) (zs : List Int) (ys : List (Int × Int)) (w : World) (h : RecIn w ⟨8, id, name, dig, zs, ys⟩ al nl az nz) (hm : Rec.may ⟨8, id, name, dig, zs, ys⟩ = true) :
    Calls Try.prog 34 #[.agg #[.int .i64 8, .int .i64 id, .string name, .string dig, .slice al nl cl, .slice az nz cz]] w fun e w' => ∃ v, e = .returned v ∧ w'.ownsRow w.heap.size 5 1 v (Rec.bytes ⟨8, id, name, dig, zs, ys⟩).length (bv (Rec.bytes ⟨8, id, name, dig, zs, ys⟩)) ∧ Kept w w' := by
  obtain ⟨hid, hnm, hdg, hll, hzb, hsl, hyb⟩ := may_bounds hm
  dsimp only at hid hnm hdg hll hzb hsl hyb
  have h1 := h.list.len_eq
  have h2 := h.slots.len_eq
  dsimp only at h1 h2
  have hnl : nl ≤ 2000 := by omega
  have hnz : nz ≤ 14 := by omega
  have hfin : Rec.bytes ⟨8, id, name, dig, zs, ys⟩ = [UInt8.ofNat 8] ++ Rc.hi ((name.size : Int)) 1 ++ name.data.toList := by
    unfold Rec.bytes
    dsimp only
    rw [show Rc.fI 8 = false from rfl, show Rc.fN 8 = true from rfl, show Rc.fD 8 = false from rfl, show Rc.fL 8 = false from rfl, show Rc.fS 8 = false from rfl, h1, h2]
    simp [Rc.hi]
  have HZB := Lib.hid (show ∀ i, i < nl → 0 ≤ zs.getD i 0 ∧ zs.getD i 0 ≤ 1073741824 from fun i hi => hzb i (by omega))
  have HYB := Lib.hid (show ∀ i, i < nz → (-1 ≤ (ys.getD i (0, 0)).1 ∧ (ys.getD i (0, 0)).1 ≤ 11) ∧ (0 ≤ (ys.getD i (0, 0)).2 ∧ (ys.getD i (0, 0)).2 ≤ 63) from fun i hi => hyb i (by omega))
  have HNL := Lib.hid (show zs.length = nl from h1)
  have HNZ := Lib.hid (show ys.length = nz from h2)
  have HFIN := Lib.hid hfin
  have HI := Lib.hid h
  obtain ⟨i0, hi, hz0, hz1, hz2⟩ := info_parts Try.infoU8
  have HIN := Lib.hid (And.intro hi (And.intro hz0 (And.intro hz1 hz2)))
  clear hi hz0 hz1 hz2 h hm h1 h2 hfin hzb hyb hll hsl
  obtain ⟨hid1, hid2⟩ := hid
  go_enter Try.func34, Try.ntmps34
  go_wp2_with fail
  refine (named_any 8 _).mono ?_
  rintro e w1 ⟨rfl, hk⟩
  have HK := Lib.hid (((Kept.refl w).alloc _).trans hk)
  have hb := (BlockAt.new w #[.int .i64 8, .int .i64 id, .string name, .string dig, .slice al nl cl, .slice az nz cz] 31).kept hk
  clear hk
  rw [show kfields 8 = #[.bool false, .bool true, .bool false, .bool false, .bool false] from rfl, show Rc.okK 8 = true from rfl]
  go_upto_region 2 with (fail)
  have HBR := Lib.hid (hb.kept ((Kept.refl w1).alloc (.cells #[.bool false, .bool true, .bool false, .bool false, .bool false] 72)))
  have HBF := Lib.hid (BlockAt.new w1 #[.bool false, .bool true, .bool false, .bool false, .bool false] 72)
  have HK2 := Lib.hid (HK.out.alloc (.cells #[.bool false, .bool true, .bool false, .bool false, .bool false] 72))
  clear hb HK
  generalize w1.alloc (.cells #[.bool false, .bool true, .bool false, .bool false, .bool false] 72) = w2 at *
  obtain ⟨a0, a1, a2, a3, a4, a5⟩ := box6 HBR.out
  go_upto_region 3 with (fail)
  have hz2 := HK2.out.size
  have HO0 := Lib.hid (own_one w2 w.heap.size (UInt8.ofNat 8) 8 rfl hz2)
  have HS0 := Lib.hid ((Spare.refl w.heap.size 5 w2).alloc (.cells #[.int .u8 8] 5))
  clear a0 a1 a2 a3 a4 a5
  generalize w2.alloc (.cells #[.int .u8 8] 5) = u0 at *
  obtain ⟨v0, hv0⟩ : ∃ v0 : Value, v0 = .slice (some ⟨w2.heap.size, 0, none⟩) 1 1 := ⟨_, rfl⟩
  rw [← hv0] at HO0 ⊢
  clear hv0
  have kcur := (Spare.of_kept (base := w.heap.size) (e := 5) HK2.out).trans HS0.out
  obtain ⟨a0, a1, a2, a3, a4, a5⟩ := box6 (HS0.out.at HBR.out (by decide))
  obtain ⟨b0, b1, b2, b3, b4⟩ := box5 (HS0.out.at HBF.out (by decide))
  have hz := kcur.size
  have HKC := Lib.hid kcur
  clear kcur
  go_wp2_with fail
  refine (number1 w.heap.size v0 (1) ([UInt8.ofNat 8]) ((name.size : Int)) _ HO0.out (by omega) ⟨by omega, by omega⟩ (by omega)).mono ?_
  rintro e u1 ⟨v1, rfl, ho, hs⟩
  have HS1 := Lib.hid (HS0.out.trans hs)
  have HO1 := Lib.hid ho
  clear a0 a1 a2 a3 a4 a5 b0 b1 b2 b3 b4 hz HKC
  clear ho hs HO0 HS0
  have kcur := (Spare.of_kept (base := w.heap.size) (e := 5) HK2.out).trans HS1.out
  obtain ⟨a0, a1, a2, a3, a4, a5⟩ := box6 (HS1.out.at HBR.out (by decide))
  obtain ⟨b0, b1, b2, b3, b4⟩ := box5 (HS1.out.at HBF.out (by decide))
  have hz := kcur.size
  have HKC := Lib.hid kcur
  clear kcur
  go_wp2_with (at_builtin; refine Lib.wpList_append_own_string _ rfl _ _ 38 9 rfl w.heap.size 5 i0 Try.underlying38 Try.underlying9 HIN.out.1 HIN.out.2.1 HIN.out.2.2.1 HIN.out.2.2.2 v1 (1 + 1) _ rfl HO1.out name rfl (by unfold maxLen; omega) (by omega) (by omega) ?_)
  intro v2 u2 ho hg _
  have HS2 := Lib.hid (HS1.out.trans (Spare.of_grown HO1.out hg))
  have HO2 := Lib.hid (show u2.ownsRow w.heap.size 5 1 v2 (1 + 1 + name.size) (bv ([UInt8.ofNat 8] ++ Rc.hi ((name.size : Int)) 1 ++ name.data.toList)) by rw [bv_append]; exact ho)
  clear a0 a1 a2 a3 a4 a5 b0 b1 b2 b3 b4 hz HKC
  clear ho hg HO1 HS1
  have kcur := (Spare.of_kept (base := w.heap.size) (e := 5) HK2.out).trans HS2.out
  obtain ⟨a0, a1, a2, a3, a4, a5⟩ := box6 (HS2.out.at HBR.out (by decide))
  obtain ⟨b0, b1, b2, b3, b4⟩ := box5 (HS2.out.at HBF.out (by decide))
  have hz := kcur.size
  have HKC := Lib.hid kcur
  clear kcur
  go_wp2
  go_ret
  refine ⟨_, rfl, ?_, ((Spare.of_kept (base := w.heap.size) (e := 5) HK2.out).trans HS2.out).kept⟩
  rw [HFIN.out]
  exact own_at HO2.out
theorem bytes_any (r : Rec) (al : Option Addr) (nl cl : Nat) (az : Option Addr) (nz cz : Nat) (w : World) (h : RecIn w r al nl az nz) (hm : Rec.may r = true) :
    Calls Try.prog 34 #[.agg (recCells r al nl cl az nz cz)] w fun e w' => ∃ v, e = .returned v ∧ w'.ownsRow w.heap.size 5 1 v r.bytes.length (bv r.bytes) ∧ Kept w w' := by
  obtain ⟨kind, id, name, dig, zs, ys⟩ := r
  have hk1 : 1 ≤ kind ∧ kind ≤ 8 := by
    have hm' := hm
    unfold Rec.may at hm'
    simp only [Bool.and_eq_true] at hm'
    exact of_decide_eq_true hm'.1.1.1.1.1
  have hcase : kind = 1 ∨ kind = 2 ∨ kind = 3 ∨ kind = 4 ∨ kind = 5 ∨ kind = 6 ∨ kind = 7 ∨ kind = 8 := by omega
  clear hk1
  rcases hcase with rfl | rfl | rfl | rfl | rfl | rfl | rfl | rfl
  · exact bytes_1 id name dig al nl cl az nz cz zs ys w h hm
  · exact bytes_2 id name dig al nl cl az nz cz zs ys w h hm
  · exact bytes_3 id name dig al nl cl az nz cz zs ys w h hm
  · exact bytes_4 id name dig al nl cl az nz cz zs ys w h hm
  · exact bytes_5 id name dig al nl cl az nz cz zs ys w h hm
  · exact bytes_6 id name dig al nl cl az nz cz zs ys w h hm
  · exact bytes_7 id name dig al nl cl az nz cz zs ys w h hm
  · exact bytes_8 id name dig al nl cl az nz cz zs ys w h hm
end Go.Proofs.Ytoanldoocmmhjaa
