/- siloref13.Bytes, by what it answers: the bytes of a record that may be (no conditions). -/
import Derived.Test.YtoanldoocmmhjaaRr4
import Derived.Test.YtoanldoocmmhjaaNum
import Derived.Test.YtoanldoocmmhjaaRc6
import Derived.Test.YtoanldoocmmhjaaLater
namespace Go.Proofs.Ytoanldoocmmhjaa
open Go.RowKit
theorem sz_of {s : ByteArray} {l : List UInt8} (h : s.data.toList = l) : s.size = l.length := by rw [← h]; simp
theorem cat {a b : ByteArray} {x y : List UInt8} (h : a.data.toList = x) (k : b.data.toList = y) : (a ++ b).data.toList = x ++ y := by rw [← h, ← k]; simp
theorem of_list (l : List UInt8) : (⟨l.toArray⟩ : ByteArray).data.toList = l := by simp
theorem back {s : ByteArray} {l : List UInt8} (h : s.data.toList = l) : s = ⟨l.toArray⟩ := by
  obtain ⟨⟨x⟩⟩ := s
  subst h
  rfl
theorem hi_size (n : Int) (k : Nat) : (⟨(Rc.hi n k).toArray⟩ : ByteArray).size = k := by
  have h := Rc.hi_length n k
  show (Rc.hi n k).toArray.size = k
  simpa using h
theorem hiL_len : ∀ zs : List Int, (Rc.hiL zs).length = 4 * zs.length
  | [] => rfl
  | x :: l => by
    have h := hiL_len l
    unfold Rc.hiL at h ⊢
    rw [List.flatMap_cons, List.length_append, h, Rc.hi_length, List.length_cons]
    omega
theorem hiS_len : ∀ zs : List (Int × Int), (Rc.hiS zs).length = 8 * zs.length
  | [] => rfl
  | x :: l => by
    have h := hiS_len l
    unfold Rc.hiS at h ⊢
    rw [List.flatMap_cons, List.length_append, h, List.length_append, Rc.hi_length, Rc.hi_length, List.length_cons]
    omega
theorem may_nodig {r : Rec} (h : Rec.may r = true) (hf : Rc.fD r.kind = false) : r.dig.data.toList = [] := by
  unfold Rec.may at h
  simp only [Bool.and_eq_true] at h
  have h3 := h.1.1.2
  unfold Rec.digB at h3
  rw [hf] at h3
  have h4 := of_decide_eq_true h3
  have h5 : r.dig.data.toList.length = 0 := by rw [← h4]; simp
  exact List.length_eq_zero_iff.1 h5
set_option maxRecDepth 100000 in
set_option maxHeartbeats 2000000 in
theorem rbytes_1 (id : Int) (name dig : ByteArray) (al : Option Addr) (nl cl : Nat) (az : Option Addr) (nz cz : Nat) (zs : List Int) (ys : List (Int × Int)) (w : World) (h : RecIn w ⟨1, id, name, dig, zs, ys⟩ al nl az nz) (hm : Rec.may ⟨1, id, name, dig, zs, ys⟩ = true) :
    Calls Try.prog 17 #[.agg #[.int .i64 1, .int .i64 id, .string name, .string dig, .slice al nl cl, .slice az nz cz]] w fun e w' => e = .returned (.string ⟨(Rec.bytes ⟨1, id, name, dig, zs, ys⟩).toArray⟩) ∧ Kept w w' := by
  obtain ⟨hid, hnm, hdg, hll, hzb, hsl, hyb⟩ := may_bounds hm
  dsimp only at hid hnm hdg hll hzb hsl hyb
  have h1 := h.list.len_eq
  have h2 := h.slots.len_eq
  dsimp only at h1 h2
  have hnl : nl ≤ 2000 := by omega
  have hnz : nz ≤ 14 := by omega
  have hfin : Rec.bytes ⟨1, id, name, dig, zs, ys⟩ = Rc.hi 1 1 ++ Rc.hi id 4 ++ dig.data.toList ++ Rc.hi (nz : Int) 1 ++ Rc.hiS ys := by
    have hd := may_nodig hm rfl
    dsimp only at hd
    unfold Rec.bytes
    dsimp only
    rw [show Rc.fI 1 = true from rfl, show Rc.fN 1 = false from rfl, show Rc.fD 1 = false from rfl, show Rc.fL 1 = false from rfl, show Rc.fS 1 = true from rfl, h1, h2, hd]
    simp
  have HFIN := Lib.hid hfin
  have HZB := Lib.hid (show ∀ i, i < nl → 0 ≤ zs.getD i 0 ∧ zs.getD i 0 ≤ 1073741824 from fun i hi => hzb i (by omega))
  have HYB := Lib.hid (show ∀ i, i < nz → (-1 ≤ (ys.getD i (0, 0)).1 ∧ (ys.getD i (0, 0)).1 ≤ 11) ∧ (0 ≤ (ys.getD i (0, 0)).2 ∧ (ys.getD i (0, 0)).2 ≤ 63) from fun i hi => hyb i (by omega))
  have HNL := Lib.hid (show zs.length = nl from h1)
  have HNZ := Lib.hid (show ys.length = nz from h2)
  have HI := Lib.hid h
  obtain ⟨hid1, hid2⟩ := hid
  clear hm h1 h2 hfin hzb hyb hll hsl h
  go_enter Try.func17, Try.ntmps17
  have hbr0 := BlockAt.new w #[.int .i64 1, .int .i64 id, .string name, .string dig, .slice al nl cl, .slice az nz cz] 31
  have hk0 := (Kept.refl w).alloc (.cells #[.int .i64 1, .int .i64 id, .string name, .string dig, .slice al nl cl, .slice az nz cz] 31)
  go_upto_region 1 with (fail)
  generalize w.alloc (.cells #[.int .i64 1, .int .i64 id, .string name, .string dig, .slice al nl cl, .slice az nz cz] 31) = w1 at *
  have hfs : (fStr 1).size ≤ 9223372036854775807 := by rw [show (fStr 1).size = 2 from rfl]; omega
  obtain ⟨a0, a1, a2, a3, a4, a5⟩ := box6 hbr0
  go_wp2_with fail
  refine (fields_any 1 (by omega) _).mono ?_
  rintro e w2 ⟨rfl, hk2⟩
  have HR := Lib.hid (hbr0.kept hk2)
  have HK := Lib.hid (hk0.trans hk2)
  clear hbr0 hk0 hk2 a0 a1 a2 a3 a4 a5
  obtain ⟨a0, a1, a2, a3, a4, a5⟩ := box6 HR.out
  go_wp2_with fail
  refine (high1 1 _ (by omega)).mono ?_
  rintro e u0 ⟨rfl, hk⟩
  obtain ⟨S0, hS⟩ : ∃ S : ByteArray, S = ⟨(Rc.hi 1 1).toArray⟩ := ⟨_, rfl⟩
  rw [← hS]
  have HS0 := Lib.hid (show S0.data.toList = Rc.hi 1 1 by rw [hS, of_list])
  have hz0 : S0.size ≤ 1 := Nat.le_of_eq (by rw [hS, hi_size])
  have HR0 := Lib.hid (HR.out.kept hk)
  have HK0 := Lib.hid (HK.out.trans hk)
  clear hS hk HR HK a0 a1 a2 a3 a4 a5
  obtain ⟨a0, a1, a2, a3, a4, a5⟩ := box6 HR0.out
  go_wp2_with fail
  refine (has_lit (fStr 1) 73 73 rfl hfs _).mono ?_
  rintro e w' ⟨rfl, rfl⟩
  rw [show hasB (fStr 1) 73 = true from rfl]
  clear a0 a1 a2 a3 a4 a5
  obtain ⟨a0, a1, a2, a3, a4, a5⟩ := box6 HR0.out
  go_wp2_with fail
  refine (rnumber_any id _ (by omega)).mono ?_
  rintro e u1 ⟨rfl, hk⟩
  have HR1 := Lib.hid (HR0.out.kept hk)
  have HK1 := Lib.hid (HK0.out.trans hk)
  clear a0 a1 a2 a3 a4 a5
  clear hk HR0 HK0
  have htz := hi_size id 4
  go_upto_region 5 with (fail)
  clear htz
  obtain ⟨S1, hS⟩ : ∃ S : ByteArray, S = S0 ++ ⟨(Rc.hi id 4).toArray⟩ := ⟨_, rfl⟩
  rw [← hS]
  have HS1 := Lib.hid (show S1.data.toList = Rc.hi 1 1 ++ Rc.hi id 4 by rw [hS]; exact cat HS0.out (of_list _))
  have hz1 : S1.size ≤ 1 + 4 := by rw [hS, ByteArray.size_append, hi_size]; omega
  clear hS HS0 hz0
  obtain ⟨a0, a1, a2, a3, a4, a5⟩ := box6 HR1.out
  go_wp2_with fail
  refine (has_lit (fStr 1) 78 78 rfl hfs _).mono ?_
  rintro e w' ⟨rfl, rfl⟩
  rw [show hasB (fStr 1) 78 = false from rfl]
  clear a0 a1 a2 a3 a4 a5
  obtain ⟨a0, a1, a2, a3, a4, a5⟩ := box6 HR1.out
  go_upto_region 8 with (fail)
  clear a0 a1 a2 a3 a4 a5
  obtain ⟨S2, hS⟩ : ∃ S : ByteArray, S = S1 ++ dig := ⟨_, rfl⟩
  rw [← hS]
  have HS2 := Lib.hid (show S2.data.toList = Rc.hi 1 1 ++ Rc.hi id 4 ++ dig.data.toList by rw [hS]; exact cat HS1.out rfl)
  have hz2 : S2.size ≤ 5 + 32 := by rw [hS, ByteArray.size_append]; omega
  have HR2 := Lib.hid HR1.out
  have HK2 := Lib.hid HK1.out
  obtain ⟨u2, hu⟩ : ∃ u, u1 = u := ⟨_, rfl⟩
  rw [hu] at HR2 HK2 ⊢
  clear hu hS HS1 hz1 HR1 HK1
  obtain ⟨a0, a1, a2, a3, a4, a5⟩ := box6 HR2.out
  go_wp2_with fail
  refine (has_lit (fStr 1) 76 76 rfl hfs _).mono ?_
  rintro e w' ⟨rfl, rfl⟩
  rw [show hasB (fStr 1) 76 = false from rfl]
  clear a0 a1 a2 a3 a4 a5
  obtain ⟨a0, a1, a2, a3, a4, a5⟩ := box6 HR2.out
  go_wp2_with fail
  refine (has_lit (fStr 1) 83 83 rfl hfs _).mono ?_
  rintro e w' ⟨rfl, rfl⟩
  rw [show hasB (fStr 1) 83 = true from rfl]
  clear a0 a1 a2 a3 a4 a5
  obtain ⟨a0, a1, a2, a3, a4, a5⟩ := box6 HR2.out
  go_wp2_with fail
  refine (high1 (nz : Int) _ (by omega)).mono ?_
  rintro e u3 ⟨rfl, hk⟩
  have HR3 := Lib.hid (HR2.out.kept hk)
  have HK3 := Lib.hid (HK2.out.trans hk)
  clear a0 a1 a2 a3 a4 a5
  clear hk HR2 HK2
  have htz := hi_size (nz : Int) 1
  go_upto_region 16 with (fail)
  clear htz
  obtain ⟨S3, hS⟩ : ∃ S : ByteArray, S = S2 ++ ⟨(Rc.hi (nz : Int) 1).toArray⟩ := ⟨_, rfl⟩
  rw [← hS]
  have HS3 := Lib.hid (show S3.data.toList = Rc.hi 1 1 ++ Rc.hi id 4 ++ dig.data.toList ++ Rc.hi (nz : Int) 1 by rw [hS]; exact cat HS2.out (of_list _))
  have hz3 : S3.size ≤ 37 + 1 := by rw [hS, ByteArray.size_append, hi_size]; omega
  clear hS HS2 hz2
  obtain ⟨a0, a1, a2, a3, a4, a5⟩ := box6 HR3.out
  go_wp2_with fail
  clear a0 a1 a2 a3 a4 a5
  go_loopw [4, 6] (fun s q wr => ∃ (g : Nat) (S : ByteArray), g ≤ nz ∧ Value.string S = s ∧ q = .int .i64 g ∧ S.data.toList = Rc.hi 1 1 ++ Rc.hi id 4 ++ dig.data.toList ++ Rc.hi (nz : Int) 1 ++ Rc.hiS (ys.take g) ∧ S.size ≤ 38 + 8 * g ∧ Kept u3 wr) (fun _ q _ => nz - (intOf q).toNat)
  case atStart => exact ⟨0, S3, by omega, rfl, rfl, by rw [HS3.out]; simp [Rc.hiS], by omega, Kept.refl _⟩
  case round =>
    obtain ⟨g, S, hg, rfl, rfl, hs, hsz, hk⟩ := hrel
    have HS4 := Lib.hid hs
    have HR4 := Lib.hid (HR3.out.kept hk)
    have HK4 := Lib.hid (HK3.out.trans hk)
    have HKu := Lib.hid hk
    clear hs hk
    by_cases hlt : g < nz
    · obtain ⟨b, off, rfl, hc⟩ := (HI.out.slots.kept HK4.out).cell (by omega)
      obtain ⟨c0, c1⟩ := hc g hlt _ (Kept.refl _)
      have hzb := HYB.out g hlt
      have HSN := Lib.hid (hiS_snoc ys g (by have := HNZ.out; omega))
      generalize ys.getD g (0, 0) = x at *
      obtain ⟨d, p⟩ := x
      obtain ⟨⟨hd1, hd2⟩, hp1, hp2⟩ := hzb
      dsimp only at c0 c1 hd1 hd2 hp1 hp2 HSN
      clear hc
      have hgi : (g : Int) < (nz : Int) := by omega
      have ht1 := hi_size d 4
      have ht2 := hi_size p 4
      have hA1 : ∀ w : World, (Op.stringOp .add S ⟨(Rc.hi d 4).toArray⟩).run Try.prog w = .ok (.string (S ++ ⟨(Rc.hi d 4).toArray⟩)) w := fun w => run_string_add_sum _ _ _ (by omega)
      have hA2 : ∀ w : World, (Op.stringOp .add (S ++ ⟨(Rc.hi d 4).toArray⟩) ⟨(Rc.hi p 4).toArray⟩).run Try.prog w = .ok (.string (S ++ ⟨(Rc.hi d 4).toArray⟩ ++ ⟨(Rc.hi p 4).toArray⟩)) w := fun w => run_string_add_sum _ _ _ (by rw [ByteArray.size_append]; omega)
      have HDV := Lib.hid (fun (n : Int) (h : n = d ∨ n = p) w' => rnumber_any n w' (by rcases h with h | h <;> omega))
      clear ht1 ht2
      obtain ⟨a0, a1, a2, a3, a4, a5⟩ := box6 HR4.out
      go_upto_region 19 with (fail)
      have l5 := later_cell a5
      have lc0 := later_cell c0
      have lc1 := later_cell c1
      refine region_later (by kernel_rfl) (by kernel_rfl) ?_
      repeat (go_big_quiet_step ((go_at_call 36; exact later_call (HDV.out _ (by first | exact .inl rfl | exact .inr rfl) _))))
      refine wpQuiet_nil ?_
      intro _ hw'
      obtain ⟨nq, hw''⟩ := hw'
      subst hw''
      have HK3 := Lib.hid (HKu.out.trans nq.2)
      obtain ⟨un, hu⟩ : ∃ un, un = nq.1 := ⟨_, rfl⟩
      rw [← hu] at HK3 ⊢
      clear hA1 hA2 l5 lc0 lc1 hu nq a0 a1 a2 a3 a4 a5 c0 c1
      obtain ⟨S2, hS⟩ : ∃ S2 : ByteArray, S2 = S ++ ⟨(Rc.hi d 4).toArray⟩ ++ ⟨(Rc.hi p 4).toArray⟩ := ⟨_, rfl⟩
      rw [← hS]
      have HS2 := Lib.hid (show S2.data.toList = Rc.hi 1 1 ++ Rc.hi id 4 ++ dig.data.toList ++ Rc.hi (nz : Int) 1 ++ Rc.hiS (ys.take (g + 1)) by rw [hS, HSN.out, ← List.append_assoc, ← List.append_assoc]; exact cat (cat HS4.out (of_list _)) (of_list _))
      have hz2 : S2.size ≤ 38 + 8 * (g + 1) := by rw [hS, ByteArray.size_append, ByteArray.size_append, hi_size, hi_size]; omega
      clear hS
      go_wp2
      go_roundw
      case rel => exact ⟨g + 1, S2, by omega, rfl, by go_num, HS2.out, hz2, HK3.out⟩
      case measure => simp [intOf]; omega
    · obtain rfl : nz = g := by omega
      rw [List.take_of_length_le (by have := HNZ.out; omega)] at HS4
      have hv : (⟨(Rec.bytes ⟨1, id, name, dig, zs, ys⟩).toArray⟩ : ByteArray) = S := by rw [HFIN.out]; exact (back HS4.out).symm
      have HV := Lib.hid hv
      clear hv
      obtain ⟨a0, a1, a2, a3, a4, a5⟩ := box6 HR4.out
      go_wp2
      go_ret
      exact ⟨by rw [HV.out]; rfl, HK4.out⟩
set_option maxRecDepth 100000 in
set_option maxHeartbeats 2000000 in
theorem rbytes_2 (id : Int) (name dig : ByteArray) (al : Option Addr) (nl cl : Nat) (az : Option Addr) (nz cz : Nat) (zs : List Int) (ys : List (Int × Int)) (w : World) (h : RecIn w ⟨2, id, name, dig, zs, ys⟩ al nl az nz) (hm : Rec.may ⟨2, id, name, dig, zs, ys⟩ = true) :
    Calls Try.prog 17 #[.agg #[.int .i64 2, .int .i64 id, .string name, .string dig, .slice al nl cl, .slice az nz cz]] w fun e w' => e = .returned (.string ⟨(Rec.bytes ⟨2, id, name, dig, zs, ys⟩).toArray⟩) ∧ Kept w w' := by
  obtain ⟨hid, hnm, hdg, hll, hzb, hsl, hyb⟩ := may_bounds hm
  dsimp only at hid hnm hdg hll hzb hsl hyb
  have h1 := h.list.len_eq
  have h2 := h.slots.len_eq
  dsimp only at h1 h2
  have hnl : nl ≤ 2000 := by omega
  have hnz : nz ≤ 14 := by omega
  have hfin : Rec.bytes ⟨2, id, name, dig, zs, ys⟩ = Rc.hi 2 1 ++ Rc.hi id 4 ++ dig.data.toList ++ Rc.hi (nl : Int) 4 ++ Rc.hiL zs ++ Rc.hi (nz : Int) 1 ++ Rc.hiS ys := by
    have hd := may_nodig hm rfl
    dsimp only at hd
    unfold Rec.bytes
    dsimp only
    rw [show Rc.fI 2 = true from rfl, show Rc.fN 2 = false from rfl, show Rc.fD 2 = false from rfl, show Rc.fL 2 = true from rfl, show Rc.fS 2 = true from rfl, h1, h2, hd]
    simp
  have HFIN := Lib.hid hfin
  have HZB := Lib.hid (show ∀ i, i < nl → 0 ≤ zs.getD i 0 ∧ zs.getD i 0 ≤ 1073741824 from fun i hi => hzb i (by omega))
  have HYB := Lib.hid (show ∀ i, i < nz → (-1 ≤ (ys.getD i (0, 0)).1 ∧ (ys.getD i (0, 0)).1 ≤ 11) ∧ (0 ≤ (ys.getD i (0, 0)).2 ∧ (ys.getD i (0, 0)).2 ≤ 63) from fun i hi => hyb i (by omega))
  have HNL := Lib.hid (show zs.length = nl from h1)
  have HNZ := Lib.hid (show ys.length = nz from h2)
  have HI := Lib.hid h
  obtain ⟨hid1, hid2⟩ := hid
  clear hm h1 h2 hfin hzb hyb hll hsl h
  go_enter Try.func17, Try.ntmps17
  have hbr0 := BlockAt.new w #[.int .i64 2, .int .i64 id, .string name, .string dig, .slice al nl cl, .slice az nz cz] 31
  have hk0 := (Kept.refl w).alloc (.cells #[.int .i64 2, .int .i64 id, .string name, .string dig, .slice al nl cl, .slice az nz cz] 31)
  go_upto_region 1 with (fail)
  generalize w.alloc (.cells #[.int .i64 2, .int .i64 id, .string name, .string dig, .slice al nl cl, .slice az nz cz] 31) = w1 at *
  have hfs : (fStr 2).size ≤ 9223372036854775807 := by rw [show (fStr 2).size = 3 from rfl]; omega
  obtain ⟨a0, a1, a2, a3, a4, a5⟩ := box6 hbr0
  go_wp2_with fail
  refine (fields_any 2 (by omega) _).mono ?_
  rintro e w2 ⟨rfl, hk2⟩
  have HR := Lib.hid (hbr0.kept hk2)
  have HK := Lib.hid (hk0.trans hk2)
  clear hbr0 hk0 hk2 a0 a1 a2 a3 a4 a5
  obtain ⟨a0, a1, a2, a3, a4, a5⟩ := box6 HR.out
  go_wp2_with fail
  refine (high1 2 _ (by omega)).mono ?_
  rintro e u0 ⟨rfl, hk⟩
  obtain ⟨S0, hS⟩ : ∃ S : ByteArray, S = ⟨(Rc.hi 2 1).toArray⟩ := ⟨_, rfl⟩
  rw [← hS]
  have HS0 := Lib.hid (show S0.data.toList = Rc.hi 2 1 by rw [hS, of_list])
  have hz0 : S0.size ≤ 1 := Nat.le_of_eq (by rw [hS, hi_size])
  have HR0 := Lib.hid (HR.out.kept hk)
  have HK0 := Lib.hid (HK.out.trans hk)
  clear hS hk HR HK a0 a1 a2 a3 a4 a5
  obtain ⟨a0, a1, a2, a3, a4, a5⟩ := box6 HR0.out
  go_wp2_with fail
  refine (has_lit (fStr 2) 73 73 rfl hfs _).mono ?_
  rintro e w' ⟨rfl, rfl⟩
  rw [show hasB (fStr 2) 73 = true from rfl]
  clear a0 a1 a2 a3 a4 a5
  obtain ⟨a0, a1, a2, a3, a4, a5⟩ := box6 HR0.out
  go_wp2_with fail
  refine (rnumber_any id _ (by omega)).mono ?_
  rintro e u1 ⟨rfl, hk⟩
  have HR1 := Lib.hid (HR0.out.kept hk)
  have HK1 := Lib.hid (HK0.out.trans hk)
  clear a0 a1 a2 a3 a4 a5
  clear hk HR0 HK0
  have htz := hi_size id 4
  go_upto_region 5 with (fail)
  clear htz
  obtain ⟨S1, hS⟩ : ∃ S : ByteArray, S = S0 ++ ⟨(Rc.hi id 4).toArray⟩ := ⟨_, rfl⟩
  rw [← hS]
  have HS1 := Lib.hid (show S1.data.toList = Rc.hi 2 1 ++ Rc.hi id 4 by rw [hS]; exact cat HS0.out (of_list _))
  have hz1 : S1.size ≤ 1 + 4 := by rw [hS, ByteArray.size_append, hi_size]; omega
  clear hS HS0 hz0
  obtain ⟨a0, a1, a2, a3, a4, a5⟩ := box6 HR1.out
  go_wp2_with fail
  refine (has_lit (fStr 2) 78 78 rfl hfs _).mono ?_
  rintro e w' ⟨rfl, rfl⟩
  rw [show hasB (fStr 2) 78 = false from rfl]
  clear a0 a1 a2 a3 a4 a5
  obtain ⟨a0, a1, a2, a3, a4, a5⟩ := box6 HR1.out
  go_upto_region 8 with (fail)
  clear a0 a1 a2 a3 a4 a5
  obtain ⟨S2, hS⟩ : ∃ S : ByteArray, S = S1 ++ dig := ⟨_, rfl⟩
  rw [← hS]
  have HS2 := Lib.hid (show S2.data.toList = Rc.hi 2 1 ++ Rc.hi id 4 ++ dig.data.toList by rw [hS]; exact cat HS1.out rfl)
  have hz2 : S2.size ≤ 5 + 32 := by rw [hS, ByteArray.size_append]; omega
  have HR2 := Lib.hid HR1.out
  have HK2 := Lib.hid HK1.out
  obtain ⟨u2, hu⟩ : ∃ u, u1 = u := ⟨_, rfl⟩
  rw [hu] at HR2 HK2 ⊢
  clear hu hS HS1 hz1 HR1 HK1
  obtain ⟨a0, a1, a2, a3, a4, a5⟩ := box6 HR2.out
  go_wp2_with fail
  refine (has_lit (fStr 2) 76 76 rfl hfs _).mono ?_
  rintro e w' ⟨rfl, rfl⟩
  rw [show hasB (fStr 2) 76 = true from rfl]
  clear a0 a1 a2 a3 a4 a5
  obtain ⟨a0, a1, a2, a3, a4, a5⟩ := box6 HR2.out
  go_wp2_with fail
  refine (rnumber_any (nl : Int) _ (by omega)).mono ?_
  rintro e u3 ⟨rfl, hk⟩
  have HR3 := Lib.hid (HR2.out.kept hk)
  have HK3 := Lib.hid (HK2.out.trans hk)
  clear a0 a1 a2 a3 a4 a5
  clear hk HR2 HK2
  have htz := hi_size (nl : Int) 4
  go_upto_region 10 with (fail)
  clear htz
  obtain ⟨S3, hS⟩ : ∃ S : ByteArray, S = S2 ++ ⟨(Rc.hi (nl : Int) 4).toArray⟩ := ⟨_, rfl⟩
  rw [← hS]
  have HS3 := Lib.hid (show S3.data.toList = Rc.hi 2 1 ++ Rc.hi id 4 ++ dig.data.toList ++ Rc.hi (nl : Int) 4 by rw [hS]; exact cat HS2.out (of_list _))
  have hz3 : S3.size ≤ 37 + 4 := by rw [hS, ByteArray.size_append, hi_size]; omega
  clear hS HS2 hz2
  obtain ⟨a0, a1, a2, a3, a4, a5⟩ := box6 HR3.out
  go_wp2_with fail
  clear a0 a1 a2 a3 a4 a5
  go_loopw [4, 5] (fun s q wr => ∃ (j : Nat) (S : ByteArray), j ≤ nl ∧ Value.string S = s ∧ q = .int .i64 j ∧ S.data.toList = Rc.hi 2 1 ++ Rc.hi id 4 ++ dig.data.toList ++ Rc.hi (nl : Int) 4 ++ Rc.hiL (zs.take j) ∧ S.size ≤ 41 + 4 * j ∧ Kept u3 wr) (fun _ q _ => nl - (intOf q).toNat)
  case atStart => exact ⟨0, S3, by omega, rfl, rfl, by rw [HS3.out]; simp [Rc.hiL], by omega, Kept.refl _⟩
  case round =>
    obtain ⟨j, S, hj, rfl, rfl, hs, hsz, hk⟩ := hrel
    have HS4 := Lib.hid hs
    have HR4 := Lib.hid (HR3.out.kept hk)
    have HK4 := Lib.hid (HK3.out.trans hk)
    have HKu := Lib.hid hk
    clear hs hk
    by_cases hlt : j < nl
    · obtain ⟨b, off, rfl, hc⟩ := (HI.out.list.kept HK4.out).cell (by omega)
      have c0 := hc j hlt _ (Kept.refl _)
      have hzb := HZB.out j hlt
      have HSN := Lib.hid (hiL_snoc zs j (by have := HNL.out; omega))
      generalize zs.getD j 0 = x at *
      clear hc
      obtain ⟨a0, a1, a2, a3, a4, a5⟩ := box6 HR4.out
      go_wp2_with fail
      refine (rnumber_any x _ (by omega)).mono ?_
      rintro e un ⟨rfl, hk⟩
      have HK3 := Lib.hid (HKu.out.trans hk)
      have ht1 := hi_size x 4
      clear hk a0 a1 a2 a3 a4 a5 c0
      obtain ⟨S2, hS⟩ : ∃ S2 : ByteArray, S2 = S ++ ⟨(Rc.hi x 4).toArray⟩ := ⟨_, rfl⟩
      have HS2 := Lib.hid (show S2.data.toList = Rc.hi 2 1 ++ Rc.hi id 4 ++ dig.data.toList ++ Rc.hi (nl : Int) 4 ++ Rc.hiL (zs.take (j + 1)) by rw [hS, HSN.out, ← List.append_assoc]; exact cat HS4.out (of_list _))
      have hz2 : S2.size ≤ 41 + 4 * (j + 1) := by rw [hS, ByteArray.size_append, hi_size]; omega
      have HSS := Lib.hid hS
      clear hS
      go_wp2
      go_roundw
      case rel => exact ⟨j + 1, S2, by omega, by rw [HSS.out], by go_num, HS2.out, hz2, HK3.out⟩
      case measure => simp [intOf]; omega
    · obtain rfl : nl = j := by omega
      rw [List.take_of_length_le (by have := HNL.out; omega)] at HS4
      have hz4 : S.size ≤ 8200 := by omega
      obtain ⟨S4, rfl⟩ : ∃ S4, S4 = S := ⟨_, rfl⟩
      have HRn := Lib.hid HR4.out
      obtain ⟨u4, rfl⟩ : ∃ u4 : World, u4 = wr := ⟨_, rfl⟩
      obtain ⟨a0, a1, a2, a3, a4, a5⟩ := box6 HR4.out
      go_upto_region 14 with (fail)
      clear a0 a1 a2 a3 a4 a5
      obtain ⟨a0, a1, a2, a3, a4, a5⟩ := box6 HR4.out
      go_wp2_with fail
      refine (has_lit (fStr 2) 83 83 rfl hfs _).mono ?_
      rintro e w' ⟨rfl, rfl⟩
      rw [show hasB (fStr 2) 83 = true from rfl]
      clear a0 a1 a2 a3 a4 a5
      obtain ⟨a0, a1, a2, a3, a4, a5⟩ := box6 HR4.out
      go_wp2_with fail
      refine (high1 (nz : Int) _ (by omega)).mono ?_
      rintro e u5 ⟨rfl, hk⟩
      have HR5 := Lib.hid (HR4.out.kept hk)
      have HK5 := Lib.hid (HK4.out.trans hk)
      clear a0 a1 a2 a3 a4 a5
      clear hk HR4 HK4
      have htz := hi_size (nz : Int) 1
      go_upto_region 16 with (fail)
      clear htz
      obtain ⟨S5, hS⟩ : ∃ S : ByteArray, S = S4 ++ ⟨(Rc.hi (nz : Int) 1).toArray⟩ := ⟨_, rfl⟩
      rw [← hS]
      have HS5 := Lib.hid (show S5.data.toList = Rc.hi 2 1 ++ Rc.hi id 4 ++ dig.data.toList ++ Rc.hi (nl : Int) 4 ++ Rc.hiL zs ++ Rc.hi (nz : Int) 1 by rw [hS]; exact cat HS4.out (of_list _))
      have hz5 : S5.size ≤ 8200 + 1 := by rw [hS, ByteArray.size_append, hi_size]; omega
      clear hS HS4 hz4
      obtain ⟨a0, a1, a2, a3, a4, a5⟩ := box6 HR5.out
      go_wp2_with fail
      clear a0 a1 a2 a3 a4 a5
      go_loopw [4, 6] (fun s q wr => ∃ (g : Nat) (S : ByteArray), g ≤ nz ∧ Value.string S = s ∧ q = .int .i64 g ∧ S.data.toList = Rc.hi 2 1 ++ Rc.hi id 4 ++ dig.data.toList ++ Rc.hi (nl : Int) 4 ++ Rc.hiL zs ++ Rc.hi (nz : Int) 1 ++ Rc.hiS (ys.take g) ∧ S.size ≤ 8201 + 8 * g ∧ Kept u5 wr) (fun _ q _ => nz - (intOf q).toNat)
      case atStart => exact ⟨0, S5, by omega, rfl, rfl, by rw [HS5.out]; simp [Rc.hiS], by omega, Kept.refl _⟩
      case round =>
        obtain ⟨g, S, hg, rfl, rfl, hs, hsz, hk⟩ := hrel
        have HS6 := Lib.hid hs
        have HR6 := Lib.hid (HR5.out.kept hk)
        have HK6 := Lib.hid (HK5.out.trans hk)
        have HKu := Lib.hid hk
        clear hs hk
        by_cases hlt : g < nz
        · obtain ⟨b, off, rfl, hc⟩ := (HI.out.slots.kept HK6.out).cell (by omega)
          obtain ⟨c0, c1⟩ := hc g hlt _ (Kept.refl _)
          have hzb := HYB.out g hlt
          have HSN := Lib.hid (hiS_snoc ys g (by have := HNZ.out; omega))
          generalize ys.getD g (0, 0) = x at *
          obtain ⟨d, p⟩ := x
          obtain ⟨⟨hd1, hd2⟩, hp1, hp2⟩ := hzb
          dsimp only at c0 c1 hd1 hd2 hp1 hp2 HSN
          clear hc
          have hgi : (g : Int) < (nz : Int) := by omega
          have ht1 := hi_size d 4
          have ht2 := hi_size p 4
          have hA1 : ∀ w : World, (Op.stringOp .add S ⟨(Rc.hi d 4).toArray⟩).run Try.prog w = .ok (.string (S ++ ⟨(Rc.hi d 4).toArray⟩)) w := fun w => run_string_add_sum _ _ _ (by omega)
          have hA2 : ∀ w : World, (Op.stringOp .add (S ++ ⟨(Rc.hi d 4).toArray⟩) ⟨(Rc.hi p 4).toArray⟩).run Try.prog w = .ok (.string (S ++ ⟨(Rc.hi d 4).toArray⟩ ++ ⟨(Rc.hi p 4).toArray⟩)) w := fun w => run_string_add_sum _ _ _ (by rw [ByteArray.size_append]; omega)
          have HDV := Lib.hid (fun (n : Int) (h : n = d ∨ n = p) w' => rnumber_any n w' (by rcases h with h | h <;> omega))
          clear ht1 ht2
          obtain ⟨a0, a1, a2, a3, a4, a5⟩ := box6 HR6.out
          go_upto_region 19 with (fail)
          have l5 := later_cell a5
          have lc0 := later_cell c0
          have lc1 := later_cell c1
          refine region_later (by kernel_rfl) (by kernel_rfl) ?_
          repeat (go_big_quiet_step ((go_at_call 36; exact later_call (HDV.out _ (by first | exact .inl rfl | exact .inr rfl) _))))
          refine wpQuiet_nil ?_
          intro _ hw'
          obtain ⟨nq, hw''⟩ := hw'
          subst hw''
          have HK3 := Lib.hid (HKu.out.trans nq.2)
          obtain ⟨un, hu⟩ : ∃ un, un = nq.1 := ⟨_, rfl⟩
          rw [← hu] at HK3 ⊢
          clear hA1 hA2 l5 lc0 lc1 hu nq a0 a1 a2 a3 a4 a5 c0 c1
          obtain ⟨S2, hS⟩ : ∃ S2 : ByteArray, S2 = S ++ ⟨(Rc.hi d 4).toArray⟩ ++ ⟨(Rc.hi p 4).toArray⟩ := ⟨_, rfl⟩
          rw [← hS]
          have HS2 := Lib.hid (show S2.data.toList = Rc.hi 2 1 ++ Rc.hi id 4 ++ dig.data.toList ++ Rc.hi (nl : Int) 4 ++ Rc.hiL zs ++ Rc.hi (nz : Int) 1 ++ Rc.hiS (ys.take (g + 1)) by rw [hS, HSN.out, ← List.append_assoc, ← List.append_assoc]; exact cat (cat HS6.out (of_list _)) (of_list _))
          have hz2 : S2.size ≤ 8201 + 8 * (g + 1) := by rw [hS, ByteArray.size_append, ByteArray.size_append, hi_size, hi_size]; omega
          clear hS
          go_wp2
          go_roundw
          case rel => exact ⟨g + 1, S2, by omega, rfl, by go_num, HS2.out, hz2, HK3.out⟩
          case measure => simp [intOf]; omega
        · obtain rfl : nz = g := by omega
          rw [List.take_of_length_le (by have := HNZ.out; omega)] at HS6
          have hv : (⟨(Rec.bytes ⟨2, id, name, dig, zs, ys⟩).toArray⟩ : ByteArray) = S := by rw [HFIN.out]; exact (back HS6.out).symm
          have HV := Lib.hid hv
          clear hv
          obtain ⟨a0, a1, a2, a3, a4, a5⟩ := box6 HR6.out
          go_wp2
          go_ret
          exact ⟨by rw [HV.out]; rfl, HK6.out⟩
set_option maxRecDepth 100000 in
set_option maxHeartbeats 2000000 in
theorem rbytes_3 (id : Int) (name dig : ByteArray) (al : Option Addr) (nl cl : Nat) (az : Option Addr) (nz cz : Nat) (zs : List Int) (ys : List (Int × Int)) (w : World) (h : RecIn w ⟨3, id, name, dig, zs, ys⟩ al nl az nz) (hm : Rec.may ⟨3, id, name, dig, zs, ys⟩ = true) :
    Calls Try.prog 17 #[.agg #[.int .i64 3, .int .i64 id, .string name, .string dig, .slice al nl cl, .slice az nz cz]] w fun e w' => e = .returned (.string ⟨(Rec.bytes ⟨3, id, name, dig, zs, ys⟩).toArray⟩) ∧ Kept w w' := by
  obtain ⟨hid, hnm, hdg, hll, hzb, hsl, hyb⟩ := may_bounds hm
  dsimp only at hid hnm hdg hll hzb hsl hyb
  have h1 := h.list.len_eq
  have h2 := h.slots.len_eq
  dsimp only at h1 h2
  have hnl : nl ≤ 2000 := by omega
  have hnz : nz ≤ 14 := by omega
  have hfin : Rec.bytes ⟨3, id, name, dig, zs, ys⟩ = Rc.hi 3 1 ++ Rc.hi id 4 ++ dig.data.toList := by
    have hd := may_nodig hm rfl
    dsimp only at hd
    unfold Rec.bytes
    dsimp only
    rw [show Rc.fI 3 = true from rfl, show Rc.fN 3 = false from rfl, show Rc.fD 3 = false from rfl, show Rc.fL 3 = false from rfl, show Rc.fS 3 = false from rfl, h1, h2, hd]
    simp
  have HFIN := Lib.hid hfin
  have HZB := Lib.hid (show ∀ i, i < nl → 0 ≤ zs.getD i 0 ∧ zs.getD i 0 ≤ 1073741824 from fun i hi => hzb i (by omega))
  have HYB := Lib.hid (show ∀ i, i < nz → (-1 ≤ (ys.getD i (0, 0)).1 ∧ (ys.getD i (0, 0)).1 ≤ 11) ∧ (0 ≤ (ys.getD i (0, 0)).2 ∧ (ys.getD i (0, 0)).2 ≤ 63) from fun i hi => hyb i (by omega))
  have HNL := Lib.hid (show zs.length = nl from h1)
  have HNZ := Lib.hid (show ys.length = nz from h2)
  have HI := Lib.hid h
  obtain ⟨hid1, hid2⟩ := hid
  clear hm h1 h2 hfin hzb hyb hll hsl h
  go_enter Try.func17, Try.ntmps17
  have hbr0 := BlockAt.new w #[.int .i64 3, .int .i64 id, .string name, .string dig, .slice al nl cl, .slice az nz cz] 31
  have hk0 := (Kept.refl w).alloc (.cells #[.int .i64 3, .int .i64 id, .string name, .string dig, .slice al nl cl, .slice az nz cz] 31)
  go_upto_region 1 with (fail)
  generalize w.alloc (.cells #[.int .i64 3, .int .i64 id, .string name, .string dig, .slice al nl cl, .slice az nz cz] 31) = w1 at *
  have hfs : (fStr 3).size ≤ 9223372036854775807 := by rw [show (fStr 3).size = 1 from rfl]; omega
  obtain ⟨a0, a1, a2, a3, a4, a5⟩ := box6 hbr0
  go_wp2_with fail
  refine (fields_any 3 (by omega) _).mono ?_
  rintro e w2 ⟨rfl, hk2⟩
  have HR := Lib.hid (hbr0.kept hk2)
  have HK := Lib.hid (hk0.trans hk2)
  clear hbr0 hk0 hk2 a0 a1 a2 a3 a4 a5
  obtain ⟨a0, a1, a2, a3, a4, a5⟩ := box6 HR.out
  go_wp2_with fail
  refine (high1 3 _ (by omega)).mono ?_
  rintro e u0 ⟨rfl, hk⟩
  obtain ⟨S0, hS⟩ : ∃ S : ByteArray, S = ⟨(Rc.hi 3 1).toArray⟩ := ⟨_, rfl⟩
  rw [← hS]
  have HS0 := Lib.hid (show S0.data.toList = Rc.hi 3 1 by rw [hS, of_list])
  have hz0 : S0.size ≤ 1 := Nat.le_of_eq (by rw [hS, hi_size])
  have HR0 := Lib.hid (HR.out.kept hk)
  have HK0 := Lib.hid (HK.out.trans hk)
  clear hS hk HR HK a0 a1 a2 a3 a4 a5
  obtain ⟨a0, a1, a2, a3, a4, a5⟩ := box6 HR0.out
  go_wp2_with fail
  refine (has_lit (fStr 3) 73 73 rfl hfs _).mono ?_
  rintro e w' ⟨rfl, rfl⟩
  rw [show hasB (fStr 3) 73 = true from rfl]
  clear a0 a1 a2 a3 a4 a5
  obtain ⟨a0, a1, a2, a3, a4, a5⟩ := box6 HR0.out
  go_wp2_with fail
  refine (rnumber_any id _ (by omega)).mono ?_
  rintro e u1 ⟨rfl, hk⟩
  have HR1 := Lib.hid (HR0.out.kept hk)
  have HK1 := Lib.hid (HK0.out.trans hk)
  clear a0 a1 a2 a3 a4 a5
  clear hk HR0 HK0
  have htz := hi_size id 4
  go_upto_region 5 with (fail)
  clear htz
  obtain ⟨S1, hS⟩ : ∃ S : ByteArray, S = S0 ++ ⟨(Rc.hi id 4).toArray⟩ := ⟨_, rfl⟩
  rw [← hS]
  have HS1 := Lib.hid (show S1.data.toList = Rc.hi 3 1 ++ Rc.hi id 4 by rw [hS]; exact cat HS0.out (of_list _))
  have hz1 : S1.size ≤ 1 + 4 := by rw [hS, ByteArray.size_append, hi_size]; omega
  clear hS HS0 hz0
  obtain ⟨a0, a1, a2, a3, a4, a5⟩ := box6 HR1.out
  go_wp2_with fail
  refine (has_lit (fStr 3) 78 78 rfl hfs _).mono ?_
  rintro e w' ⟨rfl, rfl⟩
  rw [show hasB (fStr 3) 78 = false from rfl]
  clear a0 a1 a2 a3 a4 a5
  obtain ⟨a0, a1, a2, a3, a4, a5⟩ := box6 HR1.out
  go_upto_region 8 with (fail)
  clear a0 a1 a2 a3 a4 a5
  obtain ⟨S2, hS⟩ : ∃ S : ByteArray, S = S1 ++ dig := ⟨_, rfl⟩
  rw [← hS]
  have HS2 := Lib.hid (show S2.data.toList = Rc.hi 3 1 ++ Rc.hi id 4 ++ dig.data.toList by rw [hS]; exact cat HS1.out rfl)
  have hz2 : S2.size ≤ 5 + 32 := by rw [hS, ByteArray.size_append]; omega
  have HR2 := Lib.hid HR1.out
  have HK2 := Lib.hid HK1.out
  obtain ⟨u2, hu⟩ : ∃ u, u1 = u := ⟨_, rfl⟩
  rw [hu] at HR2 HK2 ⊢
  clear hu hS HS1 hz1 HR1 HK1
  obtain ⟨a0, a1, a2, a3, a4, a5⟩ := box6 HR2.out
  go_wp2_with fail
  refine (has_lit (fStr 3) 76 76 rfl hfs _).mono ?_
  rintro e w' ⟨rfl, rfl⟩
  rw [show hasB (fStr 3) 76 = false from rfl]
  clear a0 a1 a2 a3 a4 a5
  obtain ⟨a0, a1, a2, a3, a4, a5⟩ := box6 HR2.out
  go_wp2_with fail
  refine (has_lit (fStr 3) 83 83 rfl hfs _).mono ?_
  rintro e w' ⟨rfl, rfl⟩
  rw [show hasB (fStr 3) 83 = false from rfl]
  clear a0 a1 a2 a3 a4 a5
  have hv : (⟨(Rec.bytes ⟨3, id, name, dig, zs, ys⟩).toArray⟩ : ByteArray) = S2 := by rw [HFIN.out]; exact (back HS2.out).symm
  have HV := Lib.hid hv
  clear hv
  obtain ⟨a0, a1, a2, a3, a4, a5⟩ := box6 HR2.out
  go_wp2
  go_ret
  exact ⟨by rw [HV.out]; rfl, HK2.out⟩
set_option maxRecDepth 100000 in
set_option maxHeartbeats 2000000 in
theorem rbytes_4 (id : Int) (name dig : ByteArray) (al : Option Addr) (nl cl : Nat) (az : Option Addr) (nz cz : Nat) (zs : List Int) (ys : List (Int × Int)) (w : World) (h : RecIn w ⟨4, id, name, dig, zs, ys⟩ al nl az nz) (hm : Rec.may ⟨4, id, name, dig, zs, ys⟩ = true) :
    Calls Try.prog 17 #[.agg #[.int .i64 4, .int .i64 id, .string name, .string dig, .slice al nl cl, .slice az nz cz]] w fun e w' => e = .returned (.string ⟨(Rec.bytes ⟨4, id, name, dig, zs, ys⟩).toArray⟩) ∧ Kept w w' := by
  obtain ⟨hid, hnm, hdg, hll, hzb, hsl, hyb⟩ := may_bounds hm
  dsimp only at hid hnm hdg hll hzb hsl hyb
  have h1 := h.list.len_eq
  have h2 := h.slots.len_eq
  dsimp only at h1 h2
  have hnl : nl ≤ 2000 := by omega
  have hnz : nz ≤ 14 := by omega
  have hfin : Rec.bytes ⟨4, id, name, dig, zs, ys⟩ = Rc.hi 4 1 ++ Rc.hi id 4 ++ dig.data.toList ++ Rc.hi (nl : Int) 4 ++ Rc.hiL zs := by
    
    
    unfold Rec.bytes
    dsimp only
    rw [show Rc.fI 4 = true from rfl, show Rc.fN 4 = false from rfl, show Rc.fD 4 = true from rfl, show Rc.fL 4 = true from rfl, show Rc.fS 4 = false from rfl, h1, h2]
    simp
  have HFIN := Lib.hid hfin
  have HZB := Lib.hid (show ∀ i, i < nl → 0 ≤ zs.getD i 0 ∧ zs.getD i 0 ≤ 1073741824 from fun i hi => hzb i (by omega))
  have HYB := Lib.hid (show ∀ i, i < nz → (-1 ≤ (ys.getD i (0, 0)).1 ∧ (ys.getD i (0, 0)).1 ≤ 11) ∧ (0 ≤ (ys.getD i (0, 0)).2 ∧ (ys.getD i (0, 0)).2 ≤ 63) from fun i hi => hyb i (by omega))
  have HNL := Lib.hid (show zs.length = nl from h1)
  have HNZ := Lib.hid (show ys.length = nz from h2)
  have HI := Lib.hid h
  obtain ⟨hid1, hid2⟩ := hid
  clear hm h1 h2 hfin hzb hyb hll hsl h
  go_enter Try.func17, Try.ntmps17
  have hbr0 := BlockAt.new w #[.int .i64 4, .int .i64 id, .string name, .string dig, .slice al nl cl, .slice az nz cz] 31
  have hk0 := (Kept.refl w).alloc (.cells #[.int .i64 4, .int .i64 id, .string name, .string dig, .slice al nl cl, .slice az nz cz] 31)
  go_upto_region 1 with (fail)
  generalize w.alloc (.cells #[.int .i64 4, .int .i64 id, .string name, .string dig, .slice al nl cl, .slice az nz cz] 31) = w1 at *
  have hfs : (fStr 4).size ≤ 9223372036854775807 := by rw [show (fStr 4).size = 3 from rfl]; omega
  obtain ⟨a0, a1, a2, a3, a4, a5⟩ := box6 hbr0
  go_wp2_with fail
  refine (fields_any 4 (by omega) _).mono ?_
  rintro e w2 ⟨rfl, hk2⟩
  have HR := Lib.hid (hbr0.kept hk2)
  have HK := Lib.hid (hk0.trans hk2)
  clear hbr0 hk0 hk2 a0 a1 a2 a3 a4 a5
  obtain ⟨a0, a1, a2, a3, a4, a5⟩ := box6 HR.out
  go_wp2_with fail
  refine (high1 4 _ (by omega)).mono ?_
  rintro e u0 ⟨rfl, hk⟩
  obtain ⟨S0, hS⟩ : ∃ S : ByteArray, S = ⟨(Rc.hi 4 1).toArray⟩ := ⟨_, rfl⟩
  rw [← hS]
  have HS0 := Lib.hid (show S0.data.toList = Rc.hi 4 1 by rw [hS, of_list])
  have hz0 : S0.size ≤ 1 := Nat.le_of_eq (by rw [hS, hi_size])
  have HR0 := Lib.hid (HR.out.kept hk)
  have HK0 := Lib.hid (HK.out.trans hk)
  clear hS hk HR HK a0 a1 a2 a3 a4 a5
  obtain ⟨a0, a1, a2, a3, a4, a5⟩ := box6 HR0.out
  go_wp2_with fail
  refine (has_lit (fStr 4) 73 73 rfl hfs _).mono ?_
  rintro e w' ⟨rfl, rfl⟩
  rw [show hasB (fStr 4) 73 = true from rfl]
  clear a0 a1 a2 a3 a4 a5
  obtain ⟨a0, a1, a2, a3, a4, a5⟩ := box6 HR0.out
  go_wp2_with fail
  refine (rnumber_any id _ (by omega)).mono ?_
  rintro e u1 ⟨rfl, hk⟩
  have HR1 := Lib.hid (HR0.out.kept hk)
  have HK1 := Lib.hid (HK0.out.trans hk)
  clear a0 a1 a2 a3 a4 a5
  clear hk HR0 HK0
  have htz := hi_size id 4
  go_upto_region 5 with (fail)
  clear htz
  obtain ⟨S1, hS⟩ : ∃ S : ByteArray, S = S0 ++ ⟨(Rc.hi id 4).toArray⟩ := ⟨_, rfl⟩
  rw [← hS]
  have HS1 := Lib.hid (show S1.data.toList = Rc.hi 4 1 ++ Rc.hi id 4 by rw [hS]; exact cat HS0.out (of_list _))
  have hz1 : S1.size ≤ 1 + 4 := by rw [hS, ByteArray.size_append, hi_size]; omega
  clear hS HS0 hz0
  obtain ⟨a0, a1, a2, a3, a4, a5⟩ := box6 HR1.out
  go_wp2_with fail
  refine (has_lit (fStr 4) 78 78 rfl hfs _).mono ?_
  rintro e w' ⟨rfl, rfl⟩
  rw [show hasB (fStr 4) 78 = false from rfl]
  clear a0 a1 a2 a3 a4 a5
  obtain ⟨a0, a1, a2, a3, a4, a5⟩ := box6 HR1.out
  go_upto_region 8 with (fail)
  clear a0 a1 a2 a3 a4 a5
  obtain ⟨S2, hS⟩ : ∃ S : ByteArray, S = S1 ++ dig := ⟨_, rfl⟩
  rw [← hS]
  have HS2 := Lib.hid (show S2.data.toList = Rc.hi 4 1 ++ Rc.hi id 4 ++ dig.data.toList by rw [hS]; exact cat HS1.out rfl)
  have hz2 : S2.size ≤ 5 + 32 := by rw [hS, ByteArray.size_append]; omega
  have HR2 := Lib.hid HR1.out
  have HK2 := Lib.hid HK1.out
  obtain ⟨u2, hu⟩ : ∃ u, u1 = u := ⟨_, rfl⟩
  rw [hu] at HR2 HK2 ⊢
  clear hu hS HS1 hz1 HR1 HK1
  obtain ⟨a0, a1, a2, a3, a4, a5⟩ := box6 HR2.out
  go_wp2_with fail
  refine (has_lit (fStr 4) 76 76 rfl hfs _).mono ?_
  rintro e w' ⟨rfl, rfl⟩
  rw [show hasB (fStr 4) 76 = true from rfl]
  clear a0 a1 a2 a3 a4 a5
  obtain ⟨a0, a1, a2, a3, a4, a5⟩ := box6 HR2.out
  go_wp2_with fail
  refine (rnumber_any (nl : Int) _ (by omega)).mono ?_
  rintro e u3 ⟨rfl, hk⟩
  have HR3 := Lib.hid (HR2.out.kept hk)
  have HK3 := Lib.hid (HK2.out.trans hk)
  clear a0 a1 a2 a3 a4 a5
  clear hk HR2 HK2
  have htz := hi_size (nl : Int) 4
  go_upto_region 10 with (fail)
  clear htz
  obtain ⟨S3, hS⟩ : ∃ S : ByteArray, S = S2 ++ ⟨(Rc.hi (nl : Int) 4).toArray⟩ := ⟨_, rfl⟩
  rw [← hS]
  have HS3 := Lib.hid (show S3.data.toList = Rc.hi 4 1 ++ Rc.hi id 4 ++ dig.data.toList ++ Rc.hi (nl : Int) 4 by rw [hS]; exact cat HS2.out (of_list _))
  have hz3 : S3.size ≤ 37 + 4 := by rw [hS, ByteArray.size_append, hi_size]; omega
  clear hS HS2 hz2
  obtain ⟨a0, a1, a2, a3, a4, a5⟩ := box6 HR3.out
  go_wp2_with fail
  clear a0 a1 a2 a3 a4 a5
  go_loopw [4, 5] (fun s q wr => ∃ (j : Nat) (S : ByteArray), j ≤ nl ∧ Value.string S = s ∧ q = .int .i64 j ∧ S.data.toList = Rc.hi 4 1 ++ Rc.hi id 4 ++ dig.data.toList ++ Rc.hi (nl : Int) 4 ++ Rc.hiL (zs.take j) ∧ S.size ≤ 41 + 4 * j ∧ Kept u3 wr) (fun _ q _ => nl - (intOf q).toNat)
  case atStart => exact ⟨0, S3, by omega, rfl, rfl, by rw [HS3.out]; simp [Rc.hiL], by omega, Kept.refl _⟩
  case round =>
    obtain ⟨j, S, hj, rfl, rfl, hs, hsz, hk⟩ := hrel
    have HS4 := Lib.hid hs
    have HR4 := Lib.hid (HR3.out.kept hk)
    have HK4 := Lib.hid (HK3.out.trans hk)
    have HKu := Lib.hid hk
    clear hs hk
    by_cases hlt : j < nl
    · obtain ⟨b, off, rfl, hc⟩ := (HI.out.list.kept HK4.out).cell (by omega)
      have c0 := hc j hlt _ (Kept.refl _)
      have hzb := HZB.out j hlt
      have HSN := Lib.hid (hiL_snoc zs j (by have := HNL.out; omega))
      generalize zs.getD j 0 = x at *
      clear hc
      obtain ⟨a0, a1, a2, a3, a4, a5⟩ := box6 HR4.out
      go_wp2_with fail
      refine (rnumber_any x _ (by omega)).mono ?_
      rintro e un ⟨rfl, hk⟩
      have HK3 := Lib.hid (HKu.out.trans hk)
      have ht1 := hi_size x 4
      clear hk a0 a1 a2 a3 a4 a5 c0
      obtain ⟨S2, hS⟩ : ∃ S2 : ByteArray, S2 = S ++ ⟨(Rc.hi x 4).toArray⟩ := ⟨_, rfl⟩
      have HS2 := Lib.hid (show S2.data.toList = Rc.hi 4 1 ++ Rc.hi id 4 ++ dig.data.toList ++ Rc.hi (nl : Int) 4 ++ Rc.hiL (zs.take (j + 1)) by rw [hS, HSN.out, ← List.append_assoc]; exact cat HS4.out (of_list _))
      have hz2 : S2.size ≤ 41 + 4 * (j + 1) := by rw [hS, ByteArray.size_append, hi_size]; omega
      have HSS := Lib.hid hS
      clear hS
      go_wp2
      go_roundw
      case rel => exact ⟨j + 1, S2, by omega, by rw [HSS.out], by go_num, HS2.out, hz2, HK3.out⟩
      case measure => simp [intOf]; omega
    · obtain rfl : nl = j := by omega
      rw [List.take_of_length_le (by have := HNL.out; omega)] at HS4
      have hz4 : S.size ≤ 8200 := by omega
      obtain ⟨S4, rfl⟩ : ∃ S4, S4 = S := ⟨_, rfl⟩
      have HRn := Lib.hid HR4.out
      obtain ⟨u4, rfl⟩ : ∃ u4 : World, u4 = wr := ⟨_, rfl⟩
      obtain ⟨a0, a1, a2, a3, a4, a5⟩ := box6 HR4.out
      go_upto_region 14 with (fail)
      clear a0 a1 a2 a3 a4 a5
      obtain ⟨a0, a1, a2, a3, a4, a5⟩ := box6 HR4.out
      go_wp2_with fail
      refine (has_lit (fStr 4) 83 83 rfl hfs _).mono ?_
      rintro e w' ⟨rfl, rfl⟩
      rw [show hasB (fStr 4) 83 = false from rfl]
      clear a0 a1 a2 a3 a4 a5
      have hv : (⟨(Rec.bytes ⟨4, id, name, dig, zs, ys⟩).toArray⟩ : ByteArray) = S4 := by rw [HFIN.out]; exact (back HS4.out).symm
      have HV := Lib.hid hv
      clear hv
      obtain ⟨a0, a1, a2, a3, a4, a5⟩ := box6 HR4.out
      go_wp2
      go_ret
      exact ⟨by rw [HV.out]; rfl, HK4.out⟩
set_option maxRecDepth 100000 in
set_option maxHeartbeats 2000000 in
theorem rbytes_5 (id : Int) (name dig : ByteArray) (al : Option Addr) (nl cl : Nat) (az : Option Addr) (nz cz : Nat) (zs : List Int) (ys : List (Int × Int)) (w : World) (h : RecIn w ⟨5, id, name, dig, zs, ys⟩ al nl az nz) (hm : Rec.may ⟨5, id, name, dig, zs, ys⟩ = true) :
    Calls Try.prog 17 #[.agg #[.int .i64 5, .int .i64 id, .string name, .string dig, .slice al nl cl, .slice az nz cz]] w fun e w' => e = .returned (.string ⟨(Rec.bytes ⟨5, id, name, dig, zs, ys⟩).toArray⟩) ∧ Kept w w' := by
  obtain ⟨hid, hnm, hdg, hll, hzb, hsl, hyb⟩ := may_bounds hm
  dsimp only at hid hnm hdg hll hzb hsl hyb
  have h1 := h.list.len_eq
  have h2 := h.slots.len_eq
  dsimp only at h1 h2
  have hnl : nl ≤ 2000 := by omega
  have hnz : nz ≤ 14 := by omega
  have hfin : Rec.bytes ⟨5, id, name, dig, zs, ys⟩ = Rc.hi 5 1 ++ Rc.hi id 4 ++ dig.data.toList ++ Rc.hi (nl : Int) 4 ++ Rc.hiL zs := by
    
    
    unfold Rec.bytes
    dsimp only
    rw [show Rc.fI 5 = true from rfl, show Rc.fN 5 = false from rfl, show Rc.fD 5 = true from rfl, show Rc.fL 5 = true from rfl, show Rc.fS 5 = false from rfl, h1, h2]
    simp
  have HFIN := Lib.hid hfin
  have HZB := Lib.hid (show ∀ i, i < nl → 0 ≤ zs.getD i 0 ∧ zs.getD i 0 ≤ 1073741824 from fun i hi => hzb i (by omega))
  have HYB := Lib.hid (show ∀ i, i < nz → (-1 ≤ (ys.getD i (0, 0)).1 ∧ (ys.getD i (0, 0)).1 ≤ 11) ∧ (0 ≤ (ys.getD i (0, 0)).2 ∧ (ys.getD i (0, 0)).2 ≤ 63) from fun i hi => hyb i (by omega))
  have HNL := Lib.hid (show zs.length = nl from h1)
  have HNZ := Lib.hid (show ys.length = nz from h2)
  have HI := Lib.hid h
  obtain ⟨hid1, hid2⟩ := hid
  clear hm h1 h2 hfin hzb hyb hll hsl h
  go_enter Try.func17, Try.ntmps17
  have hbr0 := BlockAt.new w #[.int .i64 5, .int .i64 id, .string name, .string dig, .slice al nl cl, .slice az nz cz] 31
  have hk0 := (Kept.refl w).alloc (.cells #[.int .i64 5, .int .i64 id, .string name, .string dig, .slice al nl cl, .slice az nz cz] 31)
  go_upto_region 1 with (fail)
  generalize w.alloc (.cells #[.int .i64 5, .int .i64 id, .string name, .string dig, .slice al nl cl, .slice az nz cz] 31) = w1 at *
  have hfs : (fStr 5).size ≤ 9223372036854775807 := by rw [show (fStr 5).size = 3 from rfl]; omega
  obtain ⟨a0, a1, a2, a3, a4, a5⟩ := box6 hbr0
  go_wp2_with fail
  refine (fields_any 5 (by omega) _).mono ?_
  rintro e w2 ⟨rfl, hk2⟩
  have HR := Lib.hid (hbr0.kept hk2)
  have HK := Lib.hid (hk0.trans hk2)
  clear hbr0 hk0 hk2 a0 a1 a2 a3 a4 a5
  obtain ⟨a0, a1, a2, a3, a4, a5⟩ := box6 HR.out
  go_wp2_with fail
  refine (high1 5 _ (by omega)).mono ?_
  rintro e u0 ⟨rfl, hk⟩
  obtain ⟨S0, hS⟩ : ∃ S : ByteArray, S = ⟨(Rc.hi 5 1).toArray⟩ := ⟨_, rfl⟩
  rw [← hS]
  have HS0 := Lib.hid (show S0.data.toList = Rc.hi 5 1 by rw [hS, of_list])
  have hz0 : S0.size ≤ 1 := Nat.le_of_eq (by rw [hS, hi_size])
  have HR0 := Lib.hid (HR.out.kept hk)
  have HK0 := Lib.hid (HK.out.trans hk)
  clear hS hk HR HK a0 a1 a2 a3 a4 a5
  obtain ⟨a0, a1, a2, a3, a4, a5⟩ := box6 HR0.out
  go_wp2_with fail
  refine (has_lit (fStr 5) 73 73 rfl hfs _).mono ?_
  rintro e w' ⟨rfl, rfl⟩
  rw [show hasB (fStr 5) 73 = true from rfl]
  clear a0 a1 a2 a3 a4 a5
  obtain ⟨a0, a1, a2, a3, a4, a5⟩ := box6 HR0.out
  go_wp2_with fail
  refine (rnumber_any id _ (by omega)).mono ?_
  rintro e u1 ⟨rfl, hk⟩
  have HR1 := Lib.hid (HR0.out.kept hk)
  have HK1 := Lib.hid (HK0.out.trans hk)
  clear a0 a1 a2 a3 a4 a5
  clear hk HR0 HK0
  have htz := hi_size id 4
  go_upto_region 5 with (fail)
  clear htz
  obtain ⟨S1, hS⟩ : ∃ S : ByteArray, S = S0 ++ ⟨(Rc.hi id 4).toArray⟩ := ⟨_, rfl⟩
  rw [← hS]
  have HS1 := Lib.hid (show S1.data.toList = Rc.hi 5 1 ++ Rc.hi id 4 by rw [hS]; exact cat HS0.out (of_list _))
  have hz1 : S1.size ≤ 1 + 4 := by rw [hS, ByteArray.size_append, hi_size]; omega
  clear hS HS0 hz0
  obtain ⟨a0, a1, a2, a3, a4, a5⟩ := box6 HR1.out
  go_wp2_with fail
  refine (has_lit (fStr 5) 78 78 rfl hfs _).mono ?_
  rintro e w' ⟨rfl, rfl⟩
  rw [show hasB (fStr 5) 78 = false from rfl]
  clear a0 a1 a2 a3 a4 a5
  obtain ⟨a0, a1, a2, a3, a4, a5⟩ := box6 HR1.out
  go_upto_region 8 with (fail)
  clear a0 a1 a2 a3 a4 a5
  obtain ⟨S2, hS⟩ : ∃ S : ByteArray, S = S1 ++ dig := ⟨_, rfl⟩
  rw [← hS]
  have HS2 := Lib.hid (show S2.data.toList = Rc.hi 5 1 ++ Rc.hi id 4 ++ dig.data.toList by rw [hS]; exact cat HS1.out rfl)
  have hz2 : S2.size ≤ 5 + 32 := by rw [hS, ByteArray.size_append]; omega
  have HR2 := Lib.hid HR1.out
  have HK2 := Lib.hid HK1.out
  obtain ⟨u2, hu⟩ : ∃ u, u1 = u := ⟨_, rfl⟩
  rw [hu] at HR2 HK2 ⊢
  clear hu hS HS1 hz1 HR1 HK1
  obtain ⟨a0, a1, a2, a3, a4, a5⟩ := box6 HR2.out
  go_wp2_with fail
  refine (has_lit (fStr 5) 76 76 rfl hfs _).mono ?_
  rintro e w' ⟨rfl, rfl⟩
  rw [show hasB (fStr 5) 76 = true from rfl]
  clear a0 a1 a2 a3 a4 a5
  obtain ⟨a0, a1, a2, a3, a4, a5⟩ := box6 HR2.out
  go_wp2_with fail
  refine (rnumber_any (nl : Int) _ (by omega)).mono ?_
  rintro e u3 ⟨rfl, hk⟩
  have HR3 := Lib.hid (HR2.out.kept hk)
  have HK3 := Lib.hid (HK2.out.trans hk)
  clear a0 a1 a2 a3 a4 a5
  clear hk HR2 HK2
  have htz := hi_size (nl : Int) 4
  go_upto_region 10 with (fail)
  clear htz
  obtain ⟨S3, hS⟩ : ∃ S : ByteArray, S = S2 ++ ⟨(Rc.hi (nl : Int) 4).toArray⟩ := ⟨_, rfl⟩
  rw [← hS]
  have HS3 := Lib.hid (show S3.data.toList = Rc.hi 5 1 ++ Rc.hi id 4 ++ dig.data.toList ++ Rc.hi (nl : Int) 4 by rw [hS]; exact cat HS2.out (of_list _))
  have hz3 : S3.size ≤ 37 + 4 := by rw [hS, ByteArray.size_append, hi_size]; omega
  clear hS HS2 hz2
  obtain ⟨a0, a1, a2, a3, a4, a5⟩ := box6 HR3.out
  go_wp2_with fail
  clear a0 a1 a2 a3 a4 a5
  go_loopw [4, 5] (fun s q wr => ∃ (j : Nat) (S : ByteArray), j ≤ nl ∧ Value.string S = s ∧ q = .int .i64 j ∧ S.data.toList = Rc.hi 5 1 ++ Rc.hi id 4 ++ dig.data.toList ++ Rc.hi (nl : Int) 4 ++ Rc.hiL (zs.take j) ∧ S.size ≤ 41 + 4 * j ∧ Kept u3 wr) (fun _ q _ => nl - (intOf q).toNat)
  case atStart => exact ⟨0, S3, by omega, rfl, rfl, by rw [HS3.out]; simp [Rc.hiL], by omega, Kept.refl _⟩
  case round =>
    obtain ⟨j, S, hj, rfl, rfl, hs, hsz, hk⟩ := hrel
    have HS4 := Lib.hid hs
    have HR4 := Lib.hid (HR3.out.kept hk)
    have HK4 := Lib.hid (HK3.out.trans hk)
    have HKu := Lib.hid hk
    clear hs hk
    by_cases hlt : j < nl
    · obtain ⟨b, off, rfl, hc⟩ := (HI.out.list.kept HK4.out).cell (by omega)
      have c0 := hc j hlt _ (Kept.refl _)
      have hzb := HZB.out j hlt
      have HSN := Lib.hid (hiL_snoc zs j (by have := HNL.out; omega))
      generalize zs.getD j 0 = x at *
      clear hc
      obtain ⟨a0, a1, a2, a3, a4, a5⟩ := box6 HR4.out
      go_wp2_with fail
      refine (rnumber_any x _ (by omega)).mono ?_
      rintro e un ⟨rfl, hk⟩
      have HK3 := Lib.hid (HKu.out.trans hk)
      have ht1 := hi_size x 4
      clear hk a0 a1 a2 a3 a4 a5 c0
      obtain ⟨S2, hS⟩ : ∃ S2 : ByteArray, S2 = S ++ ⟨(Rc.hi x 4).toArray⟩ := ⟨_, rfl⟩
      have HS2 := Lib.hid (show S2.data.toList = Rc.hi 5 1 ++ Rc.hi id 4 ++ dig.data.toList ++ Rc.hi (nl : Int) 4 ++ Rc.hiL (zs.take (j + 1)) by rw [hS, HSN.out, ← List.append_assoc]; exact cat HS4.out (of_list _))
      have hz2 : S2.size ≤ 41 + 4 * (j + 1) := by rw [hS, ByteArray.size_append, hi_size]; omega
      have HSS := Lib.hid hS
      clear hS
      go_wp2
      go_roundw
      case rel => exact ⟨j + 1, S2, by omega, by rw [HSS.out], by go_num, HS2.out, hz2, HK3.out⟩
      case measure => simp [intOf]; omega
    · obtain rfl : nl = j := by omega
      rw [List.take_of_length_le (by have := HNL.out; omega)] at HS4
      have hz4 : S.size ≤ 8200 := by omega
      obtain ⟨S4, rfl⟩ : ∃ S4, S4 = S := ⟨_, rfl⟩
      have HRn := Lib.hid HR4.out
      obtain ⟨u4, rfl⟩ : ∃ u4 : World, u4 = wr := ⟨_, rfl⟩
      obtain ⟨a0, a1, a2, a3, a4, a5⟩ := box6 HR4.out
      go_upto_region 14 with (fail)
      clear a0 a1 a2 a3 a4 a5
      obtain ⟨a0, a1, a2, a3, a4, a5⟩ := box6 HR4.out
      go_wp2_with fail
      refine (has_lit (fStr 5) 83 83 rfl hfs _).mono ?_
      rintro e w' ⟨rfl, rfl⟩
      rw [show hasB (fStr 5) 83 = false from rfl]
      clear a0 a1 a2 a3 a4 a5
      have hv : (⟨(Rec.bytes ⟨5, id, name, dig, zs, ys⟩).toArray⟩ : ByteArray) = S4 := by rw [HFIN.out]; exact (back HS4.out).symm
      have HV := Lib.hid hv
      clear hv
      obtain ⟨a0, a1, a2, a3, a4, a5⟩ := box6 HR4.out
      go_wp2
      go_ret
      exact ⟨by rw [HV.out]; rfl, HK4.out⟩
set_option maxRecDepth 100000 in
set_option maxHeartbeats 2000000 in
theorem rbytes_6 (id : Int) (name dig : ByteArray) (al : Option Addr) (nl cl : Nat) (az : Option Addr) (nz cz : Nat) (zs : List Int) (ys : List (Int × Int)) (w : World) (h : RecIn w ⟨6, id, name, dig, zs, ys⟩ al nl az nz) (hm : Rec.may ⟨6, id, name, dig, zs, ys⟩ = true) :
    Calls Try.prog 17 #[.agg #[.int .i64 6, .int .i64 id, .string name, .string dig, .slice al nl cl, .slice az nz cz]] w fun e w' => e = .returned (.string ⟨(Rec.bytes ⟨6, id, name, dig, zs, ys⟩).toArray⟩) ∧ Kept w w' := by
  obtain ⟨hid, hnm, hdg, hll, hzb, hsl, hyb⟩ := may_bounds hm
  dsimp only at hid hnm hdg hll hzb hsl hyb
  have h1 := h.list.len_eq
  have h2 := h.slots.len_eq
  dsimp only at h1 h2
  have hnl : nl ≤ 2000 := by omega
  have hnz : nz ≤ 14 := by omega
  have hfin : Rec.bytes ⟨6, id, name, dig, zs, ys⟩ = Rc.hi 6 1 ++ dig.data.toList := by
    
    
    unfold Rec.bytes
    dsimp only
    rw [show Rc.fI 6 = false from rfl, show Rc.fN 6 = false from rfl, show Rc.fD 6 = true from rfl, show Rc.fL 6 = false from rfl, show Rc.fS 6 = false from rfl, h1, h2]
    simp
  have HFIN := Lib.hid hfin
  have HZB := Lib.hid (show ∀ i, i < nl → 0 ≤ zs.getD i 0 ∧ zs.getD i 0 ≤ 1073741824 from fun i hi => hzb i (by omega))
  have HYB := Lib.hid (show ∀ i, i < nz → (-1 ≤ (ys.getD i (0, 0)).1 ∧ (ys.getD i (0, 0)).1 ≤ 11) ∧ (0 ≤ (ys.getD i (0, 0)).2 ∧ (ys.getD i (0, 0)).2 ≤ 63) from fun i hi => hyb i (by omega))
  have HNL := Lib.hid (show zs.length = nl from h1)
  have HNZ := Lib.hid (show ys.length = nz from h2)
  have HI := Lib.hid h
  obtain ⟨hid1, hid2⟩ := hid
  clear hm h1 h2 hfin hzb hyb hll hsl h
  go_enter Try.func17, Try.ntmps17
  have hbr0 := BlockAt.new w #[.int .i64 6, .int .i64 id, .string name, .string dig, .slice al nl cl, .slice az nz cz] 31
  have hk0 := (Kept.refl w).alloc (.cells #[.int .i64 6, .int .i64 id, .string name, .string dig, .slice al nl cl, .slice az nz cz] 31)
  go_upto_region 1 with (fail)
  generalize w.alloc (.cells #[.int .i64 6, .int .i64 id, .string name, .string dig, .slice al nl cl, .slice az nz cz] 31) = w1 at *
  have hfs : (fStr 6).size ≤ 9223372036854775807 := by rw [show (fStr 6).size = 1 from rfl]; omega
  obtain ⟨a0, a1, a2, a3, a4, a5⟩ := box6 hbr0
  go_wp2_with fail
  refine (fields_any 6 (by omega) _).mono ?_
  rintro e w2 ⟨rfl, hk2⟩
  have HR := Lib.hid (hbr0.kept hk2)
  have HK := Lib.hid (hk0.trans hk2)
  clear hbr0 hk0 hk2 a0 a1 a2 a3 a4 a5
  obtain ⟨a0, a1, a2, a3, a4, a5⟩ := box6 HR.out
  go_wp2_with fail
  refine (high1 6 _ (by omega)).mono ?_
  rintro e u0 ⟨rfl, hk⟩
  obtain ⟨S0, hS⟩ : ∃ S : ByteArray, S = ⟨(Rc.hi 6 1).toArray⟩ := ⟨_, rfl⟩
  rw [← hS]
  have HS0 := Lib.hid (show S0.data.toList = Rc.hi 6 1 by rw [hS, of_list])
  have hz0 : S0.size ≤ 1 := Nat.le_of_eq (by rw [hS, hi_size])
  have HR0 := Lib.hid (HR.out.kept hk)
  have HK0 := Lib.hid (HK.out.trans hk)
  clear hS hk HR HK a0 a1 a2 a3 a4 a5
  obtain ⟨a0, a1, a2, a3, a4, a5⟩ := box6 HR0.out
  go_wp2_with fail
  refine (has_lit (fStr 6) 73 73 rfl hfs _).mono ?_
  rintro e w' ⟨rfl, rfl⟩
  rw [show hasB (fStr 6) 73 = false from rfl]
  clear a0 a1 a2 a3 a4 a5
  obtain ⟨a0, a1, a2, a3, a4, a5⟩ := box6 HR0.out
  go_wp2_with fail
  refine (has_lit (fStr 6) 78 78 rfl hfs _).mono ?_
  rintro e w' ⟨rfl, rfl⟩
  rw [show hasB (fStr 6) 78 = false from rfl]
  clear a0 a1 a2 a3 a4 a5
  obtain ⟨a0, a1, a2, a3, a4, a5⟩ := box6 HR0.out
  go_upto_region 8 with (fail)
  clear a0 a1 a2 a3 a4 a5
  obtain ⟨S1, hS⟩ : ∃ S : ByteArray, S = S0 ++ dig := ⟨_, rfl⟩
  rw [← hS]
  have HS1 := Lib.hid (show S1.data.toList = Rc.hi 6 1 ++ dig.data.toList by rw [hS]; exact cat HS0.out rfl)
  have hz1 : S1.size ≤ 1 + 32 := by rw [hS, ByteArray.size_append]; omega
  have HR1 := Lib.hid HR0.out
  have HK1 := Lib.hid HK0.out
  obtain ⟨u1, hu⟩ : ∃ u, u0 = u := ⟨_, rfl⟩
  rw [hu] at HR1 HK1 ⊢
  clear hu hS HS0 hz0 HR0 HK0
  obtain ⟨a0, a1, a2, a3, a4, a5⟩ := box6 HR1.out
  go_wp2_with fail
  refine (has_lit (fStr 6) 76 76 rfl hfs _).mono ?_
  rintro e w' ⟨rfl, rfl⟩
  rw [show hasB (fStr 6) 76 = false from rfl]
  clear a0 a1 a2 a3 a4 a5
  obtain ⟨a0, a1, a2, a3, a4, a5⟩ := box6 HR1.out
  go_wp2_with fail
  refine (has_lit (fStr 6) 83 83 rfl hfs _).mono ?_
  rintro e w' ⟨rfl, rfl⟩
  rw [show hasB (fStr 6) 83 = false from rfl]
  clear a0 a1 a2 a3 a4 a5
  have hv : (⟨(Rec.bytes ⟨6, id, name, dig, zs, ys⟩).toArray⟩ : ByteArray) = S1 := by rw [HFIN.out]; exact (back HS1.out).symm
  have HV := Lib.hid hv
  clear hv
  obtain ⟨a0, a1, a2, a3, a4, a5⟩ := box6 HR1.out
  go_wp2
  go_ret
  exact ⟨by rw [HV.out]; rfl, HK1.out⟩
set_option maxRecDepth 100000 in
set_option maxHeartbeats 2000000 in
theorem rbytes_7 (id : Int) (name dig : ByteArray) (al : Option Addr) (nl cl : Nat) (az : Option Addr) (nz cz : Nat) (zs : List Int) (ys : List (Int × Int)) (w : World) (h : RecIn w ⟨7, id, name, dig, zs, ys⟩ al nl az nz) (hm : Rec.may ⟨7, id, name, dig, zs, ys⟩ = true) :
    Calls Try.prog 17 #[.agg #[.int .i64 7, .int .i64 id, .string name, .string dig, .slice al nl cl, .slice az nz cz]] w fun e w' => e = .returned (.string ⟨(Rec.bytes ⟨7, id, name, dig, zs, ys⟩).toArray⟩) ∧ Kept w w' := by
  obtain ⟨hid, hnm, hdg, hll, hzb, hsl, hyb⟩ := may_bounds hm
  dsimp only at hid hnm hdg hll hzb hsl hyb
  have h1 := h.list.len_eq
  have h2 := h.slots.len_eq
  dsimp only at h1 h2
  have hnl : nl ≤ 2000 := by omega
  have hnz : nz ≤ 14 := by omega
  have hfin : Rec.bytes ⟨7, id, name, dig, zs, ys⟩ = Rc.hi 7 1 ++ Rc.hi (name.size : Int) 1 ++ name.data.toList ++ dig.data.toList := by
    
    
    unfold Rec.bytes
    dsimp only
    rw [show Rc.fI 7 = false from rfl, show Rc.fN 7 = true from rfl, show Rc.fD 7 = true from rfl, show Rc.fL 7 = false from rfl, show Rc.fS 7 = false from rfl, h1, h2]
    simp
  have HFIN := Lib.hid hfin
  have HZB := Lib.hid (show ∀ i, i < nl → 0 ≤ zs.getD i 0 ∧ zs.getD i 0 ≤ 1073741824 from fun i hi => hzb i (by omega))
  have HYB := Lib.hid (show ∀ i, i < nz → (-1 ≤ (ys.getD i (0, 0)).1 ∧ (ys.getD i (0, 0)).1 ≤ 11) ∧ (0 ≤ (ys.getD i (0, 0)).2 ∧ (ys.getD i (0, 0)).2 ≤ 63) from fun i hi => hyb i (by omega))
  have HNL := Lib.hid (show zs.length = nl from h1)
  have HNZ := Lib.hid (show ys.length = nz from h2)
  have HI := Lib.hid h
  obtain ⟨hid1, hid2⟩ := hid
  clear hm h1 h2 hfin hzb hyb hll hsl h
  go_enter Try.func17, Try.ntmps17
  have hbr0 := BlockAt.new w #[.int .i64 7, .int .i64 id, .string name, .string dig, .slice al nl cl, .slice az nz cz] 31
  have hk0 := (Kept.refl w).alloc (.cells #[.int .i64 7, .int .i64 id, .string name, .string dig, .slice al nl cl, .slice az nz cz] 31)
  go_upto_region 1 with (fail)
  generalize w.alloc (.cells #[.int .i64 7, .int .i64 id, .string name, .string dig, .slice al nl cl, .slice az nz cz] 31) = w1 at *
  have hfs : (fStr 7).size ≤ 9223372036854775807 := by rw [show (fStr 7).size = 2 from rfl]; omega
  obtain ⟨a0, a1, a2, a3, a4, a5⟩ := box6 hbr0
  go_wp2_with fail
  refine (fields_any 7 (by omega) _).mono ?_
  rintro e w2 ⟨rfl, hk2⟩
  have HR := Lib.hid (hbr0.kept hk2)
  have HK := Lib.hid (hk0.trans hk2)
  clear hbr0 hk0 hk2 a0 a1 a2 a3 a4 a5
  obtain ⟨a0, a1, a2, a3, a4, a5⟩ := box6 HR.out
  go_wp2_with fail
  refine (high1 7 _ (by omega)).mono ?_
  rintro e u0 ⟨rfl, hk⟩
  obtain ⟨S0, hS⟩ : ∃ S : ByteArray, S = ⟨(Rc.hi 7 1).toArray⟩ := ⟨_, rfl⟩
  rw [← hS]
  have HS0 := Lib.hid (show S0.data.toList = Rc.hi 7 1 by rw [hS, of_list])
  have hz0 : S0.size ≤ 1 := Nat.le_of_eq (by rw [hS, hi_size])
  have HR0 := Lib.hid (HR.out.kept hk)
  have HK0 := Lib.hid (HK.out.trans hk)
  clear hS hk HR HK a0 a1 a2 a3 a4 a5
  obtain ⟨a0, a1, a2, a3, a4, a5⟩ := box6 HR0.out
  go_wp2_with fail
  refine (has_lit (fStr 7) 73 73 rfl hfs _).mono ?_
  rintro e w' ⟨rfl, rfl⟩
  rw [show hasB (fStr 7) 73 = false from rfl]
  clear a0 a1 a2 a3 a4 a5
  obtain ⟨a0, a1, a2, a3, a4, a5⟩ := box6 HR0.out
  go_wp2_with fail
  refine (has_lit (fStr 7) 78 78 rfl hfs _).mono ?_
  rintro e w' ⟨rfl, rfl⟩
  rw [show hasB (fStr 7) 78 = true from rfl]
  clear a0 a1 a2 a3 a4 a5
  obtain ⟨a0, a1, a2, a3, a4, a5⟩ := box6 HR0.out
  have htz := hi_size (name.size : Int) 1
  have hA1 : ∀ w : World, (Op.stringOp .add S0 ⟨(Rc.hi (name.size : Int) 1).toArray⟩).run Try.prog w = .ok (.string (S0 ++ ⟨(Rc.hi (name.size : Int) 1).toArray⟩)) w := fun w => run_string_add_sum _ _ _ (by omega)
  have hA2 : ∀ w : World, (Op.stringOp .add (S0 ++ ⟨(Rc.hi (name.size : Int) 1).toArray⟩) name).run Try.prog w = .ok (.string (S0 ++ ⟨(Rc.hi (name.size : Int) 1).toArray⟩ ++ name)) w := fun w => run_string_add_sum _ _ _ (by rw [ByteArray.size_append]; omega)
  have HNV := Lib.hid (fun w' => high1 (name.size : Int) w' (by omega))
  clear htz
  go_upto_region 6 with (fail)
  have l1 := later_cell a2
  refine region_later (by kernel_rfl) (by kernel_rfl) ?_
  repeat (go_big_quiet_step ((go_at_call 35; exact later_call (HNV.out _))))
  refine wpQuiet_nil ?_
  intro _ hw'
  obtain ⟨nq, hw''⟩ := hw'
  subst hw''
  have HR1 := Lib.hid (HR0.out.kept nq.2)
  have HK1 := Lib.hid (HK0.out.trans nq.2)
  obtain ⟨u1, hu⟩ : ∃ u1, u1 = nq.1 := ⟨_, rfl⟩
  rw [← hu] at HR1 HK1 ⊢
  clear hA1 hA2 l1 hu nq HR0 HK0
  clear a0 a1 a2 a3 a4 a5
  obtain ⟨S1, hS⟩ : ∃ S : ByteArray, S = S0 ++ ⟨(Rc.hi (name.size : Int) 1).toArray⟩ ++ name := ⟨_, rfl⟩
  rw [← hS]
  have HS1 := Lib.hid (show S1.data.toList = Rc.hi 7 1 ++ Rc.hi (name.size : Int) 1 ++ name.data.toList by rw [hS]; exact cat (cat HS0.out (of_list _)) rfl)
  have hz1 : S1.size ≤ 1 + 41 := by rw [hS, ByteArray.size_append, ByteArray.size_append, hi_size]; omega
  clear hS HS0 hz0
  obtain ⟨a0, a1, a2, a3, a4, a5⟩ := box6 HR1.out
  go_upto_region 8 with (fail)
  clear a0 a1 a2 a3 a4 a5
  obtain ⟨S2, hS⟩ : ∃ S : ByteArray, S = S1 ++ dig := ⟨_, rfl⟩
  rw [← hS]
  have HS2 := Lib.hid (show S2.data.toList = Rc.hi 7 1 ++ Rc.hi (name.size : Int) 1 ++ name.data.toList ++ dig.data.toList by rw [hS]; exact cat HS1.out rfl)
  have hz2 : S2.size ≤ 42 + 32 := by rw [hS, ByteArray.size_append]; omega
  have HR2 := Lib.hid HR1.out
  have HK2 := Lib.hid HK1.out
  obtain ⟨u2, hu⟩ : ∃ u, u1 = u := ⟨_, rfl⟩
  rw [hu] at HR2 HK2 ⊢
  clear hu hS HS1 hz1 HR1 HK1
  obtain ⟨a0, a1, a2, a3, a4, a5⟩ := box6 HR2.out
  go_wp2_with fail
  refine (has_lit (fStr 7) 76 76 rfl hfs _).mono ?_
  rintro e w' ⟨rfl, rfl⟩
  rw [show hasB (fStr 7) 76 = false from rfl]
  clear a0 a1 a2 a3 a4 a5
  obtain ⟨a0, a1, a2, a3, a4, a5⟩ := box6 HR2.out
  go_wp2_with fail
  refine (has_lit (fStr 7) 83 83 rfl hfs _).mono ?_
  rintro e w' ⟨rfl, rfl⟩
  rw [show hasB (fStr 7) 83 = false from rfl]
  clear a0 a1 a2 a3 a4 a5
  have hv : (⟨(Rec.bytes ⟨7, id, name, dig, zs, ys⟩).toArray⟩ : ByteArray) = S2 := by rw [HFIN.out]; exact (back HS2.out).symm
  have HV := Lib.hid hv
  clear hv
  obtain ⟨a0, a1, a2, a3, a4, a5⟩ := box6 HR2.out
  go_wp2
  go_ret
  exact ⟨by rw [HV.out]; rfl, HK2.out⟩
set_option maxRecDepth 100000 in
set_option maxHeartbeats 2000000 in
theorem rbytes_8 (id : Int) (name dig : ByteArray) (al : Option Addr) (nl cl : Nat) (az : Option Addr) (nz cz : Nat) (zs : List Int) (ys : List (Int × Int)) (w : World) (h : RecIn w ⟨8, id, name, dig, zs, ys⟩ al nl az nz) (hm : Rec.may ⟨8, id, name, dig, zs, ys⟩ = true) :
    Calls Try.prog 17 #[.agg #[.int .i64 8, .int .i64 id, .string name, .string dig, .slice al nl cl, .slice az nz cz]] w fun e w' => e = .returned (.string ⟨(Rec.bytes ⟨8, id, name, dig, zs, ys⟩).toArray⟩) ∧ Kept w w' := by
  obtain ⟨hid, hnm, hdg, hll, hzb, hsl, hyb⟩ := may_bounds hm
  dsimp only at hid hnm hdg hll hzb hsl hyb
  have h1 := h.list.len_eq
  have h2 := h.slots.len_eq
  dsimp only at h1 h2
  have hnl : nl ≤ 2000 := by omega
  have hnz : nz ≤ 14 := by omega
  have hfin : Rec.bytes ⟨8, id, name, dig, zs, ys⟩ = Rc.hi 8 1 ++ Rc.hi (name.size : Int) 1 ++ name.data.toList ++ dig.data.toList := by
    have hd := may_nodig hm rfl
    dsimp only at hd
    unfold Rec.bytes
    dsimp only
    rw [show Rc.fI 8 = false from rfl, show Rc.fN 8 = true from rfl, show Rc.fD 8 = false from rfl, show Rc.fL 8 = false from rfl, show Rc.fS 8 = false from rfl, h1, h2, hd]
    simp
  have HFIN := Lib.hid hfin
  have HZB := Lib.hid (show ∀ i, i < nl → 0 ≤ zs.getD i 0 ∧ zs.getD i 0 ≤ 1073741824 from fun i hi => hzb i (by omega))
  have HYB := Lib.hid (show ∀ i, i < nz → (-1 ≤ (ys.getD i (0, 0)).1 ∧ (ys.getD i (0, 0)).1 ≤ 11) ∧ (0 ≤ (ys.getD i (0, 0)).2 ∧ (ys.getD i (0, 0)).2 ≤ 63) from fun i hi => hyb i (by omega))
  have HNL := Lib.hid (show zs.length = nl from h1)
  have HNZ := Lib.hid (show ys.length = nz from h2)
  have HI := Lib.hid h
  obtain ⟨hid1, hid2⟩ := hid
  clear hm h1 h2 hfin hzb hyb hll hsl h
  go_enter Try.func17, Try.ntmps17
  have hbr0 := BlockAt.new w #[.int .i64 8, .int .i64 id, .string name, .string dig, .slice al nl cl, .slice az nz cz] 31
  have hk0 := (Kept.refl w).alloc (.cells #[.int .i64 8, .int .i64 id, .string name, .string dig, .slice al nl cl, .slice az nz cz] 31)
  go_upto_region 1 with (fail)
  generalize w.alloc (.cells #[.int .i64 8, .int .i64 id, .string name, .string dig, .slice al nl cl, .slice az nz cz] 31) = w1 at *
  have hfs : (fStr 8).size ≤ 9223372036854775807 := by rw [show (fStr 8).size = 1 from rfl]; omega
  obtain ⟨a0, a1, a2, a3, a4, a5⟩ := box6 hbr0
  go_wp2_with fail
  refine (fields_any 8 (by omega) _).mono ?_
  rintro e w2 ⟨rfl, hk2⟩
  have HR := Lib.hid (hbr0.kept hk2)
  have HK := Lib.hid (hk0.trans hk2)
  clear hbr0 hk0 hk2 a0 a1 a2 a3 a4 a5
  obtain ⟨a0, a1, a2, a3, a4, a5⟩ := box6 HR.out
  go_wp2_with fail
  refine (high1 8 _ (by omega)).mono ?_
  rintro e u0 ⟨rfl, hk⟩
  obtain ⟨S0, hS⟩ : ∃ S : ByteArray, S = ⟨(Rc.hi 8 1).toArray⟩ := ⟨_, rfl⟩
  rw [← hS]
  have HS0 := Lib.hid (show S0.data.toList = Rc.hi 8 1 by rw [hS, of_list])
  have hz0 : S0.size ≤ 1 := Nat.le_of_eq (by rw [hS, hi_size])
  have HR0 := Lib.hid (HR.out.kept hk)
  have HK0 := Lib.hid (HK.out.trans hk)
  clear hS hk HR HK a0 a1 a2 a3 a4 a5
  obtain ⟨a0, a1, a2, a3, a4, a5⟩ := box6 HR0.out
  go_wp2_with fail
  refine (has_lit (fStr 8) 73 73 rfl hfs _).mono ?_
  rintro e w' ⟨rfl, rfl⟩
  rw [show hasB (fStr 8) 73 = false from rfl]
  clear a0 a1 a2 a3 a4 a5
  obtain ⟨a0, a1, a2, a3, a4, a5⟩ := box6 HR0.out
  go_wp2_with fail
  refine (has_lit (fStr 8) 78 78 rfl hfs _).mono ?_
  rintro e w' ⟨rfl, rfl⟩
  rw [show hasB (fStr 8) 78 = true from rfl]
  clear a0 a1 a2 a3 a4 a5
  obtain ⟨a0, a1, a2, a3, a4, a5⟩ := box6 HR0.out
  have htz := hi_size (name.size : Int) 1
  have hA1 : ∀ w : World, (Op.stringOp .add S0 ⟨(Rc.hi (name.size : Int) 1).toArray⟩).run Try.prog w = .ok (.string (S0 ++ ⟨(Rc.hi (name.size : Int) 1).toArray⟩)) w := fun w => run_string_add_sum _ _ _ (by omega)
  have hA2 : ∀ w : World, (Op.stringOp .add (S0 ++ ⟨(Rc.hi (name.size : Int) 1).toArray⟩) name).run Try.prog w = .ok (.string (S0 ++ ⟨(Rc.hi (name.size : Int) 1).toArray⟩ ++ name)) w := fun w => run_string_add_sum _ _ _ (by rw [ByteArray.size_append]; omega)
  have HNV := Lib.hid (fun w' => high1 (name.size : Int) w' (by omega))
  clear htz
  go_upto_region 6 with (fail)
  have l1 := later_cell a2
  refine region_later (by kernel_rfl) (by kernel_rfl) ?_
  repeat (go_big_quiet_step ((go_at_call 35; exact later_call (HNV.out _))))
  refine wpQuiet_nil ?_
  intro _ hw'
  obtain ⟨nq, hw''⟩ := hw'
  subst hw''
  have HR1 := Lib.hid (HR0.out.kept nq.2)
  have HK1 := Lib.hid (HK0.out.trans nq.2)
  obtain ⟨u1, hu⟩ : ∃ u1, u1 = nq.1 := ⟨_, rfl⟩
  rw [← hu] at HR1 HK1 ⊢
  clear hA1 hA2 l1 hu nq HR0 HK0
  clear a0 a1 a2 a3 a4 a5
  obtain ⟨S1, hS⟩ : ∃ S : ByteArray, S = S0 ++ ⟨(Rc.hi (name.size : Int) 1).toArray⟩ ++ name := ⟨_, rfl⟩
  rw [← hS]
  have HS1 := Lib.hid (show S1.data.toList = Rc.hi 8 1 ++ Rc.hi (name.size : Int) 1 ++ name.data.toList by rw [hS]; exact cat (cat HS0.out (of_list _)) rfl)
  have hz1 : S1.size ≤ 1 + 41 := by rw [hS, ByteArray.size_append, ByteArray.size_append, hi_size]; omega
  clear hS HS0 hz0
  obtain ⟨a0, a1, a2, a3, a4, a5⟩ := box6 HR1.out
  go_upto_region 8 with (fail)
  clear a0 a1 a2 a3 a4 a5
  obtain ⟨S2, hS⟩ : ∃ S : ByteArray, S = S1 ++ dig := ⟨_, rfl⟩
  rw [← hS]
  have HS2 := Lib.hid (show S2.data.toList = Rc.hi 8 1 ++ Rc.hi (name.size : Int) 1 ++ name.data.toList ++ dig.data.toList by rw [hS]; exact cat HS1.out rfl)
  have hz2 : S2.size ≤ 42 + 32 := by rw [hS, ByteArray.size_append]; omega
  have HR2 := Lib.hid HR1.out
  have HK2 := Lib.hid HK1.out
  obtain ⟨u2, hu⟩ : ∃ u, u1 = u := ⟨_, rfl⟩
  rw [hu] at HR2 HK2 ⊢
  clear hu hS HS1 hz1 HR1 HK1
  obtain ⟨a0, a1, a2, a3, a4, a5⟩ := box6 HR2.out
  go_wp2_with fail
  refine (has_lit (fStr 8) 76 76 rfl hfs _).mono ?_
  rintro e w' ⟨rfl, rfl⟩
  rw [show hasB (fStr 8) 76 = false from rfl]
  clear a0 a1 a2 a3 a4 a5
  obtain ⟨a0, a1, a2, a3, a4, a5⟩ := box6 HR2.out
  go_wp2_with fail
  refine (has_lit (fStr 8) 83 83 rfl hfs _).mono ?_
  rintro e w' ⟨rfl, rfl⟩
  rw [show hasB (fStr 8) 83 = false from rfl]
  clear a0 a1 a2 a3 a4 a5
  have hv : (⟨(Rec.bytes ⟨8, id, name, dig, zs, ys⟩).toArray⟩ : ByteArray) = S2 := by rw [HFIN.out]; exact (back HS2.out).symm
  have HV := Lib.hid hv
  clear hv
  obtain ⟨a0, a1, a2, a3, a4, a5⟩ := box6 HR2.out
  go_wp2
  go_ret
  exact ⟨by rw [HV.out]; rfl, HK2.out⟩
theorem rbytes_any (r : Rec) (al : Option Addr) (nl cl : Nat) (az : Option Addr) (nz cz : Nat) (w : World) (h : RecIn w r al nl az nz) (hm : Rec.may r = true) :
    Calls Try.prog 17 #[.agg (recCells r al nl cl az nz cz)] w fun e w' => e = .returned (.string ⟨r.bytes.toArray⟩) ∧ Kept w w' := by
  obtain ⟨kind, id, name, dig, zs, ys⟩ := r
  have hk1 : 1 ≤ kind ∧ kind ≤ 8 := by
    have hm' := hm
    unfold Rec.may at hm'
    simp only [Bool.and_eq_true] at hm'
    exact of_decide_eq_true hm'.1.1.1.1.1
  have hcase : kind = 1 ∨ kind = 2 ∨ kind = 3 ∨ kind = 4 ∨ kind = 5 ∨ kind = 6 ∨ kind = 7 ∨ kind = 8 := by omega
  clear hk1
  rcases hcase with rfl | rfl | rfl | rfl | rfl | rfl | rfl | rfl
  · exact rbytes_1 id name dig al nl cl az nz cz zs ys w h hm
  · exact rbytes_2 id name dig al nl cl az nz cz zs ys w h hm
  · exact rbytes_3 id name dig al nl cl az nz cz zs ys w h hm
  · exact rbytes_4 id name dig al nl cl az nz cz zs ys w h hm
  · exact rbytes_5 id name dig al nl cl az nz cz zs ys w h hm
  · exact rbytes_6 id name dig al nl cl az nz cz zs ys w h hm
  · exact rbytes_7 id name dig al nl cl az nz cz zs ys w h hm
  · exact rbytes_8 id name dig al nl cl az nz cz zs ys w h hm
end Go.Proofs.Ytoanldoocmmhjaa
