/- silolaw4.Fitted: so many texts of so many bytes, whichever they are. -/
import Derived.Test.YtlncjheifkbomaaCutM
namespace Go.Proofs.Ytlncjheifkbomaa
open Go.RowKit Go.Shelf
/-- what Fitted hands back -/
def FittedP (w : World) (kn n : Nat) (e : Ending) (w' : World) : Prop := ∃ a cap xs, e = .returned (.slice a kn cap) ∧ kn ≤ cap ∧ StrsIn w' a kn xs ∧ (∀ x ∈ xs, x.size = n) ∧ Kept w w'
set_option maxRecDepth 100000 in
set_option maxHeartbeats 4000000 in
theorem fitted_any (a : Option Addr) (l cap : Nat) (ss : List ByteArray) (kn n : Nat) (w : World) (h : StrsIn w a l ss) (hl : l ≤ 1000000) (hz : ∀ i, i < l → (ss.getD i ByteArray.empty).size ≤ 1000000) (hk : kn ≤ 8) (hn : 1 ≤ n ∧ n ≤ 120) :
    Calls Try.prog 24 #[.slice a l cap, .int .i64 kn, .int .i64 n] w (FittedP w kn n) := by
  obtain ⟨i0, hi, hz0, hz1, hz2⟩ := info_parts Try.infoStr
  have HI := Lib.hid (And.intro hi (And.intro hz0 (And.intro hz1 hz2)))
  obtain ⟨z, hzv⟩ : ∃ z : ByteArray, z = zb n := ⟨_, rfl⟩
  have HZV := Lib.hid hzv
  have hzz : z.size = n := by rw [hzv, zb_size]
  have hmk : ∀ w : World, (Instr.makeSlice 55 (.int .i64 n) (.int .i64 n)).run Try.prog w = .ok (.slice (some ⟨w.heap.size, 0, none⟩) n n) (w.alloc (.cells (madeCells #[.int .u8 0] n) 5)) := makeB n (by omega)
  have hbf := fun w => madeB w n
  generalize madeCells #[.int .u8 0] n = Z at hmk hbf
  have HMK := Lib.hid hmk
  have HBF := Lib.hid hbf
  have HH := Lib.hid h
  have HZ := Lib.hid hz
  obtain ⟨hn1, hn2⟩ := hn
  clear hi hz0 hz1 hz2 hzv hmk hbf h hz
  go_enter Try.func24, Try.ntmps24
  go_wp2
  go_loopw [7, 8, 9, 10] (fun v i t9 b10 wr => ∃ (k : Nat) (xs : List ByteArray), k ≤ kn ∧ i = .int .i64 k ∧ t9 = t9 ∧ b10 = b10 ∧ wr.ownsRow w.heap.size 9 1 v k (xs.map Value.string) ∧ xs.length = k ∧ (∀ x ∈ xs, x.size = n) ∧ Kept w wr) (fun _ i _ _ _ => kn - (intOf i).toNat)
  case atStart => exact ⟨0, [], by omega, rfl, rfl, rfl, World.ownsRow_nil _ _ _ _, rfl, (fun x hx => by cases hx), Kept.refl _⟩
  case round =>
    obtain ⟨k, xs, hk2, rfl, _, _, hown, hlen, hall, hK⟩ := hrel
    have HO := Lib.hid hown
    have HK := Lib.hid hK
    have HALL := Lib.hid hall
    have HLEN := Lib.hid hlen
    clear hown hK hall hlen
    by_cases hlt : k < kn
    · have hd1 : decide ((k : Int) < kn) = true := decide_eq_true (by omega)
      have hmain : ∀ t : ByteArray, t.size ≤ 1000000 → True := fun _ _ => trivial
      clear hmain
      by_cases hl0 : 0 < l
      · have hd2 : decide ((0 : Int) < l) = true := decide_eq_true (by omega)
        obtain ⟨b, off, rfl, hc⟩ := (HH.out.kept HK.out).at hl0
        obtain ⟨p, hp⟩ : ∃ p : Nat, p = k % l := ⟨_, rfl⟩
        have hpl : p < l := by rw [hp]; exact Nat.mod_lt _ hl0
        have e1 : (k : Int) % (l : Int) = (p : Int) := by rw [hp]; simp
        have e1t : (k : Int).tmod (l : Int) = (p : Int) := by rw [Int.tmod_eq_emod_of_nonneg (by omega)]; exact e1
        have hl1 : ((l : Int) == 0) = false := by rw [beq_eq_false_iff_ne]; omega
        have c0 := hc p hpl wr (Kept.refl _)
        have ht := HZ.out p hpl
        generalize ss.getD p ByteArray.empty = t at c0 ht
        clear hc hp
        go_upto_region 8 with (fail)
        clear e1 e1t c0 hd2 hl1
        obtain ⟨u, hu⟩ : ∃ u : ByteArray, u = t ++ z := ⟨_, rfl⟩
        have hus : u.size = t.size + n := by rw [hu, ByteArray.size_append, hzz]
        have hA : ∀ w : World, (Op.stringOp .add t z).run Try.prog w = .ok (.string u) w := fun w => by rw [hu]; exact run_string_add_sum _ _ _ (by omega)
        have hmk := HMK.out wr
        have hcv := (HBF.out wr).string (P := Try.prog) 55 9 5 Try.underlying55 Try.underlying5 Try.underlying9 n
        rw [List.length_replicate, show (⟨(List.replicate n (0 : UInt8)).toArray⟩ : ByteArray) = z by rw [HZV.out]; rfl] at hcv
        clear hu
        go_upto_region 9 with (fail)
        have HK1 := Lib.hid (HK.out.alloc (.cells Z 5))
        have HO1 := Lib.hid (HO.out.alloc (.cells Z 5))
        have hw1 : wr.heap.size ≤ (wr.alloc (.cells Z 5)).heap.size := by simp
        generalize wr.alloc (.cells Z 5) = w1 at *
        clear hcv hmk hA
        obtain ⟨v, hv⟩ : ∃ v : ByteArray, v = u.extract 0 n := ⟨_, rfl⟩
        have hvs : v.size = n := by rw [hv, ByteArray.size_extract]; omega
        have HV := Lib.hid hv.symm
        have hun : n ≤ u.size := by omega
        clear hv
        have hcv := bytes_of (P := Try.prog) 9 55 5 v Try.underlying9 Try.underlying55 Try.underlying5 w1
        have hbf := bytesBehind_buf w1 5 v
        have hkb := bytesBehind_kept w1 5 v
        generalize grownCap w1 v.size 0 5 = cp at hcv
        generalize bytesBehind w1 5 v = wb at hcv hbf hkb
        rw [← HV.out] at hcv hbf
        have hxs : (u.extract 0 n).size = n := by rw [HV.out]; exact hvs
        rw [hxs] at hcv
        obtain ⟨g, hg⟩ : ∃ g, g = w1.heap.size := ⟨_, rfl⟩
        rw [← hg] at hcv hbf
        have HGE := Lib.hid hg
        clear hg
        go_upto_region 10 with (fail)
        rw [HV.out] at hbf
        have hq : 0 < v.data.toList.length := by simp; omega
        have hbc := hbf.cell 0 hq
        have hbfree := hbf.free 0 hq
        obtain ⟨x, hx⟩ : ∃ x : UInt8, v.data.toList[0] = x := ⟨_, rfl⟩
        rw [hx] at hbc
        have hxl := UInt8.toNat_lt x
        obtain ⟨y, hy⟩ : ∃ y : UInt8, IntKind.u8.wrap ((x.toNat : Int) + (k : Int)) = (y.toNat : Int) := by
          refine ⟨UInt8.ofNat (x.toNat + k), ?_⟩
          rw [UInt8.toNat_ofNat']
          show ((x.toNat : Int) + (k : Int)) % 256 = _
          omega
        have e8 : IntKind.u8.wrap (k : Int) = (k : Int) := by show (k : Int) % 256 = _; omega
        have HSL := Lib.hid (show v.data.toList.length = n by simp; exact hvs)
        have HBV := Lib.hid hbf
        have HKB := Lib.hid hkb
        clear hbf hkb hx hcv
        generalize v.data.toList = L at *
        go_upto_region 11 with (fail)
        have hbf2 := HBV.out.set 0 hq y
        have hcv := hbf2.string (P := Try.prog) 55 9 5 Try.underlying55 Try.underlying5 Try.underlying9 cp
        rw [List.length_set, HSL.out] at hcv
        have hts : (⟨(L.set 0 y).toArray⟩ : ByteArray).size = n := by
          show (L.set 0 y).toArray.size = _
          simp [HSL.out]
        generalize (⟨(L.set 0 y).toArray⟩ : ByteArray) = s9 at hcv hts
        have hk3 := HKB.out.setCell (p := ⟨g, 0, none⟩) (by have := HGE.out; show w1.heap.size ≤ g; omega) (.int .u8 (y.toNat : Int))
        have HK3 := Lib.hid (HK1.out.trans hk3)
        have HO3 := Lib.hid (own_kept HO1.out hk3)
        clear hbf2 hk3 hbc hbfree hy e8 HBV HKB
        generalize wb.setCell ⟨g, 0, none⟩ (.int .u8 (y.toNat : Int)) = wc at *
        go_wp2_with (at_builtin; refine wpList_append_own_at _ rfl _ _ 23 rfl w.heap.size 9 i0 (.string ByteArray.empty) 1 16 Try.underlying23 HI.out.1 HI.out.2.1 HI.out.2.2.1 HI.out.2.2.2 rfl (by decide) _ _ _ rfl (HO3.out.alloc _) ⟨wc.heap.size, 0, none⟩ 1 1 [.string s9] rfl rfl (cell_one_new _ _ _) (by intro u hu; simp at hu; subst hu; rfl) (by unfold maxLen; omega) (by omega) (by have := HK3.out.size; simp; omega) ?_)
        intro v' w9 hown9 hgrow _ _
        have HO9 := Lib.hid hown9
        have HK9 := Lib.hid (show Kept w w9 from kept_gr1 (HK3.out.alloc (.cells #[.string s9] 9)) hgrow (fun g e => (HO3.out.lt g e).1) (Nat.le_refl _))
        have HTS := Lib.hid hts
        clear hown9 hgrow hcv hts
        go_wp2
        go_roundw
        case rel => exact ⟨k + 1, xs ++ [s9], by omega, by go_num, by trivial, by trivial, by rw [List.map_append]; exact HO9.out, by rw [List.length_append, HLEN.out]; rfl, fun x hx => by
          rcases List.mem_append.1 hx with h1 | h1
          · exact HALL.out x h1
          · simp at h1; subst h1; exact HTS.out, HK9.out⟩
        case measure => simp [intOf]; omega
      · have hd2 : decide ((0 : Int) < l) = false := decide_eq_false (by omega)
        obtain ⟨t, ht0⟩ : ∃ t : ByteArray, t = ⟨#[]⟩ := ⟨_, rfl⟩
        have ht : t.size ≤ 1000000 := by rw [ht0]; exact (by decide : 0 ≤ 1000000)
        go_upto_region 8 with (fail)
        rw [← ht0]
        clear ht0 hd2
        obtain ⟨u, hu⟩ : ∃ u : ByteArray, u = t ++ z := ⟨_, rfl⟩
        have hus : u.size = t.size + n := by rw [hu, ByteArray.size_append, hzz]
        have hA : ∀ w : World, (Op.stringOp .add t z).run Try.prog w = .ok (.string u) w := fun w => by rw [hu]; exact run_string_add_sum _ _ _ (by omega)
        have hmk := HMK.out wr
        have hcv := (HBF.out wr).string (P := Try.prog) 55 9 5 Try.underlying55 Try.underlying5 Try.underlying9 n
        rw [List.length_replicate, show (⟨(List.replicate n (0 : UInt8)).toArray⟩ : ByteArray) = z by rw [HZV.out]; rfl] at hcv
        clear hu
        go_upto_region 9 with (fail)
        have HK1 := Lib.hid (HK.out.alloc (.cells Z 5))
        have HO1 := Lib.hid (HO.out.alloc (.cells Z 5))
        have hw1 : wr.heap.size ≤ (wr.alloc (.cells Z 5)).heap.size := by simp
        generalize wr.alloc (.cells Z 5) = w1 at *
        clear hcv hmk hA
        obtain ⟨v, hv⟩ : ∃ v : ByteArray, v = u.extract 0 n := ⟨_, rfl⟩
        have hvs : v.size = n := by rw [hv, ByteArray.size_extract]; omega
        have HV := Lib.hid hv.symm
        have hun : n ≤ u.size := by omega
        clear hv
        have hcv := bytes_of (P := Try.prog) 9 55 5 v Try.underlying9 Try.underlying55 Try.underlying5 w1
        have hbf := bytesBehind_buf w1 5 v
        have hkb := bytesBehind_kept w1 5 v
        generalize grownCap w1 v.size 0 5 = cp at hcv
        generalize bytesBehind w1 5 v = wb at hcv hbf hkb
        rw [← HV.out] at hcv hbf
        have hxs : (u.extract 0 n).size = n := by rw [HV.out]; exact hvs
        rw [hxs] at hcv
        obtain ⟨g, hg⟩ : ∃ g, g = w1.heap.size := ⟨_, rfl⟩
        rw [← hg] at hcv hbf
        have HGE := Lib.hid hg
        clear hg
        go_upto_region 10 with (fail)
        rw [HV.out] at hbf
        have hq : 0 < v.data.toList.length := by simp; omega
        have hbc := hbf.cell 0 hq
        have hbfree := hbf.free 0 hq
        obtain ⟨x, hx⟩ : ∃ x : UInt8, v.data.toList[0] = x := ⟨_, rfl⟩
        rw [hx] at hbc
        have hxl := UInt8.toNat_lt x
        obtain ⟨y, hy⟩ : ∃ y : UInt8, IntKind.u8.wrap ((x.toNat : Int) + (k : Int)) = (y.toNat : Int) := by
          refine ⟨UInt8.ofNat (x.toNat + k), ?_⟩
          rw [UInt8.toNat_ofNat']
          show ((x.toNat : Int) + (k : Int)) % 256 = _
          omega
        have e8 : IntKind.u8.wrap (k : Int) = (k : Int) := by show (k : Int) % 256 = _; omega
        have HSL := Lib.hid (show v.data.toList.length = n by simp; exact hvs)
        have HBV := Lib.hid hbf
        have HKB := Lib.hid hkb
        clear hbf hkb hx hcv
        generalize v.data.toList = L at *
        go_upto_region 11 with (fail)
        have hbf2 := HBV.out.set 0 hq y
        have hcv := hbf2.string (P := Try.prog) 55 9 5 Try.underlying55 Try.underlying5 Try.underlying9 cp
        rw [List.length_set, HSL.out] at hcv
        have hts : (⟨(L.set 0 y).toArray⟩ : ByteArray).size = n := by
          show (L.set 0 y).toArray.size = _
          simp [HSL.out]
        generalize (⟨(L.set 0 y).toArray⟩ : ByteArray) = s9 at hcv hts
        have hk3 := HKB.out.setCell (p := ⟨g, 0, none⟩) (by have := HGE.out; show w1.heap.size ≤ g; omega) (.int .u8 (y.toNat : Int))
        have HK3 := Lib.hid (HK1.out.trans hk3)
        have HO3 := Lib.hid (own_kept HO1.out hk3)
        clear hbf2 hk3 hbc hbfree hy e8 HBV HKB
        generalize wb.setCell ⟨g, 0, none⟩ (.int .u8 (y.toNat : Int)) = wc at *
        go_wp2_with (at_builtin; refine wpList_append_own_at _ rfl _ _ 23 rfl w.heap.size 9 i0 (.string ByteArray.empty) 1 16 Try.underlying23 HI.out.1 HI.out.2.1 HI.out.2.2.1 HI.out.2.2.2 rfl (by decide) _ _ _ rfl (HO3.out.alloc _) ⟨wc.heap.size, 0, none⟩ 1 1 [.string s9] rfl rfl (cell_one_new _ _ _) (by intro u hu; simp at hu; subst hu; rfl) (by unfold maxLen; omega) (by omega) (by have := HK3.out.size; simp; omega) ?_)
        intro v' w9 hown9 hgrow _ _
        have HO9 := Lib.hid hown9
        have HK9 := Lib.hid (show Kept w w9 from kept_gr1 (HK3.out.alloc (.cells #[.string s9] 9)) hgrow (fun g e => (HO3.out.lt g e).1) (Nat.le_refl _))
        have HTS := Lib.hid hts
        clear hown9 hgrow hcv hts
        go_wp2
        go_roundw
        case rel => exact ⟨k + 1, xs ++ [s9], by omega, by go_num, by trivial, by trivial, by rw [List.map_append]; exact HO9.out, by rw [List.length_append, HLEN.out]; rfl, fun x hx => by
          rcases List.mem_append.1 hx with h1 | h1
          · exact HALL.out x h1
          · simp at h1; subst h1; exact HTS.out, HK9.out⟩
        case measure => simp [intOf]; omega
    · obtain rfl : k = kn := by omega
      have hd1 : decide ((k : Int) < k) = false := decide_eq_false (by omega)
      obtain ⟨a', cap', rfl, hcl, hst⟩ := strs_own HO.out HLEN.out (fun x hx => by have := HALL.out x hx; omega)
      have HST := Lib.hid hst
      clear hst
      go_wp2
      go_ret
      exact ⟨_, _, xs, rfl, hcl, HST.out, HALL.out, HK.out⟩
end Go.Proofs.Ytlncjheifkbomaa
