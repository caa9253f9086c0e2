/- The reference's digest of any text (of at most 2^63 - 1 bytes). -/
import Derived.Test.YtdllenoclnmmdaaDoorBl5
import Derived.Test.YtdllenoclnmmdaaDoorBts
namespace Go.Proofs.YtdllenoclnmmdaaDoor
open Go.RowKit Go.Shelf
attribute [local go_sem] Oper.semAt_some

/-- a text's digest, as a text -/
def dg (l : List UInt8) : ByteArray := ⟨(Bl.digest l).toArray⟩
theorem dg_size (l : List UInt8) : (dg l).size = 32 := by
  show (Bl.digest l).toArray.size = 32
  rw [List.size_toArray, Bl.digest_length]
theorem extract_cut (s : ByteArray) (a b : Nat) : (s.extract a b).data.toList = Bl.cut s.data.toList a b := by
  unfold Bl.cut
  rw [ByteArray.data_extract, Array.toList_extract, List.extract_eq_take_drop, List.drop_take]
theorem bytes_all (H : List Nat) : (List.replicate 32 (0 : UInt8)).mapIdx (fun i _ => Bl.byteOf H i) = Bl.bytes H := by
  apply List.ext_getElem
  · simp [Bl.bytes]
  · intro i h1 h2
    rw [List.getElem_mapIdx]
    show Bl.byteOf H i = ((List.range 32).map (Bl.byteOf H))[i]'(by simpa [Bl.bytes] using h2)
    rw [List.getElem_map, List.getElem_range]
theorem byte_of (H : List Nat) (j : Nat) : ((H.getD (j / 4) 0 : Nat) : Int) / 2 ^ (8 * (j % 4)) % 256 = ((Bl.byteOf H j).toNat : Int) := by
  unfold Bl.byteOf
  generalize 8 * (j % 4) = e
  generalize H.getD (j / 4) 0 = x
  rw [show ((x : Nat) : Int) / 2 ^ e = ((x / 2 ^ e : Nat) : Int) by simp]
  generalize x / 2 ^ e = y
  rw [UInt8.toNat_ofNat']
  omega
set_option maxRecDepth 100000 in
set_option maxHeartbeats 2000000 in
theorem rdigest_any (s : ByteArray) (hs : s.size ≤ 9223372036854775807) (w : World) :
    Calls Tryd.prog 22 #[.string s] w fun e w' => e = .returned (.string (dg s.data.toList)) ∧ Kept w w' := by
  go_enter Tryd.func22, Tryd.ntmps22
  go_wp2_with fail
  refine (rbegins_any _).mono ?_
  rintro e w1 ⟨rfl, hk1⟩
  go_upto_region 2 with (first
    | (with_reducible refine wpList_alloc_block rfl 54 rfl z8 Tryd.zero8 ?_)
    | (refine wpList_store_block rfl 54 (.tmp 3) (.tmp 7) rfl w1.heap.size (cw Bl.begins) z8 54 rfl rfl (BlockAt.new _ _ _) Tryd.info8 rfl (cw_one _) ?_))
  obtain ⟨w2, hw2⟩ : ∃ w2, w2 = (w1.alloc (.cells z8 54)).setRow w1.heap.size (cw Bl.begins) := ⟨_, rfl⟩
  rw [← hw2]
  have hk2 : Kept w w2 := by rw [hw2]; exact (hk1.alloc _).setRow (hk1.size) _
  have hb2 : BlockAt w2 w1.heap.size (cw Bl.begins) 54 := by rw [hw2]; exact (BlockAt.new w1 _ _).setRow _
  obtain ⟨pb, hpb⟩ : ∃ pb, pb = w1.heap.size := ⟨_, rfl⟩
  have hpw : w.heap.size ≤ pb := by rw [hpb]; exact hk1.size
  rw [← hpb] at hb2 ⊢
  have hv2 := V8.here hb2 Bl.begins_ok
  have c0 := hv2.cell 0 (by omega)
  have f0 := hv2.free 0
  have e1 : bits .xor .u32 (Bl.begins.getD 0 0 : Nat) 16842784 = ((Bl.begins.getD 0 0 ^^^ 16842784 : Nat) : Int) := x32 _ 16842784 (Bl.begins_ok.at 0) (by decide)
  have HST := Lib.hid (show V8 w2 pb Bl.h0 _ from hv2.put0 0 (Bl.xor_lt (Bl.begins_ok.at 0) (by decide : 16842784 < 4294967296)))
  have HK2 := Lib.hid hk2
  clear hw2 hk2 hb2 hpb hv2 hk1
  generalize Bl.begins.getD 0 0 ^^^ 16842784 = z at *
  generalize Bl.begins.getD 0 0 = y at *
  go_upto_region 3 with fail
  generalize w2.setCell _ _ = w3 at HST ⊢
  have HK3 := Lib.hid (HST.out.kept HK2.out hpw)
  have HV3 := Lib.hid (V8.here HST.out.row HST.out.ok)
  clear HST HK2 c0 f0 e1
  go_wp2_with fail
  go_loopw [4] (fun i wx => ∃ k at_ : Nat, Hid (at_ = 64 * k) ∧ k ≤ Bl.ahead s.size ∧ i = .int .i64 at_ ∧ V8 w3 pb (Bl.sums s.data.toList k) wx) (fun i _ => s.size - (intOf i).toNat)
  case atStart => exact ⟨0, 0, Lib.hid rfl, by omega, rfl, HV3.out⟩
  case round =>
    obtain ⟨k, at_, hat, hk, rfl, hv⟩ := hrel
    have HVk := Lib.hid hv
    clear hv
    by_cases hlt : k < Bl.ahead s.size
    · as_aux_lemma =>
        obtain ⟨u, hu⟩ : ∃ u, u = at_ + 64 := ⟨_, rfl⟩
        have hi8 : (at_ : Int) + 64 = (u : Int) := by omega
        have hau : at_ ≤ u := by omega
        have hul : u ≤ s.size := by have h := hat.out; unfold Bl.ahead at hlt; omega
        have hd1 : decide (64 < (s.size : Int) - (at_ : Int)) = true := decide_eq_true (by have h := hat.out; unfold Bl.ahead at hlt; omega)
        have hc : Calls Tryd.prog 31 #[.pointer (some ⟨pb, 0, none⟩), .string (s.extract at_ u), .int .u64 u, .bool false] wr fun e w' => e = .returned (.tuple #[]) ∧ V8 wr pb (Bl.sums s.data.toList (k + 1)) w' := by
          have q := rblock_any pb (Bl.sums s.data.toList k) (s.extract at_ u) u false (by rw [ByteArray.size_extract]; omega) (by omega) wr (V8.here HVk.out.row HVk.out.ok)
          rw [extract_cut] at q
          rw [hu, hat.out] at q
          rw [hu, hat.out]
          exact q
        have HC := Lib.hid hc
        have HAT := Lib.hid (show u = 64 * (k + 1) by have h := hat.out; omega)
        have HUL := Lib.hid hul
        clear hc hat hu
        go_wp2_with fail
        refine HC.out.mono ?_
        rintro e w5 ⟨rfl, hw⟩
        have HVn := Lib.hid (V8.mk hw.row (gr_trans HVk.out.grown hw.grown) hw.ok)
        clear hw HC HVk
        go_wp2
        go_roundw
        case rel => exact ⟨k + 1, u, HAT, by omega, by go_num, HVn.out⟩
        case measure => simp [intOf]; omega
    · obtain ⟨l0, hl0⟩ : ∃ l0, l0 = s.size := ⟨_, rfl⟩
      obtain rfl : k = Bl.ahead s.size := by omega
      have hd1 : decide (64 < (s.size : Int) - (at_ : Int)) = false := decide_eq_false (by have h := hat.out; unfold Bl.ahead at h; omega)
      have hal : at_ ≤ s.size := by have h := hat.out; unfold Bl.ahead at h; omega
      obtain ⟨H, hH⟩ : ∃ H, H = Bl.block (Bl.sums s.data.toList (Bl.ahead s.size)) (s.data.toList.drop at_) s.size true := ⟨_, rfl⟩
      have hc : Calls Tryd.prog 31 #[.pointer (some ⟨pb, 0, none⟩), .string (s.extract at_ s.size), .int .u64 s.size, .bool true] wr fun e w' => e = .returned (.tuple #[]) ∧ V8 wr pb H w' := by
        have q := rblock_any pb (Bl.sums s.data.toList (Bl.ahead s.size)) (s.extract at_ s.size) s.size true (by rw [ByteArray.size_extract]; have h := hat.out; unfold Bl.ahead at h; omega) (by omega) wr (V8.here HVk.out.row HVk.out.ok)
        rw [extract_cut, show Bl.cut s.data.toList at_ s.size = s.data.toList.drop at_ by unfold Bl.cut; rw [List.take_of_length_le (by simp)], ← hH] at q
        exact q
      have HC := Lib.hid hc
      have HDG := Lib.hid (show Bl.bytes H = Bl.digest s.data.toList by rw [hH, hat.out]; unfold Bl.digest; simp only [Array.length_toList]; rfl)
      clear hc hH hat hl0
      go_wp2_with fail
      refine HC.out.mono ?_
      rintro e w5 ⟨rfl, hw⟩
      have HK5 := Lib.hid (hw.kept (HVk.out.kept HK3.out hpw) hpw)
      have HV5 := Lib.hid (V8.here hw.row hw.ok)
      clear hw HC HVk HV3
      have hpl : pb < w5.heap.size := HV5.out.row.lt
      have hmk : ∀ w : World, (Instr.makeSlice 48 (.int .i64 32) (.int .i64 32)).run Tryd.prog w = .ok (.slice (some ⟨w.heap.size, 0, none⟩) 32 32) (w.alloc (.cells (madeCells #[.int .u8 0] 32) 5)) := makeB 32 (by decide)
      have HBF := Lib.hid (madeB w5 32)
      go_upto_region 9 with (fail)
      have HK6 := Lib.hid (HK5.out.alloc (.cells (madeCells #[.int .u8 0] 32) 5))
      have HV6 := Lib.hid (HV5.out.on ((Kept.refl _).alloc (.cells (madeCells #[.int .u8 0] 32) 5)))
      obtain ⟨pd, hpd⟩ : ∃ pd, pd = w5.heap.size := ⟨_, rfl⟩
      rw [← hpd] at HBF hpl ⊢
      clear hmk HK5 HV5 hpd
      generalize w5.alloc (.cells (madeCells #[.int .u8 0] 32) 5) = w6 at *
      go_wp2_with fail
      go_loopw [6] (fun i wx => ∃ k : Nat, k ≤ 32 ∧ i = .int .i64 k ∧ Buf wx pd (upto (fun i _ => Bl.byteOf H i) (List.replicate 32 0) k) ∧ w6.grownBy wx (some pd)) (fun i _ => 32 - (intOf i).toNat)
      case atStart => exact ⟨0, by omega, rfl, by rw [upto_zero]; exact HBF.out, gr_refl _ _⟩
      case round =>
        obtain ⟨k, hk, rfl, hbf, hgr⟩ := hrel
        have HB := Lib.hid hbf
        have HG := Lib.hid hgr
        clear hbf hgr
        have hln : (upto (fun i _ => Bl.byteOf H i) (List.replicate 32 (0 : UInt8)) k).length = 32 := by rw [upto_length, List.length_replicate]
        by_cases hlt : k < 32
        · as_aux_lemma =>
            have e1 := byte_of H k
            have f1 := HB.out.free k (by rw [hln]; exact hlt)
            obtain ⟨z0, c0⟩ : ∃ z0, wr.cell? ⟨pd, k, none⟩ = some z0 := ⟨_, HB.out.cell k (by rw [hln]; exact hlt)⟩
            obtain ⟨q, hq⟩ : ∃ q, q = k / 4 := ⟨_, rfl⟩
            obtain ⟨r, hr⟩ : ∃ r, r = k % 4 := ⟨_, rfl⟩
            have hq8 : q < 8 := by omega
            have hr4 : r < 4 := by omega
            have c1 := (other_row HV6.out.row HG.out (by omega)).cell q
            rw [cw_at _ _ (by rw [HV6.out.ok.len]; exact hq8)] at c1
            have hst : ∀ nq, Buf ((wr.drewN nq).setCell ⟨pd, k, none⟩ (.int .u8 ((Bl.byteOf H k).toNat : Int))) pd (upto (fun i _ => Bl.byteOf H i) (List.replicate 32 (0 : UInt8)) (k + 1)) := fun nq => by
              have q := (HB.out.kept ((Kept.refl _).drewN nq)).set k (by rw [hln]; exact hlt) (Bl.byteOf H k)
              have q2 := upto_set (fun i _ => Bl.byteOf H i) (List.replicate 32 (0 : UInt8)) k (by simpa using hlt)
              rw [q2] at q
              exact q
            have HST := Lib.hid hst
            have hgr : ∀ nq, w6.grownBy ((wr.drewN nq).setCell ⟨pd, k, none⟩ (.int .u8 ((Bl.byteOf H k).toNat : Int))) (some pd) := fun nq => grown_setCell HG.out nq k _
            have HGR := Lib.hid hgr
            have hq2 : (k : Int) / 4 = (q : Int) := by omega
            have hr2 : (k : Int) % 4 = (r : Int) := by omega
            rw [← hq, ← hr] at e1
            have hul := HV6.out.ok.at q
            clear hst hgr hq hr hln
            generalize H.getD q 0 = u at *
            generalize Bl.byteOf H k = y at *
            go_wp2
            go_roundw
            case rel => exact ⟨k + 1, by omega, by go_num, HST.out 0, HGR.out 0⟩
            case measure => simp [intOf]; omega
        · obtain rfl : k = 32 := by omega
          have hcv := HB.out.string (P := Tryd.prog) 48 9 5 Tryd.underlying48 Tryd.underlying5 Tryd.underlying9 32
          rw [hln, upto_all _ _ _ (by simp), bytes_all, HDG.out] at hcv
          have hcv2 : (convert 48 9 (.slice (some ⟨pd, 0, none⟩) 32 32)).run Tryd.prog wr = .ok (.string (dg s.data.toList)) wr := hcv
          have HK9 := Lib.hid (HK6.out.gr HG.out (fun _ e => by cases e; omega))
          clear hcv hln HB HG
          obtain ⟨D, hD⟩ : ∃ D, D = dg s.data.toList := ⟨_, rfl⟩
          have HD := Lib.hid hD
          rw [← hD] at hcv2
          clear hD
          go_wp2
          go_ret
          exact ⟨by rw [← HD.out]; rfl, HK9.out⟩
end Go.Proofs.YtdllenoclnmmdaaDoor
