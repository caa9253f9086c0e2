/- siloref13.Record, by what it answers: may a record be (no conditions but that numbers are ints). -/
import Derived.Test.YtoanldoocmmhjaaRr3
namespace Go.Proofs.Ytoanldoocmmhjaa
open Go.RowKit
theorem has_lit (s : ByteArray) (c : Nat) (C : Int) (hC : C = c) (hs : s.size ≤ 9223372036854775807) (w : World) : Calls Try.prog 31 #[.string s, .int .u8 C] w fun e w' => e = .returned (.bool (hasB s c)) ∧ w = w' := by
  rw [hC]
  exact has_any s c hs w
/-- what is left of a record of its kind -/
def Rec.want (r : Rec) : Rec := ⟨r.kind, if Rc.fI r.kind then r.id else 0, if Rc.fN r.kind then r.name else ByteArray.empty, if Rc.fD r.kind then r.dig else ByteArray.empty, if Rc.fL r.kind then r.list else [], if Rc.fS r.kind then r.slots else []⟩
theorem empty_size (s : ByteArray) : decide (s.size = 0) = decide (s = ByteArray.empty) := by
  rw [decide_eq_decide]
  exact ⟨fun h => by simpa using h, fun h => by rw [h]; rfl⟩
theorem nil_length {α : Type} [DecidableEq α] (l : List α) : decide (l.length = 0) = decide (l = []) := by
  rw [decide_eq_decide, List.length_eq_zero_iff]
theorem may_split (r : Rec) (hk : Rc.okK r.kind = true) : Rec.may r = (Rec.eqB r r.want && Rc.gen r.id && (!Rc.fN r.kind || Rc.within r.name.size 1 40) && (!Rc.fD r.kind || decide (r.dig.size = 32)) && decide (r.list.length ≤ 2000) && !(decide (r.kind = 2) && decide (r.list.length ≠ 2)) && (!Rc.fS r.kind || Rc.within r.slots.length 1 14) && r.list.all Rc.gen && r.slots.all Rc.slotB) := by
  obtain ⟨k, id, name, dig, zs, ys⟩ := r
  have h1 : Rec.idB ⟨k, id, name, dig, zs, ys⟩ = (decide (id = if Rc.fI k then id else 0) && Rc.gen id) := by
    unfold Rec.idB
    dsimp only
    cases Rc.fI k
    · simp only [Bool.false_eq_true, if_false]
      by_cases h : id = 0
      · subst h; rfl
      · simp [h]
    · simp
  have h2 : Rec.nameB ⟨k, id, name, dig, zs, ys⟩ = (decide (name = if Rc.fN k then name else ByteArray.empty) && (!Rc.fN k || Rc.within name.size 1 40)) := by
    unfold Rec.nameB
    dsimp only
    cases Rc.fN k
    · simp only [Bool.false_eq_true, if_false]
      rw [empty_size]; simp
    · simp only [if_true, name_within]; simp
  have h3 : Rec.digB ⟨k, id, name, dig, zs, ys⟩ = (decide (dig = if Rc.fD k then dig else ByteArray.empty) && (!Rc.fD k || decide (dig.size = 32))) := by
    unfold Rec.digB
    dsimp only
    cases Rc.fD k
    · simp only [Bool.false_eq_true, if_false]
      rw [empty_size]; simp
    · simp
  have h4 : Rec.lstB ⟨k, id, name, dig, zs, ys⟩ = (decide (zs = if Rc.fL k then zs else []) && (decide (zs.length ≤ 2000) && !(decide (k = 2) && decide (zs.length ≠ 2)) && zs.all Rc.gen)) := by
    unfold Rec.lstB
    dsimp only
    cases hf : Rc.fL k
    · simp only [Bool.false_eq_true, if_false]
      rw [nil_length]
      have hk2 : k ≠ 2 := by rintro rfl; cases hf
      by_cases h : zs = []
      · subst h; simp [hk2]
      · simp [h]
    · simp [Rc.listB]
  have h5 : Rec.sltB ⟨k, id, name, dig, zs, ys⟩ = (decide (ys = if Rc.fS k then ys else []) && ((!Rc.fS k || Rc.within ys.length 1 14) && ys.all Rc.slotB)) := by
    unfold Rec.sltB
    dsimp only
    cases hf : Rc.fS k
    · simp only [Bool.false_eq_true, if_false]
      rw [nil_length]
      by_cases h : ys = []
      · subst h; simp
      · simp [h]
    · have e : decide (1 ≤ ys.length ∧ ys.length ≤ 14) = Rc.within ys.length 1 14 := by
        unfold Rc.within
        rw [decide_eq_decide]
        omega
      simp [Rc.slotsB, e]
  unfold Rec.may
  rw [h1, h2, h3, h4, h5]
  unfold Rec.eqB Rec.want
  dsimp only at hk ⊢
  rw [hk]
  generalize decide (id = if Rc.fI k then id else 0) = b1
  generalize decide (name = if Rc.fN k then name else ByteArray.empty) = b2
  generalize decide (dig = if Rc.fD k then dig else ByteArray.empty) = b3
  generalize decide (zs = if Rc.fL k then zs else []) = b4
  generalize decide (ys = if Rc.fS k then ys else []) = b5
  generalize Rc.gen id = c1
  generalize (!Rc.fN k || Rc.within name.size 1 40) = c2
  generalize (!Rc.fD k || decide (dig.size = 32)) = c3
  generalize decide (zs.length ≤ 2000) = c4
  generalize (!(decide (k = 2) && decide (zs.length ≠ 2))) = c5
  generalize (!Rc.fS k || Rc.within ys.length 1 14) = c6
  generalize zs.all Rc.gen = c7
  generalize ys.all Rc.slotB = c8
  have hkk : decide (k = k) = true := by simp
  rw [hkk]
  cases b1 <;> cases b2 <;> cases b3 <;> cases b4 <;> cases b5 <;> cases c1 <;> cases c2 <;> cases c3 <;> cases c4 <;> cases c5 <;> cases c6 <;> cases c7 <;> cases c8 <;> rfl
set_option maxRecDepth 100000 in
theorem rrec_out (r : Rec) (al : Option Addr) (nl cl : Nat) (az : Option Addr) (nz cz : Nat) (w : World) (hk : Rc.okK r.kind = false) :
    Calls Try.prog 15 #[.agg (recCells r al nl cl az nz cz)] w fun e w' => e = .returned (.bool (Rec.may r)) ∧ Kept w w' := by
  have hm : Rec.may r = false := by unfold Rec.may; rw [hk]; rfl
  rw [hm]
  obtain ⟨k, id, name, dig, zs, ys⟩ := r
  unfold recCells
  dsimp only at hk ⊢
  have HW := Lib.hid (show Rc.within k 1 8 = false from hk)
  clear hm hk
  go_enter Try.func15, Try.ntmps15
  go_wp2_with fail
  refine (between_any k 1 8 _).mono ?_
  rintro e w' ⟨rfl, rfl⟩
  rw [HW.out]
  go_wp2
  go_ret
  exact ⟨rfl, (Kept.refl w).alloc _⟩
set_option maxRecDepth 100000 in
set_option maxHeartbeats 2000000 in
theorem rrec_1 (id : Int) (name dig : ByteArray) (al : Option Addr) (nl cl : Nat) (az : Option Addr) (nz cz : Nat) (zs : List Int) (ys : List (Int × Int)) (w : World) (h : RecIn w ⟨1, id, name, dig, zs, ys⟩ al nl az nz) :
    Calls Try.prog 15 #[.agg #[.int .i64 1, .int .i64 id, .string name, .string dig, .slice al nl cl, .slice az nz cz]] w fun e w' => e = .returned (.bool (Rec.may ⟨1, id, name, dig, zs, ys⟩)) ∧ Kept w w' := by
  obtain ⟨M, hM⟩ : ∃ M : Bool, M = Rec.may ⟨1, id, name, dig, zs, ys⟩ := ⟨_, rfl⟩
  rw [← hM]
  have hsp := may_split ⟨1, id, name, dig, zs, ys⟩ rfl
  rw [← hM] at hsp
  dsimp only at hsp
  rw [show Rc.fN 1 = false from rfl, show Rc.fD 1 = false from rfl, show Rc.fS 1 = true from rfl, h.list.len_eq, h.slots.len_eq] at hsp
  have HSP := Lib.hid hsp
  have HI := Lib.hid h
  have HNL := Lib.hid (show zs.length = nl from h.list.len_eq)
  have HNZ := Lib.hid (show ys.length = nz from h.slots.len_eq)
  have hlen := h.list.le
  have hlez := h.slots.le
  clear hM hsp h
  go_enter Try.func15, Try.ntmps15
  have hbr0 := BlockAt.new w #[.int .i64 1, .int .i64 id, .string name, .string dig, .slice al nl cl, .slice az nz cz] 31
  have hk0 := (Kept.refl w).alloc (.cells #[.int .i64 1, .int .i64 id, .string name, .string dig, .slice al nl cl, .slice az nz cz] 31)
  go_wp2_with fail
  generalize w.alloc (.cells #[.int .i64 1, .int .i64 id, .string name, .string dig, .slice al nl cl, .slice az nz cz] 31) = w1 at *
  refine (between_any 1 1 8 _).mono ?_
  rintro e w' ⟨rfl, rfl⟩
  rw [show Rc.within 1 1 8 = true from rfl]
  obtain ⟨a0, a1, a2, a3, a4, a5⟩ := box6 hbr0
  go_wp2_with fail
  refine (fields_any 1 (by omega) _).mono ?_
  rintro e w2 ⟨rfl, hk2⟩
  have HBR := Lib.hid (hbr0.kept hk2)
  have HK := Lib.hid (hk0.trans hk2)
  clear hbr0 hk0 hk2 a0 a1 a2 a3 a4 a5
  obtain ⟨a0, a1, a2, a3, a4, a5⟩ := box6 HBR.out
  go_upto_region 5 with (fail)
  have HW0 := Lib.hid (BlockAt.new w2 #[.int .i64 1, .int .i64 0, .string ⟨#[]⟩, .string ⟨#[]⟩, .slice none 0 0, .slice none 0 0] 31)
  have HR0 := Lib.hid (HBR.out.kept ((Kept.refl w2).alloc (.cells #[.int .i64 1, .int .i64 0, .string ⟨#[]⟩, .string ⟨#[]⟩, .slice none 0 0, .slice none 0 0] 31)))
  have HK0 := Lib.hid (HK.out.alloc (.cells #[.int .i64 1, .int .i64 0, .string ⟨#[]⟩, .string ⟨#[]⟩, .slice none 0 0, .slice none 0 0] 31))
  have hwb := HK.out.size
  have hrb : w.heap.size < w2.heap.size := HBR.out.lt
  clear HBR HK a0 a1 a2 a3 a4 a5
  generalize w2.alloc (.cells #[.int .i64 1, .int .i64 0, .string ⟨#[]⟩, .string ⟨#[]⟩, .slice none 0 0, .slice none 0 0] 31) = u0 at *
  generalize w2.heap.size = wb at *
  have hfs : (fStr 1).size ≤ 9223372036854775807 := by rw [show (fStr 1).size = 2 from rfl]; omega
  go_wp2_with fail
  refine (has_lit (fStr 1) 73 73 rfl hfs _).mono ?_
  rintro e w' ⟨rfl, rfl⟩
  rw [show hasB (fStr 1) 73 = true from rfl]
  obtain ⟨a0, a1, a2, a3, a4, a5⟩ := box6 HR0.out
  obtain ⟨b0, b1, b2, b3, b4, b5⟩ := box6 HW0.out
  have fz := HW0.out.free 1
  go_upto_region 7 with (fail)
  have HW1 := Lib.hid (show BlockAt (u0.setCell ⟨wb, 1, none⟩ (.int .i64 id)) wb #[.int .i64 1, .int .i64 id, .string ⟨#[]⟩, .string ⟨#[]⟩, .slice none 0 0, .slice none 0 0] 31 from HW0.out.set (.int .i64 id))
  have HR1 := Lib.hid (HR0.out.setOther (g' := wb) (i := 1) (.int .i64 id) (by omega))
  have HK1 := Lib.hid (HK0.out.setCell (p := ⟨wb, 1, none⟩) (by show w.heap.size ≤ wb; omega) (.int .i64 id))
  clear a0 a1 a2 a3 a4 a5 b0 b1 b2 b3 b4 b5 fz HW0 HR0 HK0
  generalize u0.setCell ⟨wb, 1, none⟩ (.int .i64 id) = u1 at *
  go_wp2_with fail
  refine (has_lit (fStr 1) 78 78 rfl hfs _).mono ?_
  rintro e w' ⟨rfl, rfl⟩
  rw [show hasB (fStr 1) 78 = false from rfl]
  go_wp2_with fail
  refine (has_lit (fStr 1) 68 68 rfl hfs _).mono ?_
  rintro e w' ⟨rfl, rfl⟩
  rw [show hasB (fStr 1) 68 = false from rfl]
  go_wp2_with fail
  refine (has_lit (fStr 1) 76 76 rfl hfs _).mono ?_
  rintro e w' ⟨rfl, rfl⟩
  rw [show hasB (fStr 1) 76 = false from rfl]
  go_wp2_with fail
  refine (has_lit (fStr 1) 83 83 rfl hfs _).mono ?_
  rintro e w' ⟨rfl, rfl⟩
  rw [show hasB (fStr 1) 83 = true from rfl]
  obtain ⟨a0, a1, a2, a3, a4, a5⟩ := box6 HR1.out
  obtain ⟨b0, b1, b2, b3, b4, b5⟩ := box6 HW1.out
  have fz := HW1.out.free 5
  go_upto_region 15 with (fail)
  have HW2 := Lib.hid (show BlockAt (u1.setCell ⟨wb, 5, none⟩ (.slice az nz cz)) wb #[.int .i64 1, .int .i64 id, .string ⟨#[]⟩, .string ⟨#[]⟩, .slice none 0 0, .slice az nz cz] 31 from HW1.out.set (.slice az nz cz))
  have HR2 := Lib.hid (HR1.out.setOther (g' := wb) (i := 5) (.slice az nz cz) (by omega))
  have HK2 := Lib.hid (HK1.out.setCell (p := ⟨wb, 5, none⟩) (by show w.heap.size ≤ wb; omega) (.slice az nz cz))
  clear a0 a1 a2 a3 a4 a5 b0 b1 b2 b3 b4 b5 fz HW1 HR1 HK1
  generalize u1.setCell ⟨wb, 5, none⟩ (.slice az nz cz) = u2 at *
  obtain ⟨a0, a1, a2, a3, a4, a5⟩ := box6 HR2.out
  obtain ⟨b0, b1, b2, b3, b4, b5⟩ := box6 HW2.out
  have hwant : RecIn u2 (Rec.want ⟨1, id, name, dig, zs, ys⟩) none 0 az nz := by
    have hI := HI.out.kept HK2.out
    exact ⟨IntsIn.nil _ _ _, hI.slots, hI.kind, hI.id, Nat.zero_le _, Nat.zero_le _⟩
  have HQ := Lib.hid (fun w' (h : Kept u2 w') => eq_record ⟨1, id, name, dig, zs, ys⟩ (Rec.want ⟨1, id, name, dig, zs, ys⟩) al nl cl az nz cz none 0 0 az nz cz w' ((HI.out.kept HK2.out).kept h) (hwant.kept h))
  clear hwant
  go_wp2_with fail
  refine (HQ.out _ (Kept.refl _)).mono ?_
  rintro e v0 ⟨rfl, hv0⟩
  have HR := Lib.hid (HR2.out.kept hv0)
  have HK := Lib.hid (HK2.out.trans hv0)
  clear hv0 a0 a1 a2 a3 a4 a5 b0 b1 b2 b3 b4 b5 HR2 HW2 HK2 HQ
  generalize Rec.eqB ⟨1, id, name, dig, zs, ys⟩ (Rec.want ⟨1, id, name, dig, zs, ys⟩) = E at *
  cases E with
  | false =>
    obtain ⟨a0, a1, a2, a3, a4, a5⟩ := box6 HR.out
    have hv : M = false := by rw [HSP.out]; simp
    have HV := Lib.hid hv
    clear hv
    go_wp2
    go_ret
    exact ⟨by rw [HV.out]; rfl, HK.out⟩
  | true =>
    obtain ⟨a0, a1, a2, a3, a4, a5⟩ := box6 HR.out
    go_wp2_with fail
    refine (num_any id 1073741824 _).mono ?_
    rintro e w' ⟨rfl, rfl⟩
    clear a0 a1 a2 a3 a4 a5
    cases hG : Rc.within id 0 1073741824 with
    | false =>
      have HhG := Lib.hid (show Rc.gen id = false from hG)
      clear hG
      obtain ⟨a0, a1, a2, a3, a4, a5⟩ := box6 HR.out
      have hv : M = false := by rw [HSP.out, HhG.out]; simp
      have HV := Lib.hid hv
      clear hv
      go_wp2
      go_ret
      exact ⟨by rw [HV.out]; rfl, HK.out⟩
    | true =>
      have HhG := Lib.hid (show Rc.gen id = true from hG)
      clear hG
      obtain ⟨a0, a1, a2, a3, a4, a5⟩ := box6 HR.out
      go_wp2_with fail
      refine (has_lit (fStr 1) 78 78 rfl hfs _).mono ?_
      rintro e w' ⟨rfl, rfl⟩
      rw [show hasB (fStr 1) 78 = false from rfl]
      clear a0 a1 a2 a3 a4 a5
      obtain ⟨a0, a1, a2, a3, a4, a5⟩ := box6 HR.out
      go_wp2_with fail
      refine (has_lit (fStr 1) 68 68 rfl hfs _).mono ?_
      rintro e w' ⟨rfl, rfl⟩
      rw [show hasB (fStr 1) 68 = false from rfl]
      clear a0 a1 a2 a3 a4 a5
      by_cases hL1 : nl ≤ 2000
      · have d1 : decide ((2000 : Int) < nl) = false := decide_eq_false (by omega)
        have HhL1 := Lib.hid (decide_eq_true hL1)
        obtain ⟨a0, a1, a2, a3, a4, a5⟩ := box6 HR.out
        go_wp2_with fail
        refine (has_lit (fStr 1) 83 83 rfl hfs _).mono ?_
        rintro e w' ⟨rfl, rfl⟩
        rw [show hasB (fStr 1) 83 = true from rfl]
        clear a0 a1 a2 a3 a4 a5
        obtain ⟨a0, a1, a2, a3, a4, a5⟩ := box6 HR.out
        go_wp2_with fail
        refine (between_any nz 1 14 _).mono ?_
        rintro e w' ⟨rfl, rfl⟩
        clear a0 a1 a2 a3 a4 a5
        cases hS : Rc.within nz 1 14 with
        | false =>
          have HhS := Lib.hid hS
          clear hS
          obtain ⟨a0, a1, a2, a3, a4, a5⟩ := box6 HR.out
          have hv : M = false := by rw [HSP.out, HhS.out]; simp
          have HV := Lib.hid hv
          clear hv
          go_wp2
          go_ret
          exact ⟨by rw [HV.out]; rfl, HK.out⟩
        | true =>
          have HhS := Lib.hid hS
          clear hS
          obtain ⟨a0, a1, a2, a3, a4, a5⟩ := box6 HR.out
          have hgo : ∀ i : Nat, i < nl → ∃ b off, al = some ⟨b, off, none⟩ ∧ v0.cell? ⟨b, off + i, none⟩ = some (.int .i64 (zs.getD i 0)) := fun i hi => by
            obtain ⟨b, off, ha, hc⟩ := (HI.out.list.kept HK.out).cell (by omega)
            exact ⟨b, off, ha, hc i hi _ (Kept.refl _)⟩
          have HGO := Lib.hid hgo
          clear hgo
          have hgs : ∀ i : Nat, i < nz → ∃ b off, az = some ⟨b, off, none⟩ ∧ v0.cell? ⟨b, off + i * 2, none⟩ = some (.int .i64 (ys.getD i (0, 0)).1) ∧ v0.cell? ⟨b, off + i * 2 + 1, none⟩ = some (.int .i64 (ys.getD i (0, 0)).2) := fun i hi => by
            obtain ⟨b, off, ha, hc⟩ := (HI.out.slots.kept HK.out).cell (by omega)
            exact ⟨b, off, ha, hc i hi _ (Kept.refl _)⟩
          have HGS := Lib.hid hgs
          clear hgs
          go_upto_region 18 with (fail)
          go_loop [5] (fun i => ∃ k : Nat, k ≤ nl ∧ i = .int .i64 k ∧ (zs.take k).all Rc.gen = true) (fun i => nl - (intOf i).toNat)
          case atStart => exact ⟨0, by omega, rfl, rfl⟩
          case round =>
            obtain ⟨k, hk, rfl, hal⟩ := hrel
            have HAL := Lib.hid hal
            clear hal
            by_cases hlt : k < nl
            · obtain ⟨b, off, rfl, hc⟩ := HGO.out k hlt
              have HS := Lib.hid (all_snoc zs Rc.gen k 0 (by have := HNL.out; omega))
              have HAT := Lib.hid (all_at zs Rc.gen k 0 (by have := HNL.out; omega))
              generalize zs.getD k 0 = x at *
              go_wp2_with fail
              refine (num_any x 1073741824 _).mono ?_
              rintro e w' ⟨rfl, rfl⟩
              rw [show Rc.within x 0 1073741824 = Rc.gen x from rfl]
              cases hgx : Rc.gen x with
              | true =>
                have HGX := Lib.hid hgx
                clear hgx
                go_wp2
                go_round
                case rel => exact ⟨k + 1, by omega, by go_num, by rw [HS.out, HAL.out, HGX.out]; rfl⟩
                case measure => simp [intOf]; omega
              | false =>
                have HLA := Lib.hid (HAT.out hgx)
                clear hgx
                have hv : M = false := by rw [HSP.out, HLA.out]; simp
                have HV := Lib.hid hv
                clear hv
                go_wp2
                go_ret
                exact ⟨by rw [HV.out]; rfl, HK.out⟩
            · obtain rfl : nl = k := by omega
              have HLA := Lib.hid (show zs.all Rc.gen = true by rw [← HAL.out, List.take_of_length_le (Nat.le_of_eq HNL.out)])
              go_upto_region 23 with (fail)
              go_loop [6] (fun i => ∃ k : Nat, k ≤ nz ∧ i = .int .i64 k ∧ (ys.take k).all Rc.slotB = true) (fun i => nz - (intOf i).toNat)
              case atStart => exact ⟨0, by omega, rfl, rfl⟩
              case round =>
                obtain ⟨k, hk, rfl, hal⟩ := hrel
                have HAL := Lib.hid hal
                clear hal
                by_cases hlt2 : k < nz
                · obtain ⟨b, off, rfl, c0, c1⟩ := HGS.out k hlt2
                  have HS := Lib.hid (all_snoc ys Rc.slotB k (0, 0) (by have := HNZ.out; omega))
                  have HAT := Lib.hid (all_at ys Rc.slotB k (0, 0) (by have := HNZ.out; omega))
                  generalize ys.getD k (0, 0) = x at *
                  obtain ⟨d, p⟩ := x
                  have HSB := Lib.hid (show Rc.slotB (d, p) = (Rc.within d (-1) 11 && Rc.within p 0 63) from rfl)
                  dsimp only at c0 c1
                  go_wp2_with fail
                  refine (between_any d (-1) 11 _).mono ?_
                  rintro e w' ⟨rfl, rfl⟩
                  cases h1 : Rc.within d (-1) 11 with
                  | false =>
                    have HLS := Lib.hid (HAT.out (show Rc.slotB (d, p) = false by rw [HSB.out, h1]; rfl))
                    clear h1
                    have hv : M = false := by rw [HSP.out, HLS.out]; simp
                    have HV := Lib.hid hv
                    clear hv
                    go_wp2
                    go_ret
                    exact ⟨by rw [HV.out]; rfl, HK.out⟩
                  | true =>
                    have HV1 := Lib.hid (show Rc.slotB (d, p) = Rc.within p 0 63 by rw [HSB.out, h1]; rfl)
                    clear h1
                    go_wp2_with fail
                    refine (num_any p 63 _).mono ?_
                    rintro e w' ⟨rfl, rfl⟩
                    cases h2 : Rc.within p 0 63 with
                    | false =>
                      have HLS := Lib.hid (HAT.out (HV1.out.trans h2))
                      clear h2
                      have hv : M = false := by rw [HSP.out, HLS.out]; simp
                      have HV := Lib.hid hv
                      clear hv
                      go_wp2
                      go_ret
                      exact ⟨by rw [HV.out]; rfl, HK.out⟩
                    | true =>
                      have HT := Lib.hid (HV1.out.trans h2)
                      clear h2
                      go_wp2
                      go_round
                      case rel => exact ⟨k + 1, by omega, by go_num, by rw [HS.out, HAL.out, HT.out]; rfl⟩
                      case measure => simp [intOf]; omega
                · obtain rfl : nz = k := by omega
                  have HLS := Lib.hid (show ys.all Rc.slotB = true by rw [← HAL.out, List.take_of_length_le (Nat.le_of_eq HNZ.out)])
                  have hv : M = true := by rw [HSP.out, HhG.out, HhL1.out, HhS.out, HLA.out, HLS.out]; simp
                  have HV := Lib.hid hv
                  clear hv
                  go_wp2
                  go_ret
                  exact ⟨by rw [HV.out]; rfl, HK.out⟩
      · have d1 : decide ((2000 : Int) < nl) = true := decide_eq_true (by omega)
        have HhL1 := Lib.hid (decide_eq_false hL1)
        obtain ⟨a0, a1, a2, a3, a4, a5⟩ := box6 HR.out
        have hv : M = false := by rw [HSP.out, HhL1.out]; simp
        have HV := Lib.hid hv
        clear hv
        go_wp2
        go_ret
        exact ⟨by rw [HV.out]; rfl, HK.out⟩
set_option maxRecDepth 100000 in
set_option maxHeartbeats 2000000 in
theorem rrec_2 (id : Int) (name dig : ByteArray) (al : Option Addr) (nl cl : Nat) (az : Option Addr) (nz cz : Nat) (zs : List Int) (ys : List (Int × Int)) (w : World) (h : RecIn w ⟨2, id, name, dig, zs, ys⟩ al nl az nz) :
    Calls Try.prog 15 #[.agg #[.int .i64 2, .int .i64 id, .string name, .string dig, .slice al nl cl, .slice az nz cz]] w fun e w' => e = .returned (.bool (Rec.may ⟨2, id, name, dig, zs, ys⟩)) ∧ Kept w w' := by
  obtain ⟨M, hM⟩ : ∃ M : Bool, M = Rec.may ⟨2, id, name, dig, zs, ys⟩ := ⟨_, rfl⟩
  rw [← hM]
  have hsp := may_split ⟨2, id, name, dig, zs, ys⟩ rfl
  rw [← hM] at hsp
  dsimp only at hsp
  rw [show Rc.fN 2 = false from rfl, show Rc.fD 2 = false from rfl, show Rc.fS 2 = true from rfl, h.list.len_eq, h.slots.len_eq] at hsp
  have HSP := Lib.hid hsp
  have HI := Lib.hid h
  have HNL := Lib.hid (show zs.length = nl from h.list.len_eq)
  have HNZ := Lib.hid (show ys.length = nz from h.slots.len_eq)
  have hlen := h.list.le
  have hlez := h.slots.le
  clear hM hsp h
  go_enter Try.func15, Try.ntmps15
  have hbr0 := BlockAt.new w #[.int .i64 2, .int .i64 id, .string name, .string dig, .slice al nl cl, .slice az nz cz] 31
  have hk0 := (Kept.refl w).alloc (.cells #[.int .i64 2, .int .i64 id, .string name, .string dig, .slice al nl cl, .slice az nz cz] 31)
  go_wp2_with fail
  generalize w.alloc (.cells #[.int .i64 2, .int .i64 id, .string name, .string dig, .slice al nl cl, .slice az nz cz] 31) = w1 at *
  refine (between_any 2 1 8 _).mono ?_
  rintro e w' ⟨rfl, rfl⟩
  rw [show Rc.within 2 1 8 = true from rfl]
  obtain ⟨a0, a1, a2, a3, a4, a5⟩ := box6 hbr0
  go_wp2_with fail
  refine (fields_any 2 (by omega) _).mono ?_
  rintro e w2 ⟨rfl, hk2⟩
  have HBR := Lib.hid (hbr0.kept hk2)
  have HK := Lib.hid (hk0.trans hk2)
  clear hbr0 hk0 hk2 a0 a1 a2 a3 a4 a5
  obtain ⟨a0, a1, a2, a3, a4, a5⟩ := box6 HBR.out
  go_upto_region 5 with (fail)
  have HW0 := Lib.hid (BlockAt.new w2 #[.int .i64 2, .int .i64 0, .string ⟨#[]⟩, .string ⟨#[]⟩, .slice none 0 0, .slice none 0 0] 31)
  have HR0 := Lib.hid (HBR.out.kept ((Kept.refl w2).alloc (.cells #[.int .i64 2, .int .i64 0, .string ⟨#[]⟩, .string ⟨#[]⟩, .slice none 0 0, .slice none 0 0] 31)))
  have HK0 := Lib.hid (HK.out.alloc (.cells #[.int .i64 2, .int .i64 0, .string ⟨#[]⟩, .string ⟨#[]⟩, .slice none 0 0, .slice none 0 0] 31))
  have hwb := HK.out.size
  have hrb : w.heap.size < w2.heap.size := HBR.out.lt
  clear HBR HK a0 a1 a2 a3 a4 a5
  generalize w2.alloc (.cells #[.int .i64 2, .int .i64 0, .string ⟨#[]⟩, .string ⟨#[]⟩, .slice none 0 0, .slice none 0 0] 31) = u0 at *
  generalize w2.heap.size = wb at *
  have hfs : (fStr 2).size ≤ 9223372036854775807 := by rw [show (fStr 2).size = 3 from rfl]; omega
  go_wp2_with fail
  refine (has_lit (fStr 2) 73 73 rfl hfs _).mono ?_
  rintro e w' ⟨rfl, rfl⟩
  rw [show hasB (fStr 2) 73 = true from rfl]
  obtain ⟨a0, a1, a2, a3, a4, a5⟩ := box6 HR0.out
  obtain ⟨b0, b1, b2, b3, b4, b5⟩ := box6 HW0.out
  have fz := HW0.out.free 1
  go_upto_region 7 with (fail)
  have HW1 := Lib.hid (show BlockAt (u0.setCell ⟨wb, 1, none⟩ (.int .i64 id)) wb #[.int .i64 2, .int .i64 id, .string ⟨#[]⟩, .string ⟨#[]⟩, .slice none 0 0, .slice none 0 0] 31 from HW0.out.set (.int .i64 id))
  have HR1 := Lib.hid (HR0.out.setOther (g' := wb) (i := 1) (.int .i64 id) (by omega))
  have HK1 := Lib.hid (HK0.out.setCell (p := ⟨wb, 1, none⟩) (by show w.heap.size ≤ wb; omega) (.int .i64 id))
  clear a0 a1 a2 a3 a4 a5 b0 b1 b2 b3 b4 b5 fz HW0 HR0 HK0
  generalize u0.setCell ⟨wb, 1, none⟩ (.int .i64 id) = u1 at *
  go_wp2_with fail
  refine (has_lit (fStr 2) 78 78 rfl hfs _).mono ?_
  rintro e w' ⟨rfl, rfl⟩
  rw [show hasB (fStr 2) 78 = false from rfl]
  go_wp2_with fail
  refine (has_lit (fStr 2) 68 68 rfl hfs _).mono ?_
  rintro e w' ⟨rfl, rfl⟩
  rw [show hasB (fStr 2) 68 = false from rfl]
  go_wp2_with fail
  refine (has_lit (fStr 2) 76 76 rfl hfs _).mono ?_
  rintro e w' ⟨rfl, rfl⟩
  rw [show hasB (fStr 2) 76 = true from rfl]
  obtain ⟨a0, a1, a2, a3, a4, a5⟩ := box6 HR1.out
  obtain ⟨b0, b1, b2, b3, b4, b5⟩ := box6 HW1.out
  have fz := HW1.out.free 4
  go_upto_region 13 with (fail)
  have HW2 := Lib.hid (show BlockAt (u1.setCell ⟨wb, 4, none⟩ (.slice al nl cl)) wb #[.int .i64 2, .int .i64 id, .string ⟨#[]⟩, .string ⟨#[]⟩, .slice al nl cl, .slice none 0 0] 31 from HW1.out.set (.slice al nl cl))
  have HR2 := Lib.hid (HR1.out.setOther (g' := wb) (i := 4) (.slice al nl cl) (by omega))
  have HK2 := Lib.hid (HK1.out.setCell (p := ⟨wb, 4, none⟩) (by show w.heap.size ≤ wb; omega) (.slice al nl cl))
  clear a0 a1 a2 a3 a4 a5 b0 b1 b2 b3 b4 b5 fz HW1 HR1 HK1
  generalize u1.setCell ⟨wb, 4, none⟩ (.slice al nl cl) = u2 at *
  go_wp2_with fail
  refine (has_lit (fStr 2) 83 83 rfl hfs _).mono ?_
  rintro e w' ⟨rfl, rfl⟩
  rw [show hasB (fStr 2) 83 = true from rfl]
  obtain ⟨a0, a1, a2, a3, a4, a5⟩ := box6 HR2.out
  obtain ⟨b0, b1, b2, b3, b4, b5⟩ := box6 HW2.out
  have fz := HW2.out.free 5
  go_upto_region 15 with (fail)
  have HW3 := Lib.hid (show BlockAt (u2.setCell ⟨wb, 5, none⟩ (.slice az nz cz)) wb #[.int .i64 2, .int .i64 id, .string ⟨#[]⟩, .string ⟨#[]⟩, .slice al nl cl, .slice az nz cz] 31 from HW2.out.set (.slice az nz cz))
  have HR3 := Lib.hid (HR2.out.setOther (g' := wb) (i := 5) (.slice az nz cz) (by omega))
  have HK3 := Lib.hid (HK2.out.setCell (p := ⟨wb, 5, none⟩) (by show w.heap.size ≤ wb; omega) (.slice az nz cz))
  clear a0 a1 a2 a3 a4 a5 b0 b1 b2 b3 b4 b5 fz HW2 HR2 HK2
  generalize u2.setCell ⟨wb, 5, none⟩ (.slice az nz cz) = u3 at *
  obtain ⟨a0, a1, a2, a3, a4, a5⟩ := box6 HR3.out
  obtain ⟨b0, b1, b2, b3, b4, b5⟩ := box6 HW3.out
  have hwant : RecIn u3 (Rec.want ⟨2, id, name, dig, zs, ys⟩) al nl az nz := by
    have hI := HI.out.kept HK3.out
    exact ⟨hI.list, hI.slots, hI.kind, hI.id, Nat.zero_le _, Nat.zero_le _⟩
  have HQ := Lib.hid (fun w' (h : Kept u3 w') => eq_record ⟨2, id, name, dig, zs, ys⟩ (Rec.want ⟨2, id, name, dig, zs, ys⟩) al nl cl az nz cz al nl cl az nz cz w' ((HI.out.kept HK3.out).kept h) (hwant.kept h))
  clear hwant
  go_wp2_with fail
  refine (HQ.out _ (Kept.refl _)).mono ?_
  rintro e v0 ⟨rfl, hv0⟩
  have HR := Lib.hid (HR3.out.kept hv0)
  have HK := Lib.hid (HK3.out.trans hv0)
  clear hv0 a0 a1 a2 a3 a4 a5 b0 b1 b2 b3 b4 b5 HR3 HW3 HK3 HQ
  generalize Rec.eqB ⟨2, id, name, dig, zs, ys⟩ (Rec.want ⟨2, id, name, dig, zs, ys⟩) = E at *
  cases E with
  | false =>
    obtain ⟨a0, a1, a2, a3, a4, a5⟩ := box6 HR.out
    have hv : M = false := by rw [HSP.out]; simp
    have HV := Lib.hid hv
    clear hv
    go_wp2
    go_ret
    exact ⟨by rw [HV.out]; rfl, HK.out⟩
  | true =>
    obtain ⟨a0, a1, a2, a3, a4, a5⟩ := box6 HR.out
    go_wp2_with fail
    refine (num_any id 1073741824 _).mono ?_
    rintro e w' ⟨rfl, rfl⟩
    clear a0 a1 a2 a3 a4 a5
    cases hG : Rc.within id 0 1073741824 with
    | false =>
      have HhG := Lib.hid (show Rc.gen id = false from hG)
      clear hG
      obtain ⟨a0, a1, a2, a3, a4, a5⟩ := box6 HR.out
      have hv : M = false := by rw [HSP.out, HhG.out]; simp
      have HV := Lib.hid hv
      clear hv
      go_wp2
      go_ret
      exact ⟨by rw [HV.out]; rfl, HK.out⟩
    | true =>
      have HhG := Lib.hid (show Rc.gen id = true from hG)
      clear hG
      obtain ⟨a0, a1, a2, a3, a4, a5⟩ := box6 HR.out
      go_wp2_with fail
      refine (has_lit (fStr 2) 78 78 rfl hfs _).mono ?_
      rintro e w' ⟨rfl, rfl⟩
      rw [show hasB (fStr 2) 78 = false from rfl]
      clear a0 a1 a2 a3 a4 a5
      obtain ⟨a0, a1, a2, a3, a4, a5⟩ := box6 HR.out
      go_wp2_with fail
      refine (has_lit (fStr 2) 68 68 rfl hfs _).mono ?_
      rintro e w' ⟨rfl, rfl⟩
      rw [show hasB (fStr 2) 68 = false from rfl]
      clear a0 a1 a2 a3 a4 a5
      by_cases hL1 : nl ≤ 2000
      · have d1 : decide ((2000 : Int) < nl) = false := decide_eq_false (by omega)
        have HhL1 := Lib.hid (decide_eq_true hL1)
        by_cases hL2 : nl = 2
        · have d2 : ((nl : Int) != 2) = false := by rw [hL2]; rfl
          have HhL2 := Lib.hid (show decide (nl ≠ 2) = false from decide_eq_false (fun h => h hL2))
          obtain ⟨a0, a1, a2, a3, a4, a5⟩ := box6 HR.out
          go_wp2_with fail
          refine (has_lit (fStr 2) 83 83 rfl hfs _).mono ?_
          rintro e w' ⟨rfl, rfl⟩
          rw [show hasB (fStr 2) 83 = true from rfl]
          clear a0 a1 a2 a3 a4 a5
          obtain ⟨a0, a1, a2, a3, a4, a5⟩ := box6 HR.out
          go_wp2_with fail
          refine (between_any nz 1 14 _).mono ?_
          rintro e w' ⟨rfl, rfl⟩
          clear a0 a1 a2 a3 a4 a5
          cases hS : Rc.within nz 1 14 with
          | false =>
            have HhS := Lib.hid hS
            clear hS
            obtain ⟨a0, a1, a2, a3, a4, a5⟩ := box6 HR.out
            have hv : M = false := by rw [HSP.out, HhS.out]; simp
            have HV := Lib.hid hv
            clear hv
            go_wp2
            go_ret
            exact ⟨by rw [HV.out]; rfl, HK.out⟩
          | true =>
            have HhS := Lib.hid hS
            clear hS
            obtain ⟨a0, a1, a2, a3, a4, a5⟩ := box6 HR.out
            have hgo : ∀ i : Nat, i < nl → ∃ b off, al = some ⟨b, off, none⟩ ∧ v0.cell? ⟨b, off + i, none⟩ = some (.int .i64 (zs.getD i 0)) := fun i hi => by
              obtain ⟨b, off, ha, hc⟩ := (HI.out.list.kept HK.out).cell (by omega)
              exact ⟨b, off, ha, hc i hi _ (Kept.refl _)⟩
            have HGO := Lib.hid hgo
            clear hgo
            have hgs : ∀ i : Nat, i < nz → ∃ b off, az = some ⟨b, off, none⟩ ∧ v0.cell? ⟨b, off + i * 2, none⟩ = some (.int .i64 (ys.getD i (0, 0)).1) ∧ v0.cell? ⟨b, off + i * 2 + 1, none⟩ = some (.int .i64 (ys.getD i (0, 0)).2) := fun i hi => by
              obtain ⟨b, off, ha, hc⟩ := (HI.out.slots.kept HK.out).cell (by omega)
              exact ⟨b, off, ha, hc i hi _ (Kept.refl _)⟩
            have HGS := Lib.hid hgs
            clear hgs
            go_upto_region 18 with (fail)
            go_loop [5] (fun i => ∃ k : Nat, k ≤ nl ∧ i = .int .i64 k ∧ (zs.take k).all Rc.gen = true) (fun i => nl - (intOf i).toNat)
            case atStart => exact ⟨0, by omega, rfl, rfl⟩
            case round =>
              obtain ⟨k, hk, rfl, hal⟩ := hrel
              have HAL := Lib.hid hal
              clear hal
              by_cases hlt : k < nl
              · obtain ⟨b, off, rfl, hc⟩ := HGO.out k hlt
                have HS := Lib.hid (all_snoc zs Rc.gen k 0 (by have := HNL.out; omega))
                have HAT := Lib.hid (all_at zs Rc.gen k 0 (by have := HNL.out; omega))
                generalize zs.getD k 0 = x at *
                go_wp2_with fail
                refine (num_any x 1073741824 _).mono ?_
                rintro e w' ⟨rfl, rfl⟩
                rw [show Rc.within x 0 1073741824 = Rc.gen x from rfl]
                cases hgx : Rc.gen x with
                | true =>
                  have HGX := Lib.hid hgx
                  clear hgx
                  go_wp2
                  go_round
                  case rel => exact ⟨k + 1, by omega, by go_num, by rw [HS.out, HAL.out, HGX.out]; rfl⟩
                  case measure => simp [intOf]; omega
                | false =>
                  have HLA := Lib.hid (HAT.out hgx)
                  clear hgx
                  have hv : M = false := by rw [HSP.out, HLA.out]; simp
                  have HV := Lib.hid hv
                  clear hv
                  go_wp2
                  go_ret
                  exact ⟨by rw [HV.out]; rfl, HK.out⟩
              · obtain rfl : nl = k := by omega
                have HLA := Lib.hid (show zs.all Rc.gen = true by rw [← HAL.out, List.take_of_length_le (Nat.le_of_eq HNL.out)])
                go_upto_region 23 with (fail)
                go_loop [6] (fun i => ∃ k : Nat, k ≤ nz ∧ i = .int .i64 k ∧ (ys.take k).all Rc.slotB = true) (fun i => nz - (intOf i).toNat)
                case atStart => exact ⟨0, by omega, rfl, rfl⟩
                case round =>
                  obtain ⟨k, hk, rfl, hal⟩ := hrel
                  have HAL := Lib.hid hal
                  clear hal
                  by_cases hlt2 : k < nz
                  · obtain ⟨b, off, rfl, c0, c1⟩ := HGS.out k hlt2
                    have HS := Lib.hid (all_snoc ys Rc.slotB k (0, 0) (by have := HNZ.out; omega))
                    have HAT := Lib.hid (all_at ys Rc.slotB k (0, 0) (by have := HNZ.out; omega))
                    generalize ys.getD k (0, 0) = x at *
                    obtain ⟨d, p⟩ := x
                    have HSB := Lib.hid (show Rc.slotB (d, p) = (Rc.within d (-1) 11 && Rc.within p 0 63) from rfl)
                    dsimp only at c0 c1
                    go_wp2_with fail
                    refine (between_any d (-1) 11 _).mono ?_
                    rintro e w' ⟨rfl, rfl⟩
                    cases h1 : Rc.within d (-1) 11 with
                    | false =>
                      have HLS := Lib.hid (HAT.out (show Rc.slotB (d, p) = false by rw [HSB.out, h1]; rfl))
                      clear h1
                      have hv : M = false := by rw [HSP.out, HLS.out]; simp
                      have HV := Lib.hid hv
                      clear hv
                      go_wp2
                      go_ret
                      exact ⟨by rw [HV.out]; rfl, HK.out⟩
                    | true =>
                      have HV1 := Lib.hid (show Rc.slotB (d, p) = Rc.within p 0 63 by rw [HSB.out, h1]; rfl)
                      clear h1
                      go_wp2_with fail
                      refine (num_any p 63 _).mono ?_
                      rintro e w' ⟨rfl, rfl⟩
                      cases h2 : Rc.within p 0 63 with
                      | false =>
                        have HLS := Lib.hid (HAT.out (HV1.out.trans h2))
                        clear h2
                        have hv : M = false := by rw [HSP.out, HLS.out]; simp
                        have HV := Lib.hid hv
                        clear hv
                        go_wp2
                        go_ret
                        exact ⟨by rw [HV.out]; rfl, HK.out⟩
                      | true =>
                        have HT := Lib.hid (HV1.out.trans h2)
                        clear h2
                        go_wp2
                        go_round
                        case rel => exact ⟨k + 1, by omega, by go_num, by rw [HS.out, HAL.out, HT.out]; rfl⟩
                        case measure => simp [intOf]; omega
                  · obtain rfl : nz = k := by omega
                    have HLS := Lib.hid (show ys.all Rc.slotB = true by rw [← HAL.out, List.take_of_length_le (Nat.le_of_eq HNZ.out)])
                    have hv : M = true := by rw [HSP.out, HhG.out, HhL1.out, HhL2.out, HhS.out, HLA.out, HLS.out]; simp
                    have HV := Lib.hid hv
                    clear hv
                    go_wp2
                    go_ret
                    exact ⟨by rw [HV.out]; rfl, HK.out⟩
        · have d2 : ((nl : Int) != 2) = true := by rw [bne_iff_ne]; omega
          have HhL2 := Lib.hid (show decide (nl ≠ 2) = true from decide_eq_true hL2)
          obtain ⟨a0, a1, a2, a3, a4, a5⟩ := box6 HR.out
          have hv : M = false := by rw [HSP.out, HhL2.out]; simp
          have HV := Lib.hid hv
          clear hv
          go_wp2
          go_ret
          exact ⟨by rw [HV.out]; rfl, HK.out⟩
      · have d1 : decide ((2000 : Int) < nl) = true := decide_eq_true (by omega)
        have HhL1 := Lib.hid (decide_eq_false hL1)
        obtain ⟨a0, a1, a2, a3, a4, a5⟩ := box6 HR.out
        have hv : M = false := by rw [HSP.out, HhL1.out]; simp
        have HV := Lib.hid hv
        clear hv
        go_wp2
        go_ret
        exact ⟨by rw [HV.out]; rfl, HK.out⟩
set_option maxRecDepth 100000 in
set_option maxHeartbeats 2000000 in
theorem rrec_3 (id : Int) (name dig : ByteArray) (al : Option Addr) (nl cl : Nat) (az : Option Addr) (nz cz : Nat) (zs : List Int) (ys : List (Int × Int)) (w : World) (h : RecIn w ⟨3, id, name, dig, zs, ys⟩ al nl az nz) :
    Calls Try.prog 15 #[.agg #[.int .i64 3, .int .i64 id, .string name, .string dig, .slice al nl cl, .slice az nz cz]] w fun e w' => e = .returned (.bool (Rec.may ⟨3, id, name, dig, zs, ys⟩)) ∧ Kept w w' := by
  obtain ⟨M, hM⟩ : ∃ M : Bool, M = Rec.may ⟨3, id, name, dig, zs, ys⟩ := ⟨_, rfl⟩
  rw [← hM]
  have hsp := may_split ⟨3, id, name, dig, zs, ys⟩ rfl
  rw [← hM] at hsp
  dsimp only at hsp
  rw [show Rc.fN 3 = false from rfl, show Rc.fD 3 = false from rfl, show Rc.fS 3 = false from rfl, h.list.len_eq, h.slots.len_eq] at hsp
  have HSP := Lib.hid hsp
  have HI := Lib.hid h
  have HNL := Lib.hid (show zs.length = nl from h.list.len_eq)
  have HNZ := Lib.hid (show ys.length = nz from h.slots.len_eq)
  have hlen := h.list.le
  have hlez := h.slots.le
  clear hM hsp h
  go_enter Try.func15, Try.ntmps15
  have hbr0 := BlockAt.new w #[.int .i64 3, .int .i64 id, .string name, .string dig, .slice al nl cl, .slice az nz cz] 31
  have hk0 := (Kept.refl w).alloc (.cells #[.int .i64 3, .int .i64 id, .string name, .string dig, .slice al nl cl, .slice az nz cz] 31)
  go_wp2_with fail
  generalize w.alloc (.cells #[.int .i64 3, .int .i64 id, .string name, .string dig, .slice al nl cl, .slice az nz cz] 31) = w1 at *
  refine (between_any 3 1 8 _).mono ?_
  rintro e w' ⟨rfl, rfl⟩
  rw [show Rc.within 3 1 8 = true from rfl]
  obtain ⟨a0, a1, a2, a3, a4, a5⟩ := box6 hbr0
  go_wp2_with fail
  refine (fields_any 3 (by omega) _).mono ?_
  rintro e w2 ⟨rfl, hk2⟩
  have HBR := Lib.hid (hbr0.kept hk2)
  have HK := Lib.hid (hk0.trans hk2)
  clear hbr0 hk0 hk2 a0 a1 a2 a3 a4 a5
  obtain ⟨a0, a1, a2, a3, a4, a5⟩ := box6 HBR.out
  go_upto_region 5 with (fail)
  have HW0 := Lib.hid (BlockAt.new w2 #[.int .i64 3, .int .i64 0, .string ⟨#[]⟩, .string ⟨#[]⟩, .slice none 0 0, .slice none 0 0] 31)
  have HR0 := Lib.hid (HBR.out.kept ((Kept.refl w2).alloc (.cells #[.int .i64 3, .int .i64 0, .string ⟨#[]⟩, .string ⟨#[]⟩, .slice none 0 0, .slice none 0 0] 31)))
  have HK0 := Lib.hid (HK.out.alloc (.cells #[.int .i64 3, .int .i64 0, .string ⟨#[]⟩, .string ⟨#[]⟩, .slice none 0 0, .slice none 0 0] 31))
  have hwb := HK.out.size
  have hrb : w.heap.size < w2.heap.size := HBR.out.lt
  clear HBR HK a0 a1 a2 a3 a4 a5
  generalize w2.alloc (.cells #[.int .i64 3, .int .i64 0, .string ⟨#[]⟩, .string ⟨#[]⟩, .slice none 0 0, .slice none 0 0] 31) = u0 at *
  generalize w2.heap.size = wb at *
  have hfs : (fStr 3).size ≤ 9223372036854775807 := by rw [show (fStr 3).size = 1 from rfl]; omega
  go_wp2_with fail
  refine (has_lit (fStr 3) 73 73 rfl hfs _).mono ?_
  rintro e w' ⟨rfl, rfl⟩
  rw [show hasB (fStr 3) 73 = true from rfl]
  obtain ⟨a0, a1, a2, a3, a4, a5⟩ := box6 HR0.out
  obtain ⟨b0, b1, b2, b3, b4, b5⟩ := box6 HW0.out
  have fz := HW0.out.free 1
  go_upto_region 7 with (fail)
  have HW1 := Lib.hid (show BlockAt (u0.setCell ⟨wb, 1, none⟩ (.int .i64 id)) wb #[.int .i64 3, .int .i64 id, .string ⟨#[]⟩, .string ⟨#[]⟩, .slice none 0 0, .slice none 0 0] 31 from HW0.out.set (.int .i64 id))
  have HR1 := Lib.hid (HR0.out.setOther (g' := wb) (i := 1) (.int .i64 id) (by omega))
  have HK1 := Lib.hid (HK0.out.setCell (p := ⟨wb, 1, none⟩) (by show w.heap.size ≤ wb; omega) (.int .i64 id))
  clear a0 a1 a2 a3 a4 a5 b0 b1 b2 b3 b4 b5 fz HW0 HR0 HK0
  generalize u0.setCell ⟨wb, 1, none⟩ (.int .i64 id) = u1 at *
  go_wp2_with fail
  refine (has_lit (fStr 3) 78 78 rfl hfs _).mono ?_
  rintro e w' ⟨rfl, rfl⟩
  rw [show hasB (fStr 3) 78 = false from rfl]
  go_wp2_with fail
  refine (has_lit (fStr 3) 68 68 rfl hfs _).mono ?_
  rintro e w' ⟨rfl, rfl⟩
  rw [show hasB (fStr 3) 68 = false from rfl]
  go_wp2_with fail
  refine (has_lit (fStr 3) 76 76 rfl hfs _).mono ?_
  rintro e w' ⟨rfl, rfl⟩
  rw [show hasB (fStr 3) 76 = false from rfl]
  go_wp2_with fail
  refine (has_lit (fStr 3) 83 83 rfl hfs _).mono ?_
  rintro e w' ⟨rfl, rfl⟩
  rw [show hasB (fStr 3) 83 = false from rfl]
  obtain ⟨a0, a1, a2, a3, a4, a5⟩ := box6 HR1.out
  obtain ⟨b0, b1, b2, b3, b4, b5⟩ := box6 HW1.out
  have hwant : RecIn u1 (Rec.want ⟨3, id, name, dig, zs, ys⟩) none 0 none 0 := by
    have hI := HI.out.kept HK1.out
    exact ⟨IntsIn.nil _ _ _, SlotsIn.nil _ _, hI.kind, hI.id, Nat.zero_le _, Nat.zero_le _⟩
  have HQ := Lib.hid (fun w' (h : Kept u1 w') => eq_record ⟨3, id, name, dig, zs, ys⟩ (Rec.want ⟨3, id, name, dig, zs, ys⟩) al nl cl az nz cz none 0 0 none 0 0 w' ((HI.out.kept HK1.out).kept h) (hwant.kept h))
  clear hwant
  go_wp2_with fail
  refine (HQ.out _ (Kept.refl _)).mono ?_
  rintro e v0 ⟨rfl, hv0⟩
  have HR := Lib.hid (HR1.out.kept hv0)
  have HK := Lib.hid (HK1.out.trans hv0)
  clear hv0 a0 a1 a2 a3 a4 a5 b0 b1 b2 b3 b4 b5 HR1 HW1 HK1 HQ
  generalize Rec.eqB ⟨3, id, name, dig, zs, ys⟩ (Rec.want ⟨3, id, name, dig, zs, ys⟩) = E at *
  cases E with
  | false =>
    obtain ⟨a0, a1, a2, a3, a4, a5⟩ := box6 HR.out
    have hv : M = false := by rw [HSP.out]; simp
    have HV := Lib.hid hv
    clear hv
    go_wp2
    go_ret
    exact ⟨by rw [HV.out]; rfl, HK.out⟩
  | true =>
    obtain ⟨a0, a1, a2, a3, a4, a5⟩ := box6 HR.out
    go_wp2_with fail
    refine (num_any id 1073741824 _).mono ?_
    rintro e w' ⟨rfl, rfl⟩
    clear a0 a1 a2 a3 a4 a5
    cases hG : Rc.within id 0 1073741824 with
    | false =>
      have HhG := Lib.hid (show Rc.gen id = false from hG)
      clear hG
      obtain ⟨a0, a1, a2, a3, a4, a5⟩ := box6 HR.out
      have hv : M = false := by rw [HSP.out, HhG.out]; simp
      have HV := Lib.hid hv
      clear hv
      go_wp2
      go_ret
      exact ⟨by rw [HV.out]; rfl, HK.out⟩
    | true =>
      have HhG := Lib.hid (show Rc.gen id = true from hG)
      clear hG
      obtain ⟨a0, a1, a2, a3, a4, a5⟩ := box6 HR.out
      go_wp2_with fail
      refine (has_lit (fStr 3) 78 78 rfl hfs _).mono ?_
      rintro e w' ⟨rfl, rfl⟩
      rw [show hasB (fStr 3) 78 = false from rfl]
      clear a0 a1 a2 a3 a4 a5
      obtain ⟨a0, a1, a2, a3, a4, a5⟩ := box6 HR.out
      go_wp2_with fail
      refine (has_lit (fStr 3) 68 68 rfl hfs _).mono ?_
      rintro e w' ⟨rfl, rfl⟩
      rw [show hasB (fStr 3) 68 = false from rfl]
      clear a0 a1 a2 a3 a4 a5
      by_cases hL1 : nl ≤ 2000
      · have d1 : decide ((2000 : Int) < nl) = false := decide_eq_false (by omega)
        have HhL1 := Lib.hid (decide_eq_true hL1)
        obtain ⟨a0, a1, a2, a3, a4, a5⟩ := box6 HR.out
        go_wp2_with fail
        refine (has_lit (fStr 3) 83 83 rfl hfs _).mono ?_
        rintro e w' ⟨rfl, rfl⟩
        rw [show hasB (fStr 3) 83 = false from rfl]
        clear a0 a1 a2 a3 a4 a5
        obtain ⟨a0, a1, a2, a3, a4, a5⟩ := box6 HR.out
        have hgo : ∀ i : Nat, i < nl → ∃ b off, al = some ⟨b, off, none⟩ ∧ v0.cell? ⟨b, off + i, none⟩ = some (.int .i64 (zs.getD i 0)) := fun i hi => by
          obtain ⟨b, off, ha, hc⟩ := (HI.out.list.kept HK.out).cell (by omega)
          exact ⟨b, off, ha, hc i hi _ (Kept.refl _)⟩
        have HGO := Lib.hid hgo
        clear hgo
        have hgs : ∀ i : Nat, i < nz → ∃ b off, az = some ⟨b, off, none⟩ ∧ v0.cell? ⟨b, off + i * 2, none⟩ = some (.int .i64 (ys.getD i (0, 0)).1) ∧ v0.cell? ⟨b, off + i * 2 + 1, none⟩ = some (.int .i64 (ys.getD i (0, 0)).2) := fun i hi => by
          obtain ⟨b, off, ha, hc⟩ := (HI.out.slots.kept HK.out).cell (by omega)
          exact ⟨b, off, ha, hc i hi _ (Kept.refl _)⟩
        have HGS := Lib.hid hgs
        clear hgs
        go_upto_region 18 with (fail)
        go_loop [5] (fun i => ∃ k : Nat, k ≤ nl ∧ i = .int .i64 k ∧ (zs.take k).all Rc.gen = true) (fun i => nl - (intOf i).toNat)
        case atStart => exact ⟨0, by omega, rfl, rfl⟩
        case round =>
          obtain ⟨k, hk, rfl, hal⟩ := hrel
          have HAL := Lib.hid hal
          clear hal
          by_cases hlt : k < nl
          · obtain ⟨b, off, rfl, hc⟩ := HGO.out k hlt
            have HS := Lib.hid (all_snoc zs Rc.gen k 0 (by have := HNL.out; omega))
            have HAT := Lib.hid (all_at zs Rc.gen k 0 (by have := HNL.out; omega))
            generalize zs.getD k 0 = x at *
            go_wp2_with fail
            refine (num_any x 1073741824 _).mono ?_
            rintro e w' ⟨rfl, rfl⟩
            rw [show Rc.within x 0 1073741824 = Rc.gen x from rfl]
            cases hgx : Rc.gen x with
            | true =>
              have HGX := Lib.hid hgx
              clear hgx
              go_wp2
              go_round
              case rel => exact ⟨k + 1, by omega, by go_num, by rw [HS.out, HAL.out, HGX.out]; rfl⟩
              case measure => simp [intOf]; omega
            | false =>
              have HLA := Lib.hid (HAT.out hgx)
              clear hgx
              have hv : M = false := by rw [HSP.out, HLA.out]; simp
              have HV := Lib.hid hv
              clear hv
              go_wp2
              go_ret
              exact ⟨by rw [HV.out]; rfl, HK.out⟩
          · obtain rfl : nl = k := by omega
            have HLA := Lib.hid (show zs.all Rc.gen = true by rw [← HAL.out, List.take_of_length_le (Nat.le_of_eq HNL.out)])
            go_upto_region 23 with (fail)
            go_loop [6] (fun i => ∃ k : Nat, k ≤ nz ∧ i = .int .i64 k ∧ (ys.take k).all Rc.slotB = true) (fun i => nz - (intOf i).toNat)
            case atStart => exact ⟨0, by omega, rfl, rfl⟩
            case round =>
              obtain ⟨k, hk, rfl, hal⟩ := hrel
              have HAL := Lib.hid hal
              clear hal
              by_cases hlt2 : k < nz
              · obtain ⟨b, off, rfl, c0, c1⟩ := HGS.out k hlt2
                have HS := Lib.hid (all_snoc ys Rc.slotB k (0, 0) (by have := HNZ.out; omega))
                have HAT := Lib.hid (all_at ys Rc.slotB k (0, 0) (by have := HNZ.out; omega))
                generalize ys.getD k (0, 0) = x at *
                obtain ⟨d, p⟩ := x
                have HSB := Lib.hid (show Rc.slotB (d, p) = (Rc.within d (-1) 11 && Rc.within p 0 63) from rfl)
                dsimp only at c0 c1
                go_wp2_with fail
                refine (between_any d (-1) 11 _).mono ?_
                rintro e w' ⟨rfl, rfl⟩
                cases h1 : Rc.within d (-1) 11 with
                | false =>
                  have HLS := Lib.hid (HAT.out (show Rc.slotB (d, p) = false by rw [HSB.out, h1]; rfl))
                  clear h1
                  have hv : M = false := by rw [HSP.out, HLS.out]; simp
                  have HV := Lib.hid hv
                  clear hv
                  go_wp2
                  go_ret
                  exact ⟨by rw [HV.out]; rfl, HK.out⟩
                | true =>
                  have HV1 := Lib.hid (show Rc.slotB (d, p) = Rc.within p 0 63 by rw [HSB.out, h1]; rfl)
                  clear h1
                  go_wp2_with fail
                  refine (num_any p 63 _).mono ?_
                  rintro e w' ⟨rfl, rfl⟩
                  cases h2 : Rc.within p 0 63 with
                  | false =>
                    have HLS := Lib.hid (HAT.out (HV1.out.trans h2))
                    clear h2
                    have hv : M = false := by rw [HSP.out, HLS.out]; simp
                    have HV := Lib.hid hv
                    clear hv
                    go_wp2
                    go_ret
                    exact ⟨by rw [HV.out]; rfl, HK.out⟩
                  | true =>
                    have HT := Lib.hid (HV1.out.trans h2)
                    clear h2
                    go_wp2
                    go_round
                    case rel => exact ⟨k + 1, by omega, by go_num, by rw [HS.out, HAL.out, HT.out]; rfl⟩
                    case measure => simp [intOf]; omega
              · obtain rfl : nz = k := by omega
                have HLS := Lib.hid (show ys.all Rc.slotB = true by rw [← HAL.out, List.take_of_length_le (Nat.le_of_eq HNZ.out)])
                have hv : M = true := by rw [HSP.out, HhG.out, HhL1.out, HLA.out, HLS.out]; simp
                have HV := Lib.hid hv
                clear hv
                go_wp2
                go_ret
                exact ⟨by rw [HV.out]; rfl, HK.out⟩
      · have d1 : decide ((2000 : Int) < nl) = true := decide_eq_true (by omega)
        have HhL1 := Lib.hid (decide_eq_false hL1)
        obtain ⟨a0, a1, a2, a3, a4, a5⟩ := box6 HR.out
        have hv : M = false := by rw [HSP.out, HhL1.out]; simp
        have HV := Lib.hid hv
        clear hv
        go_wp2
        go_ret
        exact ⟨by rw [HV.out]; rfl, HK.out⟩
set_option maxRecDepth 100000 in
set_option maxHeartbeats 2000000 in
theorem rrec_4 (id : Int) (name dig : ByteArray) (al : Option Addr) (nl cl : Nat) (az : Option Addr) (nz cz : Nat) (zs : List Int) (ys : List (Int × Int)) (w : World) (h : RecIn w ⟨4, id, name, dig, zs, ys⟩ al nl az nz) :
    Calls Try.prog 15 #[.agg #[.int .i64 4, .int .i64 id, .string name, .string dig, .slice al nl cl, .slice az nz cz]] w fun e w' => e = .returned (.bool (Rec.may ⟨4, id, name, dig, zs, ys⟩)) ∧ Kept w w' := by
  obtain ⟨M, hM⟩ : ∃ M : Bool, M = Rec.may ⟨4, id, name, dig, zs, ys⟩ := ⟨_, rfl⟩
  rw [← hM]
  have hsp := may_split ⟨4, id, name, dig, zs, ys⟩ rfl
  rw [← hM] at hsp
  dsimp only at hsp
  rw [show Rc.fN 4 = false from rfl, show Rc.fD 4 = true from rfl, show Rc.fS 4 = false from rfl, h.list.len_eq, h.slots.len_eq] at hsp
  have HSP := Lib.hid hsp
  have HI := Lib.hid h
  have HNL := Lib.hid (show zs.length = nl from h.list.len_eq)
  have HNZ := Lib.hid (show ys.length = nz from h.slots.len_eq)
  have hlen := h.list.le
  have hlez := h.slots.le
  clear hM hsp h
  go_enter Try.func15, Try.ntmps15
  have hbr0 := BlockAt.new w #[.int .i64 4, .int .i64 id, .string name, .string dig, .slice al nl cl, .slice az nz cz] 31
  have hk0 := (Kept.refl w).alloc (.cells #[.int .i64 4, .int .i64 id, .string name, .string dig, .slice al nl cl, .slice az nz cz] 31)
  go_wp2_with fail
  generalize w.alloc (.cells #[.int .i64 4, .int .i64 id, .string name, .string dig, .slice al nl cl, .slice az nz cz] 31) = w1 at *
  refine (between_any 4 1 8 _).mono ?_
  rintro e w' ⟨rfl, rfl⟩
  rw [show Rc.within 4 1 8 = true from rfl]
  obtain ⟨a0, a1, a2, a3, a4, a5⟩ := box6 hbr0
  go_wp2_with fail
  refine (fields_any 4 (by omega) _).mono ?_
  rintro e w2 ⟨rfl, hk2⟩
  have HBR := Lib.hid (hbr0.kept hk2)
  have HK := Lib.hid (hk0.trans hk2)
  clear hbr0 hk0 hk2 a0 a1 a2 a3 a4 a5
  obtain ⟨a0, a1, a2, a3, a4, a5⟩ := box6 HBR.out
  go_upto_region 5 with (fail)
  have HW0 := Lib.hid (BlockAt.new w2 #[.int .i64 4, .int .i64 0, .string ⟨#[]⟩, .string ⟨#[]⟩, .slice none 0 0, .slice none 0 0] 31)
  have HR0 := Lib.hid (HBR.out.kept ((Kept.refl w2).alloc (.cells #[.int .i64 4, .int .i64 0, .string ⟨#[]⟩, .string ⟨#[]⟩, .slice none 0 0, .slice none 0 0] 31)))
  have HK0 := Lib.hid (HK.out.alloc (.cells #[.int .i64 4, .int .i64 0, .string ⟨#[]⟩, .string ⟨#[]⟩, .slice none 0 0, .slice none 0 0] 31))
  have hwb := HK.out.size
  have hrb : w.heap.size < w2.heap.size := HBR.out.lt
  clear HBR HK a0 a1 a2 a3 a4 a5
  generalize w2.alloc (.cells #[.int .i64 4, .int .i64 0, .string ⟨#[]⟩, .string ⟨#[]⟩, .slice none 0 0, .slice none 0 0] 31) = u0 at *
  generalize w2.heap.size = wb at *
  have hfs : (fStr 4).size ≤ 9223372036854775807 := by rw [show (fStr 4).size = 3 from rfl]; omega
  go_wp2_with fail
  refine (has_lit (fStr 4) 73 73 rfl hfs _).mono ?_
  rintro e w' ⟨rfl, rfl⟩
  rw [show hasB (fStr 4) 73 = true from rfl]
  obtain ⟨a0, a1, a2, a3, a4, a5⟩ := box6 HR0.out
  obtain ⟨b0, b1, b2, b3, b4, b5⟩ := box6 HW0.out
  have fz := HW0.out.free 1
  go_upto_region 7 with (fail)
  have HW1 := Lib.hid (show BlockAt (u0.setCell ⟨wb, 1, none⟩ (.int .i64 id)) wb #[.int .i64 4, .int .i64 id, .string ⟨#[]⟩, .string ⟨#[]⟩, .slice none 0 0, .slice none 0 0] 31 from HW0.out.set (.int .i64 id))
  have HR1 := Lib.hid (HR0.out.setOther (g' := wb) (i := 1) (.int .i64 id) (by omega))
  have HK1 := Lib.hid (HK0.out.setCell (p := ⟨wb, 1, none⟩) (by show w.heap.size ≤ wb; omega) (.int .i64 id))
  clear a0 a1 a2 a3 a4 a5 b0 b1 b2 b3 b4 b5 fz HW0 HR0 HK0
  generalize u0.setCell ⟨wb, 1, none⟩ (.int .i64 id) = u1 at *
  go_wp2_with fail
  refine (has_lit (fStr 4) 78 78 rfl hfs _).mono ?_
  rintro e w' ⟨rfl, rfl⟩
  rw [show hasB (fStr 4) 78 = false from rfl]
  go_wp2_with fail
  refine (has_lit (fStr 4) 68 68 rfl hfs _).mono ?_
  rintro e w' ⟨rfl, rfl⟩
  rw [show hasB (fStr 4) 68 = true from rfl]
  obtain ⟨a0, a1, a2, a3, a4, a5⟩ := box6 HR1.out
  obtain ⟨b0, b1, b2, b3, b4, b5⟩ := box6 HW1.out
  have fz := HW1.out.free 3
  go_upto_region 11 with (fail)
  have HW2 := Lib.hid (show BlockAt (u1.setCell ⟨wb, 3, none⟩ (.string dig)) wb #[.int .i64 4, .int .i64 id, .string ⟨#[]⟩, .string dig, .slice none 0 0, .slice none 0 0] 31 from HW1.out.set (.string dig))
  have HR2 := Lib.hid (HR1.out.setOther (g' := wb) (i := 3) (.string dig) (by omega))
  have HK2 := Lib.hid (HK1.out.setCell (p := ⟨wb, 3, none⟩) (by show w.heap.size ≤ wb; omega) (.string dig))
  clear a0 a1 a2 a3 a4 a5 b0 b1 b2 b3 b4 b5 fz HW1 HR1 HK1
  generalize u1.setCell ⟨wb, 3, none⟩ (.string dig) = u2 at *
  go_wp2_with fail
  refine (has_lit (fStr 4) 76 76 rfl hfs _).mono ?_
  rintro e w' ⟨rfl, rfl⟩
  rw [show hasB (fStr 4) 76 = true from rfl]
  obtain ⟨a0, a1, a2, a3, a4, a5⟩ := box6 HR2.out
  obtain ⟨b0, b1, b2, b3, b4, b5⟩ := box6 HW2.out
  have fz := HW2.out.free 4
  go_upto_region 13 with (fail)
  have HW3 := Lib.hid (show BlockAt (u2.setCell ⟨wb, 4, none⟩ (.slice al nl cl)) wb #[.int .i64 4, .int .i64 id, .string ⟨#[]⟩, .string dig, .slice al nl cl, .slice none 0 0] 31 from HW2.out.set (.slice al nl cl))
  have HR3 := Lib.hid (HR2.out.setOther (g' := wb) (i := 4) (.slice al nl cl) (by omega))
  have HK3 := Lib.hid (HK2.out.setCell (p := ⟨wb, 4, none⟩) (by show w.heap.size ≤ wb; omega) (.slice al nl cl))
  clear a0 a1 a2 a3 a4 a5 b0 b1 b2 b3 b4 b5 fz HW2 HR2 HK2
  generalize u2.setCell ⟨wb, 4, none⟩ (.slice al nl cl) = u3 at *
  go_wp2_with fail
  refine (has_lit (fStr 4) 83 83 rfl hfs _).mono ?_
  rintro e w' ⟨rfl, rfl⟩
  rw [show hasB (fStr 4) 83 = false from rfl]
  obtain ⟨a0, a1, a2, a3, a4, a5⟩ := box6 HR3.out
  obtain ⟨b0, b1, b2, b3, b4, b5⟩ := box6 HW3.out
  have hwant : RecIn u3 (Rec.want ⟨4, id, name, dig, zs, ys⟩) al nl none 0 := by
    have hI := HI.out.kept HK3.out
    exact ⟨hI.list, SlotsIn.nil _ _, hI.kind, hI.id, Nat.zero_le _, hI.dig⟩
  have HQ := Lib.hid (fun w' (h : Kept u3 w') => eq_record ⟨4, id, name, dig, zs, ys⟩ (Rec.want ⟨4, id, name, dig, zs, ys⟩) al nl cl az nz cz al nl cl none 0 0 w' ((HI.out.kept HK3.out).kept h) (hwant.kept h))
  clear hwant
  go_wp2_with fail
  refine (HQ.out _ (Kept.refl _)).mono ?_
  rintro e v0 ⟨rfl, hv0⟩
  have HR := Lib.hid (HR3.out.kept hv0)
  have HK := Lib.hid (HK3.out.trans hv0)
  clear hv0 a0 a1 a2 a3 a4 a5 b0 b1 b2 b3 b4 b5 HR3 HW3 HK3 HQ
  generalize Rec.eqB ⟨4, id, name, dig, zs, ys⟩ (Rec.want ⟨4, id, name, dig, zs, ys⟩) = E at *
  cases E with
  | false =>
    obtain ⟨a0, a1, a2, a3, a4, a5⟩ := box6 HR.out
    have hv : M = false := by rw [HSP.out]; simp
    have HV := Lib.hid hv
    clear hv
    go_wp2
    go_ret
    exact ⟨by rw [HV.out]; rfl, HK.out⟩
  | true =>
    obtain ⟨a0, a1, a2, a3, a4, a5⟩ := box6 HR.out
    go_wp2_with fail
    refine (num_any id 1073741824 _).mono ?_
    rintro e w' ⟨rfl, rfl⟩
    clear a0 a1 a2 a3 a4 a5
    cases hG : Rc.within id 0 1073741824 with
    | false =>
      have HhG := Lib.hid (show Rc.gen id = false from hG)
      clear hG
      obtain ⟨a0, a1, a2, a3, a4, a5⟩ := box6 HR.out
      have hv : M = false := by rw [HSP.out, HhG.out]; simp
      have HV := Lib.hid hv
      clear hv
      go_wp2
      go_ret
      exact ⟨by rw [HV.out]; rfl, HK.out⟩
    | true =>
      have HhG := Lib.hid (show Rc.gen id = true from hG)
      clear hG
      obtain ⟨a0, a1, a2, a3, a4, a5⟩ := box6 HR.out
      go_wp2_with fail
      refine (has_lit (fStr 4) 78 78 rfl hfs _).mono ?_
      rintro e w' ⟨rfl, rfl⟩
      rw [show hasB (fStr 4) 78 = false from rfl]
      clear a0 a1 a2 a3 a4 a5
      obtain ⟨a0, a1, a2, a3, a4, a5⟩ := box6 HR.out
      go_wp2_with fail
      refine (has_lit (fStr 4) 68 68 rfl hfs _).mono ?_
      rintro e w' ⟨rfl, rfl⟩
      rw [show hasB (fStr 4) 68 = true from rfl]
      clear a0 a1 a2 a3 a4 a5
      by_cases hD : dig.size = 32
      · have d : ((dig.size : Int) != 32) = false := by rw [hD]; rfl
        have HhD := Lib.hid (decide_eq_true hD)
        by_cases hL1 : nl ≤ 2000
        · have d1 : decide ((2000 : Int) < nl) = false := decide_eq_false (by omega)
          have HhL1 := Lib.hid (decide_eq_true hL1)
          obtain ⟨a0, a1, a2, a3, a4, a5⟩ := box6 HR.out
          go_wp2_with fail
          refine (has_lit (fStr 4) 83 83 rfl hfs _).mono ?_
          rintro e w' ⟨rfl, rfl⟩
          rw [show hasB (fStr 4) 83 = false from rfl]
          clear a0 a1 a2 a3 a4 a5
          obtain ⟨a0, a1, a2, a3, a4, a5⟩ := box6 HR.out
          have hgo : ∀ i : Nat, i < nl → ∃ b off, al = some ⟨b, off, none⟩ ∧ v0.cell? ⟨b, off + i, none⟩ = some (.int .i64 (zs.getD i 0)) := fun i hi => by
            obtain ⟨b, off, ha, hc⟩ := (HI.out.list.kept HK.out).cell (by omega)
            exact ⟨b, off, ha, hc i hi _ (Kept.refl _)⟩
          have HGO := Lib.hid hgo
          clear hgo
          have hgs : ∀ i : Nat, i < nz → ∃ b off, az = some ⟨b, off, none⟩ ∧ v0.cell? ⟨b, off + i * 2, none⟩ = some (.int .i64 (ys.getD i (0, 0)).1) ∧ v0.cell? ⟨b, off + i * 2 + 1, none⟩ = some (.int .i64 (ys.getD i (0, 0)).2) := fun i hi => by
            obtain ⟨b, off, ha, hc⟩ := (HI.out.slots.kept HK.out).cell (by omega)
            exact ⟨b, off, ha, hc i hi _ (Kept.refl _)⟩
          have HGS := Lib.hid hgs
          clear hgs
          go_upto_region 18 with (fail)
          go_loop [5] (fun i => ∃ k : Nat, k ≤ nl ∧ i = .int .i64 k ∧ (zs.take k).all Rc.gen = true) (fun i => nl - (intOf i).toNat)
          case atStart => exact ⟨0, by omega, rfl, rfl⟩
          case round =>
            obtain ⟨k, hk, rfl, hal⟩ := hrel
            have HAL := Lib.hid hal
            clear hal
            by_cases hlt : k < nl
            · obtain ⟨b, off, rfl, hc⟩ := HGO.out k hlt
              have HS := Lib.hid (all_snoc zs Rc.gen k 0 (by have := HNL.out; omega))
              have HAT := Lib.hid (all_at zs Rc.gen k 0 (by have := HNL.out; omega))
              generalize zs.getD k 0 = x at *
              go_wp2_with fail
              refine (num_any x 1073741824 _).mono ?_
              rintro e w' ⟨rfl, rfl⟩
              rw [show Rc.within x 0 1073741824 = Rc.gen x from rfl]
              cases hgx : Rc.gen x with
              | true =>
                have HGX := Lib.hid hgx
                clear hgx
                go_wp2
                go_round
                case rel => exact ⟨k + 1, by omega, by go_num, by rw [HS.out, HAL.out, HGX.out]; rfl⟩
                case measure => simp [intOf]; omega
              | false =>
                have HLA := Lib.hid (HAT.out hgx)
                clear hgx
                have hv : M = false := by rw [HSP.out, HLA.out]; simp
                have HV := Lib.hid hv
                clear hv
                go_wp2
                go_ret
                exact ⟨by rw [HV.out]; rfl, HK.out⟩
            · obtain rfl : nl = k := by omega
              have HLA := Lib.hid (show zs.all Rc.gen = true by rw [← HAL.out, List.take_of_length_le (Nat.le_of_eq HNL.out)])
              go_upto_region 23 with (fail)
              go_loop [6] (fun i => ∃ k : Nat, k ≤ nz ∧ i = .int .i64 k ∧ (ys.take k).all Rc.slotB = true) (fun i => nz - (intOf i).toNat)
              case atStart => exact ⟨0, by omega, rfl, rfl⟩
              case round =>
                obtain ⟨k, hk, rfl, hal⟩ := hrel
                have HAL := Lib.hid hal
                clear hal
                by_cases hlt2 : k < nz
                · obtain ⟨b, off, rfl, c0, c1⟩ := HGS.out k hlt2
                  have HS := Lib.hid (all_snoc ys Rc.slotB k (0, 0) (by have := HNZ.out; omega))
                  have HAT := Lib.hid (all_at ys Rc.slotB k (0, 0) (by have := HNZ.out; omega))
                  generalize ys.getD k (0, 0) = x at *
                  obtain ⟨d, p⟩ := x
                  have HSB := Lib.hid (show Rc.slotB (d, p) = (Rc.within d (-1) 11 && Rc.within p 0 63) from rfl)
                  dsimp only at c0 c1
                  go_wp2_with fail
                  refine (between_any d (-1) 11 _).mono ?_
                  rintro e w' ⟨rfl, rfl⟩
                  cases h1 : Rc.within d (-1) 11 with
                  | false =>
                    have HLS := Lib.hid (HAT.out (show Rc.slotB (d, p) = false by rw [HSB.out, h1]; rfl))
                    clear h1
                    have hv : M = false := by rw [HSP.out, HLS.out]; simp
                    have HV := Lib.hid hv
                    clear hv
                    go_wp2
                    go_ret
                    exact ⟨by rw [HV.out]; rfl, HK.out⟩
                  | true =>
                    have HV1 := Lib.hid (show Rc.slotB (d, p) = Rc.within p 0 63 by rw [HSB.out, h1]; rfl)
                    clear h1
                    go_wp2_with fail
                    refine (num_any p 63 _).mono ?_
                    rintro e w' ⟨rfl, rfl⟩
                    cases h2 : Rc.within p 0 63 with
                    | false =>
                      have HLS := Lib.hid (HAT.out (HV1.out.trans h2))
                      clear h2
                      have hv : M = false := by rw [HSP.out, HLS.out]; simp
                      have HV := Lib.hid hv
                      clear hv
                      go_wp2
                      go_ret
                      exact ⟨by rw [HV.out]; rfl, HK.out⟩
                    | true =>
                      have HT := Lib.hid (HV1.out.trans h2)
                      clear h2
                      go_wp2
                      go_round
                      case rel => exact ⟨k + 1, by omega, by go_num, by rw [HS.out, HAL.out, HT.out]; rfl⟩
                      case measure => simp [intOf]; omega
                · obtain rfl : nz = k := by omega
                  have HLS := Lib.hid (show ys.all Rc.slotB = true by rw [← HAL.out, List.take_of_length_le (Nat.le_of_eq HNZ.out)])
                  have hv : M = true := by rw [HSP.out, HhG.out, HhD.out, HhL1.out, HLA.out, HLS.out]; simp
                  have HV := Lib.hid hv
                  clear hv
                  go_wp2
                  go_ret
                  exact ⟨by rw [HV.out]; rfl, HK.out⟩
        · have d1 : decide ((2000 : Int) < nl) = true := decide_eq_true (by omega)
          have HhL1 := Lib.hid (decide_eq_false hL1)
          obtain ⟨a0, a1, a2, a3, a4, a5⟩ := box6 HR.out
          have hv : M = false := by rw [HSP.out, HhL1.out]; simp
          have HV := Lib.hid hv
          clear hv
          go_wp2
          go_ret
          exact ⟨by rw [HV.out]; rfl, HK.out⟩
      · have d : ((dig.size : Int) != 32) = true := by rw [bne_iff_ne]; omega
        have HhD := Lib.hid (decide_eq_false hD)
        obtain ⟨a0, a1, a2, a3, a4, a5⟩ := box6 HR.out
        have hv : M = false := by rw [HSP.out, HhD.out]; simp
        have HV := Lib.hid hv
        clear hv
        go_wp2
        go_ret
        exact ⟨by rw [HV.out]; rfl, HK.out⟩
set_option maxRecDepth 100000 in
set_option maxHeartbeats 2000000 in
theorem rrec_5 (id : Int) (name dig : ByteArray) (al : Option Addr) (nl cl : Nat) (az : Option Addr) (nz cz : Nat) (zs : List Int) (ys : List (Int × Int)) (w : World) (h : RecIn w ⟨5, id, name, dig, zs, ys⟩ al nl az nz) :
    Calls Try.prog 15 #[.agg #[.int .i64 5, .int .i64 id, .string name, .string dig, .slice al nl cl, .slice az nz cz]] w fun e w' => e = .returned (.bool (Rec.may ⟨5, id, name, dig, zs, ys⟩)) ∧ Kept w w' := by
  obtain ⟨M, hM⟩ : ∃ M : Bool, M = Rec.may ⟨5, id, name, dig, zs, ys⟩ := ⟨_, rfl⟩
  rw [← hM]
  have hsp := may_split ⟨5, id, name, dig, zs, ys⟩ rfl
  rw [← hM] at hsp
  dsimp only at hsp
  rw [show Rc.fN 5 = false from rfl, show Rc.fD 5 = true from rfl, show Rc.fS 5 = false from rfl, h.list.len_eq, h.slots.len_eq] at hsp
  have HSP := Lib.hid hsp
  have HI := Lib.hid h
  have HNL := Lib.hid (show zs.length = nl from h.list.len_eq)
  have HNZ := Lib.hid (show ys.length = nz from h.slots.len_eq)
  have hlen := h.list.le
  have hlez := h.slots.le
  clear hM hsp h
  go_enter Try.func15, Try.ntmps15
  have hbr0 := BlockAt.new w #[.int .i64 5, .int .i64 id, .string name, .string dig, .slice al nl cl, .slice az nz cz] 31
  have hk0 := (Kept.refl w).alloc (.cells #[.int .i64 5, .int .i64 id, .string name, .string dig, .slice al nl cl, .slice az nz cz] 31)
  go_wp2_with fail
  generalize w.alloc (.cells #[.int .i64 5, .int .i64 id, .string name, .string dig, .slice al nl cl, .slice az nz cz] 31) = w1 at *
  refine (between_any 5 1 8 _).mono ?_
  rintro e w' ⟨rfl, rfl⟩
  rw [show Rc.within 5 1 8 = true from rfl]
  obtain ⟨a0, a1, a2, a3, a4, a5⟩ := box6 hbr0
  go_wp2_with fail
  refine (fields_any 5 (by omega) _).mono ?_
  rintro e w2 ⟨rfl, hk2⟩
  have HBR := Lib.hid (hbr0.kept hk2)
  have HK := Lib.hid (hk0.trans hk2)
  clear hbr0 hk0 hk2 a0 a1 a2 a3 a4 a5
  obtain ⟨a0, a1, a2, a3, a4, a5⟩ := box6 HBR.out
  go_upto_region 5 with (fail)
  have HW0 := Lib.hid (BlockAt.new w2 #[.int .i64 5, .int .i64 0, .string ⟨#[]⟩, .string ⟨#[]⟩, .slice none 0 0, .slice none 0 0] 31)
  have HR0 := Lib.hid (HBR.out.kept ((Kept.refl w2).alloc (.cells #[.int .i64 5, .int .i64 0, .string ⟨#[]⟩, .string ⟨#[]⟩, .slice none 0 0, .slice none 0 0] 31)))
  have HK0 := Lib.hid (HK.out.alloc (.cells #[.int .i64 5, .int .i64 0, .string ⟨#[]⟩, .string ⟨#[]⟩, .slice none 0 0, .slice none 0 0] 31))
  have hwb := HK.out.size
  have hrb : w.heap.size < w2.heap.size := HBR.out.lt
  clear HBR HK a0 a1 a2 a3 a4 a5
  generalize w2.alloc (.cells #[.int .i64 5, .int .i64 0, .string ⟨#[]⟩, .string ⟨#[]⟩, .slice none 0 0, .slice none 0 0] 31) = u0 at *
  generalize w2.heap.size = wb at *
  have hfs : (fStr 5).size ≤ 9223372036854775807 := by rw [show (fStr 5).size = 3 from rfl]; omega
  go_wp2_with fail
  refine (has_lit (fStr 5) 73 73 rfl hfs _).mono ?_
  rintro e w' ⟨rfl, rfl⟩
  rw [show hasB (fStr 5) 73 = true from rfl]
  obtain ⟨a0, a1, a2, a3, a4, a5⟩ := box6 HR0.out
  obtain ⟨b0, b1, b2, b3, b4, b5⟩ := box6 HW0.out
  have fz := HW0.out.free 1
  go_upto_region 7 with (fail)
  have HW1 := Lib.hid (show BlockAt (u0.setCell ⟨wb, 1, none⟩ (.int .i64 id)) wb #[.int .i64 5, .int .i64 id, .string ⟨#[]⟩, .string ⟨#[]⟩, .slice none 0 0, .slice none 0 0] 31 from HW0.out.set (.int .i64 id))
  have HR1 := Lib.hid (HR0.out.setOther (g' := wb) (i := 1) (.int .i64 id) (by omega))
  have HK1 := Lib.hid (HK0.out.setCell (p := ⟨wb, 1, none⟩) (by show w.heap.size ≤ wb; omega) (.int .i64 id))
  clear a0 a1 a2 a3 a4 a5 b0 b1 b2 b3 b4 b5 fz HW0 HR0 HK0
  generalize u0.setCell ⟨wb, 1, none⟩ (.int .i64 id) = u1 at *
  go_wp2_with fail
  refine (has_lit (fStr 5) 78 78 rfl hfs _).mono ?_
  rintro e w' ⟨rfl, rfl⟩
  rw [show hasB (fStr 5) 78 = false from rfl]
  go_wp2_with fail
  refine (has_lit (fStr 5) 68 68 rfl hfs _).mono ?_
  rintro e w' ⟨rfl, rfl⟩
  rw [show hasB (fStr 5) 68 = true from rfl]
  obtain ⟨a0, a1, a2, a3, a4, a5⟩ := box6 HR1.out
  obtain ⟨b0, b1, b2, b3, b4, b5⟩ := box6 HW1.out
  have fz := HW1.out.free 3
  go_upto_region 11 with (fail)
  have HW2 := Lib.hid (show BlockAt (u1.setCell ⟨wb, 3, none⟩ (.string dig)) wb #[.int .i64 5, .int .i64 id, .string ⟨#[]⟩, .string dig, .slice none 0 0, .slice none 0 0] 31 from HW1.out.set (.string dig))
  have HR2 := Lib.hid (HR1.out.setOther (g' := wb) (i := 3) (.string dig) (by omega))
  have HK2 := Lib.hid (HK1.out.setCell (p := ⟨wb, 3, none⟩) (by show w.heap.size ≤ wb; omega) (.string dig))
  clear a0 a1 a2 a3 a4 a5 b0 b1 b2 b3 b4 b5 fz HW1 HR1 HK1
  generalize u1.setCell ⟨wb, 3, none⟩ (.string dig) = u2 at *
  go_wp2_with fail
  refine (has_lit (fStr 5) 76 76 rfl hfs _).mono ?_
  rintro e w' ⟨rfl, rfl⟩
  rw [show hasB (fStr 5) 76 = true from rfl]
  obtain ⟨a0, a1, a2, a3, a4, a5⟩ := box6 HR2.out
  obtain ⟨b0, b1, b2, b3, b4, b5⟩ := box6 HW2.out
  have fz := HW2.out.free 4
  go_upto_region 13 with (fail)
  have HW3 := Lib.hid (show BlockAt (u2.setCell ⟨wb, 4, none⟩ (.slice al nl cl)) wb #[.int .i64 5, .int .i64 id, .string ⟨#[]⟩, .string dig, .slice al nl cl, .slice none 0 0] 31 from HW2.out.set (.slice al nl cl))
  have HR3 := Lib.hid (HR2.out.setOther (g' := wb) (i := 4) (.slice al nl cl) (by omega))
  have HK3 := Lib.hid (HK2.out.setCell (p := ⟨wb, 4, none⟩) (by show w.heap.size ≤ wb; omega) (.slice al nl cl))
  clear a0 a1 a2 a3 a4 a5 b0 b1 b2 b3 b4 b5 fz HW2 HR2 HK2
  generalize u2.setCell ⟨wb, 4, none⟩ (.slice al nl cl) = u3 at *
  go_wp2_with fail
  refine (has_lit (fStr 5) 83 83 rfl hfs _).mono ?_
  rintro e w' ⟨rfl, rfl⟩
  rw [show hasB (fStr 5) 83 = false from rfl]
  obtain ⟨a0, a1, a2, a3, a4, a5⟩ := box6 HR3.out
  obtain ⟨b0, b1, b2, b3, b4, b5⟩ := box6 HW3.out
  have hwant : RecIn u3 (Rec.want ⟨5, id, name, dig, zs, ys⟩) al nl none 0 := by
    have hI := HI.out.kept HK3.out
    exact ⟨hI.list, SlotsIn.nil _ _, hI.kind, hI.id, Nat.zero_le _, hI.dig⟩
  have HQ := Lib.hid (fun w' (h : Kept u3 w') => eq_record ⟨5, id, name, dig, zs, ys⟩ (Rec.want ⟨5, id, name, dig, zs, ys⟩) al nl cl az nz cz al nl cl none 0 0 w' ((HI.out.kept HK3.out).kept h) (hwant.kept h))
  clear hwant
  go_wp2_with fail
  refine (HQ.out _ (Kept.refl _)).mono ?_
  rintro e v0 ⟨rfl, hv0⟩
  have HR := Lib.hid (HR3.out.kept hv0)
  have HK := Lib.hid (HK3.out.trans hv0)
  clear hv0 a0 a1 a2 a3 a4 a5 b0 b1 b2 b3 b4 b5 HR3 HW3 HK3 HQ
  generalize Rec.eqB ⟨5, id, name, dig, zs, ys⟩ (Rec.want ⟨5, id, name, dig, zs, ys⟩) = E at *
  cases E with
  | false =>
    obtain ⟨a0, a1, a2, a3, a4, a5⟩ := box6 HR.out
    have hv : M = false := by rw [HSP.out]; simp
    have HV := Lib.hid hv
    clear hv
    go_wp2
    go_ret
    exact ⟨by rw [HV.out]; rfl, HK.out⟩
  | true =>
    obtain ⟨a0, a1, a2, a3, a4, a5⟩ := box6 HR.out
    go_wp2_with fail
    refine (num_any id 1073741824 _).mono ?_
    rintro e w' ⟨rfl, rfl⟩
    clear a0 a1 a2 a3 a4 a5
    cases hG : Rc.within id 0 1073741824 with
    | false =>
      have HhG := Lib.hid (show Rc.gen id = false from hG)
      clear hG
      obtain ⟨a0, a1, a2, a3, a4, a5⟩ := box6 HR.out
      have hv : M = false := by rw [HSP.out, HhG.out]; simp
      have HV := Lib.hid hv
      clear hv
      go_wp2
      go_ret
      exact ⟨by rw [HV.out]; rfl, HK.out⟩
    | true =>
      have HhG := Lib.hid (show Rc.gen id = true from hG)
      clear hG
      obtain ⟨a0, a1, a2, a3, a4, a5⟩ := box6 HR.out
      go_wp2_with fail
      refine (has_lit (fStr 5) 78 78 rfl hfs _).mono ?_
      rintro e w' ⟨rfl, rfl⟩
      rw [show hasB (fStr 5) 78 = false from rfl]
      clear a0 a1 a2 a3 a4 a5
      obtain ⟨a0, a1, a2, a3, a4, a5⟩ := box6 HR.out
      go_wp2_with fail
      refine (has_lit (fStr 5) 68 68 rfl hfs _).mono ?_
      rintro e w' ⟨rfl, rfl⟩
      rw [show hasB (fStr 5) 68 = true from rfl]
      clear a0 a1 a2 a3 a4 a5
      by_cases hD : dig.size = 32
      · have d : ((dig.size : Int) != 32) = false := by rw [hD]; rfl
        have HhD := Lib.hid (decide_eq_true hD)
        by_cases hL1 : nl ≤ 2000
        · have d1 : decide ((2000 : Int) < nl) = false := decide_eq_false (by omega)
          have HhL1 := Lib.hid (decide_eq_true hL1)
          obtain ⟨a0, a1, a2, a3, a4, a5⟩ := box6 HR.out
          go_wp2_with fail
          refine (has_lit (fStr 5) 83 83 rfl hfs _).mono ?_
          rintro e w' ⟨rfl, rfl⟩
          rw [show hasB (fStr 5) 83 = false from rfl]
          clear a0 a1 a2 a3 a4 a5
          obtain ⟨a0, a1, a2, a3, a4, a5⟩ := box6 HR.out
          have hgo : ∀ i : Nat, i < nl → ∃ b off, al = some ⟨b, off, none⟩ ∧ v0.cell? ⟨b, off + i, none⟩ = some (.int .i64 (zs.getD i 0)) := fun i hi => by
            obtain ⟨b, off, ha, hc⟩ := (HI.out.list.kept HK.out).cell (by omega)
            exact ⟨b, off, ha, hc i hi _ (Kept.refl _)⟩
          have HGO := Lib.hid hgo
          clear hgo
          have hgs : ∀ i : Nat, i < nz → ∃ b off, az = some ⟨b, off, none⟩ ∧ v0.cell? ⟨b, off + i * 2, none⟩ = some (.int .i64 (ys.getD i (0, 0)).1) ∧ v0.cell? ⟨b, off + i * 2 + 1, none⟩ = some (.int .i64 (ys.getD i (0, 0)).2) := fun i hi => by
            obtain ⟨b, off, ha, hc⟩ := (HI.out.slots.kept HK.out).cell (by omega)
            exact ⟨b, off, ha, hc i hi _ (Kept.refl _)⟩
          have HGS := Lib.hid hgs
          clear hgs
          go_upto_region 18 with (fail)
          go_loop [5] (fun i => ∃ k : Nat, k ≤ nl ∧ i = .int .i64 k ∧ (zs.take k).all Rc.gen = true) (fun i => nl - (intOf i).toNat)
          case atStart => exact ⟨0, by omega, rfl, rfl⟩
          case round =>
            obtain ⟨k, hk, rfl, hal⟩ := hrel
            have HAL := Lib.hid hal
            clear hal
            by_cases hlt : k < nl
            · obtain ⟨b, off, rfl, hc⟩ := HGO.out k hlt
              have HS := Lib.hid (all_snoc zs Rc.gen k 0 (by have := HNL.out; omega))
              have HAT := Lib.hid (all_at zs Rc.gen k 0 (by have := HNL.out; omega))
              generalize zs.getD k 0 = x at *
              go_wp2_with fail
              refine (num_any x 1073741824 _).mono ?_
              rintro e w' ⟨rfl, rfl⟩
              rw [show Rc.within x 0 1073741824 = Rc.gen x from rfl]
              cases hgx : Rc.gen x with
              | true =>
                have HGX := Lib.hid hgx
                clear hgx
                go_wp2
                go_round
                case rel => exact ⟨k + 1, by omega, by go_num, by rw [HS.out, HAL.out, HGX.out]; rfl⟩
                case measure => simp [intOf]; omega
              | false =>
                have HLA := Lib.hid (HAT.out hgx)
                clear hgx
                have hv : M = false := by rw [HSP.out, HLA.out]; simp
                have HV := Lib.hid hv
                clear hv
                go_wp2
                go_ret
                exact ⟨by rw [HV.out]; rfl, HK.out⟩
            · obtain rfl : nl = k := by omega
              have HLA := Lib.hid (show zs.all Rc.gen = true by rw [← HAL.out, List.take_of_length_le (Nat.le_of_eq HNL.out)])
              go_upto_region 23 with (fail)
              go_loop [6] (fun i => ∃ k : Nat, k ≤ nz ∧ i = .int .i64 k ∧ (ys.take k).all Rc.slotB = true) (fun i => nz - (intOf i).toNat)
              case atStart => exact ⟨0, by omega, rfl, rfl⟩
              case round =>
                obtain ⟨k, hk, rfl, hal⟩ := hrel
                have HAL := Lib.hid hal
                clear hal
                by_cases hlt2 : k < nz
                · obtain ⟨b, off, rfl, c0, c1⟩ := HGS.out k hlt2
                  have HS := Lib.hid (all_snoc ys Rc.slotB k (0, 0) (by have := HNZ.out; omega))
                  have HAT := Lib.hid (all_at ys Rc.slotB k (0, 0) (by have := HNZ.out; omega))
                  generalize ys.getD k (0, 0) = x at *
                  obtain ⟨d, p⟩ := x
                  have HSB := Lib.hid (show Rc.slotB (d, p) = (Rc.within d (-1) 11 && Rc.within p 0 63) from rfl)
                  dsimp only at c0 c1
                  go_wp2_with fail
                  refine (between_any d (-1) 11 _).mono ?_
                  rintro e w' ⟨rfl, rfl⟩
                  cases h1 : Rc.within d (-1) 11 with
                  | false =>
                    have HLS := Lib.hid (HAT.out (show Rc.slotB (d, p) = false by rw [HSB.out, h1]; rfl))
                    clear h1
                    have hv : M = false := by rw [HSP.out, HLS.out]; simp
                    have HV := Lib.hid hv
                    clear hv
                    go_wp2
                    go_ret
                    exact ⟨by rw [HV.out]; rfl, HK.out⟩
                  | true =>
                    have HV1 := Lib.hid (show Rc.slotB (d, p) = Rc.within p 0 63 by rw [HSB.out, h1]; rfl)
                    clear h1
                    go_wp2_with fail
                    refine (num_any p 63 _).mono ?_
                    rintro e w' ⟨rfl, rfl⟩
                    cases h2 : Rc.within p 0 63 with
                    | false =>
                      have HLS := Lib.hid (HAT.out (HV1.out.trans h2))
                      clear h2
                      have hv : M = false := by rw [HSP.out, HLS.out]; simp
                      have HV := Lib.hid hv
                      clear hv
                      go_wp2
                      go_ret
                      exact ⟨by rw [HV.out]; rfl, HK.out⟩
                    | true =>
                      have HT := Lib.hid (HV1.out.trans h2)
                      clear h2
                      go_wp2
                      go_round
                      case rel => exact ⟨k + 1, by omega, by go_num, by rw [HS.out, HAL.out, HT.out]; rfl⟩
                      case measure => simp [intOf]; omega
                · obtain rfl : nz = k := by omega
                  have HLS := Lib.hid (show ys.all Rc.slotB = true by rw [← HAL.out, List.take_of_length_le (Nat.le_of_eq HNZ.out)])
                  have hv : M = true := by rw [HSP.out, HhG.out, HhD.out, HhL1.out, HLA.out, HLS.out]; simp
                  have HV := Lib.hid hv
                  clear hv
                  go_wp2
                  go_ret
                  exact ⟨by rw [HV.out]; rfl, HK.out⟩
        · have d1 : decide ((2000 : Int) < nl) = true := decide_eq_true (by omega)
          have HhL1 := Lib.hid (decide_eq_false hL1)
          obtain ⟨a0, a1, a2, a3, a4, a5⟩ := box6 HR.out
          have hv : M = false := by rw [HSP.out, HhL1.out]; simp
          have HV := Lib.hid hv
          clear hv
          go_wp2
          go_ret
          exact ⟨by rw [HV.out]; rfl, HK.out⟩
      · have d : ((dig.size : Int) != 32) = true := by rw [bne_iff_ne]; omega
        have HhD := Lib.hid (decide_eq_false hD)
        obtain ⟨a0, a1, a2, a3, a4, a5⟩ := box6 HR.out
        have hv : M = false := by rw [HSP.out, HhD.out]; simp
        have HV := Lib.hid hv
        clear hv
        go_wp2
        go_ret
        exact ⟨by rw [HV.out]; rfl, HK.out⟩
set_option maxRecDepth 100000 in
set_option maxHeartbeats 2000000 in
theorem rrec_6 (id : Int) (name dig : ByteArray) (al : Option Addr) (nl cl : Nat) (az : Option Addr) (nz cz : Nat) (zs : List Int) (ys : List (Int × Int)) (w : World) (h : RecIn w ⟨6, id, name, dig, zs, ys⟩ al nl az nz) :
    Calls Try.prog 15 #[.agg #[.int .i64 6, .int .i64 id, .string name, .string dig, .slice al nl cl, .slice az nz cz]] w fun e w' => e = .returned (.bool (Rec.may ⟨6, id, name, dig, zs, ys⟩)) ∧ Kept w w' := by
  obtain ⟨M, hM⟩ : ∃ M : Bool, M = Rec.may ⟨6, id, name, dig, zs, ys⟩ := ⟨_, rfl⟩
  rw [← hM]
  have hsp := may_split ⟨6, id, name, dig, zs, ys⟩ rfl
  rw [← hM] at hsp
  dsimp only at hsp
  rw [show Rc.fN 6 = false from rfl, show Rc.fD 6 = true from rfl, show Rc.fS 6 = false from rfl, h.list.len_eq, h.slots.len_eq] at hsp
  have HSP := Lib.hid hsp
  have HI := Lib.hid h
  have HNL := Lib.hid (show zs.length = nl from h.list.len_eq)
  have HNZ := Lib.hid (show ys.length = nz from h.slots.len_eq)
  have hlen := h.list.le
  have hlez := h.slots.le
  clear hM hsp h
  go_enter Try.func15, Try.ntmps15
  have hbr0 := BlockAt.new w #[.int .i64 6, .int .i64 id, .string name, .string dig, .slice al nl cl, .slice az nz cz] 31
  have hk0 := (Kept.refl w).alloc (.cells #[.int .i64 6, .int .i64 id, .string name, .string dig, .slice al nl cl, .slice az nz cz] 31)
  go_wp2_with fail
  generalize w.alloc (.cells #[.int .i64 6, .int .i64 id, .string name, .string dig, .slice al nl cl, .slice az nz cz] 31) = w1 at *
  refine (between_any 6 1 8 _).mono ?_
  rintro e w' ⟨rfl, rfl⟩
  rw [show Rc.within 6 1 8 = true from rfl]
  obtain ⟨a0, a1, a2, a3, a4, a5⟩ := box6 hbr0
  go_wp2_with fail
  refine (fields_any 6 (by omega) _).mono ?_
  rintro e w2 ⟨rfl, hk2⟩
  have HBR := Lib.hid (hbr0.kept hk2)
  have HK := Lib.hid (hk0.trans hk2)
  clear hbr0 hk0 hk2 a0 a1 a2 a3 a4 a5
  obtain ⟨a0, a1, a2, a3, a4, a5⟩ := box6 HBR.out
  go_upto_region 5 with (fail)
  have HW0 := Lib.hid (BlockAt.new w2 #[.int .i64 6, .int .i64 0, .string ⟨#[]⟩, .string ⟨#[]⟩, .slice none 0 0, .slice none 0 0] 31)
  have HR0 := Lib.hid (HBR.out.kept ((Kept.refl w2).alloc (.cells #[.int .i64 6, .int .i64 0, .string ⟨#[]⟩, .string ⟨#[]⟩, .slice none 0 0, .slice none 0 0] 31)))
  have HK0 := Lib.hid (HK.out.alloc (.cells #[.int .i64 6, .int .i64 0, .string ⟨#[]⟩, .string ⟨#[]⟩, .slice none 0 0, .slice none 0 0] 31))
  have hwb := HK.out.size
  have hrb : w.heap.size < w2.heap.size := HBR.out.lt
  clear HBR HK a0 a1 a2 a3 a4 a5
  generalize w2.alloc (.cells #[.int .i64 6, .int .i64 0, .string ⟨#[]⟩, .string ⟨#[]⟩, .slice none 0 0, .slice none 0 0] 31) = u0 at *
  generalize w2.heap.size = wb at *
  have hfs : (fStr 6).size ≤ 9223372036854775807 := by rw [show (fStr 6).size = 1 from rfl]; omega
  go_wp2_with fail
  refine (has_lit (fStr 6) 73 73 rfl hfs _).mono ?_
  rintro e w' ⟨rfl, rfl⟩
  rw [show hasB (fStr 6) 73 = false from rfl]
  go_wp2_with fail
  refine (has_lit (fStr 6) 78 78 rfl hfs _).mono ?_
  rintro e w' ⟨rfl, rfl⟩
  rw [show hasB (fStr 6) 78 = false from rfl]
  go_wp2_with fail
  refine (has_lit (fStr 6) 68 68 rfl hfs _).mono ?_
  rintro e w' ⟨rfl, rfl⟩
  rw [show hasB (fStr 6) 68 = true from rfl]
  obtain ⟨a0, a1, a2, a3, a4, a5⟩ := box6 HR0.out
  obtain ⟨b0, b1, b2, b3, b4, b5⟩ := box6 HW0.out
  have fz := HW0.out.free 3
  go_upto_region 11 with (fail)
  have HW1 := Lib.hid (show BlockAt (u0.setCell ⟨wb, 3, none⟩ (.string dig)) wb #[.int .i64 6, .int .i64 0, .string ⟨#[]⟩, .string dig, .slice none 0 0, .slice none 0 0] 31 from HW0.out.set (.string dig))
  have HR1 := Lib.hid (HR0.out.setOther (g' := wb) (i := 3) (.string dig) (by omega))
  have HK1 := Lib.hid (HK0.out.setCell (p := ⟨wb, 3, none⟩) (by show w.heap.size ≤ wb; omega) (.string dig))
  clear a0 a1 a2 a3 a4 a5 b0 b1 b2 b3 b4 b5 fz HW0 HR0 HK0
  generalize u0.setCell ⟨wb, 3, none⟩ (.string dig) = u1 at *
  go_wp2_with fail
  refine (has_lit (fStr 6) 76 76 rfl hfs _).mono ?_
  rintro e w' ⟨rfl, rfl⟩
  rw [show hasB (fStr 6) 76 = false from rfl]
  go_wp2_with fail
  refine (has_lit (fStr 6) 83 83 rfl hfs _).mono ?_
  rintro e w' ⟨rfl, rfl⟩
  rw [show hasB (fStr 6) 83 = false from rfl]
  obtain ⟨a0, a1, a2, a3, a4, a5⟩ := box6 HR1.out
  obtain ⟨b0, b1, b2, b3, b4, b5⟩ := box6 HW1.out
  have hwant : RecIn u1 (Rec.want ⟨6, id, name, dig, zs, ys⟩) none 0 none 0 := by
    have hI := HI.out.kept HK1.out
    exact ⟨IntsIn.nil _ _ _, SlotsIn.nil _ _, hI.kind, by show -9223372036854775808 ≤ (0 : Int) ∧ (0 : Int) ≤ 9223372036854775807; omega, Nat.zero_le _, hI.dig⟩
  have HQ := Lib.hid (fun w' (h : Kept u1 w') => eq_record ⟨6, id, name, dig, zs, ys⟩ (Rec.want ⟨6, id, name, dig, zs, ys⟩) al nl cl az nz cz none 0 0 none 0 0 w' ((HI.out.kept HK1.out).kept h) (hwant.kept h))
  clear hwant
  go_wp2_with fail
  refine (HQ.out _ (Kept.refl _)).mono ?_
  rintro e v0 ⟨rfl, hv0⟩
  have HR := Lib.hid (HR1.out.kept hv0)
  have HK := Lib.hid (HK1.out.trans hv0)
  clear hv0 a0 a1 a2 a3 a4 a5 b0 b1 b2 b3 b4 b5 HR1 HW1 HK1 HQ
  generalize Rec.eqB ⟨6, id, name, dig, zs, ys⟩ (Rec.want ⟨6, id, name, dig, zs, ys⟩) = E at *
  cases E with
  | false =>
    obtain ⟨a0, a1, a2, a3, a4, a5⟩ := box6 HR.out
    have hv : M = false := by rw [HSP.out]; simp
    have HV := Lib.hid hv
    clear hv
    go_wp2
    go_ret
    exact ⟨by rw [HV.out]; rfl, HK.out⟩
  | true =>
    obtain ⟨a0, a1, a2, a3, a4, a5⟩ := box6 HR.out
    go_wp2_with fail
    refine (num_any id 1073741824 _).mono ?_
    rintro e w' ⟨rfl, rfl⟩
    clear a0 a1 a2 a3 a4 a5
    cases hG : Rc.within id 0 1073741824 with
    | false =>
      have HhG := Lib.hid (show Rc.gen id = false from hG)
      clear hG
      obtain ⟨a0, a1, a2, a3, a4, a5⟩ := box6 HR.out
      have hv : M = false := by rw [HSP.out, HhG.out]; simp
      have HV := Lib.hid hv
      clear hv
      go_wp2
      go_ret
      exact ⟨by rw [HV.out]; rfl, HK.out⟩
    | true =>
      have HhG := Lib.hid (show Rc.gen id = true from hG)
      clear hG
      obtain ⟨a0, a1, a2, a3, a4, a5⟩ := box6 HR.out
      go_wp2_with fail
      refine (has_lit (fStr 6) 78 78 rfl hfs _).mono ?_
      rintro e w' ⟨rfl, rfl⟩
      rw [show hasB (fStr 6) 78 = false from rfl]
      clear a0 a1 a2 a3 a4 a5
      obtain ⟨a0, a1, a2, a3, a4, a5⟩ := box6 HR.out
      go_wp2_with fail
      refine (has_lit (fStr 6) 68 68 rfl hfs _).mono ?_
      rintro e w' ⟨rfl, rfl⟩
      rw [show hasB (fStr 6) 68 = true from rfl]
      clear a0 a1 a2 a3 a4 a5
      by_cases hD : dig.size = 32
      · have d : ((dig.size : Int) != 32) = false := by rw [hD]; rfl
        have HhD := Lib.hid (decide_eq_true hD)
        by_cases hL1 : nl ≤ 2000
        · have d1 : decide ((2000 : Int) < nl) = false := decide_eq_false (by omega)
          have HhL1 := Lib.hid (decide_eq_true hL1)
          obtain ⟨a0, a1, a2, a3, a4, a5⟩ := box6 HR.out
          go_wp2_with fail
          refine (has_lit (fStr 6) 83 83 rfl hfs _).mono ?_
          rintro e w' ⟨rfl, rfl⟩
          rw [show hasB (fStr 6) 83 = false from rfl]
          clear a0 a1 a2 a3 a4 a5
          obtain ⟨a0, a1, a2, a3, a4, a5⟩ := box6 HR.out
          have hgo : ∀ i : Nat, i < nl → ∃ b off, al = some ⟨b, off, none⟩ ∧ v0.cell? ⟨b, off + i, none⟩ = some (.int .i64 (zs.getD i 0)) := fun i hi => by
            obtain ⟨b, off, ha, hc⟩ := (HI.out.list.kept HK.out).cell (by omega)
            exact ⟨b, off, ha, hc i hi _ (Kept.refl _)⟩
          have HGO := Lib.hid hgo
          clear hgo
          have hgs : ∀ i : Nat, i < nz → ∃ b off, az = some ⟨b, off, none⟩ ∧ v0.cell? ⟨b, off + i * 2, none⟩ = some (.int .i64 (ys.getD i (0, 0)).1) ∧ v0.cell? ⟨b, off + i * 2 + 1, none⟩ = some (.int .i64 (ys.getD i (0, 0)).2) := fun i hi => by
            obtain ⟨b, off, ha, hc⟩ := (HI.out.slots.kept HK.out).cell (by omega)
            exact ⟨b, off, ha, hc i hi _ (Kept.refl _)⟩
          have HGS := Lib.hid hgs
          clear hgs
          go_upto_region 18 with (fail)
          go_loop [5] (fun i => ∃ k : Nat, k ≤ nl ∧ i = .int .i64 k ∧ (zs.take k).all Rc.gen = true) (fun i => nl - (intOf i).toNat)
          case atStart => exact ⟨0, by omega, rfl, rfl⟩
          case round =>
            obtain ⟨k, hk, rfl, hal⟩ := hrel
            have HAL := Lib.hid hal
            clear hal
            by_cases hlt : k < nl
            · obtain ⟨b, off, rfl, hc⟩ := HGO.out k hlt
              have HS := Lib.hid (all_snoc zs Rc.gen k 0 (by have := HNL.out; omega))
              have HAT := Lib.hid (all_at zs Rc.gen k 0 (by have := HNL.out; omega))
              generalize zs.getD k 0 = x at *
              go_wp2_with fail
              refine (num_any x 1073741824 _).mono ?_
              rintro e w' ⟨rfl, rfl⟩
              rw [show Rc.within x 0 1073741824 = Rc.gen x from rfl]
              cases hgx : Rc.gen x with
              | true =>
                have HGX := Lib.hid hgx
                clear hgx
                go_wp2
                go_round
                case rel => exact ⟨k + 1, by omega, by go_num, by rw [HS.out, HAL.out, HGX.out]; rfl⟩
                case measure => simp [intOf]; omega
              | false =>
                have HLA := Lib.hid (HAT.out hgx)
                clear hgx
                have hv : M = false := by rw [HSP.out, HLA.out]; simp
                have HV := Lib.hid hv
                clear hv
                go_wp2
                go_ret
                exact ⟨by rw [HV.out]; rfl, HK.out⟩
            · obtain rfl : nl = k := by omega
              have HLA := Lib.hid (show zs.all Rc.gen = true by rw [← HAL.out, List.take_of_length_le (Nat.le_of_eq HNL.out)])
              go_upto_region 23 with (fail)
              go_loop [6] (fun i => ∃ k : Nat, k ≤ nz ∧ i = .int .i64 k ∧ (ys.take k).all Rc.slotB = true) (fun i => nz - (intOf i).toNat)
              case atStart => exact ⟨0, by omega, rfl, rfl⟩
              case round =>
                obtain ⟨k, hk, rfl, hal⟩ := hrel
                have HAL := Lib.hid hal
                clear hal
                by_cases hlt2 : k < nz
                · obtain ⟨b, off, rfl, c0, c1⟩ := HGS.out k hlt2
                  have HS := Lib.hid (all_snoc ys Rc.slotB k (0, 0) (by have := HNZ.out; omega))
                  have HAT := Lib.hid (all_at ys Rc.slotB k (0, 0) (by have := HNZ.out; omega))
                  generalize ys.getD k (0, 0) = x at *
                  obtain ⟨d, p⟩ := x
                  have HSB := Lib.hid (show Rc.slotB (d, p) = (Rc.within d (-1) 11 && Rc.within p 0 63) from rfl)
                  dsimp only at c0 c1
                  go_wp2_with fail
                  refine (between_any d (-1) 11 _).mono ?_
                  rintro e w' ⟨rfl, rfl⟩
                  cases h1 : Rc.within d (-1) 11 with
                  | false =>
                    have HLS := Lib.hid (HAT.out (show Rc.slotB (d, p) = false by rw [HSB.out, h1]; rfl))
                    clear h1
                    have hv : M = false := by rw [HSP.out, HLS.out]; simp
                    have HV := Lib.hid hv
                    clear hv
                    go_wp2
                    go_ret
                    exact ⟨by rw [HV.out]; rfl, HK.out⟩
                  | true =>
                    have HV1 := Lib.hid (show Rc.slotB (d, p) = Rc.within p 0 63 by rw [HSB.out, h1]; rfl)
                    clear h1
                    go_wp2_with fail
                    refine (num_any p 63 _).mono ?_
                    rintro e w' ⟨rfl, rfl⟩
                    cases h2 : Rc.within p 0 63 with
                    | false =>
                      have HLS := Lib.hid (HAT.out (HV1.out.trans h2))
                      clear h2
                      have hv : M = false := by rw [HSP.out, HLS.out]; simp
                      have HV := Lib.hid hv
                      clear hv
                      go_wp2
                      go_ret
                      exact ⟨by rw [HV.out]; rfl, HK.out⟩
                    | true =>
                      have HT := Lib.hid (HV1.out.trans h2)
                      clear h2
                      go_wp2
                      go_round
                      case rel => exact ⟨k + 1, by omega, by go_num, by rw [HS.out, HAL.out, HT.out]; rfl⟩
                      case measure => simp [intOf]; omega
                · obtain rfl : nz = k := by omega
                  have HLS := Lib.hid (show ys.all Rc.slotB = true by rw [← HAL.out, List.take_of_length_le (Nat.le_of_eq HNZ.out)])
                  have hv : M = true := by rw [HSP.out, HhG.out, HhD.out, HhL1.out, HLA.out, HLS.out]; simp
                  have HV := Lib.hid hv
                  clear hv
                  go_wp2
                  go_ret
                  exact ⟨by rw [HV.out]; rfl, HK.out⟩
        · have d1 : decide ((2000 : Int) < nl) = true := decide_eq_true (by omega)
          have HhL1 := Lib.hid (decide_eq_false hL1)
          obtain ⟨a0, a1, a2, a3, a4, a5⟩ := box6 HR.out
          have hv : M = false := by rw [HSP.out, HhL1.out]; simp
          have HV := Lib.hid hv
          clear hv
          go_wp2
          go_ret
          exact ⟨by rw [HV.out]; rfl, HK.out⟩
      · have d : ((dig.size : Int) != 32) = true := by rw [bne_iff_ne]; omega
        have HhD := Lib.hid (decide_eq_false hD)
        obtain ⟨a0, a1, a2, a3, a4, a5⟩ := box6 HR.out
        have hv : M = false := by rw [HSP.out, HhD.out]; simp
        have HV := Lib.hid hv
        clear hv
        go_wp2
        go_ret
        exact ⟨by rw [HV.out]; rfl, HK.out⟩
set_option maxRecDepth 100000 in
set_option maxHeartbeats 2000000 in
theorem rrec_7 (id : Int) (name dig : ByteArray) (al : Option Addr) (nl cl : Nat) (az : Option Addr) (nz cz : Nat) (zs : List Int) (ys : List (Int × Int)) (w : World) (h : RecIn w ⟨7, id, name, dig, zs, ys⟩ al nl az nz) :
    Calls Try.prog 15 #[.agg #[.int .i64 7, .int .i64 id, .string name, .string dig, .slice al nl cl, .slice az nz cz]] w fun e w' => e = .returned (.bool (Rec.may ⟨7, id, name, dig, zs, ys⟩)) ∧ Kept w w' := by
  obtain ⟨M, hM⟩ : ∃ M : Bool, M = Rec.may ⟨7, id, name, dig, zs, ys⟩ := ⟨_, rfl⟩
  rw [← hM]
  have hsp := may_split ⟨7, id, name, dig, zs, ys⟩ rfl
  rw [← hM] at hsp
  dsimp only at hsp
  rw [show Rc.fN 7 = true from rfl, show Rc.fD 7 = true from rfl, show Rc.fS 7 = false from rfl, h.list.len_eq, h.slots.len_eq] at hsp
  have HSP := Lib.hid hsp
  have HI := Lib.hid h
  have HNL := Lib.hid (show zs.length = nl from h.list.len_eq)
  have HNZ := Lib.hid (show ys.length = nz from h.slots.len_eq)
  have hlen := h.list.le
  have hlez := h.slots.le
  clear hM hsp h
  go_enter Try.func15, Try.ntmps15
  have hbr0 := BlockAt.new w #[.int .i64 7, .int .i64 id, .string name, .string dig, .slice al nl cl, .slice az nz cz] 31
  have hk0 := (Kept.refl w).alloc (.cells #[.int .i64 7, .int .i64 id, .string name, .string dig, .slice al nl cl, .slice az nz cz] 31)
  go_wp2_with fail
  generalize w.alloc (.cells #[.int .i64 7, .int .i64 id, .string name, .string dig, .slice al nl cl, .slice az nz cz] 31) = w1 at *
  refine (between_any 7 1 8 _).mono ?_
  rintro e w' ⟨rfl, rfl⟩
  rw [show Rc.within 7 1 8 = true from rfl]
  obtain ⟨a0, a1, a2, a3, a4, a5⟩ := box6 hbr0
  go_wp2_with fail
  refine (fields_any 7 (by omega) _).mono ?_
  rintro e w2 ⟨rfl, hk2⟩
  have HBR := Lib.hid (hbr0.kept hk2)
  have HK := Lib.hid (hk0.trans hk2)
  clear hbr0 hk0 hk2 a0 a1 a2 a3 a4 a5
  obtain ⟨a0, a1, a2, a3, a4, a5⟩ := box6 HBR.out
  go_upto_region 5 with (fail)
  have HW0 := Lib.hid (BlockAt.new w2 #[.int .i64 7, .int .i64 0, .string ⟨#[]⟩, .string ⟨#[]⟩, .slice none 0 0, .slice none 0 0] 31)
  have HR0 := Lib.hid (HBR.out.kept ((Kept.refl w2).alloc (.cells #[.int .i64 7, .int .i64 0, .string ⟨#[]⟩, .string ⟨#[]⟩, .slice none 0 0, .slice none 0 0] 31)))
  have HK0 := Lib.hid (HK.out.alloc (.cells #[.int .i64 7, .int .i64 0, .string ⟨#[]⟩, .string ⟨#[]⟩, .slice none 0 0, .slice none 0 0] 31))
  have hwb := HK.out.size
  have hrb : w.heap.size < w2.heap.size := HBR.out.lt
  clear HBR HK a0 a1 a2 a3 a4 a5
  generalize w2.alloc (.cells #[.int .i64 7, .int .i64 0, .string ⟨#[]⟩, .string ⟨#[]⟩, .slice none 0 0, .slice none 0 0] 31) = u0 at *
  generalize w2.heap.size = wb at *
  have hfs : (fStr 7).size ≤ 9223372036854775807 := by rw [show (fStr 7).size = 2 from rfl]; omega
  go_wp2_with fail
  refine (has_lit (fStr 7) 73 73 rfl hfs _).mono ?_
  rintro e w' ⟨rfl, rfl⟩
  rw [show hasB (fStr 7) 73 = false from rfl]
  go_wp2_with fail
  refine (has_lit (fStr 7) 78 78 rfl hfs _).mono ?_
  rintro e w' ⟨rfl, rfl⟩
  rw [show hasB (fStr 7) 78 = true from rfl]
  obtain ⟨a0, a1, a2, a3, a4, a5⟩ := box6 HR0.out
  obtain ⟨b0, b1, b2, b3, b4, b5⟩ := box6 HW0.out
  have fz := HW0.out.free 2
  go_upto_region 9 with (fail)
  have HW1 := Lib.hid (show BlockAt (u0.setCell ⟨wb, 2, none⟩ (.string name)) wb #[.int .i64 7, .int .i64 0, .string name, .string ⟨#[]⟩, .slice none 0 0, .slice none 0 0] 31 from HW0.out.set (.string name))
  have HR1 := Lib.hid (HR0.out.setOther (g' := wb) (i := 2) (.string name) (by omega))
  have HK1 := Lib.hid (HK0.out.setCell (p := ⟨wb, 2, none⟩) (by show w.heap.size ≤ wb; omega) (.string name))
  clear a0 a1 a2 a3 a4 a5 b0 b1 b2 b3 b4 b5 fz HW0 HR0 HK0
  generalize u0.setCell ⟨wb, 2, none⟩ (.string name) = u1 at *
  go_wp2_with fail
  refine (has_lit (fStr 7) 68 68 rfl hfs _).mono ?_
  rintro e w' ⟨rfl, rfl⟩
  rw [show hasB (fStr 7) 68 = true from rfl]
  obtain ⟨a0, a1, a2, a3, a4, a5⟩ := box6 HR1.out
  obtain ⟨b0, b1, b2, b3, b4, b5⟩ := box6 HW1.out
  have fz := HW1.out.free 3
  go_upto_region 11 with (fail)
  have HW2 := Lib.hid (show BlockAt (u1.setCell ⟨wb, 3, none⟩ (.string dig)) wb #[.int .i64 7, .int .i64 0, .string name, .string dig, .slice none 0 0, .slice none 0 0] 31 from HW1.out.set (.string dig))
  have HR2 := Lib.hid (HR1.out.setOther (g' := wb) (i := 3) (.string dig) (by omega))
  have HK2 := Lib.hid (HK1.out.setCell (p := ⟨wb, 3, none⟩) (by show w.heap.size ≤ wb; omega) (.string dig))
  clear a0 a1 a2 a3 a4 a5 b0 b1 b2 b3 b4 b5 fz HW1 HR1 HK1
  generalize u1.setCell ⟨wb, 3, none⟩ (.string dig) = u2 at *
  go_wp2_with fail
  refine (has_lit (fStr 7) 76 76 rfl hfs _).mono ?_
  rintro e w' ⟨rfl, rfl⟩
  rw [show hasB (fStr 7) 76 = false from rfl]
  go_wp2_with fail
  refine (has_lit (fStr 7) 83 83 rfl hfs _).mono ?_
  rintro e w' ⟨rfl, rfl⟩
  rw [show hasB (fStr 7) 83 = false from rfl]
  obtain ⟨a0, a1, a2, a3, a4, a5⟩ := box6 HR2.out
  obtain ⟨b0, b1, b2, b3, b4, b5⟩ := box6 HW2.out
  have hwant : RecIn u2 (Rec.want ⟨7, id, name, dig, zs, ys⟩) none 0 none 0 := by
    have hI := HI.out.kept HK2.out
    exact ⟨IntsIn.nil _ _ _, SlotsIn.nil _ _, hI.kind, by show -9223372036854775808 ≤ (0 : Int) ∧ (0 : Int) ≤ 9223372036854775807; omega, hI.name, hI.dig⟩
  have HQ := Lib.hid (fun w' (h : Kept u2 w') => eq_record ⟨7, id, name, dig, zs, ys⟩ (Rec.want ⟨7, id, name, dig, zs, ys⟩) al nl cl az nz cz none 0 0 none 0 0 w' ((HI.out.kept HK2.out).kept h) (hwant.kept h))
  clear hwant
  go_wp2_with fail
  refine (HQ.out _ (Kept.refl _)).mono ?_
  rintro e v0 ⟨rfl, hv0⟩
  have HR := Lib.hid (HR2.out.kept hv0)
  have HK := Lib.hid (HK2.out.trans hv0)
  clear hv0 a0 a1 a2 a3 a4 a5 b0 b1 b2 b3 b4 b5 HR2 HW2 HK2 HQ
  generalize Rec.eqB ⟨7, id, name, dig, zs, ys⟩ (Rec.want ⟨7, id, name, dig, zs, ys⟩) = E at *
  cases E with
  | false =>
    obtain ⟨a0, a1, a2, a3, a4, a5⟩ := box6 HR.out
    have hv : M = false := by rw [HSP.out]; simp
    have HV := Lib.hid hv
    clear hv
    go_wp2
    go_ret
    exact ⟨by rw [HV.out]; rfl, HK.out⟩
  | true =>
    obtain ⟨a0, a1, a2, a3, a4, a5⟩ := box6 HR.out
    go_wp2_with fail
    refine (num_any id 1073741824 _).mono ?_
    rintro e w' ⟨rfl, rfl⟩
    clear a0 a1 a2 a3 a4 a5
    cases hG : Rc.within id 0 1073741824 with
    | false =>
      have HhG := Lib.hid (show Rc.gen id = false from hG)
      clear hG
      obtain ⟨a0, a1, a2, a3, a4, a5⟩ := box6 HR.out
      have hv : M = false := by rw [HSP.out, HhG.out]; simp
      have HV := Lib.hid hv
      clear hv
      go_wp2
      go_ret
      exact ⟨by rw [HV.out]; rfl, HK.out⟩
    | true =>
      have HhG := Lib.hid (show Rc.gen id = true from hG)
      clear hG
      obtain ⟨a0, a1, a2, a3, a4, a5⟩ := box6 HR.out
      go_wp2_with fail
      refine (has_lit (fStr 7) 78 78 rfl hfs _).mono ?_
      rintro e w' ⟨rfl, rfl⟩
      rw [show hasB (fStr 7) 78 = true from rfl]
      clear a0 a1 a2 a3 a4 a5
      obtain ⟨a0, a1, a2, a3, a4, a5⟩ := box6 HR.out
      go_wp2_with fail
      refine (between_any name.size 1 40 _).mono ?_
      rintro e w' ⟨rfl, rfl⟩
      clear a0 a1 a2 a3 a4 a5
      cases hN : Rc.within name.size 1 40 with
      | false =>
        have HhN := Lib.hid hN
        clear hN
        obtain ⟨a0, a1, a2, a3, a4, a5⟩ := box6 HR.out
        have hv : M = false := by rw [HSP.out, HhN.out]; simp
        have HV := Lib.hid hv
        clear hv
        go_wp2
        go_ret
        exact ⟨by rw [HV.out]; rfl, HK.out⟩
      | true =>
        have HhN := Lib.hid hN
        clear hN
        obtain ⟨a0, a1, a2, a3, a4, a5⟩ := box6 HR.out
        go_wp2_with fail
        refine (has_lit (fStr 7) 68 68 rfl hfs _).mono ?_
        rintro e w' ⟨rfl, rfl⟩
        rw [show hasB (fStr 7) 68 = true from rfl]
        clear a0 a1 a2 a3 a4 a5
        by_cases hD : dig.size = 32
        · have d : ((dig.size : Int) != 32) = false := by rw [hD]; rfl
          have HhD := Lib.hid (decide_eq_true hD)
          by_cases hL1 : nl ≤ 2000
          · have d1 : decide ((2000 : Int) < nl) = false := decide_eq_false (by omega)
            have HhL1 := Lib.hid (decide_eq_true hL1)
            obtain ⟨a0, a1, a2, a3, a4, a5⟩ := box6 HR.out
            go_wp2_with fail
            refine (has_lit (fStr 7) 83 83 rfl hfs _).mono ?_
            rintro e w' ⟨rfl, rfl⟩
            rw [show hasB (fStr 7) 83 = false from rfl]
            clear a0 a1 a2 a3 a4 a5
            obtain ⟨a0, a1, a2, a3, a4, a5⟩ := box6 HR.out
            have hgo : ∀ i : Nat, i < nl → ∃ b off, al = some ⟨b, off, none⟩ ∧ v0.cell? ⟨b, off + i, none⟩ = some (.int .i64 (zs.getD i 0)) := fun i hi => by
              obtain ⟨b, off, ha, hc⟩ := (HI.out.list.kept HK.out).cell (by omega)
              exact ⟨b, off, ha, hc i hi _ (Kept.refl _)⟩
            have HGO := Lib.hid hgo
            clear hgo
            have hgs : ∀ i : Nat, i < nz → ∃ b off, az = some ⟨b, off, none⟩ ∧ v0.cell? ⟨b, off + i * 2, none⟩ = some (.int .i64 (ys.getD i (0, 0)).1) ∧ v0.cell? ⟨b, off + i * 2 + 1, none⟩ = some (.int .i64 (ys.getD i (0, 0)).2) := fun i hi => by
              obtain ⟨b, off, ha, hc⟩ := (HI.out.slots.kept HK.out).cell (by omega)
              exact ⟨b, off, ha, hc i hi _ (Kept.refl _)⟩
            have HGS := Lib.hid hgs
            clear hgs
            go_upto_region 18 with (fail)
            go_loop [5] (fun i => ∃ k : Nat, k ≤ nl ∧ i = .int .i64 k ∧ (zs.take k).all Rc.gen = true) (fun i => nl - (intOf i).toNat)
            case atStart => exact ⟨0, by omega, rfl, rfl⟩
            case round =>
              obtain ⟨k, hk, rfl, hal⟩ := hrel
              have HAL := Lib.hid hal
              clear hal
              by_cases hlt : k < nl
              · obtain ⟨b, off, rfl, hc⟩ := HGO.out k hlt
                have HS := Lib.hid (all_snoc zs Rc.gen k 0 (by have := HNL.out; omega))
                have HAT := Lib.hid (all_at zs Rc.gen k 0 (by have := HNL.out; omega))
                generalize zs.getD k 0 = x at *
                go_wp2_with fail
                refine (num_any x 1073741824 _).mono ?_
                rintro e w' ⟨rfl, rfl⟩
                rw [show Rc.within x 0 1073741824 = Rc.gen x from rfl]
                cases hgx : Rc.gen x with
                | true =>
                  have HGX := Lib.hid hgx
                  clear hgx
                  go_wp2
                  go_round
                  case rel => exact ⟨k + 1, by omega, by go_num, by rw [HS.out, HAL.out, HGX.out]; rfl⟩
                  case measure => simp [intOf]; omega
                | false =>
                  have HLA := Lib.hid (HAT.out hgx)
                  clear hgx
                  have hv : M = false := by rw [HSP.out, HLA.out]; simp
                  have HV := Lib.hid hv
                  clear hv
                  go_wp2
                  go_ret
                  exact ⟨by rw [HV.out]; rfl, HK.out⟩
              · obtain rfl : nl = k := by omega
                have HLA := Lib.hid (show zs.all Rc.gen = true by rw [← HAL.out, List.take_of_length_le (Nat.le_of_eq HNL.out)])
                go_upto_region 23 with (fail)
                go_loop [6] (fun i => ∃ k : Nat, k ≤ nz ∧ i = .int .i64 k ∧ (ys.take k).all Rc.slotB = true) (fun i => nz - (intOf i).toNat)
                case atStart => exact ⟨0, by omega, rfl, rfl⟩
                case round =>
                  obtain ⟨k, hk, rfl, hal⟩ := hrel
                  have HAL := Lib.hid hal
                  clear hal
                  by_cases hlt2 : k < nz
                  · obtain ⟨b, off, rfl, c0, c1⟩ := HGS.out k hlt2
                    have HS := Lib.hid (all_snoc ys Rc.slotB k (0, 0) (by have := HNZ.out; omega))
                    have HAT := Lib.hid (all_at ys Rc.slotB k (0, 0) (by have := HNZ.out; omega))
                    generalize ys.getD k (0, 0) = x at *
                    obtain ⟨d, p⟩ := x
                    have HSB := Lib.hid (show Rc.slotB (d, p) = (Rc.within d (-1) 11 && Rc.within p 0 63) from rfl)
                    dsimp only at c0 c1
                    go_wp2_with fail
                    refine (between_any d (-1) 11 _).mono ?_
                    rintro e w' ⟨rfl, rfl⟩
                    cases h1 : Rc.within d (-1) 11 with
                    | false =>
                      have HLS := Lib.hid (HAT.out (show Rc.slotB (d, p) = false by rw [HSB.out, h1]; rfl))
                      clear h1
                      have hv : M = false := by rw [HSP.out, HLS.out]; simp
                      have HV := Lib.hid hv
                      clear hv
                      go_wp2
                      go_ret
                      exact ⟨by rw [HV.out]; rfl, HK.out⟩
                    | true =>
                      have HV1 := Lib.hid (show Rc.slotB (d, p) = Rc.within p 0 63 by rw [HSB.out, h1]; rfl)
                      clear h1
                      go_wp2_with fail
                      refine (num_any p 63 _).mono ?_
                      rintro e w' ⟨rfl, rfl⟩
                      cases h2 : Rc.within p 0 63 with
                      | false =>
                        have HLS := Lib.hid (HAT.out (HV1.out.trans h2))
                        clear h2
                        have hv : M = false := by rw [HSP.out, HLS.out]; simp
                        have HV := Lib.hid hv
                        clear hv
                        go_wp2
                        go_ret
                        exact ⟨by rw [HV.out]; rfl, HK.out⟩
                      | true =>
                        have HT := Lib.hid (HV1.out.trans h2)
                        clear h2
                        go_wp2
                        go_round
                        case rel => exact ⟨k + 1, by omega, by go_num, by rw [HS.out, HAL.out, HT.out]; rfl⟩
                        case measure => simp [intOf]; omega
                  · obtain rfl : nz = k := by omega
                    have HLS := Lib.hid (show ys.all Rc.slotB = true by rw [← HAL.out, List.take_of_length_le (Nat.le_of_eq HNZ.out)])
                    have hv : M = true := by rw [HSP.out, HhG.out, HhN.out, HhD.out, HhL1.out, HLA.out, HLS.out]; simp
                    have HV := Lib.hid hv
                    clear hv
                    go_wp2
                    go_ret
                    exact ⟨by rw [HV.out]; rfl, HK.out⟩
          · have d1 : decide ((2000 : Int) < nl) = true := decide_eq_true (by omega)
            have HhL1 := Lib.hid (decide_eq_false hL1)
            obtain ⟨a0, a1, a2, a3, a4, a5⟩ := box6 HR.out
            have hv : M = false := by rw [HSP.out, HhL1.out]; simp
            have HV := Lib.hid hv
            clear hv
            go_wp2
            go_ret
            exact ⟨by rw [HV.out]; rfl, HK.out⟩
        · have d : ((dig.size : Int) != 32) = true := by rw [bne_iff_ne]; omega
          have HhD := Lib.hid (decide_eq_false hD)
          obtain ⟨a0, a1, a2, a3, a4, a5⟩ := box6 HR.out
          have hv : M = false := by rw [HSP.out, HhD.out]; simp
          have HV := Lib.hid hv
          clear hv
          go_wp2
          go_ret
          exact ⟨by rw [HV.out]; rfl, HK.out⟩
set_option maxRecDepth 100000 in
set_option maxHeartbeats 2000000 in
theorem rrec_8 (id : Int) (name dig : ByteArray) (al : Option Addr) (nl cl : Nat) (az : Option Addr) (nz cz : Nat) (zs : List Int) (ys : List (Int × Int)) (w : World) (h : RecIn w ⟨8, id, name, dig, zs, ys⟩ al nl az nz) :
    Calls Try.prog 15 #[.agg #[.int .i64 8, .int .i64 id, .string name, .string dig, .slice al nl cl, .slice az nz cz]] w fun e w' => e = .returned (.bool (Rec.may ⟨8, id, name, dig, zs, ys⟩)) ∧ Kept w w' := by
  obtain ⟨M, hM⟩ : ∃ M : Bool, M = Rec.may ⟨8, id, name, dig, zs, ys⟩ := ⟨_, rfl⟩
  rw [← hM]
  have hsp := may_split ⟨8, id, name, dig, zs, ys⟩ rfl
  rw [← hM] at hsp
  dsimp only at hsp
  rw [show Rc.fN 8 = true from rfl, show Rc.fD 8 = false from rfl, show Rc.fS 8 = false from rfl, h.list.len_eq, h.slots.len_eq] at hsp
  have HSP := Lib.hid hsp
  have HI := Lib.hid h
  have HNL := Lib.hid (show zs.length = nl from h.list.len_eq)
  have HNZ := Lib.hid (show ys.length = nz from h.slots.len_eq)
  have hlen := h.list.le
  have hlez := h.slots.le
  clear hM hsp h
  go_enter Try.func15, Try.ntmps15
  have hbr0 := BlockAt.new w #[.int .i64 8, .int .i64 id, .string name, .string dig, .slice al nl cl, .slice az nz cz] 31
  have hk0 := (Kept.refl w).alloc (.cells #[.int .i64 8, .int .i64 id, .string name, .string dig, .slice al nl cl, .slice az nz cz] 31)
  go_wp2_with fail
  generalize w.alloc (.cells #[.int .i64 8, .int .i64 id, .string name, .string dig, .slice al nl cl, .slice az nz cz] 31) = w1 at *
  refine (between_any 8 1 8 _).mono ?_
  rintro e w' ⟨rfl, rfl⟩
  rw [show Rc.within 8 1 8 = true from rfl]
  obtain ⟨a0, a1, a2, a3, a4, a5⟩ := box6 hbr0
  go_wp2_with fail
  refine (fields_any 8 (by omega) _).mono ?_
  rintro e w2 ⟨rfl, hk2⟩
  have HBR := Lib.hid (hbr0.kept hk2)
  have HK := Lib.hid (hk0.trans hk2)
  clear hbr0 hk0 hk2 a0 a1 a2 a3 a4 a5
  obtain ⟨a0, a1, a2, a3, a4, a5⟩ := box6 HBR.out
  go_upto_region 5 with (fail)
  have HW0 := Lib.hid (BlockAt.new w2 #[.int .i64 8, .int .i64 0, .string ⟨#[]⟩, .string ⟨#[]⟩, .slice none 0 0, .slice none 0 0] 31)
  have HR0 := Lib.hid (HBR.out.kept ((Kept.refl w2).alloc (.cells #[.int .i64 8, .int .i64 0, .string ⟨#[]⟩, .string ⟨#[]⟩, .slice none 0 0, .slice none 0 0] 31)))
  have HK0 := Lib.hid (HK.out.alloc (.cells #[.int .i64 8, .int .i64 0, .string ⟨#[]⟩, .string ⟨#[]⟩, .slice none 0 0, .slice none 0 0] 31))
  have hwb := HK.out.size
  have hrb : w.heap.size < w2.heap.size := HBR.out.lt
  clear HBR HK a0 a1 a2 a3 a4 a5
  generalize w2.alloc (.cells #[.int .i64 8, .int .i64 0, .string ⟨#[]⟩, .string ⟨#[]⟩, .slice none 0 0, .slice none 0 0] 31) = u0 at *
  generalize w2.heap.size = wb at *
  have hfs : (fStr 8).size ≤ 9223372036854775807 := by rw [show (fStr 8).size = 1 from rfl]; omega
  go_wp2_with fail
  refine (has_lit (fStr 8) 73 73 rfl hfs _).mono ?_
  rintro e w' ⟨rfl, rfl⟩
  rw [show hasB (fStr 8) 73 = false from rfl]
  go_wp2_with fail
  refine (has_lit (fStr 8) 78 78 rfl hfs _).mono ?_
  rintro e w' ⟨rfl, rfl⟩
  rw [show hasB (fStr 8) 78 = true from rfl]
  obtain ⟨a0, a1, a2, a3, a4, a5⟩ := box6 HR0.out
  obtain ⟨b0, b1, b2, b3, b4, b5⟩ := box6 HW0.out
  have fz := HW0.out.free 2
  go_upto_region 9 with (fail)
  have HW1 := Lib.hid (show BlockAt (u0.setCell ⟨wb, 2, none⟩ (.string name)) wb #[.int .i64 8, .int .i64 0, .string name, .string ⟨#[]⟩, .slice none 0 0, .slice none 0 0] 31 from HW0.out.set (.string name))
  have HR1 := Lib.hid (HR0.out.setOther (g' := wb) (i := 2) (.string name) (by omega))
  have HK1 := Lib.hid (HK0.out.setCell (p := ⟨wb, 2, none⟩) (by show w.heap.size ≤ wb; omega) (.string name))
  clear a0 a1 a2 a3 a4 a5 b0 b1 b2 b3 b4 b5 fz HW0 HR0 HK0
  generalize u0.setCell ⟨wb, 2, none⟩ (.string name) = u1 at *
  go_wp2_with fail
  refine (has_lit (fStr 8) 68 68 rfl hfs _).mono ?_
  rintro e w' ⟨rfl, rfl⟩
  rw [show hasB (fStr 8) 68 = false from rfl]
  go_wp2_with fail
  refine (has_lit (fStr 8) 76 76 rfl hfs _).mono ?_
  rintro e w' ⟨rfl, rfl⟩
  rw [show hasB (fStr 8) 76 = false from rfl]
  go_wp2_with fail
  refine (has_lit (fStr 8) 83 83 rfl hfs _).mono ?_
  rintro e w' ⟨rfl, rfl⟩
  rw [show hasB (fStr 8) 83 = false from rfl]
  obtain ⟨a0, a1, a2, a3, a4, a5⟩ := box6 HR1.out
  obtain ⟨b0, b1, b2, b3, b4, b5⟩ := box6 HW1.out
  have hwant : RecIn u1 (Rec.want ⟨8, id, name, dig, zs, ys⟩) none 0 none 0 := by
    have hI := HI.out.kept HK1.out
    exact ⟨IntsIn.nil _ _ _, SlotsIn.nil _ _, hI.kind, by show -9223372036854775808 ≤ (0 : Int) ∧ (0 : Int) ≤ 9223372036854775807; omega, hI.name, Nat.zero_le _⟩
  have HQ := Lib.hid (fun w' (h : Kept u1 w') => eq_record ⟨8, id, name, dig, zs, ys⟩ (Rec.want ⟨8, id, name, dig, zs, ys⟩) al nl cl az nz cz none 0 0 none 0 0 w' ((HI.out.kept HK1.out).kept h) (hwant.kept h))
  clear hwant
  go_wp2_with fail
  refine (HQ.out _ (Kept.refl _)).mono ?_
  rintro e v0 ⟨rfl, hv0⟩
  have HR := Lib.hid (HR1.out.kept hv0)
  have HK := Lib.hid (HK1.out.trans hv0)
  clear hv0 a0 a1 a2 a3 a4 a5 b0 b1 b2 b3 b4 b5 HR1 HW1 HK1 HQ
  generalize Rec.eqB ⟨8, id, name, dig, zs, ys⟩ (Rec.want ⟨8, id, name, dig, zs, ys⟩) = E at *
  cases E with
  | false =>
    obtain ⟨a0, a1, a2, a3, a4, a5⟩ := box6 HR.out
    have hv : M = false := by rw [HSP.out]; simp
    have HV := Lib.hid hv
    clear hv
    go_wp2
    go_ret
    exact ⟨by rw [HV.out]; rfl, HK.out⟩
  | true =>
    obtain ⟨a0, a1, a2, a3, a4, a5⟩ := box6 HR.out
    go_wp2_with fail
    refine (num_any id 1073741824 _).mono ?_
    rintro e w' ⟨rfl, rfl⟩
    clear a0 a1 a2 a3 a4 a5
    cases hG : Rc.within id 0 1073741824 with
    | false =>
      have HhG := Lib.hid (show Rc.gen id = false from hG)
      clear hG
      obtain ⟨a0, a1, a2, a3, a4, a5⟩ := box6 HR.out
      have hv : M = false := by rw [HSP.out, HhG.out]; simp
      have HV := Lib.hid hv
      clear hv
      go_wp2
      go_ret
      exact ⟨by rw [HV.out]; rfl, HK.out⟩
    | true =>
      have HhG := Lib.hid (show Rc.gen id = true from hG)
      clear hG
      obtain ⟨a0, a1, a2, a3, a4, a5⟩ := box6 HR.out
      go_wp2_with fail
      refine (has_lit (fStr 8) 78 78 rfl hfs _).mono ?_
      rintro e w' ⟨rfl, rfl⟩
      rw [show hasB (fStr 8) 78 = true from rfl]
      clear a0 a1 a2 a3 a4 a5
      obtain ⟨a0, a1, a2, a3, a4, a5⟩ := box6 HR.out
      go_wp2_with fail
      refine (between_any name.size 1 40 _).mono ?_
      rintro e w' ⟨rfl, rfl⟩
      clear a0 a1 a2 a3 a4 a5
      cases hN : Rc.within name.size 1 40 with
      | false =>
        have HhN := Lib.hid hN
        clear hN
        obtain ⟨a0, a1, a2, a3, a4, a5⟩ := box6 HR.out
        have hv : M = false := by rw [HSP.out, HhN.out]; simp
        have HV := Lib.hid hv
        clear hv
        go_wp2
        go_ret
        exact ⟨by rw [HV.out]; rfl, HK.out⟩
      | true =>
        have HhN := Lib.hid hN
        clear hN
        obtain ⟨a0, a1, a2, a3, a4, a5⟩ := box6 HR.out
        go_wp2_with fail
        refine (has_lit (fStr 8) 68 68 rfl hfs _).mono ?_
        rintro e w' ⟨rfl, rfl⟩
        rw [show hasB (fStr 8) 68 = false from rfl]
        clear a0 a1 a2 a3 a4 a5
        by_cases hL1 : nl ≤ 2000
        · have d1 : decide ((2000 : Int) < nl) = false := decide_eq_false (by omega)
          have HhL1 := Lib.hid (decide_eq_true hL1)
          obtain ⟨a0, a1, a2, a3, a4, a5⟩ := box6 HR.out
          go_wp2_with fail
          refine (has_lit (fStr 8) 83 83 rfl hfs _).mono ?_
          rintro e w' ⟨rfl, rfl⟩
          rw [show hasB (fStr 8) 83 = false from rfl]
          clear a0 a1 a2 a3 a4 a5
          obtain ⟨a0, a1, a2, a3, a4, a5⟩ := box6 HR.out
          have hgo : ∀ i : Nat, i < nl → ∃ b off, al = some ⟨b, off, none⟩ ∧ v0.cell? ⟨b, off + i, none⟩ = some (.int .i64 (zs.getD i 0)) := fun i hi => by
            obtain ⟨b, off, ha, hc⟩ := (HI.out.list.kept HK.out).cell (by omega)
            exact ⟨b, off, ha, hc i hi _ (Kept.refl _)⟩
          have HGO := Lib.hid hgo
          clear hgo
          have hgs : ∀ i : Nat, i < nz → ∃ b off, az = some ⟨b, off, none⟩ ∧ v0.cell? ⟨b, off + i * 2, none⟩ = some (.int .i64 (ys.getD i (0, 0)).1) ∧ v0.cell? ⟨b, off + i * 2 + 1, none⟩ = some (.int .i64 (ys.getD i (0, 0)).2) := fun i hi => by
            obtain ⟨b, off, ha, hc⟩ := (HI.out.slots.kept HK.out).cell (by omega)
            exact ⟨b, off, ha, hc i hi _ (Kept.refl _)⟩
          have HGS := Lib.hid hgs
          clear hgs
          go_upto_region 18 with (fail)
          go_loop [5] (fun i => ∃ k : Nat, k ≤ nl ∧ i = .int .i64 k ∧ (zs.take k).all Rc.gen = true) (fun i => nl - (intOf i).toNat)
          case atStart => exact ⟨0, by omega, rfl, rfl⟩
          case round =>
            obtain ⟨k, hk, rfl, hal⟩ := hrel
            have HAL := Lib.hid hal
            clear hal
            by_cases hlt : k < nl
            · obtain ⟨b, off, rfl, hc⟩ := HGO.out k hlt
              have HS := Lib.hid (all_snoc zs Rc.gen k 0 (by have := HNL.out; omega))
              have HAT := Lib.hid (all_at zs Rc.gen k 0 (by have := HNL.out; omega))
              generalize zs.getD k 0 = x at *
              go_wp2_with fail
              refine (num_any x 1073741824 _).mono ?_
              rintro e w' ⟨rfl, rfl⟩
              rw [show Rc.within x 0 1073741824 = Rc.gen x from rfl]
              cases hgx : Rc.gen x with
              | true =>
                have HGX := Lib.hid hgx
                clear hgx
                go_wp2
                go_round
                case rel => exact ⟨k + 1, by omega, by go_num, by rw [HS.out, HAL.out, HGX.out]; rfl⟩
                case measure => simp [intOf]; omega
              | false =>
                have HLA := Lib.hid (HAT.out hgx)
                clear hgx
                have hv : M = false := by rw [HSP.out, HLA.out]; simp
                have HV := Lib.hid hv
                clear hv
                go_wp2
                go_ret
                exact ⟨by rw [HV.out]; rfl, HK.out⟩
            · obtain rfl : nl = k := by omega
              have HLA := Lib.hid (show zs.all Rc.gen = true by rw [← HAL.out, List.take_of_length_le (Nat.le_of_eq HNL.out)])
              go_upto_region 23 with (fail)
              go_loop [6] (fun i => ∃ k : Nat, k ≤ nz ∧ i = .int .i64 k ∧ (ys.take k).all Rc.slotB = true) (fun i => nz - (intOf i).toNat)
              case atStart => exact ⟨0, by omega, rfl, rfl⟩
              case round =>
                obtain ⟨k, hk, rfl, hal⟩ := hrel
                have HAL := Lib.hid hal
                clear hal
                by_cases hlt2 : k < nz
                · obtain ⟨b, off, rfl, c0, c1⟩ := HGS.out k hlt2
                  have HS := Lib.hid (all_snoc ys Rc.slotB k (0, 0) (by have := HNZ.out; omega))
                  have HAT := Lib.hid (all_at ys Rc.slotB k (0, 0) (by have := HNZ.out; omega))
                  generalize ys.getD k (0, 0) = x at *
                  obtain ⟨d, p⟩ := x
                  have HSB := Lib.hid (show Rc.slotB (d, p) = (Rc.within d (-1) 11 && Rc.within p 0 63) from rfl)
                  dsimp only at c0 c1
                  go_wp2_with fail
                  refine (between_any d (-1) 11 _).mono ?_
                  rintro e w' ⟨rfl, rfl⟩
                  cases h1 : Rc.within d (-1) 11 with
                  | false =>
                    have HLS := Lib.hid (HAT.out (show Rc.slotB (d, p) = false by rw [HSB.out, h1]; rfl))
                    clear h1
                    have hv : M = false := by rw [HSP.out, HLS.out]; simp
                    have HV := Lib.hid hv
                    clear hv
                    go_wp2
                    go_ret
                    exact ⟨by rw [HV.out]; rfl, HK.out⟩
                  | true =>
                    have HV1 := Lib.hid (show Rc.slotB (d, p) = Rc.within p 0 63 by rw [HSB.out, h1]; rfl)
                    clear h1
                    go_wp2_with fail
                    refine (num_any p 63 _).mono ?_
                    rintro e w' ⟨rfl, rfl⟩
                    cases h2 : Rc.within p 0 63 with
                    | false =>
                      have HLS := Lib.hid (HAT.out (HV1.out.trans h2))
                      clear h2
                      have hv : M = false := by rw [HSP.out, HLS.out]; simp
                      have HV := Lib.hid hv
                      clear hv
                      go_wp2
                      go_ret
                      exact ⟨by rw [HV.out]; rfl, HK.out⟩
                    | true =>
                      have HT := Lib.hid (HV1.out.trans h2)
                      clear h2
                      go_wp2
                      go_round
                      case rel => exact ⟨k + 1, by omega, by go_num, by rw [HS.out, HAL.out, HT.out]; rfl⟩
                      case measure => simp [intOf]; omega
                · obtain rfl : nz = k := by omega
                  have HLS := Lib.hid (show ys.all Rc.slotB = true by rw [← HAL.out, List.take_of_length_le (Nat.le_of_eq HNZ.out)])
                  have hv : M = true := by rw [HSP.out, HhG.out, HhN.out, HhL1.out, HLA.out, HLS.out]; simp
                  have HV := Lib.hid hv
                  clear hv
                  go_wp2
                  go_ret
                  exact ⟨by rw [HV.out]; rfl, HK.out⟩
        · have d1 : decide ((2000 : Int) < nl) = true := decide_eq_true (by omega)
          have HhL1 := Lib.hid (decide_eq_false hL1)
          obtain ⟨a0, a1, a2, a3, a4, a5⟩ := box6 HR.out
          have hv : M = false := by rw [HSP.out, HhL1.out]; simp
          have HV := Lib.hid hv
          clear hv
          go_wp2
          go_ret
          exact ⟨by rw [HV.out]; rfl, HK.out⟩
theorem rrec_any (r : Rec) (al : Option Addr) (nl cl : Nat) (az : Option Addr) (nz cz : Nat) (w : World) (h : RecIn w r al nl az nz) :
    Calls Try.prog 15 #[.agg (recCells r al nl cl az nz cz)] w fun e w' => e = .returned (.bool (Rec.may r)) ∧ Kept w w' := by
  by_cases hk : Rc.okK r.kind = false
  · exact rrec_out r al nl cl az nz cz w hk
  · obtain ⟨kind, id, name, dig, zs, ys⟩ := r
    have hk1 : 1 ≤ kind ∧ kind ≤ 8 := by
      have : Rc.okK kind = true := by simpa using hk
      exact of_decide_eq_true this
    have hcase : kind = 1 ∨ kind = 2 ∨ kind = 3 ∨ kind = 4 ∨ kind = 5 ∨ kind = 6 ∨ kind = 7 ∨ kind = 8 := by omega
    clear hk hk1
    rcases hcase with rfl | rfl | rfl | rfl | rfl | rfl | rfl | rfl
    · exact rrec_1 id name dig al nl cl az nz cz zs ys w h
    · exact rrec_2 id name dig al nl cl az nz cz zs ys w h
    · exact rrec_3 id name dig al nl cl az nz cz zs ys w h
    · exact rrec_4 id name dig al nl cl az nz cz zs ys w h
    · exact rrec_5 id name dig al nl cl az nz cz zs ys w h
    · exact rrec_6 id name dig al nl cl az nz cz zs ys w h
    · exact rrec_7 id name dig al nl cl az nz cz zs ys w h
    · exact rrec_8 id name dig al nl cl az nz cz zs ys w h
end Go.Proofs.Ytoanldoocmmhjaa
