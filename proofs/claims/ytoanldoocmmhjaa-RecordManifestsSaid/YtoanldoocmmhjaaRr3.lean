/- siloref0.EqRecord, by what it answers (no conditions but that numbers are ints). -/
import Derived.Test.YtoanldoocmmhjaaRr2
namespace Go.Proofs.Ytoanldoocmmhjaa
open Go.RowKit
/-- are two records the same? -/
def Rec.eqB (r s : Rec) : Bool := decide (r.kind = s.kind) && decide (r.id = s.id) && decide (r.name = s.name) && decide (r.dig = s.dig) && decide (r.list = s.list) && decide (r.slots = s.slots)
theorem bytes_ne {a b : ByteArray} (h : ¬ a = b) : ¬ a.toList = b.toList ∧ (a.toList == b.toList) = false := by
  have h1 : ¬ a.toList = b.toList := by
    rw [ByteArray.toList_eq, ByteArray.toList_eq]
    intro e
    apply h
    obtain ⟨⟨x⟩⟩ := a
    obtain ⟨⟨y⟩⟩ := b
    simp at e
    rw [e]
  exact ⟨h1, by simpa using h1⟩
set_option maxRecDepth 100000 in
set_option maxHeartbeats 1000000 in
theorem eq_record (r s : Rec) (al : Option Addr) (nl cl : Nat) (az : Option Addr) (nz cz : Nat) (bl : Option Addr) (ml dl : Nat) (bz : Option Addr) (mz dz : Nat) (w : World) (h : RecIn w r al nl az nz) (h2 : RecIn w s bl ml bz mz) :
    Calls Try.prog 20 #[.agg (recCells r al nl cl az nz cz), .agg (recCells s bl ml dl bz mz dz)] w fun e w' => e = .returned (.bool (Rec.eqB r s)) ∧ Kept w w' := by
  obtain ⟨k1, i1, n1, d1, l1, s1⟩ := r
  obtain ⟨k2, i2, n2, d2, l2, s2⟩ := s
  obtain ⟨D, hD⟩ : ∃ D : Bool, D = Rec.eqB ⟨k1, i1, n1, d1, l1, s1⟩ ⟨k2, i2, n2, d2, l2, s2⟩ := ⟨_, rfl⟩
  rw [← hD]
  have hD2 : D = (decide (k1 = k2) && decide (i1 = i2) && decide (n1 = n2) && decide (d1 = d2) && decide (l1 = l2) && decide (s1 = s2)) := hD
  have HD := Lib.hid hD2
  clear hD hD2
  unfold recCells
  dsimp only
  have k0 := ((Kept.refl w).alloc (.cells #[.int .i64 k1, .int .i64 i1, .string n1, .string d1, .slice al nl cl, .slice az nz cz] 31)).alloc (.cells #[.int .i64 k2, .int .i64 i2, .string n2, .string d2, .slice bl ml dl, .slice bz mz dz] 31)
  have hb1 := (BlockAt.new w #[.int .i64 k1, .int .i64 i1, .string n1, .string d1, .slice al nl cl, .slice az nz cz] 31).kept ((Kept.refl _).alloc (.cells #[.int .i64 k2, .int .i64 i2, .string n2, .string d2, .slice bl ml dl, .slice bz mz dz] 31))
  have hb2 := BlockAt.new1 w #[.int .i64 k2, .int .i64 i2, .string n2, .string d2, .slice bl ml dl, .slice bz mz dz] 31 (.cells #[.int .i64 k1, .int .i64 i1, .string n1, .string d1, .slice al nl cl, .slice az nz cz] 31)
  have HI := Lib.hid (h.kept k0)
  have HJ := Lib.hid (h2.kept k0)
  have HK := Lib.hid k0
  clear h h2 k0
  go_enter Try.func20, Try.ntmps20
  go_upto_region 1 with (fail)
  generalize (w.alloc (.cells #[.int .i64 k1, .int .i64 i1, .string n1, .string d1, .slice al nl cl, .slice az nz cz] 31)).alloc (.cells #[.int .i64 k2, .int .i64 i2, .string n2, .string d2, .slice bl ml dl, .slice bz mz dz] 31) = w1 at *
  obtain ⟨a0, a1, a2, a3, a4, a5⟩ := box6 hb1
  obtain ⟨b0, b1, b2, b3, b4, b5⟩ := box6 hb2
  by_cases e0 : k1 = k2
  · subst e0
    have f0 : (k1 == k1) = true := by simp
    by_cases e1 : i1 = i2
    · subst e1
      have f1 : (i1 == i1) = true := by simp
      by_cases e2 : n1 = n2
      · subst e2
        by_cases e3 : d1 = d2
        · subst e3
          have hq1 : D = (decide (l1 = l2) && decide (s1 = s2)) := by rw [HD.out]; simp
          have HQ1 := Lib.hid hq1
          clear hq1 HD
          go_wp2_with fail
          refine (eq_numbers al bl nl ml cl dl l1 l2 _ HI.out.list HJ.out.list).mono ?_
          rintro e w2 ⟨rfl, hk2⟩
          cases hl : decide (l1 = l2) with
          | false =>
            have hv : D = false := by rw [HQ1.out, hl]; rfl
            have HV := Lib.hid hv
            clear hv hl a0 a1 a2 a3 a4 a5 b0 b1 b2 b3 b4 b5
            go_wp2
            go_ret
            exact ⟨by rw [HV.out]; rfl, HK.out.trans hk2⟩
          | true =>
            have hv : D = decide (s1 = s2) := by rw [HQ1.out, hl]; rfl
            have HV := Lib.hid hv
            have HI2 := Lib.hid (HI.out.slots.kept hk2)
            have HJ2 := Lib.hid (HJ.out.slots.kept hk2)
            have HK2 := Lib.hid (HK.out.trans hk2)
            have hb1' := hb1.kept hk2
            have hb2' := hb2.kept hk2
            clear hv hl a0 a1 a2 a3 a4 a5 b0 b1 b2 b3 b4 b5 hk2 hb1 hb2
            obtain ⟨a0, a1, a2, a3, a4, a5⟩ := box6 hb1'
            obtain ⟨b0, b1, b2, b3, b4, b5⟩ := box6 hb2'
            go_wp2_with fail
            refine (eq_slots az bz nz mz cz dz s1 s2 _ HI2.out HJ2.out).mono ?_
            rintro e w3 ⟨rfl, hk3⟩
            have HK3 := Lib.hid (HK2.out.trans hk3)
            clear hk3 a0 a1 a2 a3 a4 a5 b0 b1 b2 b3 b4 b5
            generalize decide (s1 = s2) = B at *
            go_wp2
            go_ret
            exact ⟨by rw [HV.out]; rfl, HK3.out⟩
        · obtain ⟨g1, g2⟩ := bytes_ne e3
          have hv : D = false := by rw [HD.out, decide_eq_false e3]; simp
          have HV := Lib.hid hv
          clear hv e3
          go_wp2
          go_ret
          exact ⟨by rw [HV.out]; rfl, HK.out⟩
      · obtain ⟨g1, g2⟩ := bytes_ne e2
        have hv : D = false := by rw [HD.out, decide_eq_false e2]; simp
        have HV := Lib.hid hv
        clear hv e2
        go_wp2
        go_ret
        exact ⟨by rw [HV.out]; rfl, HK.out⟩
    · have f1 : (i1 == i2) = false := beq_false_of_ne e1
      have hv : D = false := by rw [HD.out, decide_eq_false e1]; simp
      have HV := Lib.hid hv
      clear hv e1
      go_wp2
      go_ret
      exact ⟨by rw [HV.out]; rfl, HK.out⟩
  · have f0 : (k1 == k2) = false := beq_false_of_ne e0
    have hv : D = false := by rw [HD.out, decide_eq_false e0]; simp
    have HV := Lib.hid hv
    clear hv e0
    go_wp2
    go_ret
    exact ⟨by rw [HV.out]; rfl, HK.out⟩
end Go.Proofs.Ytoanldoocmmhjaa
