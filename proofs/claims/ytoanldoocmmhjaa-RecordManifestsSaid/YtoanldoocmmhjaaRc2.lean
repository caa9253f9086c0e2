/- record's numbers, places and may, by what they answer (no conditions but that numbers are ints). -/
import Derived.Test.YtoanldoocmmhjaaRc1
namespace Go.Proofs.Ytoanldoocmmhjaa
open Go.RowKit

set_option maxRecDepth 100000 in
set_option maxHeartbeats 800000 in
theorem numbers_any (kind id : Int) (name dig : ByteArray) (al : Option Addr) (nl cl : Nat) (az : Option Addr) (nz cz : Nat) (zs : List Int) (w : World) (h : IntsIn w .i64 al nl zs) :
    Calls Try.prog 46 #[.agg #[.int .i64 kind, .int .i64 id, .string name, .string dig, .slice al nl cl, .slice az nz cz]] w fun e w' => e = .returned (.bool (Rc.listB kind zs)) ∧ Kept w w' := by
  have hB : Rc.listB kind zs = (decide (nl ≤ 2000) && !(decide (kind = 2) && decide (nl ≠ 2)) && zs.all Rc.gen) := by unfold Rc.listB; rw [h.len_eq]
  have HL := Lib.hid h.len_eq
  have hle := h.le
  have HB := Lib.hid hB
  clear hB
  have HK := Lib.hid ((Kept.refl w).alloc (.cells #[.int .i64 kind, .int .i64 id, .string name, .string dig, .slice al nl cl, .slice az nz cz] 31))
  have hb := BlockAt.new w #[.int .i64 kind, .int .i64 id, .string name, .string dig, .slice al nl cl, .slice az nz cz] 31
  have HI := Lib.hid (h.kept HK.out)
  clear h
  go_enter Try.func46, Try.ntmps46
  go_upto_region 1 with (fail)
  generalize w.alloc (.cells #[.int .i64 kind, .int .i64 id, .string name, .string dig, .slice al nl cl, .slice az nz cz] 31) = w1 at *
  obtain ⟨a0, a1, a2, a3, a4, a5⟩ := box6 hb
  clear hb
  by_cases h1 : nl ≤ 2000
  · have d1 : decide ((2000 : Int) < nl) = false := decide_eq_false (by omega)
    by_cases h2 : kind = 2 ∧ nl ≠ 2
    · obtain ⟨rfl, h3⟩ := h2
      have d3 : ((nl : Int) != 2) = true := by rw [bne_iff_ne]; omega
      have hv : Rc.listB 2 zs = false := by rw [HB.out, decide_eq_true h3]; simp
      have HV := Lib.hid hv
      clear hv HB
      go_wp2
      go_ret
      exact ⟨by rw [HV.out]; rfl, HK.out⟩
    · have hx : (!(decide (kind = 2) && decide (nl ≠ 2))) = true := by
        rw [Bool.not_eq_true', Bool.and_eq_false_iff]
        by_cases hk : kind = 2
        · exact .inr (decide_eq_false (fun h3 => h2 ⟨hk, h3⟩))
        · exact .inl (decide_eq_false hk)
      have hv : Rc.listB kind zs = zs.all Rc.gen := by rw [HB.out, hx, decide_eq_true h1]; simp
      have HV := Lib.hid hv
      clear hv hx HB
      have hcut : ((kind == 2) = false) ∨ ((kind == 2) = true ∧ ((nl : Int) != 2) = false) := by
        by_cases hk : kind = 2
        · refine .inr ⟨by rw [hk]; rfl, ?_⟩
          have : nl = 2 := Decidable.not_not.1 (fun h3 => h2 ⟨hk, h3⟩)
          rw [this]; rfl
        · exact .inl (beq_false_of_ne hk)
      have hgo : ∀ i : Nat, i < nl → ∃ b off, al = some ⟨b, off, none⟩ ∧ w1.cell? ⟨b, off + i, none⟩ = some (.int .i64 (zs.getD i 0)) := fun i hi => by
        obtain ⟨b, off, ha, hc⟩ := HI.out.cell (by omega)
        exact ⟨b, off, ha, hc i hi _ (Kept.refl _)⟩
      have HGO := Lib.hid hgo
      clear hgo h2
      rcases hcut with d2 | ⟨d2, d3⟩
      all_goals
        go_wp2_with fail
        go_loop [23] (fun i => ∃ k : Nat, k ≤ nl ∧ i = .int .i64 k ∧ (zs.take k).all Rc.gen = true) (fun i => nl - (intOf i).toNat)
        case atStart => exact ⟨0, by omega, rfl, rfl⟩
        case round =>
          obtain ⟨k, hk, rfl, hal⟩ := hrel
          have HAL := Lib.hid hal
          clear hal
          by_cases hlt : k < nl
          · obtain ⟨b, off, rfl, hc⟩ := HGO.out k hlt
            have HS := Lib.hid (all_snoc zs Rc.gen k 0 (by have := HL.out; omega))
            have HAT := Lib.hid (all_at zs Rc.gen k 0 (by have := HL.out; omega))
            generalize zs.getD k 0 = x at *
            go_wp2_with fail
            refine (within_any x 0 1073741824 _).mono ?_
            rintro e w' ⟨rfl, rfl⟩
            have hg : Rc.within x 0 1073741824 = Rc.gen x := rfl
            rw [hg]
            clear hg
            cases hgx : Rc.gen x with
            | true =>
              have HGX := Lib.hid hgx
              clear hgx
              go_wp2
              go_round
              case rel => exact ⟨k + 1, by omega, by go_num, by rw [HS.out, HAL.out, HGX.out]; rfl⟩
              case measure => simp [intOf]; omega
            | false =>
              have HGX := Lib.hid hgx
              clear hgx
              go_wp2
              go_ret
              exact ⟨by rw [HV.out, HAT.out HGX.out]; rfl, HK.out⟩
          · obtain rfl : k = nl := by omega
            go_wp2
            go_ret
            exact ⟨by rw [HV.out, ← HAL.out, List.take_of_length_le (Nat.le_of_eq HL.out)]; rfl, HK.out⟩
  · have d1 : decide ((2000 : Int) < nl) = true := decide_eq_true (by omega)
    have hv : Rc.listB kind zs = false := by rw [HB.out, decide_eq_false h1]; rfl
    have HV := Lib.hid hv
    clear hv HB
    go_wp2
    go_ret
    exact ⟨by rw [HV.out]; rfl, HK.out⟩
end Go.Proofs.Ytoanldoocmmhjaa
