/- record's places, by what it answers (no conditions but that numbers are ints). -/
import Derived.Test.YtoanldoocmmhjaaRc2
namespace Go.Proofs.Ytoanldoocmmhjaa
open Go.RowKit

set_option maxRecDepth 100000 in
set_option maxHeartbeats 800000 in
theorem places_any (az : Option Addr) (nz cz : Nat) (zs : List (Int × Int)) (w : World) (h : SlotsIn w az nz zs) :
    Calls Try.prog 47 #[.slice az nz cz] w fun e w' => e = .returned (.bool (Rc.slotsB zs)) ∧ Kept w w' := by
  have hB : Rc.slotsB zs = (Rc.within nz 1 14 && zs.all Rc.slotB) := by
    unfold Rc.slotsB Rc.within
    rw [h.len_eq]
    congr 1
    rw [decide_eq_decide]
    omega
  have HL := Lib.hid h.len_eq
  have hle := h.le
  have HB := Lib.hid hB
  have HI := Lib.hid h
  clear h hB
  go_enter Try.func47, Try.ntmps47
  go_wp2_with fail
  refine (within_any nz 1 14 _).mono ?_
  rintro e w' ⟨rfl, rfl⟩
  cases hw : Rc.within nz 1 14 with
  | false =>
    have hv : Rc.slotsB zs = false := by rw [HB.out, hw]; rfl
    have HV := Lib.hid hv
    clear hv HB hw
    go_wp2
    go_ret
    exact ⟨by rw [HV.out]; rfl, Kept.refl _⟩
  | true =>
    have hv : Rc.slotsB zs = zs.all Rc.slotB := by rw [HB.out, hw]; rfl
    have HV := Lib.hid hv
    clear hv HB hw
    have hgo : ∀ i : Nat, i < nz → ∃ b off, az = some ⟨b, off, none⟩ ∧ ∀ w', Kept w w' → w'.cell? ⟨b, off + i * 2, none⟩ = some (.int .i64 (zs.getD i (0, 0)).1) ∧ w'.cell? ⟨b, off + i * 2 + 1, none⟩ = some (.int .i64 (zs.getD i (0, 0)).2) := fun i hi => by
      obtain ⟨b, off, ha, hc⟩ := HI.out.cell (by omega)
      exact ⟨b, off, ha, hc i hi⟩
    have HGO := Lib.hid hgo
    clear hgo
    go_wp2_with fail
    go_loopw [11] (fun i wr => ∃ k : Nat, k ≤ nz ∧ i = .int .i64 k ∧ (zs.take k).all Rc.slotB = true ∧ Kept w wr) (fun i _ => nz - (intOf i).toNat)
    case atStart => exact ⟨0, by omega, rfl, rfl, Kept.refl _⟩
    case round =>
      obtain ⟨k, hk, rfl, hal, hK⟩ := hrel
      have HAL := Lib.hid hal
      have HK := Lib.hid hK
      clear hal hK
      by_cases hlt : k < nz
      · obtain ⟨b, off, rfl, hc⟩ := HGO.out k hlt
        obtain ⟨c0, c1⟩ := hc _ HK.out
        have HS := Lib.hid (all_snoc zs Rc.slotB k (0, 0) (by have := HL.out; omega))
        have HAT := Lib.hid (all_at zs Rc.slotB k (0, 0) (by have := HL.out; omega))
        clear hc
        generalize zs.getD k (0, 0) = x at *
        obtain ⟨d, p⟩ := x
        have hsb : Rc.slotB (d, p) = (Rc.within d (-1) 11 && Rc.within p 0 63) := rfl
        have HSB := Lib.hid hsb
        clear hsb
        dsimp only at c0 c1
        go_wp2_with fail
        refine (within_any d (-1) 11 _).mono ?_
        rintro e w' ⟨rfl, rfl⟩
        cases h1 : Rc.within d (-1) 11 with
        | false =>
          have hv : Rc.slotB (d, p) = false := by rw [HSB.out, h1]; rfl
          have HF := Lib.hid (HAT.out hv)
          clear hv h1
          go_wp2
          go_ret
          exact ⟨by rw [HV.out, HF.out]; rfl, HK.out.alloc _⟩
        | true =>
          have hv1 : Rc.slotB (d, p) = Rc.within p 0 63 := by rw [HSB.out, h1]; rfl
          have HV1 := Lib.hid hv1
          clear hv1 h1
          go_wp2_with fail
          refine (within_any p 0 63 _).mono ?_
          rintro e w' ⟨rfl, rfl⟩
          cases h2 : Rc.within p 0 63 with
          | false =>
            have HF := Lib.hid (HAT.out (HV1.out.trans h2))
            clear h2
            go_wp2
            go_ret
            exact ⟨by rw [HV.out, HF.out]; rfl, HK.out.alloc _⟩
          | true =>
            have HT := Lib.hid (HV1.out.trans h2)
            clear h2
            go_wp2
            go_roundw
            case rel => exact ⟨k + 1, by omega, by go_num, by rw [HS.out, HAL.out, HT.out]; rfl, HK.out.alloc _⟩
            case measure => simp [intOf]; omega
      · obtain rfl : k = nz := by omega
        go_wp2
        go_ret
        exact ⟨by rw [HV.out, ← HAL.out, List.take_of_length_le (Nat.le_of_eq HL.out)]; rfl, HK.out⟩
end Go.Proofs.Ytoanldoocmmhjaa
