
/- The reference of package array: Dirty (conditions: the array lies as it should). -/
import Derived.Test.YtkfomaoillnehaaAr20
import Derived.Test.YtkfomaoillnehaaAr21
namespace Go.Proofs.Ytkfomaoillnehaa
open Go.RowKit
attribute [local go_sem] Oper.semAt_some

theorem dirtyD_none {S : Arr} {k : Nat} (h : S.ds k = none) : dirtyD S.n S.ds (k + 1) = dirtyD S.n S.ds k := by
  show dirtyD S.n S.ds k + (match S.ds k with | none => 0 | some x => dirtyR x S.n) = _
  rw [h]; rfl
theorem dirtyD_some {S : Arr} {k : Nat} {x : Dsk} (h : S.ds k = some x) : dirtyD S.n S.ds (k + 1) = dirtyD S.n S.ds k + dirtyR x S.n := by
  show dirtyD S.n S.ds k + (match S.ds k with | none => 0 | some x => dirtyR x S.n) = _
  rw [h]
theorem dirtyR_add (x : Dsk) (i : Nat) (h : (x.c i).size ≠ 0) : dirtyR x (i + 1) = dirtyR x i + 1 := by
  show dirtyR x i + (if (x.c i).size = 0 then 0 else 1) = _
  rw [if_neg h]
theorem dirtyR_same (x : Dsk) (i : Nat) (h : (x.c i).size = 0) : dirtyR x (i + 1) = dirtyR x i := by
  show dirtyR x i + (if (x.c i).size = 0 then 0 else 1) = _
  rw [if_pos h]; rfl
set_option maxRecDepth 100000 in
set_option maxHeartbeats 4000000 in
theorem dirty_ar {w : World} {p A D E : Nat} {K C : Nat → Nat} {S : Arr} (h : RfP w p A D E K C S) :
    Calls Try.prog 45 #[.pointer (some ⟨p, 0, none⟩)] w fun e w' => e = .returned (.int .i64 ((dirtyA S : Nat) : Int)) ∧ Kept w w' := by
  have HP := Lib.hid h
  have hm := h.m2
  have hn2 := h.n2
  clear h
  go_enter Try.func45, Try.ntmps45
  go_wp2_with fail
  go_loopw [3, 4] (fun s d wr => ∃ k : Nat, k ≤ S.m ∧ d = .int .i64 ((k : Nat) : Int) ∧ s = .int .i64 ((dirtyD S.n S.ds k : Nat) : Int) ∧ Kept w wr) (fun _ d _ => S.m - (intOf d).toNat)
  case atStart => exact ⟨0, by omega, rfl, rfl, Kept.refl _⟩
  case round =>
    obtain ⟨k, hk, rfl, rfl, hkw⟩ := hrel
    have HK := Lib.hid hkw
    have hp := HP.out.kept hkw
    clear hkw
    obtain ⟨a1, a2, a3, ht⟩ := hp.top
    obtain ⟨c0, c1, c2, c3, c4, c5, c6⟩ := box7r ht
    clear ht
    by_cases hlt : k < S.m
    · have hd1 : decide ((k : Int) < S.m) = true := decide_eq_true (by omega)
      have hbd := dirtyD_le S.n S.ds k
      have hbd2 := Nat.mul_le_mul (show k ≤ 12 by omega) hn2
      obtain ⟨V, hV⟩ : ∃ V, V = dirtyD S.n S.ds k := ⟨_, rfl⟩
      rw [← hV] at hbd ⊢
      have HV := Lib.hid hV
      clear hV hp
      cases hx : S.ds k with
      | none =>
        have HX := Lib.hid hx
        have HE := Lib.hid (dirtyD_none hx)
        rw [← HV.out] at HE
        clear hx
        go_wp2_with fail
        obtain ⟨wo, rfl⟩ : ∃ wo : World, wo = wr := ⟨_, rfl⟩
        go_loopw [3, 5] (fun s t wr => ∃ i : Nat, i ≤ S.n ∧ t = .int .i64 ((i : Nat) : Int) ∧ s = .int .i64 ((V : Nat) : Int) ∧ Kept wo wr) (fun _ t _ => S.n - (intOf t).toNat)
        case atStart => exact ⟨0, by omega, rfl, rfl, Kept.refl _⟩
        case round =>
          obtain ⟨i, hi, rfl, rfl, hki⟩ := hrel
          have HKI := Lib.hid hki
          have hp := HP.out.kept (HK.out.trans hki)
          clear hki c0 c1 c2 c3 c4 c5 c6
          obtain ⟨a1, a2, a3, ht⟩ := hp.top
          obtain ⟨c0, c1, c2, c3, c4, c5, c6⟩ := box7r ht
          clear ht
          by_cases hil : i < S.n
          · have hd2 : decide ((i : Int) < S.n) = true := decide_eq_true (by omega)
            have l0 : wr.cell? ⟨A, k, none⟩ = some (.bool false) := by rw [hp.r.live k hlt, HX.out]; rfl
            clear hp
            go_wp2
            go_roundw
            case rel => exact ⟨i + 1, by omega, by go_num, rfl, HKI.out⟩
            case measure => simp [intOf]; omega
          · have hd2 : decide ((i : Int) < S.n) = false := decide_eq_false (by omega)
            clear hp
            go_wp2
            go_roundw
            case rel => exact ⟨k + 1, by omega, by go_num, by rw [HE.out], HK.out.trans HKI.out⟩
            case measure => simp [intOf]; omega
      | some x =>
        have HX := Lib.hid hx
        have HE := Lib.hid (dirtyD_some hx)
        rw [← HV.out] at HE
        clear hx
        go_wp2_with fail
        obtain ⟨wo, rfl⟩ : ∃ wo : World, wo = wr := ⟨_, rfl⟩
        go_loopw [3, 5] (fun s t wr => ∃ i : Nat, i ≤ S.n ∧ t = .int .i64 ((i : Nat) : Int) ∧ s = .int .i64 ((V + dirtyR x i : Nat) : Int) ∧ Kept wo wr) (fun _ t _ => S.n - (intOf t).toNat)
        case atStart => exact ⟨0, by omega, rfl, rfl, Kept.refl _⟩
        case round =>
          obtain ⟨i, hi, rfl, rfl, hki⟩ := hrel
          have HKI := Lib.hid hki
          have hp := HP.out.kept (HK.out.trans hki)
          clear hki c0 c1 c2 c3 c4 c5 c6
          obtain ⟨a1, a2, a3, ht⟩ := hp.top
          obtain ⟨c0, c1, c2, c3, c4, c5, c6⟩ := box7r ht
          clear ht
          by_cases hil : i < S.n
          · have hd2 : decide ((i : Int) < S.n) = true := decide_eq_true (by omega)
            have l0 : wr.cell? ⟨A, k, none⟩ = some (.bool true) := by rw [hp.r.live k hlt, HX.out]; rfl
            obtain ⟨cp, l1, hcp⟩ := hp.r.cach k hlt
            have l2 := (hp.r.txc hlt HX.out).cell i hil
            have hle := dirtyR_le x i
            have HA1 := Lib.hid (dirtyR_add x i)
            have HS1 := Lib.hid (dirtyR_same x i)
            obtain ⟨q, hq⟩ : ∃ q, q = V + dirtyR x i := ⟨_, rfl⟩
            have hqb : q ≤ 100000 := by omega
            rw [← hq]
            have HQ := Lib.hid hq
            clear hp hq hle hbd hbd2
            generalize x.c i = t at *
            by_cases hz : t.size = 0
            · have hte := isEmpty_none hz
              have HR := Lib.hid (show V + dirtyR x (i + 1) = q by rw [HS1.out hz, HQ.out])
              clear hz HA1 HS1
              go_wp2
              go_roundw
              case rel => exact ⟨i + 1, by omega, by go_num, by rw [HR.out], HKI.out⟩
              case measure => simp [intOf]; omega
            · have hte := isEmpty_some hz
              have HR := Lib.hid (show V + dirtyR x (i + 1) = q + 1 by rw [HA1.out hz, HQ.out]; omega)
              clear hz HA1 HS1
              go_wp2
              go_roundw
              case rel => exact ⟨i + 1, by omega, by go_num, by rw [HR.out]; go_num, HKI.out⟩
              case measure => simp [intOf]; omega
          · have hd2 : decide ((i : Int) < S.n) = false := decide_eq_false (by omega)
            obtain rfl : i = S.n := by omega
            clear hp
            go_wp2
            go_roundw
            case rel => exact ⟨k + 1, by omega, by go_num, by rw [HE.out], HK.out.trans HKI.out⟩
            case measure => simp [intOf]; omega
    · obtain rfl : k = S.m := by omega
      have hd1 : decide ((S.m : Int) < S.m) = false := decide_eq_false (by omega)
      clear hp
      go_wp2
      go_ret
      exact ⟨rfl, HK.out⟩
end Go.Proofs.Ytkfomaoillnehaa
