/- names.version; the reference's version and part (texts no longer than a text may be). -/
import Derived.Test.YtjiefcjjgadjiaaDoorNm2
namespace Go.Proofs.YtjiefcjjgadjiaaDoor
open Go.RowKit Go.Shelf
theorem byte_eq (c : UInt8) (n : Nat) (hn : n < 256) : (c == UInt8.ofNat n) = decide (c.toNat = n) := by
  rw [Bool.eq_iff_iff, beq_iff_eq, decide_eq_true_eq]
  constructor
  · intro h; rw [h, UInt8.toNat_ofNat']; omega
  · intro h; apply UInt8.toNat_inj.1; rw [h, UInt8.toNat_ofNat']; omega
theorem versB_dot (l : List UInt8) (h : (l.getD 0 0).toNat = 46) : versB l = false := by
  unfold versB
  have h1 : (l.getD 0 0 == 46) = true := by
    have := byte_eq (l.getD 0 0) 46 (by omega)
    rw [decide_eq_true h] at this
    exact this
  rw [h1]
  simp
theorem versB_dash (l : List UInt8) (h : (l.getD 0 0).toNat = 45) : versB l = false := by
  unfold versB
  have h1 : (l.getD 0 0 == 45) = true := by
    have := byte_eq (l.getD 0 0) 45 (by omega)
    rw [decide_eq_true h] at this
    exact this
  rw [h1]
  simp
theorem versB_all (l : List UInt8) (h : l.all veB = false) : versB l = false := by unfold versB; rw [h]; simp
theorem versB_true (l : List UInt8) (h0 : l ≠ []) (h1 : ¬ (l.getD 0 0).toNat = 46) (h2 : ¬ (l.getD 0 0).toNat = 45) (h3 : l.all veB = true) : versB l = true := by
  unfold versB
  have a1 : (l.getD 0 0 == 46) = false := by
    have := byte_eq (l.getD 0 0) 46 (by omega)
    rw [decide_eq_false h1] at this
    exact this
  have a2 : (l.getD 0 0 == 45) = false := by
    have := byte_eq (l.getD 0 0) 45 (by omega)
    rw [decide_eq_false h2] at this
    exact this
  rw [a1, a2, h3, decide_eq_true h0]
  rfl
theorem all_snoc8 (l : List UInt8) (p : UInt8 → Bool) (k : Nat) (h : k < l.length) : (l.take (k + 1)).all p = ((l.take k).all p && p (l.getD k 0)) := all_snoc l p k 0 h
theorem veB_true {c : UInt8} (h : plB c = true ∨ (65 ≤ c.toNat ∧ c.toNat ≤ 90) ∨ c.toNat = 95 ∨ c.toNat = 46 ∨ c.toNat = 45) : veB c = true := by
  unfold veB
  rcases h with h | h
  · rw [h]; rfl
  · rw [decide_eq_true h]; simp
theorem veB_false {c : UInt8} (h1 : plB c = false) (h : ¬ ((65 ≤ c.toNat ∧ c.toNat ≤ 90) ∨ c.toNat = 95 ∨ c.toNat = 46 ∨ c.toNat = 45)) : veB c = false := by
  unfold veB
  rw [h1, decide_eq_false h]
  rfl
set_option maxRecDepth 100000 in
set_option maxHeartbeats 4000000 in
theorem version_nm (u : ByteArray) (w : World) (hu : u.size ≤ 9223372036854775807) : Calls Tryd.prog 31 #[.string u] w fun e w' => e = .returned (.bool (versB u.data.toList)) ∧ w = w' := by
  have hln : u.data.toList.length = u.size := rfl
  have HLN := Lib.hid hln
  by_cases h0 : 0 < u.size
  · have hne : u.toList.isEmpty = false := by
      rw [← toList_data]
      cases hc : u.data.toList with
      | nil => rw [hc] at hln; simp at hln; omega
      | cons x k => rfl
    have hnz : ((u.size : Int) == 0) = false := beq_eq_false_iff_ne.2 (by omega)
    have HB0 := Lib.hid (byte_of u 0 h0)
    have HBI := Lib.hid (fun i (h : i < u.size) => byte_of u i h)
    have HNE := Lib.hid (show u.data.toList ≠ [] from fun e => by rw [e] at hln; simp at hln; omega)
    clear hln
    by_cases h1 : u[0].toNat = 46
    · have d1 : ((u[0].toNat : Int) == 46) = true := by first | exact decide_eq_true (by omega) | exact beq_iff_eq.2 (by omega)
      have HP := Lib.hid (versB_dot u.data.toList (by rw [← HB0.out]; assumption))
      (try clear h1)
      (try clear h2)
      go_enter Tryd.func31, Tryd.ntmps31
      go_wp2
      go_ret
      rw [HP.out]
      exact ⟨rfl, rfl⟩
    · have d1 : ((u[0].toNat : Int) == 46) = false := by first | exact decide_eq_false (by omega) | exact beq_eq_false_iff_ne.2 (by omega)
      by_cases h2 : u[0].toNat = 45
      · have d2 : ((u[0].toNat : Int) == 45) = true := by first | exact decide_eq_true (by omega) | exact beq_iff_eq.2 (by omega)
        have HP := Lib.hid (versB_dash u.data.toList (by rw [← HB0.out]; assumption))
        (try clear h1)
        (try clear h2)
        go_enter Tryd.func31, Tryd.ntmps31
        go_wp2
        go_ret
        rw [HP.out]
        exact ⟨rfl, rfl⟩
      · have d2 : ((u[0].toNat : Int) == 45) = false := by first | exact decide_eq_false (by omega) | exact beq_eq_false_iff_ne.2 (by omega)
        have HH1 := Lib.hid h1
        have HH2 := Lib.hid h2
        clear h1 h2
        go_enter Tryd.func31, Tryd.ntmps31
        go_wp2_with fail
        go_loopw [18] (fun i wr => ∃ k : Nat, k ≤ u.size ∧ i = .int .i64 k ∧ (u.data.toList.take k).all veB = true ∧ w = wr) (fun i _ => u.size - (intOf i).toNat)
        case atStart => exact ⟨0, by omega, rfl, by simp, by trivial⟩
        case round =>
          obtain ⟨k, hk, rfl, hall, rfl⟩ := hrel
          have HA := Lib.hid hall
          clear hall
          by_cases hlt : k < u.size
          · have hd1 : decide (k < u.size) = true := decide_eq_true hlt
            have HSN := Lib.hid (show (u.data.toList.take (k + 1)).all veB = ((u.data.toList.take k).all veB && veB u[k]) by rw [all_snoc8 _ _ _ (by rw [HLN.out]; exact hlt), HBI.out k hlt])
            have HF := Lib.hid (fun (h : veB u[k] = false) => all_at u.data.toList veB k 0 (by rw [HLN.out]; exact hlt) (by rw [← HBI.out k hlt]; exact h))
            cases hv : veB u[k] with
            | true =>
              have HV := Lib.hid hv
              go_wp2_with fail
              refine (versioned_any _ _).mono ?_
              rintro e w' ⟨rfl, rfl⟩
              go_wp2
              go_roundw
              case rel => exact ⟨k + 1, by omega, by go_num, by rw [HSN.out, HA.out, HV.out]; rfl, by trivial⟩
              case measure => simp [intOf]; omega
            | false =>
              have HV := Lib.hid hv
              go_wp2_with fail
              refine (versioned_any _ _).mono ?_
              rintro e w' ⟨rfl, rfl⟩
              go_wp2
              go_ret
              rw [versB_all _ (HF.out HV.out)]
              exact ⟨rfl, rfl⟩
          · obtain rfl : k = u.size := by omega
            have hd1 : decide (u.size < u.size) = false := decide_eq_false (by omega)
            have HP := Lib.hid (versB_true u.data.toList HNE.out (by rw [← HB0.out]; exact HH1.out) (by rw [← HB0.out]; exact HH2.out) (by have := HA.out; rwa [List.take_of_length_le (by rw [HLN.out]; omega)] at this))
            go_wp2
            go_ret
            rw [HP.out]
            exact ⟨rfl, rfl⟩
  · have hl0 : u.data.toList = [] := List.length_eq_zero_iff.1 (by omega)
    have hne : u.toList.isEmpty = true := by rw [← toList_data, hl0]; rfl
    have hnz : ((u.size : Int) == 0) = true := beq_iff_eq.2 (by omega)
    have hsz : u.size = 0 := by omega
    rw [hl0, show versB [] = false from rfl]
    clear hl0 HLN hln h0 hsz
    go_enter Tryd.func31, Tryd.ntmps31
    go_wp2
    go_ret
    exact ⟨rfl, rfl⟩
set_option maxRecDepth 100000 in
set_option maxHeartbeats 4000000 in
theorem version_ref (u : ByteArray) (w : World) (hu : u.size ≤ 9223372036854775807) : Calls Tryd.prog 23 #[.string u] w fun e w' => e = .returned (.bool (versB u.data.toList)) ∧ w = w' := by
  have hln : u.data.toList.length = u.size := rfl
  have HLN := Lib.hid hln
  by_cases h0 : 0 < u.size
  · have hne : u.toList.isEmpty = false := by
      rw [← toList_data]
      cases hc : u.data.toList with
      | nil => rw [hc] at hln; simp at hln; omega
      | cons x k => rfl
    have hnz : ((u.size : Int) == 0) = false := beq_eq_false_iff_ne.2 (by omega)
    have HB0 := Lib.hid (byte_of u 0 h0)
    have HBI := Lib.hid (fun i (h : i < u.size) => byte_of u i h)
    have HNE := Lib.hid (show u.data.toList ≠ [] from fun e => by rw [e] at hln; simp at hln; omega)
    clear hln
    by_cases h1 : u[0].toNat = 46
    · have d1 : ((u[0].toNat : Int) == 46) = true := by first | exact decide_eq_true (by omega) | exact beq_iff_eq.2 (by omega)
      have HP := Lib.hid (versB_dot u.data.toList (by rw [← HB0.out]; assumption))
      (try clear h1)
      (try clear h2)
      go_enter Tryd.func23, Tryd.ntmps23
      go_wp2
      go_ret
      rw [HP.out]
      exact ⟨rfl, rfl⟩
    · have d1 : ((u[0].toNat : Int) == 46) = false := by first | exact decide_eq_false (by omega) | exact beq_eq_false_iff_ne.2 (by omega)
      by_cases h2 : u[0].toNat = 45
      · have d2 : ((u[0].toNat : Int) == 45) = true := by first | exact decide_eq_true (by omega) | exact beq_iff_eq.2 (by omega)
        have HP := Lib.hid (versB_dash u.data.toList (by rw [← HB0.out]; assumption))
        (try clear h1)
        (try clear h2)
        go_enter Tryd.func23, Tryd.ntmps23
        go_wp2
        go_ret
        rw [HP.out]
        exact ⟨rfl, rfl⟩
      · have d2 : ((u[0].toNat : Int) == 45) = false := by first | exact decide_eq_false (by omega) | exact beq_eq_false_iff_ne.2 (by omega)
        have HH1 := Lib.hid h1
        have HH2 := Lib.hid h2
        clear h1 h2
        go_enter Tryd.func23, Tryd.ntmps23
        go_wp2_with fail
        go_loopw [3] (fun i wr => ∃ k : Nat, k ≤ u.size ∧ i = .int .i64 k ∧ (u.data.toList.take k).all veB = true ∧ w = wr) (fun i _ => u.size - (intOf i).toNat)
        case atStart => exact ⟨0, by omega, rfl, by simp, by trivial⟩
        case round =>
          obtain ⟨k, hk, rfl, hall, rfl⟩ := hrel
          have HA := Lib.hid hall
          clear hall
          by_cases hlt : k < u.size
          · have hd1 : decide (k < u.size) = true := decide_eq_true hlt
            have HSN := Lib.hid (show (u.data.toList.take (k + 1)).all veB = ((u.data.toList.take k).all veB && veB u[k]) by rw [all_snoc8 _ _ _ (by rw [HLN.out]; exact hlt), HBI.out k hlt])
            have HF := Lib.hid (fun (h : veB u[k] = false) => all_at u.data.toList veB k 0 (by rw [HLN.out]; exact hlt) (by rw [← HBI.out k hlt]; exact h))
            cases hp : plB u[k] with
            | true =>
              have HV := Lib.hid (veB_true (c := u[k]) (.inl hp))
              go_wp2_with fail
              refine (letter_ref _ _).mono ?_
              rintro e w' ⟨rfl, rfl⟩
              go_wp2
              go_roundw
              case rel => exact ⟨k + 1, by omega, by go_num, by rw [HSN.out, HA.out, HV.out]; rfl, by trivial⟩
              case measure => simp [intOf]; omega
            | false =>
              by_cases h5 : 65 ≤ u[k].toNat
              · have d5 : (decide ((65 : Int) ≤ (u[k].toNat : Int))) = true := by first | exact decide_eq_true (by omega) | exact beq_iff_eq.2 (by omega)
                by_cases h6 : u[k].toNat ≤ 90
                · have d6 : (decide ((u[k].toNat : Int) ≤ 90)) = true := by first | exact decide_eq_true (by omega) | exact beq_iff_eq.2 (by omega)
                  have HV := Lib.hid (veB_true (c := u[k]) (.inr (by omega)))
                  (try clear h5)
                  (try clear h6)
                  (try clear h7)
                  (try clear h8)
                  (try clear h9)
                  go_wp2_with fail
                  refine (letter_ref _ _).mono ?_
                  rintro e w' ⟨rfl, rfl⟩
                  go_wp2
                  go_roundw
                  case rel => exact ⟨k + 1, by omega, by go_num, by rw [HSN.out, HA.out, HV.out]; rfl, by trivial⟩
                  case measure => simp [intOf]; omega
                · have d6 : (decide ((u[k].toNat : Int) ≤ 90)) = false := by first | exact decide_eq_false (by omega) | exact beq_eq_false_iff_ne.2 (by omega)
                  by_cases h7 : u[k].toNat = 95
                  · have d7 : ((u[k].toNat : Int) == 95) = true := by first | exact decide_eq_true (by omega) | exact beq_iff_eq.2 (by omega)
                    have g7 : ((u[k].toNat : Int) != 95) = false := by first | exact decide_eq_false (by omega) | exact bne_eq_false_iff_eq.2 (by omega)
                    have HV := Lib.hid (veB_true (c := u[k]) (.inr (by omega)))
                    (try clear h5)
                    (try clear h6)
                    (try clear h7)
                    (try clear h8)
                    (try clear h9)
                    go_wp2_with fail
                    refine (letter_ref _ _).mono ?_
                    rintro e w' ⟨rfl, rfl⟩
                    go_wp2
                    go_roundw
                    case rel => exact ⟨k + 1, by omega, by go_num, by rw [HSN.out, HA.out, HV.out]; rfl, by trivial⟩
                    case measure => simp [intOf]; omega
                  · have d7 : ((u[k].toNat : Int) == 95) = false := by first | exact decide_eq_false (by omega) | exact beq_eq_false_iff_ne.2 (by omega)
                    have g7 : ((u[k].toNat : Int) != 95) = true := by first | exact decide_eq_true (by omega) | exact bne_iff_ne.2 (by omega)
                    by_cases h8 : u[k].toNat = 46
                    · have d8 : ((u[k].toNat : Int) == 46) = true := by first | exact decide_eq_true (by omega) | exact beq_iff_eq.2 (by omega)
                      have g8 : ((u[k].toNat : Int) != 46) = false := by first | exact decide_eq_false (by omega) | exact bne_eq_false_iff_eq.2 (by omega)
                      have HV := Lib.hid (veB_true (c := u[k]) (.inr (by omega)))
                      (try clear h5)
                      (try clear h6)
                      (try clear h7)
                      (try clear h8)
                      (try clear h9)
                      go_wp2_with fail
                      refine (letter_ref _ _).mono ?_
                      rintro e w' ⟨rfl, rfl⟩
                      go_wp2
                      go_roundw
                      case rel => exact ⟨k + 1, by omega, by go_num, by rw [HSN.out, HA.out, HV.out]; rfl, by trivial⟩
                      case measure => simp [intOf]; omega
                    · have d8 : ((u[k].toNat : Int) == 46) = false := by first | exact decide_eq_false (by omega) | exact beq_eq_false_iff_ne.2 (by omega)
                      have g8 : ((u[k].toNat : Int) != 46) = true := by first | exact decide_eq_true (by omega) | exact bne_iff_ne.2 (by omega)
                      by_cases h9 : u[k].toNat = 45
                      · have d9 : ((u[k].toNat : Int) == 45) = true := by first | exact decide_eq_true (by omega) | exact beq_iff_eq.2 (by omega)
                        have g9 : ((u[k].toNat : Int) != 45) = false := by first | exact decide_eq_false (by omega) | exact bne_eq_false_iff_eq.2 (by omega)
                        have HV := Lib.hid (veB_true (c := u[k]) (.inr (by omega)))
                        (try clear h5)
                        (try clear h6)
                        (try clear h7)
                        (try clear h8)
                        (try clear h9)
                        go_wp2_with fail
                        refine (letter_ref _ _).mono ?_
                        rintro e w' ⟨rfl, rfl⟩
                        go_wp2
                        go_roundw
                        case rel => exact ⟨k + 1, by omega, by go_num, by rw [HSN.out, HA.out, HV.out]; rfl, by trivial⟩
                        case measure => simp [intOf]; omega
                      · have d9 : ((u[k].toNat : Int) == 45) = false := by first | exact decide_eq_false (by omega) | exact beq_eq_false_iff_ne.2 (by omega)
                        have g9 : ((u[k].toNat : Int) != 45) = true := by first | exact decide_eq_true (by omega) | exact bne_iff_ne.2 (by omega)
                        have HV := Lib.hid (veB_false (c := u[k]) hp (by omega))
                        (try clear h5)
                        (try clear h6)
                        (try clear h7)
                        (try clear h8)
                        (try clear h9)
                        go_wp2_with fail
                        refine (letter_ref _ _).mono ?_
                        rintro e w' ⟨rfl, rfl⟩
                        go_wp2
                        go_ret
                        rw [versB_all _ (HF.out HV.out)]
                        exact ⟨rfl, rfl⟩
              · have d5 : (decide ((65 : Int) ≤ (u[k].toNat : Int))) = false := by first | exact decide_eq_false (by omega) | exact beq_eq_false_iff_ne.2 (by omega)
                by_cases h7 : u[k].toNat = 95
                · have d7 : ((u[k].toNat : Int) == 95) = true := by first | exact decide_eq_true (by omega) | exact beq_iff_eq.2 (by omega)
                  have g7 : ((u[k].toNat : Int) != 95) = false := by first | exact decide_eq_false (by omega) | exact bne_eq_false_iff_eq.2 (by omega)
                  have HV := Lib.hid (veB_true (c := u[k]) (.inr (by omega)))
                  (try clear h5)
                  (try clear h6)
                  (try clear h7)
                  (try clear h8)
                  (try clear h9)
                  go_wp2_with fail
                  refine (letter_ref _ _).mono ?_
                  rintro e w' ⟨rfl, rfl⟩
                  go_wp2
                  go_roundw
                  case rel => exact ⟨k + 1, by omega, by go_num, by rw [HSN.out, HA.out, HV.out]; rfl, by trivial⟩
                  case measure => simp [intOf]; omega
                · have d7 : ((u[k].toNat : Int) == 95) = false := by first | exact decide_eq_false (by omega) | exact beq_eq_false_iff_ne.2 (by omega)
                  have g7 : ((u[k].toNat : Int) != 95) = true := by first | exact decide_eq_true (by omega) | exact bne_iff_ne.2 (by omega)
                  by_cases h8 : u[k].toNat = 46
                  · have d8 : ((u[k].toNat : Int) == 46) = true := by first | exact decide_eq_true (by omega) | exact beq_iff_eq.2 (by omega)
                    have g8 : ((u[k].toNat : Int) != 46) = false := by first | exact decide_eq_false (by omega) | exact bne_eq_false_iff_eq.2 (by omega)
                    have HV := Lib.hid (veB_true (c := u[k]) (.inr (by omega)))
                    (try clear h5)
                    (try clear h6)
                    (try clear h7)
                    (try clear h8)
                    (try clear h9)
                    go_wp2_with fail
                    refine (letter_ref _ _).mono ?_
                    rintro e w' ⟨rfl, rfl⟩
                    go_wp2
                    go_roundw
                    case rel => exact ⟨k + 1, by omega, by go_num, by rw [HSN.out, HA.out, HV.out]; rfl, by trivial⟩
                    case measure => simp [intOf]; omega
                  · have d8 : ((u[k].toNat : Int) == 46) = false := by first | exact decide_eq_false (by omega) | exact beq_eq_false_iff_ne.2 (by omega)
                    have g8 : ((u[k].toNat : Int) != 46) = true := by first | exact decide_eq_true (by omega) | exact bne_iff_ne.2 (by omega)
                    by_cases h9 : u[k].toNat = 45
                    · have d9 : ((u[k].toNat : Int) == 45) = true := by first | exact decide_eq_true (by omega) | exact beq_iff_eq.2 (by omega)
                      have g9 : ((u[k].toNat : Int) != 45) = false := by first | exact decide_eq_false (by omega) | exact bne_eq_false_iff_eq.2 (by omega)
                      have HV := Lib.hid (veB_true (c := u[k]) (.inr (by omega)))
                      (try clear h5)
                      (try clear h6)
                      (try clear h7)
                      (try clear h8)
                      (try clear h9)
                      go_wp2_with fail
                      refine (letter_ref _ _).mono ?_
                      rintro e w' ⟨rfl, rfl⟩
                      go_wp2
                      go_roundw
                      case rel => exact ⟨k + 1, by omega, by go_num, by rw [HSN.out, HA.out, HV.out]; rfl, by trivial⟩
                      case measure => simp [intOf]; omega
                    · have d9 : ((u[k].toNat : Int) == 45) = false := by first | exact decide_eq_false (by omega) | exact beq_eq_false_iff_ne.2 (by omega)
                      have g9 : ((u[k].toNat : Int) != 45) = true := by first | exact decide_eq_true (by omega) | exact bne_iff_ne.2 (by omega)
                      have HV := Lib.hid (veB_false (c := u[k]) hp (by omega))
                      (try clear h5)
                      (try clear h6)
                      (try clear h7)
                      (try clear h8)
                      (try clear h9)
                      go_wp2_with fail
                      refine (letter_ref _ _).mono ?_
                      rintro e w' ⟨rfl, rfl⟩
                      go_wp2
                      go_ret
                      rw [versB_all _ (HF.out HV.out)]
                      exact ⟨rfl, rfl⟩
          · obtain rfl : k = u.size := by omega
            have hd1 : decide (u.size < u.size) = false := decide_eq_false (by omega)
            have HP := Lib.hid (versB_true u.data.toList HNE.out (by rw [← HB0.out]; exact HH1.out) (by rw [← HB0.out]; exact HH2.out) (by have := HA.out; rwa [List.take_of_length_le (by rw [HLN.out]; omega)] at this))
            go_wp2
            go_ret
            rw [HP.out]
            exact ⟨rfl, rfl⟩
  · have hl0 : u.data.toList = [] := List.length_eq_zero_iff.1 (by omega)
    have hne : u.toList.isEmpty = true := by rw [← toList_data, hl0]; rfl
    have hnz : ((u.size : Int) == 0) = true := beq_iff_eq.2 (by omega)
    have hsz : u.size = 0 := by omega
    rw [hl0, show versB [] = false from rfl]
    clear hl0 HLN hln h0
    go_enter Tryd.func23, Tryd.ntmps23
    go_wp2
    go_ret
    exact ⟨rfl, rfl⟩
set_option maxRecDepth 100000 in
set_option maxHeartbeats 4000000 in
theorem part_ref (u : ByteArray) (w : World) (hu : u.size ≤ 9223372036854775807) : Calls Tryd.prog 22 #[.string u] w fun e w' => e = .returned (.bool (partB u.data.toList)) ∧ w = w' := by
  have hln : u.data.toList.length = u.size := rfl
  have HLN := Lib.hid hln
  by_cases h0 : 0 < u.size
  · have hnz : ((u.size : Int) == 0) = false := beq_eq_false_iff_ne.2 (by omega)
    obtain ⟨m, hm⟩ : ∃ m, m = u.size - 1 := ⟨_, rfl⟩
    have hmu : m < u.size := by omega
    have hmi : (u.size : Int) - 1 = (m : Int) := by omega
    have HB0 := Lib.hid (byte_of u 0 h0)
    have HB1 := Lib.hid (show u[m] = u.data.toList.getD (u.data.toList.length - 1) 0 by rw [byte_of u m hmu, hln, hm])
    have HMS := Lib.hid hm
    have HBI := Lib.hid (fun i (h : i < u.size) => byte_of u i h)
    have HNE := Lib.hid (show u.data.toList ≠ [] from fun e => by rw [e] at hln; simp at hln; omega)
    clear hln hm
    cases hp0 : plB u[0] with
    | false =>
      have HP := Lib.hid (partB_false1 u.data.toList (by rw [← HB0.out]; exact hp0))
      go_enter Tryd.func22, Tryd.ntmps22
      go_wp2_with fail
      refine (letter_ref _ _).mono ?_
      rintro e w' ⟨rfl, rfl⟩
      go_wp2
      go_ret
      rw [HP.out]
      exact ⟨rfl, rfl⟩
    | true =>
      cases hp1 : plB u[m] with
      | false =>
        have HP := Lib.hid (partB_false2 u.data.toList (by rw [← HB1.out]; exact hp1))
        go_enter Tryd.func22, Tryd.ntmps22
        go_wp2_with fail
        refine (letter_ref _ _).mono ?_
        rintro e w' ⟨rfl, rfl⟩
        go_wp2_with fail
        refine (letter_ref _ _).mono ?_
        rintro e w' ⟨rfl, rfl⟩
        go_wp2
        go_ret
        rw [HP.out]
        exact ⟨rfl, rfl⟩
      | true =>
        have HQ0 := Lib.hid (show plB (u.data.toList.getD 0 0) = true by rw [← HB0.out]; exact hp0)
        have HQ1 := Lib.hid (show plB (u.data.toList.getD (u.data.toList.length - 1) 0) = true by rw [← HB1.out]; exact hp1)
        go_enter Tryd.func22, Tryd.ntmps22
        go_wp2_with fail
        refine (letter_ref _ _).mono ?_
        rintro e w' ⟨rfl, rfl⟩
        go_wp2_with fail
        refine (letter_ref _ _).mono ?_
        rintro e w' ⟨rfl, rfl⟩
        rw [hp1]
        clear hp0 hp1 hmi hnz
        go_wp2_with fail
        go_loopw [3] (fun i wr => ∃ i' : Nat, i' ≤ u.size ∧ i = .int .i64 i' ∧ runsOk [] u.data.toList = runsOk [] (u.data.toList.drop i') ∧ w = wr) (fun i _ => u.size - (intOf i).toNat)
        case atStart => exact ⟨0, by omega, rfl, by rw [List.drop_zero], by trivial⟩
        case round =>
          obtain ⟨i, hin, rfl, hru, rfl⟩ := hrel
          have HRU := Lib.hid hru
          clear hru
          by_cases hlt : i < u.size
          · have hd1 : decide (i < u.size) = true := decide_eq_true hlt
            have hdr := drop_at u.data.toList i (by rw [HLN.out]; exact hlt)
            have hbi := HBI.out i hlt
            cases hp : plB u[i] with
            | true =>
              have HNX := Lib.hid (show runsOk [] u.data.toList = runsOk [] (u.data.toList.drop (i + 1)) by
                rw [HRU.out, hdr, ← hbi, runsOk_letter _ _ _ hp, okRun_nil, Bool.true_and])
              clear hdr hbi
              go_wp2_with fail
              refine (letter_ref _ _).mono ?_
              rintro e w' ⟨rfl, rfl⟩
              go_wp2
              go_roundw
              case rel => exact ⟨i + 1, by omega, by go_num, HNX.out, by trivial⟩
              case measure => simp [intOf]; omega
            | false =>
              have HPI := Lib.hid (show plB (u.data.toList.getD i 0) = false by rw [← hbi]; exact hp)
              clear hdr hbi
              go_wp2_with fail
              refine (letter_ref _ _).mono ?_
              rintro e w' ⟨rfl, rfl⟩
              rw [hp]
              clear hp
              go_wp2_with fail
              go_loopw [4] (fun k wr => ∃ k' : Nat, i ≤ k' ∧ k' ≤ u.size ∧ k = .int .i64 k' ∧ (∀ j, i ≤ j → j < k' → plB (u.data.toList.getD j 0) = false) ∧ w = wr) (fun k _ => u.size - (intOf k).toNat)
              case atStart => exact ⟨i, by omega, by omega, rfl, fun j h1 h2 => by omega, by trivial⟩
              case round =>
                obtain ⟨k, hik, hku, rfl, hsk, rfl⟩ := hrel
                have HSK := Lib.hid hsk
                clear hsk
                by_cases hkl : k < u.size
                · have hd2 : decide (k < u.size) = true := decide_eq_true hkl
                  cases hpk : plB u[k] with
                  | false =>
                    have HPK := Lib.hid (show plB (u.data.toList.getD k 0) = false by rw [← HBI.out k hkl]; exact hpk)
                    go_wp2_with fail
                    refine (letter_ref _ _).mono ?_
                    rintro e w' ⟨rfl, rfl⟩
                    go_wp2
                    go_roundw
                    case rel => exact ⟨k + 1, by omega, by omega, by go_num, fun j h1 h2 => by
                      by_cases e : j = k
                      · subst e; exact HPK.out
                      · exact HSK.out j h1 (by omega), by trivial⟩
                    case measure => simp [intOf]; omega
                  | true =>
                    have hki : i < k := by
                      by_cases e : i = k
                      · subst e; have := HPI.out; rw [← HBI.out i hlt, hpk] at this; cases this
                      · omega
                    have hrn : runsOk [] u.data.toList = (okRun (seg u.data.toList i k) && runsOk [] (u.data.toList.drop k)) := by
                      have h1 := drop_at u.data.toList k (by rw [HLN.out]; exact hkl)
                      have h2 : plB (u.data.toList.getD k 0) = true := by rw [← HBI.out k hkl]; exact hpk
                      rw [HRU.out, runs_skip u.data.toList i k (by omega) (by rw [HLN.out]; omega) HSK.out, h1, runsOk_letter _ _ _ h2, runsOk_letter _ _ _ h2, okRun_nil, Bool.true_and]
                    have HRN := Lib.hid hrn
                    obtain ⟨v, hv⟩ : ∃ v, u.extract i k = v := ⟨_, rfl⟩
                    have hvl : v.data.toList = seg u.data.toList i k := by rw [← hv]; exact seg_of u i k
                    have hvs : v.size ≤ u.size := by rw [← hv, ByteArray.size_extract]; omega
                    rw [← hvl] at HRN
                    clear hrn hvl
                    go_wp2_with fail
                    refine (letter_ref _ _).mono ?_
                    rintro e w' ⟨rfl, rfl⟩
                    have HOR := Lib.hid (show okRun v.data.toList = (v.data.toList == [46] || v.data.toList == [95] || v.data.toList == [95, 95] || v.data.toList.all (· == 45)) from rfl)
                    rw [hpk]
                    clear hpk
                    by_cases e1 : v.toList = [46]
                    · have f1 : (v.toList == [46]) = true := beq_iff_eq.2 e1
                      have HOK := Lib.hid (show okRun v.data.toList = true by rw [HOR.out, toList_data, f1]; rfl)
                      go_wp2
                      go_roundw
                      case rel => exact ⟨k, by omega, rfl, by rw [HRN.out, HOK.out, Bool.true_and], by trivial⟩
                      case measure => simp [intOf]; omega
                    · have f1 : (v.toList == [46]) = false := beq_eq_false_iff_ne.2 e1
                      by_cases e2 : v.toList = [95]
                      · have f2 : (v.toList == [95]) = true := beq_iff_eq.2 e2
                        have HOK := Lib.hid (show okRun v.data.toList = true by rw [HOR.out, toList_data, f1, f2]; rfl)
                        go_wp2
                        go_roundw
                        case rel => exact ⟨k, by omega, rfl, by rw [HRN.out, HOK.out, Bool.true_and], by trivial⟩
                        case measure => simp [intOf]; omega
                      · have f2 : (v.toList == [95]) = false := beq_eq_false_iff_ne.2 e2
                        by_cases e3 : v.toList = [95, 95]
                        · have f3 : (v.toList == [95, 95]) = true := beq_iff_eq.2 e3
                          have HOK := Lib.hid (show okRun v.data.toList = true by rw [HOR.out, toList_data, f1, f2, f3]; rfl)
                          go_wp2
                          go_roundw
                          case rel => exact ⟨k, by omega, rfl, by rw [HRN.out, HOK.out, Bool.true_and], by trivial⟩
                          case measure => simp [intOf]; omega
                        · have f3 : (v.toList == [95, 95]) = false := beq_eq_false_iff_ne.2 e3
                          have HOK := Lib.hid (show okRun v.data.toList = v.data.toList.all (· == 45) by rw [HOR.out, toList_data, f1, f2, f3]; rfl)
                          have HVL := Lib.hid (show v.data.toList.length = v.size from rfl)
                          have HVI := Lib.hid (fun j (h : j < v.size) => byte_of v j h)
                          go_wp2_with fail
                          clear e1 e2 e3 f1 f2 f3 hv
                          go_loopw [6, 7] (fun o j wr => ∃ j' : Nat, j' ≤ v.size ∧ j = .int .i64 j' ∧ o = .bool ((v.data.toList.take j').all (· == 45)) ∧ w = wr) (fun _ j _ => v.size - (intOf j).toNat)
                          case atStart => exact ⟨0, by omega, rfl, by simp, by trivial⟩
                          case round =>
                            obtain ⟨j, hj, rfl, rfl, rfl⟩ := hrel
                            by_cases hjl : j < v.size
                            · have hd3 : decide (j < v.size) = true := decide_eq_true hjl
                              have hsn := all_snoc8 v.data.toList (· == 45) j (by rw [HVL.out]; exact hjl)
                              rw [← HVI.out j hjl] at hsn
                              have hbq : (v[j] == (45 : UInt8)) = decide (v[j].toNat = 45) := byte_eq v[j] 45 (by omega)
                              rw [hbq] at hsn
                              generalize (v.data.toList.take j).all (· == 45) = A at hsn ⊢
                              obtain ⟨B, hB⟩ : ∃ B, (v.data.toList.take (j + 1)).all (· == 45) = B := ⟨_, rfl⟩
                              rw [hB] at hsn
                              have HBE := Lib.hid hB
                              clear hB
                              clear hbq
                              by_cases hx : v[j].toNat = 45
                              · have g1 : ((v[j].toNat : Int) == 45) = true := beq_iff_eq.2 (by omega)
                                rw [decide_eq_true hx, Bool.and_true] at hsn
                                have HSN := Lib.hid (HBE.out.trans hsn)
                                clear hx hsn HBE
                                cases A with
                                | true =>
                                  go_wp2
                                  go_roundw
                                  case rel => exact ⟨j + 1, by omega, by go_num, by rw [HSN.out], by trivial⟩
                                  case measure => simp [intOf]; omega
                                | false =>
                                  go_wp2
                                  go_roundw
                                  case rel => exact ⟨j + 1, by omega, by go_num, by rw [HSN.out], by trivial⟩
                                  case measure => simp [intOf]; omega
                              · have g1 : ((v[j].toNat : Int) == 45) = false := beq_eq_false_iff_ne.2 (by omega)
                                rw [decide_eq_false hx, Bool.and_false] at hsn
                                have HSN := Lib.hid (HBE.out.trans hsn)
                                clear hx hsn HBE
                                cases A with
                                | true =>
                                  go_wp2
                                  go_roundw
                                  case rel => exact ⟨j + 1, by omega, by go_num, by rw [HSN.out], by trivial⟩
                                  case measure => simp [intOf]; omega
                                | false =>
                                  go_wp2
                                  go_roundw
                                  case rel => exact ⟨j + 1, by omega, by go_num, by rw [HSN.out], by trivial⟩
                                  case measure => simp [intOf]; omega
                            · obtain rfl : j = v.size := by omega
                              have hd3 : decide (v.size < v.size) = false := decide_eq_false (by omega)
                              rw [List.take_of_length_le (by rw [HVL.out]; omega)]
                              have HOK2 := HOK
                              rw [← HOK2.out]
                              cases hok : okRun v.data.toList with
                              | true =>
                                go_wp2
                                go_roundw
                                case rel => exact ⟨k, by omega, rfl, by rw [HRN.out, hok, Bool.true_and], by trivial⟩
                                case measure => simp [intOf]; omega
                              | false =>
                                have HP := Lib.hid (partB_false3 u.data.toList (by rw [HRN.out, hok]; rfl))
                                go_wp2
                                go_ret
                                rw [HP.out]
                                exact ⟨rfl, rfl⟩
                · have hd2 : decide (k < u.size) = false := decide_eq_false hkl
                  exfalso
                  have h1 := HSK.out m (by have := HMS.out; omega) (by omega)
                  have h2 := HQ1.out
                  rw [← HB1.out, HBI.out m hmu] at h2
                  rw [h2] at h1
                  cases h1
          · obtain rfl : i = u.size := by omega
            have hd1 : decide (u.size < u.size) = false := decide_eq_false (by omega)
            have HP := Lib.hid (partB_true u.data.toList HNE.out HQ0.out HQ1.out (by rw [HRU.out, List.drop_of_length_le (by rw [HLN.out]; omega), runsOk_nil]))
            go_wp2
            go_ret
            rw [HP.out]
            exact ⟨rfl, rfl⟩
  · have hl0 : u.data.toList = [] := List.length_eq_zero_iff.1 (by omega)
    have hnz : ((u.size : Int) == 0) = true := beq_iff_eq.2 (by omega)
    have hsz : u.size = 0 := by omega
    rw [hl0, show partB [] = false from rfl]
    clear hl0 HLN hln h0
    go_enter Tryd.func22, Tryd.ntmps22
    go_wp2
    go_ret
    exact ⟨rfl, rfl⟩
end Go.Proofs.YtjiefcjjgadjiaaDoor
