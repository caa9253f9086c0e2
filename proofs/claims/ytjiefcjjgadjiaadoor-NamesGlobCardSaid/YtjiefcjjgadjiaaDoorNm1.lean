/- Letters of names and versions, as package names and as the reference asks for them (no conditions). -/
import Derived.Test.YtjiefcjjgadjiaaDoorStd
import Derived.Test.YtjiefcjjgadjiaaDoorShelf
namespace Go.Proofs.YtjiefcjjgadjiaaDoor
open Go.RowKit Go.Shelf

/-- a letter or digit that may stand anywhere in a part -/
def plB (c : UInt8) : Bool := decide ((97 ≤ c.toNat ∧ c.toNat ≤ 122) ∨ (48 ≤ c.toNat ∧ c.toNat ≤ 57))
/-- a byte of a version -/
def veB (c : UInt8) : Bool := plB c || decide ((65 ≤ c.toNat ∧ c.toNat ≤ 90) ∨ c.toNat = 95 ∨ c.toNat = 46 ∨ c.toNat = 45)
theorem plain_any (c : UInt8) (w : World) : Calls Tryd.prog 38 #[.int .u8 (c.toNat : Int)] w fun e w' => e = .returned (.bool (plB c)) ∧ w = w' := by
  have hc := UInt8.toNat_lt c
  by_cases h1 : 97 ≤ c.toNat
  · have d1 : decide ((97 : Int) ≤ (c.toNat : Int)) = true := decide_eq_true (by omega)
    by_cases h2 : c.toNat ≤ 122
    · have d2 : decide ((c.toNat : Int) ≤ 122) = true := decide_eq_true (by omega)
      rw [show plB c = true from decide_eq_true (by omega)]
      clear hc
      go_enter Tryd.func38, Tryd.ntmps38
      go_wp2
      go_ret
      exact ⟨rfl, rfl⟩
    · have d2 : decide ((c.toNat : Int) ≤ 122) = false := decide_eq_false (by omega)
      by_cases h3 : 48 ≤ c.toNat
      · have d3 : decide ((48 : Int) ≤ (c.toNat : Int)) = true := decide_eq_true (by omega)
        by_cases h4 : c.toNat ≤ 57
        · have d4 : decide ((c.toNat : Int) ≤ 57) = true := decide_eq_true (by omega)
          rw [show plB c = true from decide_eq_true (by omega)]
          clear hc
          go_enter Tryd.func38, Tryd.ntmps38
          go_wp2
          go_ret
          exact ⟨rfl, rfl⟩
        · have d4 : decide ((c.toNat : Int) ≤ 57) = false := decide_eq_false (by omega)
          rw [show plB c = false from decide_eq_false (by omega)]
          clear hc
          go_enter Tryd.func38, Tryd.ntmps38
          go_wp2
          go_ret
          exact ⟨rfl, rfl⟩
      · have d3 : decide ((48 : Int) ≤ (c.toNat : Int)) = false := decide_eq_false (by omega)
        rw [show plB c = false from decide_eq_false (by omega)]
        clear hc
        go_enter Tryd.func38, Tryd.ntmps38
        go_wp2
        go_ret
        exact ⟨rfl, rfl⟩
  · have d1 : decide ((97 : Int) ≤ (c.toNat : Int)) = false := decide_eq_false (by omega)
    by_cases h3 : 48 ≤ c.toNat
    · have d3 : decide ((48 : Int) ≤ (c.toNat : Int)) = true := decide_eq_true (by omega)
      by_cases h4 : c.toNat ≤ 57
      · have d4 : decide ((c.toNat : Int) ≤ 57) = true := decide_eq_true (by omega)
        rw [show plB c = true from decide_eq_true (by omega)]
        clear hc
        go_enter Tryd.func38, Tryd.ntmps38
        go_wp2
        go_ret
        exact ⟨rfl, rfl⟩
      · have d4 : decide ((c.toNat : Int) ≤ 57) = false := decide_eq_false (by omega)
        rw [show plB c = false from decide_eq_false (by omega)]
        clear hc
        go_enter Tryd.func38, Tryd.ntmps38
        go_wp2
        go_ret
        exact ⟨rfl, rfl⟩
    · have d3 : decide ((48 : Int) ≤ (c.toNat : Int)) = false := decide_eq_false (by omega)
      rw [show plB c = false from decide_eq_false (by omega)]
      clear hc
      go_enter Tryd.func38, Tryd.ntmps38
      go_wp2
      go_ret
      exact ⟨rfl, rfl⟩
theorem letter_ref (c : UInt8) (w : World) : Calls Tryd.prog 29 #[.int .u8 (c.toNat : Int)] w fun e w' => e = .returned (.bool (plB c)) ∧ w = w' := by
  have hc := UInt8.toNat_lt c
  by_cases h1 : 97 ≤ c.toNat
  · have d1 : decide ((97 : Int) ≤ (c.toNat : Int)) = true := decide_eq_true (by omega)
    by_cases h2 : c.toNat ≤ 122
    · have d2 : decide ((c.toNat : Int) ≤ 122) = true := decide_eq_true (by omega)
      rw [show plB c = true from decide_eq_true (by omega)]
      clear hc
      go_enter Tryd.func29, Tryd.ntmps29
      go_wp2
      go_ret
      exact ⟨rfl, rfl⟩
    · have d2 : decide ((c.toNat : Int) ≤ 122) = false := decide_eq_false (by omega)
      by_cases h3 : 48 ≤ c.toNat
      · have d3 : decide ((48 : Int) ≤ (c.toNat : Int)) = true := decide_eq_true (by omega)
        by_cases h4 : c.toNat ≤ 57
        · have d4 : decide ((c.toNat : Int) ≤ 57) = true := decide_eq_true (by omega)
          rw [show plB c = true from decide_eq_true (by omega)]
          clear hc
          go_enter Tryd.func29, Tryd.ntmps29
          go_wp2
          go_ret
          exact ⟨rfl, rfl⟩
        · have d4 : decide ((c.toNat : Int) ≤ 57) = false := decide_eq_false (by omega)
          rw [show plB c = false from decide_eq_false (by omega)]
          clear hc
          go_enter Tryd.func29, Tryd.ntmps29
          go_wp2
          go_ret
          exact ⟨rfl, rfl⟩
      · have d3 : decide ((48 : Int) ≤ (c.toNat : Int)) = false := decide_eq_false (by omega)
        rw [show plB c = false from decide_eq_false (by omega)]
        clear hc
        go_enter Tryd.func29, Tryd.ntmps29
        go_wp2
        go_ret
        exact ⟨rfl, rfl⟩
  · have d1 : decide ((97 : Int) ≤ (c.toNat : Int)) = false := decide_eq_false (by omega)
    by_cases h3 : 48 ≤ c.toNat
    · have d3 : decide ((48 : Int) ≤ (c.toNat : Int)) = true := decide_eq_true (by omega)
      by_cases h4 : c.toNat ≤ 57
      · have d4 : decide ((c.toNat : Int) ≤ 57) = true := decide_eq_true (by omega)
        rw [show plB c = true from decide_eq_true (by omega)]
        clear hc
        go_enter Tryd.func29, Tryd.ntmps29
        go_wp2
        go_ret
        exact ⟨rfl, rfl⟩
      · have d4 : decide ((c.toNat : Int) ≤ 57) = false := decide_eq_false (by omega)
        rw [show plB c = false from decide_eq_false (by omega)]
        clear hc
        go_enter Tryd.func29, Tryd.ntmps29
        go_wp2
        go_ret
        exact ⟨rfl, rfl⟩
    · have d3 : decide ((48 : Int) ≤ (c.toNat : Int)) = false := decide_eq_false (by omega)
      rw [show plB c = false from decide_eq_false (by omega)]
      clear hc
      go_enter Tryd.func29, Tryd.ntmps29
      go_wp2
      go_ret
      exact ⟨rfl, rfl⟩
set_option maxHeartbeats 2000000 in
theorem versioned_any (c : UInt8) (w : World) : Calls Tryd.prog 37 #[.int .u8 (c.toNat : Int)] w fun e w' => e = .returned (.bool (veB c)) ∧ w = w' := by
  have hc := UInt8.toNat_lt c
  unfold veB
  cases hp : plB c with
  | true =>
    rw [Bool.true_or]
    have HP := Lib.hid hp
    clear hp hc
    go_enter Tryd.func37, Tryd.ntmps37
    go_wp2_with fail
    refine (plain_any c _).mono ?_
    rintro e w' ⟨rfl, rfl⟩
    rw [HP.out]
    go_wp2
    go_ret
    exact ⟨rfl, rfl⟩
  | false =>
    rw [Bool.false_or]
    have HP := Lib.hid hp
    clear hp
    by_cases h1 : 65 ≤ c.toNat
    · have d1 : (decide ((65 : Int) ≤ (c.toNat : Int))) = true := by first | exact decide_eq_true (by omega) | exact beq_iff_eq.2 (by omega)
      by_cases h2 : c.toNat ≤ 90
      · have d2 : (decide ((c.toNat : Int) ≤ 90)) = true := by first | exact decide_eq_true (by omega) | exact beq_iff_eq.2 (by omega)
        rw [show decide ((65 ≤ c.toNat ∧ c.toNat ≤ 90) ∨ c.toNat = 95 ∨ c.toNat = 46 ∨ c.toNat = 45) = true from decide_eq_true (by omega)]
        clear hc
        (try clear h3)
        (try clear h4)
        (try clear h5)
        go_enter Tryd.func37, Tryd.ntmps37
        go_wp2_with fail
        refine (plain_any c _).mono ?_
        rintro e w' ⟨rfl, rfl⟩
        rw [HP.out]
        go_wp2
        go_ret
        exact ⟨rfl, rfl⟩
      · have d2 : (decide ((c.toNat : Int) ≤ 90)) = false := by first | exact decide_eq_false (by omega) | exact beq_eq_false_iff_ne.2 (by omega)
        by_cases h3 : c.toNat = 95
        · have d3 : ((c.toNat : Int) == 95) = true := by first | exact decide_eq_true (by omega) | exact beq_iff_eq.2 (by omega)
          rw [show decide ((65 ≤ c.toNat ∧ c.toNat ≤ 90) ∨ c.toNat = 95 ∨ c.toNat = 46 ∨ c.toNat = 45) = true from decide_eq_true (by omega)]
          clear hc
          (try clear h3)
          (try clear h4)
          (try clear h5)
          go_enter Tryd.func37, Tryd.ntmps37
          go_wp2_with fail
          refine (plain_any c _).mono ?_
          rintro e w' ⟨rfl, rfl⟩
          rw [HP.out]
          go_wp2
          go_ret
          exact ⟨rfl, rfl⟩
        · have d3 : ((c.toNat : Int) == 95) = false := by first | exact decide_eq_false (by omega) | exact beq_eq_false_iff_ne.2 (by omega)
          by_cases h4 : c.toNat = 46
          · have d4 : ((c.toNat : Int) == 46) = true := by first | exact decide_eq_true (by omega) | exact beq_iff_eq.2 (by omega)
            rw [show decide ((65 ≤ c.toNat ∧ c.toNat ≤ 90) ∨ c.toNat = 95 ∨ c.toNat = 46 ∨ c.toNat = 45) = true from decide_eq_true (by omega)]
            clear hc
            (try clear h3)
            (try clear h4)
            (try clear h5)
            go_enter Tryd.func37, Tryd.ntmps37
            go_wp2_with fail
            refine (plain_any c _).mono ?_
            rintro e w' ⟨rfl, rfl⟩
            rw [HP.out]
            go_wp2
            go_ret
            exact ⟨rfl, rfl⟩
          · have d4 : ((c.toNat : Int) == 46) = false := by first | exact decide_eq_false (by omega) | exact beq_eq_false_iff_ne.2 (by omega)
            by_cases h5 : c.toNat = 45
            · have d5 : ((c.toNat : Int) == 45) = true := by first | exact decide_eq_true (by omega) | exact beq_iff_eq.2 (by omega)
              rw [show decide ((65 ≤ c.toNat ∧ c.toNat ≤ 90) ∨ c.toNat = 95 ∨ c.toNat = 46 ∨ c.toNat = 45) = true from decide_eq_true (by omega)]
              clear hc
              (try clear h3)
              (try clear h4)
              (try clear h5)
              go_enter Tryd.func37, Tryd.ntmps37
              go_wp2_with fail
              refine (plain_any c _).mono ?_
              rintro e w' ⟨rfl, rfl⟩
              rw [HP.out]
              go_wp2
              go_ret
              exact ⟨rfl, rfl⟩
            · have d5 : ((c.toNat : Int) == 45) = false := by first | exact decide_eq_false (by omega) | exact beq_eq_false_iff_ne.2 (by omega)
              rw [show decide ((65 ≤ c.toNat ∧ c.toNat ≤ 90) ∨ c.toNat = 95 ∨ c.toNat = 46 ∨ c.toNat = 45) = false from decide_eq_false (by omega)]
              clear hc
              (try clear h3)
              (try clear h4)
              (try clear h5)
              go_enter Tryd.func37, Tryd.ntmps37
              go_wp2_with fail
              refine (plain_any c _).mono ?_
              rintro e w' ⟨rfl, rfl⟩
              rw [HP.out]
              go_wp2
              go_ret
              exact ⟨rfl, rfl⟩
    · have d1 : (decide ((65 : Int) ≤ (c.toNat : Int))) = false := by first | exact decide_eq_false (by omega) | exact beq_eq_false_iff_ne.2 (by omega)
      by_cases h3 : c.toNat = 95
      · have d3 : ((c.toNat : Int) == 95) = true := by first | exact decide_eq_true (by omega) | exact beq_iff_eq.2 (by omega)
        rw [show decide ((65 ≤ c.toNat ∧ c.toNat ≤ 90) ∨ c.toNat = 95 ∨ c.toNat = 46 ∨ c.toNat = 45) = true from decide_eq_true (by omega)]
        clear hc
        (try clear h3)
        (try clear h4)
        (try clear h5)
        go_enter Tryd.func37, Tryd.ntmps37
        go_wp2_with fail
        refine (plain_any c _).mono ?_
        rintro e w' ⟨rfl, rfl⟩
        rw [HP.out]
        go_wp2
        go_ret
        exact ⟨rfl, rfl⟩
      · have d3 : ((c.toNat : Int) == 95) = false := by first | exact decide_eq_false (by omega) | exact beq_eq_false_iff_ne.2 (by omega)
        by_cases h4 : c.toNat = 46
        · have d4 : ((c.toNat : Int) == 46) = true := by first | exact decide_eq_true (by omega) | exact beq_iff_eq.2 (by omega)
          rw [show decide ((65 ≤ c.toNat ∧ c.toNat ≤ 90) ∨ c.toNat = 95 ∨ c.toNat = 46 ∨ c.toNat = 45) = true from decide_eq_true (by omega)]
          clear hc
          (try clear h3)
          (try clear h4)
          (try clear h5)
          go_enter Tryd.func37, Tryd.ntmps37
          go_wp2_with fail
          refine (plain_any c _).mono ?_
          rintro e w' ⟨rfl, rfl⟩
          rw [HP.out]
          go_wp2
          go_ret
          exact ⟨rfl, rfl⟩
        · have d4 : ((c.toNat : Int) == 46) = false := by first | exact decide_eq_false (by omega) | exact beq_eq_false_iff_ne.2 (by omega)
          by_cases h5 : c.toNat = 45
          · have d5 : ((c.toNat : Int) == 45) = true := by first | exact decide_eq_true (by omega) | exact beq_iff_eq.2 (by omega)
            rw [show decide ((65 ≤ c.toNat ∧ c.toNat ≤ 90) ∨ c.toNat = 95 ∨ c.toNat = 46 ∨ c.toNat = 45) = true from decide_eq_true (by omega)]
            clear hc
            (try clear h3)
            (try clear h4)
            (try clear h5)
            go_enter Tryd.func37, Tryd.ntmps37
            go_wp2_with fail
            refine (plain_any c _).mono ?_
            rintro e w' ⟨rfl, rfl⟩
            rw [HP.out]
            go_wp2
            go_ret
            exact ⟨rfl, rfl⟩
          · have d5 : ((c.toNat : Int) == 45) = false := by first | exact decide_eq_false (by omega) | exact beq_eq_false_iff_ne.2 (by omega)
            rw [show decide ((65 ≤ c.toNat ∧ c.toNat ≤ 90) ∨ c.toNat = 95 ∨ c.toNat = 46 ∨ c.toNat = 45) = false from decide_eq_false (by omega)]
            clear hc
            (try clear h3)
            (try clear h4)
            (try clear h5)
            go_enter Tryd.func37, Tryd.ntmps37
            go_wp2_with fail
            refine (plain_any c _).mono ?_
            rintro e w' ⟨rfl, rfl⟩
            rw [HP.out]
            go_wp2
            go_ret
            exact ⟨rfl, rfl⟩
end Go.Proofs.YtjiefcjjgadjiaaDoor
