/- What the laws of layer 3 read: a matrix that may be, and one that may not (no conditions). -/
import Derived.Test.YtlpjpeonejbpjaaMatC
import Derived.Test.YtlpjpeonejbpjaaWake3
import Derived.Test.YtlpjpeonejbpjaaMatMul
namespace Go.Proofs.Ytlpjpeonejbpjaa
open Go.RowKit

theorem IntsIn.by {w : World} {a : Option Addr} {len : Nat} {zs : List Int} (h : IntsIn w .u8 a len zs) : ByIn w a len (fun k => (zs.getD k 0).toNat) := by
  obtain ⟨b, off, ha, hc⟩ := h.cells
  refine ⟨b, off, ha, fun i hi => ⟨(hc i hi).1, ?_⟩⟩
  have h8 := h.u8 i hi
  rw [(hc i hi).2]
  congr 1
  congr 1
  omega
theorem IntsIn.byte {w : World} {a : Option Addr} {len : Nat} {zs : List Int} (h : IntsIn w .u8 a len zs) (k : Nat) : (zs.getD k 0).toNat < 256 := by
  by_cases hk : k < len
  · have := h.u8 k hk
    omega
  · have : zs.getD k 0 = 0 := by
      rw [List.getD_eq_getElem?_getD, List.getElem?_eq_none (by rw [h.len_eq]; omega)]
      rfl
    rw [this]
    decide
/-- a matrix that may be, read -/
theorem mat_of {w : World} {r c : Int} {x : Option Addr} {l : Nat} {zs : List Int} (he : matE r c l = 0) (h : IntsIn w .u8 x l zs) :
    ∃ (r' c' b off : Nat) (F : Nat → Nat → Nat), r = r' ∧ c = c' ∧ l = r' * c' ∧ x = some ⟨b, off, none⟩ ∧ (1 ≤ r' ∧ r' ≤ 16) ∧ (1 ≤ c' ∧ c' ≤ 16) ∧ Bt F ∧ MatR w b off r' c' F := by
  have hB : matB r c l = true := by
    cases hb : matB r c l
    · rw [matE_bad hb] at he
      cases he
    · rfl
  unfold matB at hB
  simp only [Bool.and_eq_true, decide_eq_true_eq] at hB
  obtain ⟨⟨h1, h2⟩, h3⟩ := hB
  have h1 := sideB_bounds h1
  have h2 := sideB_bounds h2
  obtain ⟨r', rfl⟩ : ∃ r' : Nat, r = r' := ⟨r.toNat, by omega⟩
  obtain ⟨c', rfl⟩ : ∃ c' : Nat, c = c' := ⟨c.toNat, by omega⟩
  have hl : l = r' * c' := by exact_mod_cast h3
  subst hl
  have hp : 0 < r' * c' := Nat.mul_pos (by omega) (by omega)
  obtain ⟨b, off, hx, hm⟩ := h.by.rect hp
  exact ⟨r', c', b, off, _, rfl, rfl, rfl, hx, by omega, by omega, fun i j => h.byte _, hm⟩
theorem matE_01 (r c : Int) (l : Nat) : matE r c l = 0 ∨ matE r c l = 1 := by
  unfold matE
  split
  · exact .inl rfl
  · exact .inr rfl
end Go.Proofs.Ytlpjpeonejbpjaa
