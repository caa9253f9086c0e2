/- What siloref13.Take reads, as plain mathematics; small laws for its walk (no conditions). -/
import Derived.Test.YtoanldoocmmhjaaRr6
import Derived.Test.YtoanldoocmmhjaaRr4
namespace Go.Proofs.Ytoanldoocmmhjaa
open Go.RowKit
def fixd (v : Nat) : Int := if v = 4294967295 then -1 else (v : Int)
def rSlots : Nat → St → List (Int × Int) × St
  | 0, s => ([], s)
  | n + 1, s => if s.2 then ([], s) else ((fixd (pv 4 s), ((pv 4 (ps 4 s) : Nat) : Int)) :: (rSlots n (ps 4 (ps 4 s))).1, (rSlots n (ps 4 (ps 4 s))).2)
def rL (k : Int) (s : St) : List Int × St := if Rc.fL k then pList (pv 4 s) (ps 4 s) else ([], s)
def rS (k : Int) (s : St) : List (Int × Int) × St := if Rc.fS k then rSlots (pv 1 s) (ps 1 s) else ([], s)
def rawK (k : Int) (s : St) : Rec × St :=
  (⟨k, (pI k s).1, (pN k (pI k s).2).1, (pD k (pN k (pI k s).2).2).1, (rL k (pD k (pN k (pI k s).2).2).2).1, (rS k (rL k (pD k (pN k (pI k s).2).2).2).2).1⟩, (rS k (rL k (pD k (pN k (pI k s).2).2).2).2).2)
def okR (r : Rec × St) : Bool := !r.2.2 && decide (r.2.1.size = 0) && Rec.may r.1
def takeK (r : Rec × St) : Rec × Bool := if okR r then (r.1, true) else (Rec.zero, false)
theorem takeK_no {r : Rec × St} (h : okR r = false) : takeK r = (Rec.zero, false) := by unfold takeK; rw [h]; rfl
theorem takeK_yes {r : Rec × St} (h : okR r = true) : takeK r = (r.1, true) := by unfold takeK; rw [h]; rfl
def takeR (t : ByteArray) : Rec × Bool :=
  if (ps 1 (t, false)).2 = false ∧ Rc.okK ((pv 1 (t, false) : Nat) : Int) = true then
    takeK (rawK ((pv 1 (t, false) : Nat) : Int) (ps 1 (t, false)))
  else (Rec.zero, false)
/-- what Take tells -/
def TakeP (B : Bool → Value) (w : World) (r : Rec × Bool) (e : Ending) (w' : World) : Prop := ∃ al cl az cz, e = .returned (.tuple #[.agg (recCells r.1 al r.1.list.length cl az r.1.slots.length cz), B r.2]) ∧ RecIn w' r.1 al r.1.list.length az r.1.slots.length ∧ Kept w w'
theorem zero_in (w : World) : RecIn w Rec.zero none 0 none 0 := ⟨IntsIn.nil _ _ _, SlotsIn.nil _ _, by show -9223372036854775808 ≤ (0 : Int) ∧ (0 : Int) ≤ 9223372036854775807; omega, by show -9223372036854775808 ≤ (0 : Int) ∧ (0 : Int) ≤ 9223372036854775807; omega, Nat.zero_le _, Nat.zero_le _⟩
theorem zero_cells : recCells Rec.zero none 0 0 none 0 0 = #[.int .i64 0, .int .i64 0, .string ⟨#[]⟩, .string ⟨#[]⟩, .slice none 0 0, .slice none 0 0] := rfl
/-- what the loop over slots has read, what is left of it -/
structure QRel (xs : List (Int × Int)) (m j : Nat) (s : St) (goal : List (Int × Int) × St) : Prop where
  len : xs.length = m
  le : m + j ≤ 256
  size : s.1.size ≤ 140737488351232
  wf : ∀ x ∈ xs, (-1 ≤ x.1 ∧ x.1 ≤ 4294967295) ∧ (0 ≤ x.2 ∧ x.2 ≤ 4294967295)
  eq : goal = (xs ++ (rSlots j s).1, (rSlots j s).2)
theorem fixd_bd (v : Nat) (h : v < 4294967296) : -1 ≤ fixd v ∧ fixd v ≤ 4294967295 := by unfold fixd; split <;> omega
theorem QRel.start {vl : Nat} {s : St} (h : vl < 256) (hs : s.1.size ≤ 140737488351232) : QRel [] 0 vl s (rSlots vl s) := ⟨rfl, by omega, hs, fun x hx => (by cases hx), by simp⟩
theorem QRel.step {xs : List (Int × Int)} {m j : Nat} {a : ByteArray} {g : List (Int × Int) × St} (h : QRel xs m (j + 1) (a, false) g) : QRel (xs ++ [(fixd (pv 4 (a, false)), ((pv 4 (ps 4 (a, false)) : Nat) : Int))]) (m + 1) j (ps 4 (ps 4 (a, false))) g := by
  refine ⟨by rw [List.length_append, h.len]; rfl, by have := h.le; omega, by have := ps_size 4 (a, false); have := ps_size 4 (ps 4 (a, false)); have := h.size; dsimp only at *; omega, fun x hx => ?_, ?_⟩
  · rcases List.mem_append.1 hx with hx | hx
    · exact h.wf x hx
    · obtain rfl : x = (fixd (pv 4 (a, false)), ((pv 4 (ps 4 (a, false)) : Nat) : Int)) := by simpa using hx
      have h1 := fixd_bd _ (pv_lt 4 (a, false) (by omega))
      have h2 := pv_lt 4 (ps 4 (a, false)) (by omega)
      exact ⟨h1, by dsimp only; omega⟩
  · rw [h.eq]
    simp [rSlots]
theorem QRel.done0 {xs : List (Int × Int)} {m : Nat} {s : St} {g : List (Int × Int) × St} (h : QRel xs m 0 s g) : g = (xs, s) := by rw [h.eq]; simp [rSlots]
theorem QRel.doneT {xs : List (Int × Int)} {m j : Nat} {a : ByteArray} {g : List (Int × Int) × St} (h : QRel xs m j (a, true) g) : g = (xs, (a, true)) := by
  rw [h.eq]
  cases j <;> simp [rSlots]
theorem slots_of_own2 {w : World} {base l : Nat} {e : TypeId} {v : Value} {xs : List (Int × Int)} (ho : w.ownsRow base e 2 v l (sv xs)) (hl : xs.length = l) (hw : ∀ x ∈ xs, (-1 ≤ x.1 ∧ x.1 ≤ 4294967295) ∧ (0 ≤ x.2 ∧ x.2 ≤ 4294967295)) :
    ∃ a cap, v = .slice a l cap ∧ SlotsIn w a l xs := by
  have wf : ∀ x ∈ xs, (-9223372036854775808 ≤ x.1 ∧ x.1 ≤ 9223372036854775807) ∧ (-9223372036854775808 ≤ x.2 ∧ x.2 ≤ 9223372036854775807) := fun x hx => by have := hw x hx; omega
  rcases ho.2 with ⟨rfl, rfl⟩ | ⟨g, cap, cur, rfl, hb, hg, hn, hm, _⟩
  · obtain rfl : xs = [] := List.length_eq_zero_iff.1 hl
    exact ⟨none, 0, rfl, SlotsIn.nil _ _⟩
  · refine ⟨_, cap, rfl, hl, by unfold maxLen at hm; omega, wf, g, 0, fun _ => rfl, fun i hi => ⟨(ho.lt g rfl).2, ?_, ?_⟩⟩
    · rw [Nat.zero_add, ho.cellAt (i * 2) (by omega)]
      exact (sv_get xs i (by omega)).1
    · rw [Nat.zero_add, ho.cellAt (i * 2 + 1) (by omega)]
      exact (sv_get xs i (by omega)).2
theorem slots_at2 {w : World} {base l cap : Nat} {e : TypeId} {a : Option Addr} {xs : List (Int × Int)} (ho : w.ownsRow base e 2 (.slice a l cap) l (sv xs)) (hl : xs.length = l) (hw : ∀ x ∈ xs, (-1 ≤ x.1 ∧ x.1 ≤ 4294967295) ∧ (0 ≤ x.2 ∧ x.2 ≤ 4294967295)) : SlotsIn w a l xs := by
  obtain ⟨a', c', h, hI⟩ := slots_of_own2 ho hl hw
  simp only [Value.slice.injEq] at h
  obtain ⟨rfl, _, rfl⟩ := h
  exact hI
theorem RdR.cells {w : World} {p : Nat} {s : St} (h : RdR w p s) : ∃ t : ByteArray, w.cell? ⟨p, 0, none⟩ = some (.string t) ∧ w.cell? ⟨p, 1, none⟩ = some (.bool s.2) ∧ (s.2 = false → t = s.1) := by
  obtain ⟨t, h1, h2, _⟩ := h
  exact ⟨t, h1.cell 0, h1.cell 1, h2⟩
end Go.Proofs.Ytoanldoocmmhjaa
