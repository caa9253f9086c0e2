/- On which stripes a piece of a text lies: as data; a list of parts that is read (no conditions). -/
import Derived.Test.YtlncjheifkbomaaCutP
namespace Go.Proofs.Ytlncjheifkbomaa
open Go.RowKit
/-- where the j-th part of a piece from f to e begins, by stripes of q bytes -/
def spA (q f e j : Nat) : Nat := max f (min e ((f / q + j) * q))
/-- how many parts there are -/
def spN (q f e : Nat) : Nat := if f < e then (e - 1) / q + 1 - f / q else 0
/-- the j-th part -/
def spP (q f e j : Nat) : Int × Int × Int := (((f / q + j : Nat) : Int), ((spA q f e j - (f / q + j) * q : Nat) : Int), ((spA q f e (j + 1) - (f / q + j) * q : Nat) : Int))
def spL (q f e : Nat) : List (Int × Int × Int) := (List.range (spN q f e)).map (spP q f e)
theorem spL_length (q f e : Nat) : (spL q f e).length = spN q f e := by simp [spL]
theorem spL_take (q f e j : Nat) (h : j < spN q f e) : (spL q f e).take (j + 1) = (spL q f e).take j ++ [spP q f e j] := by
  rw [List.take_succ_eq_append_getElem (by rw [spL_length]; exact h)]
  simp [spL]
theorem spA_zero (q f e : Nat) : spA q f e 0 = f := by
  unfold spA
  have h1 : f / q * q ≤ f := Nat.div_mul_le_self f q
  rw [Nat.add_zero]
  omega
/-- the loop goes on just while there are parts -/
theorem spA_lt (q f e j : Nat) (hq : 1 ≤ q) : spA q f e j < e ↔ j < spN q f e := by
  unfold spA spN
  have h1 : (f / q + j) * q < e ↔ f / q + j < (e - 1) / q + 1 ∧ 1 ≤ e := by
    rw [Nat.lt_succ_iff, Nat.le_div_iff_mul_le (by omega)]
    omega
  by_cases hfe : f < e
  · rw [if_pos hfe]
    omega
  · rw [if_neg hfe]
    omega
theorem spA_div (q f e j : Nat) (hq : 1 ≤ q) (h : spA q f e j < e) : spA q f e j / q = f / q + j := by
  have h0 : f < q * (f / q + 1) := Nat.lt_mul_div_succ f (by omega)
  have h1 : f / q * q ≤ f := Nat.div_mul_le_self f q
  unfold spA at h ⊢
  have h2 : (f / q + j) * q < e := by omega
  by_cases hj : j = 0
  · subst hj
    rw [Nat.add_zero] at h2 ⊢
    rw [show max f (min e (f / q * q)) = f by omega]
  · have h3 : q * (f / q + 1) ≤ (f / q + j) * q := by rw [Nat.mul_comm]; exact Nat.mul_le_mul_right q (by omega)
    rw [show max f (min e ((f / q + j) * q)) = (f / q + j) * q by omega, Nat.mul_div_cancel _ (by omega)]
theorem spA_next (q f e j : Nat) (hq : 1 ≤ q) (hfe : f ≤ e) : spA q f e (j + 1) = min e ((f / q + j + 1) * q) := by
  have h0 : f < q * (f / q + 1) := Nat.lt_mul_div_succ f (by omega)
  have h3 : q * (f / q + 1) ≤ (f / q + j + 1) * q := by rw [Nat.mul_comm]; exact Nat.mul_le_mul_right q (by omega)
  unfold spA
  rw [← Nat.add_assoc]
  omega
/-- parts, as cells -/
def spv (ps : List (Int × Int × Int)) : List Value := ps.flatMap fun x => [.int .i64 x.1, .int .i64 x.2.1, .int .i64 x.2.2]
theorem spv_append (a b : List (Int × Int × Int)) : spv (a ++ b) = spv a ++ spv b := by simp [spv]
theorem spv_length (ps : List (Int × Int × Int)) : (spv ps).length = ps.length * 3 := by
  induction ps with
  | nil => rfl
  | cons x l ih =>
    have e : spv (x :: l) = [.int .i64 x.1, .int .i64 x.2.1, .int .i64 x.2.2] ++ spv l := rfl
    rw [e, List.length_append, ih]
    simp only [List.length_cons, List.length_nil]
    omega
theorem spv_get : ∀ (ps : List (Int × Int × Int)) (i : Nat), i < ps.length → (spv ps)[i * 3]? = some (.int .i64 (ps.getD i (0, 0, 0)).1) ∧ (spv ps)[i * 3 + 1]? = some (.int .i64 (ps.getD i (0, 0, 0)).2.1) ∧ (spv ps)[i * 3 + 2]? = some (.int .i64 (ps.getD i (0, 0, 0)).2.2)
  | x :: l, 0, _ => ⟨rfl, rfl, rfl⟩
  | x :: l, i + 1, h => by
    have h1 := spv_get l i (by simpa using h)
    have e : spv (x :: l) = [.int .i64 x.1, .int .i64 x.2.1, .int .i64 x.2.2] ++ spv l := rfl
    have e2 : (x :: l).getD (i + 1) (0, 0, 0) = l.getD i (0, 0, 0) := by simp [List.getD]
    rw [e, e2, show (i + 1) * 3 = i * 3 + 3 by omega]
    refine ⟨?_, ?_, ?_⟩
    · rw [List.getElem?_append_right (by simp)]; simpa using h1.1
    · rw [List.getElem?_append_right (by simp), show i * 3 + 3 + 1 - [Value.int .i64 x.1, .int .i64 x.2.1, .int .i64 x.2.2].length = i * 3 + 1 by simp]; exact h1.2.1
    · rw [List.getElem?_append_right (by simp), show i * 3 + 3 + 2 - [Value.int .i64 x.1, .int .i64 x.2.1, .int .i64 x.2.2].length = i * 3 + 2 by simp]; exact h1.2.2
/-- A slice value that reads as these parts. -/
structure PartsIn (W : World) (a : Option Addr) (len : Nat) (ps : List (Int × Int × Int)) : Prop where
  len_eq : ps.length = len
  le : len ≤ 9223372036854775807
  cells : ∃ b off, (0 < len → a = some ⟨b, off, none⟩) ∧ ∀ i, i < len → b < W.heap.size ∧ W.cell? ⟨b, off + i * 3, none⟩ = some (.int .i64 (ps.getD i (0, 0, 0)).1) ∧ W.cell? ⟨b, off + i * 3 + 1, none⟩ = some (.int .i64 (ps.getD i (0, 0, 0)).2.1) ∧ W.cell? ⟨b, off + i * 3 + 2, none⟩ = some (.int .i64 (ps.getD i (0, 0, 0)).2.2)
theorem PartsIn.kept {W W' : World} {a : Option Addr} {len : Nat} {ps : List (Int × Int × Int)} (h : PartsIn W a len ps) (q : Kept W W') : PartsIn W' a len ps := by
  obtain ⟨b, off, ha, hc⟩ := h.cells
  exact ⟨h.len_eq, h.le, b, off, ha, fun i hi => ⟨Nat.lt_of_lt_of_le (hc i hi).1 q.size, q.cell (hc i hi).1 (hc i hi).2.1, q.cell (hc i hi).1 (hc i hi).2.2.1, q.cell (hc i hi).1 (hc i hi).2.2.2⟩⟩
theorem PartsIn.nil (W : World) (a : Option Addr) : PartsIn W a 0 [] := ⟨rfl, by omega, 0, 0, fun h => absurd h (Nat.lt_irrefl 0), fun i hi => absurd hi (Nat.not_lt_zero i)⟩
theorem parts_own {w : World} {base l : Nat} {e : TypeId} {v : Value} {xs : List (Int × Int × Int)} (ho : w.ownsRow base e 3 v l (spv xs)) (hl : xs.length = l) : ∃ a cap, v = .slice a l cap ∧ l ≤ cap ∧ PartsIn w a l xs := by
  rcases ho.2 with ⟨rfl, rfl⟩ | ⟨g, cap, cur, rfl, hb, hg, hn, hm, _⟩
  · obtain rfl : xs = [] := List.length_eq_zero_iff.1 hl
    exact ⟨none, 0, rfl, Nat.le_refl _, PartsIn.nil _ _⟩
  · refine ⟨_, cap, rfl, hn, hl, by unfold maxLen at hm; omega, g, 0, fun _ => rfl, fun i hi => ?_⟩
    obtain ⟨h1, h2, h3⟩ := spv_get xs i (by omega)
    refine ⟨(ho.lt g rfl).2, ?_, ?_, ?_⟩
    · rw [Nat.zero_add, ho.cellAt (i * 3) (by omega)]; exact h1
    · rw [Nat.zero_add, ho.cellAt (i * 3 + 1) (by omega)]; exact h2
    · rw [Nat.zero_add, ho.cellAt (i * 3 + 2) (by omega)]; exact h3
end Go.Proofs.Ytlncjheifkbomaa
