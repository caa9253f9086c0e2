/- Sweeping looks only at the rows and columns that there are (no conditions). -/
import Derived.Test.YtlpjpeonejbpjaaMatI
namespace Go.Proofs.Ytlpjpeonejbpjaa

theorem pv_congr {f g : Nat → Nat → Nat} {col : Nat} : ∀ {k n : Nat}, (∀ i, n ≤ i → i < n + k → f i col = g i col) → pv f col n k = pv g col n k
  | 0, _, _ => rfl
  | k + 1, n, h => by
    show (if f n col = 0 then pv f col (n + 1) k else some n) = (if g n col = 0 then pv g col (n + 1) k else some n)
    rw [h n (by omega) (by omega), pv_congr (k := k) (n := n + 1) (fun i h1 h2 => h i (by omega) (by omega))]
/-- alike in so many rows and columns -/
def Same (r c : Nat) (f g : Nat → Nat → Nat) : Prop := ∀ i j, i < r → j < c → f i j = g i j
theorem same_swap {r c a b : Nat} {f g : Nat → Nat → Nat} (h : Same r c f g) (ha : a < r) (hb : b < r) : Same r c (swapF f a b) (swapF g a b) := fun i j hi hj => by
  unfold swapF
  split
  · exact h _ _ hb hj
  · split
    · exact h _ _ ha hj
    · exact h _ _ hi hj
theorem same_scale {r c a v : Nat} {f g : Nat → Nat → Nat} (h : Same r c f g) (ha : a < r) : Same r c (scaleF f a v) (scaleF g a v) := fun i j hi hj => by
  unfold scaleF
  rw [h a j ha hj, h i j hi hj]
theorem same_elim {r c top col n : Nat} {f g : Nat → Nat → Nat} (h : Same r c f g) (ht : top < r) (hc : col < c) : Same r c (elimTo f top col n) (elimTo g top col n) := fun i j hi hj => by
  unfold elimTo
  rw [h i j hi hj, h top j ht hj, h i col hi hc]
theorem same_sweep {r c rank col a : Nat} {f g : Nat → Nat → Nat} (h : Same r c f g) (hr : rank < r) (ha : a < r) (hc : col < c) : Same r c (sweepF r f rank col a) (sweepF r g rank col a) := by
  unfold sweepF topF
  rw [h a col ha hc]
  exact same_elim (same_scale (same_swap h hr ha) hr) hr hc
theorem red_same {r c : Nat} {f g : Nat → Nat → Nat} (h : Same r c f g) : ∀ n, n ≤ c → (redTo r f n).1 = (redTo r g n).1 ∧ Same r c (redTo r f n).2 (redTo r g n).2
  | 0, _ => ⟨rfl, h⟩
  | n + 1, hn => by
    obtain ⟨h1, h2⟩ := red_same h n (by omega)
    have hle := (redTo_le r f n).1
    have hp : pv (redTo r f n).2 n (redTo r f n).1 (r - (redTo r f n).1) = pv (redTo r g n).2 n (redTo r g n).1 (r - (redTo r g n).1) := by
      rw [← h1]
      exact pv_congr (fun i h3 h4 => h2 i n (by omega) (by omega))
    cases hq : pv (redTo r g n).2 n (redTo r g n).1 (r - (redTo r g n).1) with
    | none => rw [redTo_none r f n (hp.trans hq), redTo_none r g n hq]; exact ⟨h1, h2⟩
    | some a =>
      obtain ⟨g1, g2, _, _⟩ := pv_some hq
      rw [redTo_some r f n a (hp.trans hq), redTo_some r g n a hq, h1]
      exact ⟨rfl, same_sweep h2 (by omega) (by omega) (by omega)⟩
theorem rank_red (r c : Nat) (f : Nat → Nat → Nat) : rankF r c f = (redTo r f c).1 :=
  (red_same (r := r) (c := c) (fun _ _ _ hj => beside_left f oneF hj) c (Nat.le_refl c)).1
end Go.Proofs.Ytlpjpeonejbpjaa
