/- What the reference sweeps: a matrix and One beside it, as columns of one matrix; two rows changed number by number (no conditions). -/
import Derived.Test.YtlpjpeonejbpjaaMatC
namespace Go.Proofs.Ytlpjpeonejbpjaa

/-- a matrix from its column c on -/
def sh (c : Nat) (F : Nat → Nat → Nat) : Nat → Nat → Nat := fun i j => F i (c + j)
theorem sh_bt {F : Nat → Nat → Nat} (h : Bt F) (c : Nat) : Bt (sh c F) := fun _ _ => h _ _
theorem sh_swap (c a t : Nat) (F : Nat → Nat → Nat) : swapF (sh c F) a t = sh c (swapF F a t) := rfl
theorem sh_scale (c a v : Nat) (F : Nat → Nat → Nat) : scaleF (sh c F) a v = sh c (scaleF F a v) := rfl
theorem sh_add (c a t v : Nat) (F : Nat → Nat → Nat) : addF (sh c F) a t v = sh c (addF F a t v) := rfl
theorem sh_beside (c : Nat) (F : Nat → Nat → Nat) : sh c (beside c F oneF) = oneF := by
  funext i j
  exact beside_right c i j F oneF
/-- two rows changed places as far as column k -/
def swTo (F : Nat → Nat → Nat) (a t k : Nat) : Nat → Nat → Nat := fun i j => if j < k then swapF F a t i j else F i j
theorem swTo_zero (F : Nat → Nat → Nat) (a t : Nat) : swTo F a t 0 = F := by
  funext i j
  simp [swTo]
theorem swTo_at (F : Nat → Nat → Nat) (a t k i : Nat) : swTo F a t k i k = F i k := by simp [swTo]
theorem swTo_succ (F : Nat → Nat → Nat) (a t k : Nat) : upd (upd (swTo F a t k) a k (F t k)) t k (F a k) = swTo F a t (k + 1) := by
  funext i j
  unfold upd swTo
  by_cases e : j = k
  · subst e
    rw [if_neg (Nat.lt_irrefl j), if_pos (Nat.lt_succ_self j)]
    unfold swapF
    by_cases h1 : i = t
    · subst h1
      by_cases h2 : i = a
      · subst h2; simp
      · simp [h2]
    · by_cases h2 : i = a
      · subst h2; simp [h1]
      · simp [h1, h2]
  · have h : j < k + 1 ↔ j < k := by omega
    simp [e, h]
/-- one more row made 0 in the column, or left since it is the top one -/
theorem elim_top (F : Nat → Nat → Nat) (t col n : Nat) (h : n = t) : elimTo F t col n = elimTo F t col (n + 1) := by
  subst h
  exact (elimTo_top F n col).symm
theorem elim_row (F : Nat → Nat → Nat) (t col n : Nat) (h : n ≠ t) : addF (elimTo F t col n) n t (elimTo F t col n n col) = elimTo F t col (n + 1) := by
  rw [elimTo_at]
  exact elimTo_succ F t col n h
end Go.Proofs.Ytlpjpeonejbpjaa
