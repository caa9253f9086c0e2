/- Contracts of the code and of the reference, laid into one file: part 1 (what each says stands at its head). -/
import Derived.WalkKit
import Derived.Test.YtoonpnpooljmlaaProg
import Derived.WalkSpells
import Derived.Outline
import Derived.Lib.Hide
import Derived.BigQuiet
import Derived.Deep.QuietTactic
import Derived.Lib.SmallJoins
import Derived.Laws.IdiomStrings
import Derived.Laws.Rows
import Derived.Laws.Tables
import Derived.Laws.CopyRow
import Derived.RangeFuncNested
import Derived.RangeFuncBound
import Derived.RangeFuncCalls
import Derived.RangeFuncLeaves
import Derived.Shelf.Abstract
import Derived.Shelf.RegionOpen
import Derived.OwnWalkIn
import Derived.TacticsInMore
import Derived.LoopNIn
import Derived.LoopIn
import Derived.Maps.AppendAt

namespace Go.Proofs.Ytoonpnpooljmlaa.Gf

def dbl (a : Nat) : Nat := (a * 2 % 256) ^^^ (a / 128 * 29)
def mulTo (a b : Nat) : Nat → Nat × Nat
  | 0 => (0, a)
  | n + 1 => ((mulTo a b n).1 ^^^ ((mulTo a b n).2 * (b / 2 ^ n % 2)), dbl (mulTo a b n).2)
def mul (a b : Nat) : Nat := (mulTo a b 8).1

theorem below (p : Nat → Bool) (h : (List.range 256).all p = true) (a : Nat) (ha : a < 256) : p a = true :=
  List.all_eq_true.1 h a (List.mem_range.2 ha)

theorem dbl_lt {a : Nat} (ha : a < 256) : dbl a < 256 := by
  have h1 : a * 2 % 256 < 2 ^ 8 := by omega
  have h2 : a / 128 * 29 < 2 ^ 8 := by omega
  exact Nat.xor_lt_two_pow h1 h2

theorem mulTo_lt {a : Nat} (ha : a < 256) (b : Nat) : ∀ n, (mulTo a b n).1 < 256 ∧ (mulTo a b n).2 < 256
  | 0 => ⟨by simp [mulTo], ha⟩
  | n + 1 => by
    obtain ⟨h1, h2⟩ := mulTo_lt ha b n
    refine ⟨?_, dbl_lt h2⟩
    have h3 : (mulTo a b n).2 * (b / 2 ^ n % 2) < 2 ^ 8 := by
      rcases Nat.mod_two_eq_zero_or_one (b / 2 ^ n) with h | h <;> rw [h] <;> omega
    exact Nat.xor_lt_two_pow (n := 8) h1 h3
theorem mul_lt {a : Nat} (ha : a < 256) (b : Nat) : mul a b < 256 := (mulTo_lt ha b 8).1

/-! ### linear in both -/
theorem dbl_xor {a b : Nat} (ha : a < 256) (hb : b < 256) : dbl (a ^^^ b) = dbl a ^^^ dbl b := by
  have e1 : (a ^^^ b) * 2 % 256 = (a * 2 % 256) ^^^ (b * 2 % 256) := by
    have h := Nat.xor_mod_two_pow (a := a * 2) (b := b * 2) (n := 8)
    have k : (a ^^^ b) * 2 = a * 2 ^^^ b * 2 := by
      have := Nat.shiftLeft_xor_distrib (a := a) (b := b) (i := 1)
      simpa [Nat.shiftLeft_eq] using this
    rw [k]; exact h
  have e2 : (a ^^^ b) / 128 = (a / 128) ^^^ (b / 128) := by
    have := Nat.shiftRight_xor_distrib (a := a) (b := b) (i := 7)
    simpa [Nat.shiftRight_eq_div_pow] using this
  have e3 : ((a / 128) ^^^ (b / 128)) * 29 = (a / 128 * 29) ^^^ (b / 128 * 29) := by
    have h1 : a / 128 = 0 ∨ a / 128 = 1 := by omega
    have h2 : b / 128 = 0 ∨ b / 128 = 1 := by omega
    rcases h1 with h1 | h1 <;> rcases h2 with h2 | h2 <;> rw [h1, h2] <;> decide
  unfold dbl
  rw [e1, e2, e3]
  ac_rfl

theorem bit_xor (b c n : Nat) : (b ^^^ c) / 2 ^ n % 2 = (b / 2 ^ n % 2) ^^^ (c / 2 ^ n % 2) := by
  have h1 := Nat.shiftRight_xor_distrib (a := b) (b := c) (i := n)
  simp only [Nat.shiftRight_eq_div_pow] at h1
  rw [h1]
  exact Nat.xor_mod_two_pow (n := 1)

theorem bit01 (b n : Nat) : b / 2 ^ n % 2 = 0 ∨ b / 2 ^ n % 2 = 1 := Nat.mod_two_eq_zero_or_one _

theorem mulTo_left {a a' : Nat} (ha : a < 256) (ha' : a' < 256) (b : Nat) : ∀ n, (mulTo (a ^^^ a') b n).1 = (mulTo a b n).1 ^^^ (mulTo a' b n).1 ∧ (mulTo (a ^^^ a') b n).2 = (mulTo a b n).2 ^^^ (mulTo a' b n).2
  | 0 => ⟨by simp [mulTo], rfl⟩
  | n + 1 => by
    obtain ⟨h1, h2⟩ := mulTo_left ha ha' b n
    refine ⟨?_, ?_⟩
    · simp only [mulTo, h1, h2]
      rcases bit01 b n with h | h <;> rw [h] <;> simp only [Nat.mul_zero, Nat.mul_one, Nat.xor_zero]
      ac_rfl
    · simp only [mulTo, h2]
      exact dbl_xor (mulTo_lt ha b n).2 (mulTo_lt ha' b n).2
theorem mul_left {a a' : Nat} (ha : a < 256) (ha' : a' < 256) (b : Nat) : mul (a ^^^ a') b = mul a b ^^^ mul a' b := (mulTo_left ha ha' b 8).1

theorem mulTo_right (a b c : Nat) : ∀ n, (mulTo a (b ^^^ c) n).1 = (mulTo a b n).1 ^^^ (mulTo a c n).1 ∧ (mulTo a (b ^^^ c) n).2 = (mulTo a b n).2 ∧ (mulTo a c n).2 = (mulTo a b n).2
  | 0 => ⟨by simp [mulTo], rfl, rfl⟩
  | n + 1 => by
    obtain ⟨h1, h2, h3⟩ := mulTo_right a b c n
    refine ⟨?_, by simp only [mulTo, h2], by simp only [mulTo, h3]⟩
    simp only [mulTo, h1, h2, h3, bit_xor]
    rcases bit01 b n with h | h <;> rcases bit01 c n with k | k <;> rw [h, k] <;> simp only [Nat.mul_zero, Nat.mul_one, Nat.xor_zero, Nat.xor_self, Nat.zero_xor]
    · ac_rfl
    · ac_rfl
    · have e : (mulTo a b n).1 ^^^ (mulTo a b n).2 ^^^ ((mulTo a c n).1 ^^^ (mulTo a b n).2) = (mulTo a b n).1 ^^^ (mulTo a c n).1 ^^^ ((mulTo a b n).2 ^^^ (mulTo a b n).2) := by ac_rfl
      rw [e, Nat.xor_self, Nat.xor_zero]
theorem mul_right (a b c : Nat) : mul a (b ^^^ c) = mul a b ^^^ mul a c := (mulTo_right a b c 8).1

/-! ### what holds of the eight powers of two holds of all -/
def parts (a : Nat) : Nat := (a &&& 1) ^^^ ((a &&& 2) ^^^ ((a &&& 4) ^^^ ((a &&& 8) ^^^ ((a &&& 16) ^^^ ((a &&& 32) ^^^ ((a &&& 64) ^^^ (a &&& 128)))))))
set_option maxRecDepth 100000 in
theorem parts_eq (a : Nat) (ha : a < 256) : parts a = a := by
  simpa using below (fun a => parts a == a) (by decide +kernel) a ha
set_option maxRecDepth 100000 in
theorem part_of (a i : Nat) (ha : a < 256) (hi : i < 8) : a &&& 2 ^ i = 0 ∨ a &&& 2 ^ i = 2 ^ i := by
  have h := below (fun a => (List.range 8).all fun i => a &&& 2 ^ i == 0 || a &&& 2 ^ i == 2 ^ i) (by decide +kernel) a ha
  have h' := List.all_eq_true.1 h i (List.mem_range.2 hi)
  simpa using h'
theorem spans (p : Nat → Prop) (h0 : p 0) (hx : ∀ a b, a < 256 → b < 256 → p a → p b → p (a ^^^ b)) (h2 : ∀ i, i < 8 → p (2 ^ i)) (a : Nat) (ha : a < 256) : p a := by
  have hp : ∀ i, i < 8 → (a &&& 2 ^ i) < 256 ∧ p (a &&& 2 ^ i) := fun i hi => by
    refine ⟨Nat.lt_of_le_of_lt Nat.and_le_left ha, ?_⟩
    rcases part_of a i ha hi with h | h <;> rw [h]
    · exact h0
    · exact h2 i hi
  have hs : ∀ x y : Nat, x < 256 ∧ p x → y < 256 ∧ p y → x ^^^ y < 256 ∧ p (x ^^^ y) := fun x y k l =>
    ⟨Nat.xor_lt_two_pow (n := 8) k.1 l.1, hx x y k.1 l.1 k.2 l.2⟩
  rw [← parts_eq a ha]
  unfold parts
  exact (hs _ _ (hp 0 (by omega)) (hs _ _ (hp 1 (by omega)) (hs _ _ (hp 2 (by omega)) (hs _ _ (hp 3 (by omega)) (hs _ _ (hp 4 (by omega)) (hs _ _ (hp 5 (by omega)) (hs _ _ (hp 6 (by omega)) (hp 7 (by omega))))))))).2

theorem mul_zero (a : Nat) : mul a 0 = 0 := by
  have h := mul_right a 0 0
  simpa using h
theorem zero_mul (b : Nat) : mul 0 b = 0 := by
  have h := mul_left (a := 0) (a' := 0) (by omega) (by omega) b
  simpa using h

theorem pow_lt (i : Nat) (hi : i < 8) : 2 ^ i < 256 := by
  have h := below (fun i => decide (8 ≤ i ∨ 2 ^ i < 256)) (by decide +kernel) i (by omega)
  have := of_decide_eq_true h
  omega

def commOk : Bool := (List.range 8).all fun i => (List.range 8).all fun k => mul (2 ^ i) (2 ^ k) == mul (2 ^ k) (2 ^ i)
theorem comm_ok : commOk = true := by decide +kernel
theorem comm2 (i k : Nat) (hi : i < 8) (hk : k < 8) : mul (2 ^ i) (2 ^ k) = mul (2 ^ k) (2 ^ i) := by
  have h := List.all_eq_true.1 (List.all_eq_true.1 comm_ok i (List.mem_range.2 hi)) k (List.mem_range.2 hk)
  simpa using h
theorem mul_comm (a b : Nat) (ha : a < 256) (hb : b < 256) : mul a b = mul b a := by
  refine spans (fun a => mul a b = mul b a) (by rw [zero_mul, mul_zero]) (fun x y hx hy h k => ?_) (fun i hi => ?_) a ha
  · show mul (x ^^^ y) b = mul b (x ^^^ y)
    rw [mul_left hx hy, mul_right, h, k]
  · refine spans (fun b => mul (2 ^ i) b = mul b (2 ^ i)) (by rw [zero_mul, mul_zero]) (fun x y hx hy h k => ?_) (fun j hj => comm2 i j hi hj) b hb
    show mul (2 ^ i) (x ^^^ y) = mul (x ^^^ y) (2 ^ i)
    rw [mul_left hx hy, mul_right, h, k]

def assocOk : Bool := (List.range 8).all fun i => (List.range 8).all fun k => (List.range 8).all fun j => mul (mul (2 ^ i) (2 ^ k)) (2 ^ j) == mul (2 ^ i) (mul (2 ^ k) (2 ^ j))
theorem assoc_ok : assocOk = true := by decide +kernel
theorem assoc2 (i k j : Nat) (hi : i < 8) (hk : k < 8) (hj : j < 8) : mul (mul (2 ^ i) (2 ^ k)) (2 ^ j) = mul (2 ^ i) (mul (2 ^ k) (2 ^ j)) := by
  have h := List.all_eq_true.1 (List.all_eq_true.1 (List.all_eq_true.1 assoc_ok i (List.mem_range.2 hi)) k (List.mem_range.2 hk)) j (List.mem_range.2 hj)
  simpa using h
theorem mul_assoc (a b c : Nat) (ha : a < 256) (hb : b < 256) (hc : c < 256) : mul (mul a b) c = mul a (mul b c) := by
  refine spans (fun a => mul (mul a b) c = mul a (mul b c)) (by simp only [zero_mul]) (fun x y hx hy h k => ?_) (fun i hi => ?_) a ha
  · show mul (mul (x ^^^ y) b) c = mul (x ^^^ y) (mul b c)
    rw [mul_left hx hy, mul_left hx hy, mul_left (mul_lt hx b) (mul_lt hy b), h, k]
  have h2 := pow_lt i hi
  refine spans (fun b => mul (mul (2 ^ i) b) c = mul (2 ^ i) (mul b c)) (by simp only [zero_mul, mul_zero]) (fun x y hx hy h k => ?_) (fun j hj => ?_) b hb
  · show mul (mul (2 ^ i) (x ^^^ y)) c = mul (2 ^ i) (mul (x ^^^ y) c)
    rw [mul_right, mul_left (mul_lt h2 x) (mul_lt h2 y), mul_left hx hy, mul_right, h, k]
  refine spans (fun c => mul (mul (2 ^ i) (2 ^ j)) c = mul (2 ^ i) (mul (2 ^ j) c)) (by simp only [mul_zero]) (fun x y _ _ h k => ?_) (fun l hl => assoc2 i j l hi hj hl) c hc
  show mul (mul (2 ^ i) (2 ^ j)) (x ^^^ y) = mul (2 ^ i) (mul (2 ^ j) (x ^^^ y))
  rw [mul_right, mul_right (2 ^ j), mul_right (2 ^ i), h, k]

set_option maxRecDepth 100000 in
theorem mul_one (a : Nat) (ha : a < 256) : mul a 1 = a := by
  simpa using below (fun a => mul a 1 == a) (by decide +kernel) a ha
theorem one_mul (a : Nat) (ha : a < 256) : mul 1 a = a := by rw [mul_comm 1 a (by omega) ha, mul_one a ha]

/-! ### powers: 'pow' by counting, 'raiseTo' by squares -/
def pow (a : Nat) : Nat → Nat
  | 0 => 1
  | n + 1 => mul (pow a n) a
theorem pow_lt256 {a : Nat} (ha : a < 256) : ∀ n, pow a n < 256
  | 0 => by simp [pow]
  | n + 1 => mul_lt (pow_lt256 ha n) a
theorem pow_add {a : Nat} (ha : a < 256) (n : Nat) : ∀ m, pow a (n + m) = mul (pow a n) (pow a m)
  | 0 => (mul_one _ (pow_lt256 ha n)).symm
  | m + 1 => by
    show mul (pow a (n + m)) a = mul (pow a n) (mul (pow a m) a)
    rw [pow_add ha n m, mul_assoc _ _ _ (pow_lt256 ha n) (pow_lt256 ha m) ha]
theorem pow_sq {a : Nat} (ha : a < 256) : ∀ n, pow (mul a a) n = pow a (2 * n)
  | 0 => rfl
  | n + 1 => by
    show mul (pow (mul a a) n) (mul a a) = mul (mul (pow a (2 * n)) a) a
    rw [pow_sq ha n, ← mul_assoc _ _ _ (pow_lt256 ha _) ha ha]
/-- a round of the loop by squares: what is yet to come, times what is there, stays -/
theorem round_odd {r s n : Nat} (hr : r < 256) (hs : s < 256) (hn : n % 2 = 1) : mul (mul r s) (pow (mul s s) (n / 2)) = mul r (pow s n) := by
  rw [pow_sq hs, mul_assoc _ _ _ hr hs (pow_lt256 hs _)]
  have e : n = 2 * (n / 2) + 1 := by omega
  rw [mul_comm s _ hs (pow_lt256 hs _)]
  show mul r (pow s (2 * (n / 2) + 1)) = _
  rw [← e]
theorem round_even {r s n : Nat} (hs : s < 256) (hn : n % 2 = 0) : mul r (pow (mul s s) (n / 2)) = mul r (pow s n) := by
  rw [pow_sq hs]
  have e : n = 2 * (n / 2) := by omega
  rw [← e]
theorem pow_mul {a : Nat} (ha : a < 256) (n : Nat) : ∀ m, pow (pow a n) m = pow a (n * m)
  | 0 => rfl
  | m + 1 => by
    show mul (pow (pow a n) m) (pow a n) = pow a (n * m + n)
    rw [pow_mul ha n m, pow_add ha]
theorem mul_pow {a b : Nat} (ha : a < 256) (hb : b < 256) : ∀ n, pow (mul a b) n = mul (pow a n) (pow b n)
  | 0 => by simp [pow, mul_one]
  | n + 1 => by
    show mul (pow (mul a b) n) (mul a b) = mul (mul (pow a n) a) (mul (pow b n) b)
    have hx := pow_lt256 ha n
    have hy := pow_lt256 hb n
    rw [mul_pow ha hb n, mul_assoc _ _ _ hx hy (mul_lt ha b), ← mul_assoc _ _ _ hy ha hb, mul_comm _ a hy ha, mul_assoc _ _ _ ha hy hb, ← mul_assoc _ _ _ hx ha (mul_lt hy b)]

/-! ### powers of two, logarithms -/
def dbls : Nat → Nat
  | 0 => 1
  | n + 1 => dbl (dbls n)
set_option maxRecDepth 100000 in
theorem dbl_mul (a : Nat) (ha : a < 256) : mul a 2 = dbl a := by
  simpa using below (fun a => mul a 2 == dbl a) (by decide +kernel) a ha
theorem pow_two : ∀ n, pow 2 n = dbls n
  | 0 => rfl
  | n + 1 => by
    show mul (pow 2 n) 2 = dbl (dbls n)
    rw [dbl_mul _ (pow_lt256 (by omega) n), pow_two n]
theorem dbls_lt (n : Nat) : dbls n < 256 := by rw [← pow_two]; exact pow_lt256 (by omega) n

/-- all of them, one behind the other: 'list n x': x, its double, .. -/
def row : Nat → Nat → List Nat
  | 0, _ => []
  | n + 1, x => x :: row n (dbl x)
theorem row_get (x : Nat) : ∀ n k, k < n → (row n (dbls x))[k]? = some (dbls (x + k))
  | 0, _, h => by omega
  | n + 1, 0, _ => rfl
  | n + 1, k + 1, h => by
    show (row n (dbls (x + 1)))[k]? = _
    rw [row_get (x + 1) n k (by omega), show x + 1 + k = x + (k + 1) by omega]
def idx (l : List Nat) (a : Nat) : Nat := l.idxOf a
def log (a : Nat) : Nat := (row 255 1).idxOf a
set_option maxRecDepth 100000 in
theorem log_ok : ((List.range 256).all fun a => a == 0 || ((row 255 1).idxOf a < 255 && (row 255 1)[(row 255 1).idxOf a]? == some a)) = true := by decide +kernel
set_option maxRecDepth 100000 in
theorem exp_ok : ((List.range 255).all fun n => match (row 255 1)[n]? with | some a => a != 0 && (row 255 1).idxOf a == n | none => false) = true := by decide +kernel
theorem log_lt (a : Nat) (h0 : 0 < a) (ha : a < 256) : log a < 255 ∧ dbls (log a) = a := by
  have h := List.all_eq_true.1 log_ok a (List.mem_range.2 ha)
  simp only [Bool.or_eq_true, beq_iff_eq, Bool.and_eq_true, decide_eq_true_eq] at h
  rcases h with h | ⟨h, k⟩
  · omega
  · have e := row_get 0 255 (log a) h
    refine ⟨h, ?_⟩
    rw [Nat.zero_add] at e
    exact Option.some.inj (e.symm.trans k)
theorem log_dbls (n : Nat) (hn : n < 255) : 0 < dbls n ∧ log (dbls n) = n := by
  have h := List.all_eq_true.1 exp_ok n (List.mem_range.2 hn)
  have e := row_get 0 255 n hn
  rw [Nat.zero_add] at e
  have e' : (row 255 1)[n]? = some (dbls n) := e
  rw [e'] at h
  simp only [Bool.and_eq_true, bne_iff_ne, beq_iff_eq] at h
  exact ⟨Nat.pos_of_ne_zero h.1, h.2⟩
theorem dbls_ne (a n : Nat) (hn : n < log a) (h0 : 0 < a) (ha : a < 256) : dbls n ≠ a := by
  intro e
  have h1 := (log_lt a h0 ha).1
  have h2 := (log_dbls n (by omega)).2
  rw [e] at h2
  omega
theorem dbls_255 : dbls 255 = 1 := by decide +kernel
theorem dbls_period (n : Nat) : dbls (n + 255) = dbls n := by
  rw [← pow_two, ← pow_two, pow_add (by omega), pow_two 255, dbls_255, mul_one _ (pow_lt256 (by omega) n)]
theorem dbls_mod (n : Nat) : dbls (n % 255) = dbls n := by
  have h : ∀ k, dbls (n % 255 + 255 * k) = dbls (n % 255) := fun k => by
    induction k with
    | zero => rfl
    | succ k ih => rw [show n % 255 + 255 * (k + 1) = (n % 255 + 255 * k) + 255 by omega, dbls_period, ih]
  have := h (n / 255)
  rw [show n % 255 + 255 * (n / 255) = n by omega] at this
  exact this.symm

/-! ### inverses -/
def inv (a : Nat) : Nat := pow a 254
theorem inv_lt {a : Nat} (ha : a < 256) : inv a < 256 := pow_lt256 ha 254
theorem pow_255 (a : Nat) (h0 : 0 < a) (ha : a < 256) : pow a 255 = 1 := by
  obtain ⟨_, h⟩ := log_lt a h0 ha
  rw [← pow_two] at h
  rw [← h, pow_mul (by omega), Nat.mul_comm, ← pow_mul (by omega), pow_two 255, dbls_255]
  induction log a with
  | zero => rfl
  | succ n ih => show mul (pow 1 n) 1 = 1; rw [ih]; rfl
theorem mul_inv (a : Nat) (h0 : 0 < a) (ha : a < 256) : mul (inv a) a = 1 := pow_255 a h0 ha
theorem inv_pos (a : Nat) (h0 : 0 < a) (ha : a < 256) : 0 < inv a := by
  rcases Nat.eq_zero_or_pos (inv a) with h | h
  · have e := mul_inv a h0 ha
    rw [h, zero_mul] at e
    omega
  · exact h
theorem inv_inv (a : Nat) (h0 : 0 < a) (ha : a < 256) : inv (inv a) = a := by
  have h1 := mul_inv a h0 ha
  have h2 := mul_inv (inv a) (inv_pos a h0 ha) (inv_lt ha)
  have hi := inv_lt ha
  have hii := inv_lt hi
  have e := mul_assoc (inv (inv a)) (inv a) a hii hi ha
  rw [h2, h1, one_mul a ha, mul_one _ hii] at e
  exact e.symm
theorem div_mul (a b : Nat) (ha : a < 256) (h0 : 0 < b) (hb : b < 256) : mul (mul a (inv b)) b = a := by
  rw [mul_assoc _ _ _ ha (inv_lt hb) hb, mul_inv b h0 hb, mul_one a ha]
theorem xor_lt {a b : Nat} (ha : a < 256) (hb : b < 256) : a ^^^ b < 256 := Nat.xor_lt_two_pow (n := 8) ha hb
theorem square_xor (a b : Nat) (ha : a < 256) (hb : b < 256) : mul (a ^^^ b) (a ^^^ b) = mul a a ^^^ mul b b := by
  rw [mul_left ha hb, mul_right, mul_right, mul_comm b a hb ha]
  have e : mul a a ^^^ mul a b ^^^ (mul a b ^^^ mul b b) = mul a a ^^^ mul b b ^^^ (mul a b ^^^ mul a b) := by ac_rfl
  rw [e, Nat.xor_self, Nat.xor_zero]
end Go.Proofs.Ytoonpnpooljmlaa.Gf

namespace Go.Proofs.Ytoonpnpooljmlaa
open Go.RowKit

theorem xor_u8 (a b : Nat) (ha : a < 256) (hb : b < 256) : bits .xor .u8 (a : Int) (b : Int) = ((a ^^^ b : Nat) : Int) := u8_xor_nat a b ha hb
theorem ret_u8 {a b : Int} (h : a = b) : Ending.returned (.int .u8 a) = .returned (.int .u8 b) := by rw [h]

theorem double_any (a : Nat) (ha : a < 256) (w : World) :
    Calls Try.prog 82 #[.int .u8 a] w fun e w' => e = .returned (.int .u8 (Gf.dbl a : Nat)) ∧ w = w' := by
  have h1 : a * 2 % 256 < 256 := by omega
  have h2 : a / 128 * 29 < 256 := by omega
  go_enter Try.func82, Try.ntmps82
  go_wp2
  go_ret
  exact ⟨ret_u8 (by rw [Gf.dbl, ← xor_u8 _ _ h1 h2]; rfl), rfl⟩

theorem add_any (a b : Nat) (ha : a < 256) (hb : b < 256) (w : World) :
    Calls Try.prog 74 #[.int .u8 a, .int .u8 b] w fun e w' => e = .returned (.int .u8 ((a ^^^ b : Nat) : Int)) ∧ w = w' := by
  go_enter Try.func74, Try.ntmps74
  go_wp2
  go_ret
  exact ⟨ret_u8 (xor_u8 a b ha hb), rfl⟩

theorem and_one (n : Nat) (hn : n < 256) : bits .and .u8 (n : Int) 1 = ((n % 2 : Nat) : Int) := by
  have h := u8_and_nat n 1 hn (by omega)
  rw [Nat.and_one_is_mod] at h
  exact h
theorem shift_lt (b k : Nat) (hb : b < 256) : b / 2 ^ k < 256 := Nat.lt_of_le_of_lt (Nat.div_le_self _ _) hb
theorem bit_arg (x b k : Nat) (hx : x < 256) (hb : b < 256) : ((x : Int) * bits .and .u8 ((b : Int) / 2 ^ k) 1 % 256) = ((x * (b / 2 ^ k % 2) : Nat) : Int) := by
  have e : ((b : Int) / 2 ^ k) = ((b / 2 ^ k : Nat) : Int) := by simp
  rw [e, and_one _ (shift_lt b k hb)]
  rcases Gf.bit01 b k with h | h <;> rw [h] <;> simp <;> omega
theorem bit_lt (x b k : Nat) (hx : x < 256) : x * (b / 2 ^ k % 2) < 256 := by
  rcases Gf.bit01 b k with h | h <;> rw [h] <;> omega
set_option maxHeartbeats 400000 in
theorem mul_any (a b : Nat) (ha : a < 256) (hb : b < 256) (w : World) :
    Calls Try.prog 67 #[.int .u8 a, .int .u8 b] w fun e w' => e = .returned (.int .u8 (Gf.mul a b : Nat)) ∧ w = w' := by
  go_enter Try.func67, Try.ntmps67
  go_wp2
  go_loop [0, 5, 7] (fun x s i => ∃ k : Nat, k ≤ 8 ∧ i = .int .i64 k ∧ x = .int .u8 ((Gf.mulTo a b k).2 : Nat) ∧ s = .int .u8 ((Gf.mulTo a b k).1 : Nat)) (fun _ _ i => 8 - (intOf i).toNat)
  case atStart => exact ⟨0, by omega, rfl, rfl, rfl⟩
  case round =>
    obtain ⟨k, hk, rfl, rfl, rfl⟩ := hrel
    by_cases hlt : k < 8
    · obtain ⟨h1, h2⟩ := Gf.mulTo_lt ha b k
      have h3 := bit_arg (Gf.mulTo a b k).2 b k h2 hb
      have h4 := bit_lt (Gf.mulTo a b k).2 b k h2
      have H3 := Lib.hid h3
      clear h3
      go_wp2_with fail
      rw [H3.out]
      refine (add_any _ _ h1 h4 w).mono ?_
      rintro e w' ⟨rfl, rfl⟩
      go_wp2_with fail
      refine (double_any _ h2 w).mono ?_
      rintro e w' ⟨rfl, rfl⟩
      go_wp2
      go_round
      case rel => exact ⟨k + 1, by omega, by go_num, rfl, rfl⟩
      case measure => simp [intOf]; omega
    · go_wp2
      go_ret
      exact ⟨ret_u8 (by obtain rfl : k = 8 := by omega
                        rfl), rfl⟩

/-! ### int64: bits of numbers that are not below 0 -/
theorem wrap_i64_nat (n : Nat) (hn : n < 9223372036854775808) : IntKind.i64.wrap (n : Int) = n := by
  rw [IntKind.wrap_i64]; omega
theorem ofInt_i64 (a : Nat) (ha : a < 18446744073709551616) : (BitVec.ofInt 64 (a : Int)).toNat = a := ofInt_u64 a ha
theorem i64_xor (a b : Nat) (ha : a < 2 ^ 62) (hb : b < 2 ^ 62) : bits .xor .i64 (a : Int) (b : Int) = ((a ^^^ b : Nat) : Int) := by
  have hx : a ^^^ b < 2 ^ 62 := Nat.xor_lt_two_pow ha hb
  show IntKind.i64.wrap ((BitVec.ofInt 64 (a : Int) ^^^ BitVec.ofInt 64 (b : Int)).toNat : Int) = _
  rw [BitVec.toNat_xor, ofInt_i64 a (by omega), ofInt_i64 b (by omega), wrap_i64_nat _ (by omega)]
theorem i64_and_one (a : Nat) (ha : a < 9223372036854775808) : bits .and .i64 (a : Int) 1 = ((a % 2 : Nat) : Int) := by
  show IntKind.i64.wrap ((BitVec.ofInt 64 (a : Int) &&& BitVec.ofInt 64 ((1 : Nat) : Int)).toNat : Int) = _
  rw [BitVec.toNat_and, ofInt_i64 a (by omega), ofInt_i64 1 (by omega), Nat.and_one_is_mod, wrap_i64_nat _ (by omega)]

/-! ### the reference's product -/
theorem ref_low (x : Nat) (hx : x * 2 ≤ 255) : Gf.dbl x = x * 2 := by
  unfold Gf.dbl
  rw [show x / 128 = 0 by omega, Nat.zero_mul, Nat.xor_zero]; omega
set_option maxRecDepth 100000 in
theorem ref_high (x : Nat) (hx : x < 256) (h : ¬ x * 2 ≤ 255) : Gf.dbl x = (x * 2) ^^^ 285 := by
  have := Gf.below (fun x => x * 2 ≤ 255 || Gf.dbl x == (x * 2) ^^^ 285) (by decide +kernel) x hx
  simp at this
  omega
set_option maxHeartbeats 400000 in
theorem refmul_any (a b : Nat) (ha : a < 256) (hb : b < 256) (w : World) :
    Calls Try.prog 31 #[.int .u8 a, .int .u8 b] w fun e w' => e = .returned (.int .u8 (Gf.mul a b : Nat)) ∧ w = w' := by
  go_enter Try.func31, Try.ntmps31
  go_wp2
  go_loop [5, 6, 7] (fun x s i => ∃ k : Nat, k ≤ 8 ∧ i = .int .i64 k ∧ x = .int .i64 ((Gf.mulTo a b k).2 : Nat) ∧ s = .int .i64 ((Gf.mulTo a b k).1 : Nat)) (fun _ _ i => 8 - (intOf i).toNat)
  case atStart => exact ⟨0, by omega, rfl, rfl, rfl⟩
  case round =>
    obtain ⟨k, hk, rfl, rfl, rfl⟩ := hrel
    obtain ⟨h1, h2⟩ := Gf.mulTo_lt ha b k
    by_cases hlt : k < 8
    · have e0 : ((b : Int) / 2 ^ k) = ((b / 2 ^ k : Nat) : Int) := by simp
      have e1 := and_one _ (shift_lt b k hb)
      rw [← e0] at e1
      rcases Gf.bit01 b k with hbit | hbit
      all_goals
        have H1 : (bits .and .u8 ((b : Int) / 2 ^ k) 1 == 1) = decide (b / 2 ^ k % 2 = 1) := by rw [e1, hbit]; rfl
        rw [hbit] at H1
        simp only [decide_true, Nat.zero_ne_one, decide_false] at H1
        have HB := Lib.hid hbit
        clear e0 e1 hbit
        by_cases hx : (Gf.mulTo a b k).2 * 2 ≤ 255
        all_goals
          go_wp2
          go_round
          case rel =>
            refine ⟨k + 1, by omega, by go_num, ?_, ?_⟩
            · simp only [Gf.mulTo]
              first
                | (rw [ref_low _ hx]; go_num)
                | (rw [ref_high _ h2 hx, ← i64_xor _ _ (by omega) (by omega)]; rfl)
            · simp only [Gf.mulTo, HB.out, Nat.mul_zero, Nat.mul_one, Nat.xor_zero]
              try rw [← i64_xor _ _ (by omega) (by omega)]
          case measure => simp [intOf]; omega
    · go_wp2
      go_ret
      exact ⟨ret_u8 (by obtain rfl : k = 8 := by omega
                        show _ = ((Gf.mulTo a b 8).1 : Int)
                        omega), rfl⟩
end Go.Proofs.Ytoonpnpooljmlaa

namespace Go.Proofs.Ytoonpnpooljmlaa
open Go.RowKit

theorem ret_u8n {a b : Nat} (h : a = b) : Ending.returned (.int .u8 (a : Int)) = .returned (.int .u8 (b : Int)) := by rw [h]

set_option maxHeartbeats 400000 in
theorem raise_any (a n : Nat) (ha : a < 256) (hn : n ≤ 9223372036854775807) (w : World) :
    Calls Try.prog 81 #[.int .u8 a, .int .i64 n] w fun e w' => e = .returned (.int .u8 (Gf.pow a n : Nat)) ∧ w = w' := by
  go_enter Try.func81, Try.ntmps81
  go_wp2
  go_loop [5, 6, 7] (fun r s i => ∃ R S m : Nat, m ≤ n ∧ i = .int .i64 m ∧ r = .int .u8 (R : Int) ∧ s = .int .u8 (S : Int) ∧ R < 256 ∧ S < 256 ∧ Gf.mul R (Gf.pow S m) = Gf.pow a n) (fun _ _ i => (intOf i).toNat)
  case atStart => exact ⟨1, a, n, Nat.le_refl _, rfl, rfl, rfl, by omega, ha, Gf.one_mul _ (Gf.pow_lt256 ha n)⟩
  case round =>
    obtain ⟨R, S, m, hm, rfl, rfl, rfl, hR, hS, hinv⟩ := hrel
    have HI := Lib.hid hinv
    clear hinv
    by_cases hlt : 0 < m
    · have e1 := i64_and_one m (by omega)
      have hm2 : m / 2 ≤ n := by omega
      rcases Nat.mod_two_eq_zero_or_one m with hbit | hbit
      all_goals
        have H1 : (bits .and .i64 (m : Int) 1 == 1) = decide (m % 2 = 1) := by rw [e1, hbit]; rfl
        rw [hbit] at H1
        simp only [decide_true, Nat.zero_ne_one, decide_false] at H1
        have HB := Lib.hid hbit
        clear e1 hbit
      · go_wp2_with fail
        refine (mul_any S S hS hS w).mono ?_
        rintro e w' ⟨rfl, rfl⟩
        go_wp2
        go_round
        case rel => exact ⟨R, Gf.mul S S, m / 2, hm2, by go_num, rfl, rfl, hR, Gf.mul_lt hS S, by rw [Gf.round_even hS HB.out]; exact HI.out⟩
        case measure => simp [intOf]; omega
      · go_wp2_with fail
        refine (mul_any R S hR hS w).mono ?_
        rintro e w' ⟨rfl, rfl⟩
        go_wp2_with fail
        refine (mul_any S S hS hS w).mono ?_
        rintro e w' ⟨rfl, rfl⟩
        go_wp2
        go_round
        case rel => exact ⟨Gf.mul R S, Gf.mul S S, m / 2, hm2, by go_num, rfl, rfl, Gf.mul_lt hR S, Gf.mul_lt hS S, by rw [Gf.round_odd hR hS HB.out]; exact HI.out⟩
        case measure => simp [intOf]; omega
    · go_wp2
      go_ret
      obtain rfl : m = 0 := by omega
      have h := HI.out
      rw [show Gf.pow S 0 = 1 from rfl, Gf.mul_one R hR] at h
      exact ⟨ret_u8n h, rfl⟩
set_option maxHeartbeats 400000 in
theorem refpow_any (a n : Nat) (ha : a < 256) (hn : n ≤ 9223372036854775807) (w : World) :
    Calls Try.prog 37 #[.int .u8 a, .int .i64 n] w fun e w' => e = .returned (.int .u8 (Gf.pow a n : Nat)) ∧ w = w' := by
  go_enter Try.func37, Try.ntmps37
  go_wp2
  go_loop [5, 0, 1] (fun r s i => ∃ R S m : Nat, m ≤ n ∧ i = .int .i64 m ∧ r = .int .u8 (R : Int) ∧ s = .int .u8 (S : Int) ∧ R < 256 ∧ S < 256 ∧ Gf.mul R (Gf.pow S m) = Gf.pow a n) (fun _ _ i => (intOf i).toNat)
  case atStart => exact ⟨1, a, n, Nat.le_refl _, rfl, rfl, rfl, by omega, ha, Gf.one_mul _ (Gf.pow_lt256 ha n)⟩
  case round =>
    obtain ⟨R, S, m, hm, rfl, rfl, rfl, hR, hS, hinv⟩ := hrel
    have HI := Lib.hid hinv
    clear hinv
    by_cases hlt : 0 < m
    · have e1 := i64_and_one m (by omega)
      have hm2 : m / 2 ≤ n := by omega
      rcases Nat.mod_two_eq_zero_or_one m with hbit | hbit
      all_goals
        have H1 : (bits .and .i64 (m : Int) 1 == 1) = decide (m % 2 = 1) := by rw [e1, hbit]; rfl
        rw [hbit] at H1
        simp only [decide_true, Nat.zero_ne_one, decide_false] at H1
        have HB := Lib.hid hbit
        clear e1 hbit
      · go_wp2_with fail
        refine (refmul_any S S hS hS w).mono ?_
        rintro e w' ⟨rfl, rfl⟩
        go_wp2
        go_round
        case rel => exact ⟨R, Gf.mul S S, m / 2, hm2, by go_num, rfl, rfl, hR, Gf.mul_lt hS S, by rw [Gf.round_even hS HB.out]; exact HI.out⟩
        case measure => simp [intOf]; omega
      · go_wp2_with fail
        refine (refmul_any R S hR hS w).mono ?_
        rintro e w' ⟨rfl, rfl⟩
        go_wp2_with fail
        refine (refmul_any S S hS hS w).mono ?_
        rintro e w' ⟨rfl, rfl⟩
        go_wp2
        go_round
        case rel => exact ⟨Gf.mul R S, Gf.mul S S, m / 2, hm2, by go_num, rfl, rfl, Gf.mul_lt hR S, Gf.mul_lt hS S, by rw [Gf.round_odd hR hS HB.out]; exact HI.out⟩
        case measure => simp [intOf]; omega
    · go_wp2
      go_ret
      obtain rfl : m = 0 := by omega
      have h := HI.out
      rw [show Gf.pow S 0 = 1 from rfl, Gf.mul_one R hR] at h
      exact ⟨ret_u8n h, rfl⟩
theorem refinv_any (a : Nat) (ha : a < 256) (w : World) :
    Calls Try.prog 70 #[.int .u8 a] w fun e w' => e = .returned (.int .u8 (Gf.inv a : Nat)) ∧ w = w' := by
  go_enter Try.func70, Try.ntmps70
  go_wp2_with fail
  refine (refpow_any a 254 ha (by omega) w).mono ?_
  rintro e w' ⟨rfl, rfl⟩
  go_wp2
  go_ret
  exact ⟨rfl, rfl⟩
/-! ### two results: a byte (or a number), an error -/
abbrev two8 (x : Nat) (e : Int) : Value := .tuple #[.int .u8 (x : Int), .int .i64 e]
theorem inv_any (a : Nat) (h0 : 0 < a) (ha : a < 256) (w : World) :
    Calls Try.prog 79 #[.int .u8 a] w fun e w' => e = .returned (two8 (Gf.inv a) 0) ∧ w = w' := by
  go_enter Try.func79, Try.ntmps79
  have hb : ((a : Int) == 0) = false := by rw [beq_eq_false_iff_ne]; omega
  go_wp2_with fail
  refine (raise_any a 254 ha (by omega) w).mono ?_
  rintro e w' ⟨rfl, rfl⟩
  go_wp2
  go_ret2
  exact ⟨rfl, rfl⟩
theorem inv_zero (w : World) :
    Calls Try.prog 79 #[.int .u8 0] w fun e w' => e = .returned (two8 0 1) ∧ w = w' := by
  go_enter Try.func79, Try.ntmps79
  go_wp2
  go_ret2
  exact ⟨rfl, rfl⟩
theorem exp_any (n : Nat) (hn : n ≤ 9223372036854775807) (w : World) :
    Calls Try.prog 66 #[.int .i64 n] w fun e w' => e = .returned (two8 (Gf.dbls n) 0) ∧ w = w' := by
  go_enter Try.func66, Try.ntmps66
  go_wp2_with fail
  refine (raise_any 2 (n % 255) (by omega) (by omega) w).mono ?_
  rintro e w' ⟨rfl, rfl⟩
  go_wp2
  go_ret2
  refine ⟨?_, rfl⟩
  show Ending.returned (two8 (Gf.pow 2 (n % 255)) 0) = _
  rw [Gf.pow_two, Gf.dbls_mod]
theorem exp_neg (n : Int) (hn : n < 0) (w : World) :
    Calls Try.prog 66 #[.int .i64 n] w fun e w' => e = .returned (two8 0 1) ∧ w = w' := by
  go_enter Try.func66, Try.ntmps66
  go_wp2
  go_ret2
  exact ⟨rfl, rfl⟩
end Go.Proofs.Ytoonpnpooljmlaa

namespace Go.Proofs.Ytoonpnpooljmlaa

/-! ### rows -/
def swapF (f : Nat → Nat → Nat) (a b : Nat) : Nat → Nat → Nat := fun i j => if i = a then f b j else if i = b then f a j else f i j
def scaleF (f : Nat → Nat → Nat) (a v : Nat) : Nat → Nat → Nat := fun i j => if i = a then Gf.mul (f a j) v else f i j
def addF (f : Nat → Nat → Nat) (a b v : Nat) : Nat → Nat → Nat := fun i j => if i = a then f a j ^^^ Gf.mul (f b j) v else f i j
def elimTo (f : Nat → Nat → Nat) (top col n : Nat) : Nat → Nat → Nat := fun i j => if i < n ∧ i ≠ top then f i j ^^^ Gf.mul (f top j) (f i col) else f i j
def upd (f : Nat → Nat → Nat) (a b v : Nat) : Nat → Nat → Nat := fun i j => if i = a ∧ j = b then v else f i j
theorem swapF_comm (f : Nat → Nat → Nat) (a b : Nat) : swapF f a b = swapF f b a := by
  funext i j
  unfold swapF
  by_cases h1 : i = a <;> by_cases h2 : i = b
  · subst h1; subst h2; simp
  · subst h1; simp [h2]
  · subst h2; simp [h1]
  · simp [h1, h2]
theorem swapF_same (f : Nat → Nat → Nat) (a : Nat) : swapF f a a = f := by
  funext i j
  unfold swapF
  by_cases h1 : i = a
  · subst h1; simp
  · simp [h1]
theorem elimTo_zero (f : Nat → Nat → Nat) (top col : Nat) : elimTo f top col 0 = f := by
  funext i j; simp [elimTo]
theorem elimTo_top (f : Nat → Nat → Nat) (top col : Nat) : elimTo f top col (top + 1) = elimTo f top col top := by
  funext i j
  unfold elimTo
  by_cases h : i = top
  · simp [h]
  · have : (i < top + 1 ∧ i ≠ top) ↔ (i < top ∧ i ≠ top) := by omega
    simp only [this]
theorem elimTo_succ (f : Nat → Nat → Nat) (top col n : Nat) (hn : n ≠ top) : addF (elimTo f top col n) n top (f n col) = elimTo f top col (n + 1) := by
  funext i j
  unfold addF elimTo
  by_cases h : i = n
  · subst h
    simp [hn]
  · have : (i < n + 1 ∧ i ≠ top) ↔ (i < n ∧ i ≠ top) := by omega
    simp only [this, h, if_false]
theorem elimTo_at (f : Nat → Nat → Nat) (top col n j : Nat) : elimTo f top col n n j = f n j := by simp [elimTo]
theorem elimTo_of_top (f : Nat → Nat → Nat) (top col n j : Nat) : elimTo f top col n top j = f top j := by simp [elimTo]
theorem elimTo_skip (f : Nat → Nat → Nat) (top col n : Nat) (h0 : f n col = 0) : elimTo f top col (n + 1) = elimTo f top col n := by
  funext i j
  unfold elimTo
  by_cases h : i = n
  · subst h
    simp [h0, Gf.mul_zero]
  · have : (i < n + 1 ∧ i ≠ top) ↔ (i < n ∧ i ≠ top) := by omega
    simp only [this]

/-! ### all are bytes -/
def Bt (f : Nat → Nat → Nat) : Prop := ∀ i j, f i j < 256
theorem Bt.swap {f : Nat → Nat → Nat} (h : Bt f) (a b : Nat) : Bt (swapF f a b) := fun i j => by
  unfold swapF; split
  · exact h _ _
  · split <;> exact h _ _
theorem Bt.scale {f : Nat → Nat → Nat} (h : Bt f) (a v : Nat) : Bt (scaleF f a v) := fun i j => by
  unfold scaleF; split
  · exact Gf.mul_lt (h _ _) _
  · exact h _ _
theorem Bt.add {f : Nat → Nat → Nat} (h : Bt f) (a b v : Nat) : Bt (addF f a b v) := fun i j => by
  unfold addF; split
  · exact Gf.xor_lt (h _ _) (Gf.mul_lt (h _ _) _)
  · exact h _ _
theorem Bt.elim {f : Nat → Nat → Nat} (h : Bt f) (top col n : Nat) : Bt (elimTo f top col n) := fun i j => by
  unfold elimTo; split
  · exact Gf.xor_lt (h _ _) (Gf.mul_lt (h _ _) _)
  · exact h _ _

/-! ### a column -/
/-- the first row from n on, of k rows, that has no 0 in the column -/
def pv (f : Nat → Nat → Nat) (col : Nat) : Nat → Nat → Option Nat
  | _, 0 => none
  | n, k + 1 => if f n col = 0 then pv f col (n + 1) k else some n
theorem pv_some {f : Nat → Nat → Nat} {col : Nat} : ∀ {k n a : Nat}, pv f col n k = some a → n ≤ a ∧ a < n + k ∧ f a col ≠ 0 ∧ ∀ i, n ≤ i → i < a → f i col = 0
  | 0, _, _, h => by cases h
  | k + 1, n, a, h => by
    unfold pv at h
    by_cases h0 : f n col = 0
    · rw [if_pos h0] at h
      obtain ⟨h1, h2, h3, h4⟩ := pv_some h
      refine ⟨by omega, by omega, h3, fun i hi hia => ?_⟩
      by_cases e : i = n
      · rw [e]; exact h0
      · exact h4 i (by omega) hia
    · rw [if_neg h0] at h
      cases h
      exact ⟨Nat.le_refl _, by omega, h0, fun i h1 h2 => by omega⟩
theorem pv_none {f : Nat → Nat → Nat} {col : Nat} : ∀ {k n : Nat}, pv f col n k = none → ∀ i, n ≤ i → i < n + k → f i col = 0
  | 0, _, _, i, h1, h2 => by omega
  | k + 1, n, h, i, h1, h2 => by
    unfold pv at h
    by_cases h0 : f n col = 0
    · rw [if_pos h0] at h
      by_cases e : i = n
      · rw [e]; exact h0
      · exact pv_none h i (by omega) (by omega)
    · rw [if_neg h0] at h
      cases h
theorem pv_first {f : Nat → Nat → Nat} {col n a k : Nat} (h1 : n ≤ a) (h2 : a < n + k) (h3 : f a col ≠ 0) (h4 : ∀ i, n ≤ i → i < a → f i col = 0) : pv f col n k = some a := by
  cases h : pv f col n k with
  | none => exact absurd (pv_none h a h1 h2) h3
  | some b =>
    obtain ⟨g1, g2, g3, g4⟩ := pv_some h
    rcases Nat.lt_trichotomy a b with e | e | e
    · exact absurd (g4 a h1 e) h3
    · rw [e]
    · exact absurd (h4 b g1 e) g3
theorem pv_zeros {f : Nat → Nat → Nat} {col n k : Nat} (h : ∀ i, n ≤ i → i < n + k → f i col = 0) : pv f col n k = none := by
  cases e : pv f col n k with
  | none => rfl
  | some b =>
    obtain ⟨g1, g2, g3, _⟩ := pv_some e
    exact absurd (h b g1 g2) g3

/-- a row to the top, scaled to 1 in the column, and the column's other numbers made 0 -/
def topF (f : Nat → Nat → Nat) (rank col a : Nat) : Nat → Nat → Nat := scaleF (swapF f rank a) rank (Gf.inv (f a col))
def sweepF (r : Nat) (f : Nat → Nat → Nat) (rank col a : Nat) : Nat → Nat → Nat := elimTo (topF f rank col a) rank col r
def colStep (r : Nat) (s : Nat × (Nat → Nat → Nat)) (col : Nat) : Nat × (Nat → Nat → Nat) :=
  match pv s.2 col s.1 (r - s.1) with
  | none => s
  | some a => (s.1 + 1, sweepF r s.2 s.1 col a)
theorem colStep_none {r rank col : Nat} {f : Nat → Nat → Nat} (h : pv f col rank (r - rank) = none) : colStep r (rank, f) col = (rank, f) := by
  unfold colStep; simp only [h]
theorem colStep_some {r rank col a : Nat} {f : Nat → Nat → Nat} (h : pv f col rank (r - rank) = some a) : colStep r (rank, f) col = (rank + 1, sweepF r f rank col a) := by
  unfold colStep; simp only [h]
def redTo (r : Nat) (f : Nat → Nat → Nat) : Nat → Nat × (Nat → Nat → Nat)
  | 0 => (0, f)
  | n + 1 => colStep r (redTo r f n) n
theorem Bt.top {f : Nat → Nat → Nat} (h : Bt f) (rank col a : Nat) : Bt (topF f rank col a) := (h.swap _ _).scale _ _
theorem Bt.sweep {f : Nat → Nat → Nat} (h : Bt f) (r rank col a : Nat) : Bt (sweepF r f rank col a) := (h.top _ _ _).elim _ _ _
theorem redTo_le (r : Nat) (f : Nat → Nat → Nat) : ∀ n, (redTo r f n).1 ≤ r ∧ (redTo r f n).1 ≤ n
  | 0 => ⟨Nat.zero_le _, Nat.zero_le _⟩
  | n + 1 => by
    obtain ⟨h1, h2⟩ := redTo_le r f n
    show (colStep r (redTo r f n) n).1 ≤ r ∧ (colStep r (redTo r f n) n).1 ≤ n + 1
    cases h : pv (redTo r f n).2 n (redTo r f n).1 (r - (redTo r f n).1) with
    | none => rw [show redTo r f n = ((redTo r f n).1, (redTo r f n).2) from rfl, colStep_none h]; exact ⟨h1, by omega⟩
    | some a =>
      obtain ⟨g1, g2, _, _⟩ := pv_some h
      rw [show redTo r f n = ((redTo r f n).1, (redTo r f n).2) from rfl, colStep_some h]
      exact ⟨by show (redTo r f n).1 + 1 ≤ r; omega, by show (redTo r f n).1 + 1 ≤ n + 1; omega⟩
theorem redTo_bt (r : Nat) (f : Nat → Nat → Nat) (hf : Bt f) : ∀ n, Bt (redTo r f n).2
  | 0 => hf
  | n + 1 => by
    have h1 := redTo_bt r f hf n
    show Bt (colStep r (redTo r f n) n).2
    cases h : pv (redTo r f n).2 n (redTo r f n).1 (r - (redTo r f n).1) with
    | none => rw [show redTo r f n = ((redTo r f n).1, (redTo r f n).2) from rfl, colStep_none h]; exact h1
    | some a =>
      rw [show redTo r f n = ((redTo r f n).1, (redTo r f n).2) from rfl, colStep_some h]
      exact h1.sweep _ _ _ _
theorem redTo_none (r : Nat) (f : Nat → Nat → Nat) (n : Nat) (h : pv (redTo r f n).2 n (redTo r f n).1 (r - (redTo r f n).1) = none) : redTo r f (n + 1) = redTo r f n := by
  show colStep r (redTo r f n) n = _
  rw [show redTo r f n = ((redTo r f n).1, (redTo r f n).2) from rfl, colStep_none h]
theorem redTo_some (r : Nat) (f : Nat → Nat → Nat) (n a : Nat) (h : pv (redTo r f n).2 n (redTo r f n).1 (r - (redTo r f n).1) = some a) : redTo r f (n + 1) = ((redTo r f n).1 + 1, sweepF r (redTo r f n).2 (redTo r f n).1 n a) := by
  show colStep r (redTo r f n) n = _
  rw [show redTo r f n = ((redTo r f n).1, (redTo r f n).2) from rfl, colStep_some h]
/-- with as many as there are rows nothing is left to do -/
theorem redTo_full (r : Nat) (f : Nat → Nat → Nat) (n : Nat) (h : (redTo r f n).1 = r) : ∀ k, redTo r f (n + k) = redTo r f n
  | 0 => rfl
  | k + 1 => by
    have e := redTo_full r f n h k
    rw [← Nat.add_assoc, redTo_none, e]
    rw [e, h, Nat.sub_self]
    rfl

/-! ### one number at a time -/
theorem idx_inj {c i j i' j' : Nat} (hj : j < c) (hj' : j' < c) (h : i * c + j = i' * c + j') : i = i' ∧ j = j' := by
  have h1 : (i * c + j) / c = i := by rw [Nat.mul_comm, Nat.mul_add_div (by omega), Nat.div_eq_of_lt hj]; omega
  have h2 : (i' * c + j') / c = i' := by rw [Nat.mul_comm, Nat.mul_add_div (by omega), Nat.div_eq_of_lt hj']; omega
  rw [h] at h1
  have e : i = i' := by rw [← h1, h2]
  subst e
  exact ⟨rfl, by omega⟩
theorem idx_lt {r c i j : Nat} (hi : i < r) (hj : j < c) : i * c + j < r * c := by
  have h := Nat.mul_le_mul_right c (Nat.succ_le_of_lt hi)
  rw [Nat.succ_mul] at h
  omega
/-- a row changed as far as column k -/
def rowTo (f g : Nat → Nat → Nat) (a k : Nat) : Nat → Nat → Nat := fun i j => if i = a ∧ j < k then g i j else f i j
theorem rowTo_zero (f g : Nat → Nat → Nat) (a : Nat) : rowTo f g a 0 = f := by funext i j; simp [rowTo]
theorem rowTo_succ (f g : Nat → Nat → Nat) (a k : Nat) : upd (rowTo f g a k) a k (g a k) = rowTo f g a (k + 1) := by
  funext i j
  unfold upd rowTo
  by_cases h : i = a
  · subst h
    by_cases e : j = k
    · subst e; simp
    · have : j < k + 1 ↔ j < k := by omega
      simp [e, this]
  · simp [h]
theorem rowTo_at (f g : Nat → Nat → Nat) (a k : Nat) : rowTo f g a k a k = f a k := by simp [rowTo]
end Go.Proofs.Ytoonpnpooljmlaa

namespace Go.Proofs.Ytoonpnpooljmlaa

/-! ### sums -/
def xs (g : Nat → Nat) : Nat → Nat
  | 0 => 0
  | n + 1 => xs g n ^^^ g n
theorem xs_lt {g : Nat → Nat} (h : ∀ j, g j < 256) : ∀ n, xs g n < 256
  | 0 => by show 0 < 256; omega
  | n + 1 => Gf.xor_lt (xs_lt h n) (h n)
theorem xs_congr {g h : Nat → Nat} : ∀ {n : Nat}, (∀ j, j < n → g j = h j) → xs g n = xs h n
  | 0, _ => rfl
  | n + 1, e => by
    show xs g n ^^^ g n = xs h n ^^^ h n
    rw [xs_congr (n := n) (fun j hj => e j (by omega)), e n (by omega)]
theorem xs_xor (g h : Nat → Nat) : ∀ n, xs (fun j => g j ^^^ h j) n = xs g n ^^^ xs h n
  | 0 => (Nat.xor_self 0).symm
  | n + 1 => by
    show xs (fun j => g j ^^^ h j) n ^^^ (g n ^^^ h n) = (xs g n ^^^ g n) ^^^ (xs h n ^^^ h n)
    rw [xs_xor g h n, Nat.xor_assoc, Nat.xor_assoc, ← Nat.xor_assoc (xs h n) (g n), Nat.xor_comm (xs h n) (g n), Nat.xor_assoc (g n)]
theorem xs_zero {g : Nat → Nat} : ∀ {n : Nat}, (∀ j, j < n → g j = 0) → xs g n = 0
  | 0, _ => rfl
  | n + 1, e => by
    show xs g n ^^^ g n = 0
    rw [xs_zero (n := n) (fun j hj => e j (by omega)), e n (by omega)]; rfl
theorem xs_single {g : Nat → Nat} {k : Nat} : ∀ {n : Nat}, k < n → (∀ j, j < n → j ≠ k → g j = 0) → xs g n = g k
  | 0, h, _ => by omega
  | n + 1, h, e => by
    show xs g n ^^^ g n = g k
    by_cases hk : k = n
    · subst hk
      rw [xs_zero (fun j hj => e j (by omega) (by omega)), Nat.zero_xor]
    · rw [xs_single (n := n) (by omega) (fun j hj hne => e j (by omega) hne), e n (by omega) (fun h => hk h.symm), Nat.xor_zero]
theorem xs_mul_right {g : Nat → Nat} (h : ∀ j, g j < 256) (c : Nat) : ∀ n, Gf.mul (xs g n) c = xs (fun j => Gf.mul (g j) c) n
  | 0 => Gf.zero_mul c
  | n + 1 => by
    show Gf.mul (xs g n ^^^ g n) c = xs (fun j => Gf.mul (g j) c) n ^^^ Gf.mul (g n) c
    rw [Gf.mul_left (xs_lt h n) (h n), xs_mul_right h c n]
theorem xs_mul_left (g : Nat → Nat) (c : Nat) : ∀ n, Gf.mul c (xs g n) = xs (fun j => Gf.mul c (g j)) n
  | 0 => Gf.mul_zero c
  | n + 1 => by
    show Gf.mul c (xs g n ^^^ g n) = xs (fun j => Gf.mul c (g j)) n ^^^ Gf.mul c (g n)
    rw [Gf.mul_right, xs_mul_left g c n]
theorem xs_swap (h : Nat → Nat → Nat) (m : Nat) : ∀ n, xs (fun i => xs (fun j => h i j) m) n = xs (fun j => xs (fun i => h i j) n) m
  | 0 => (xs_zero (fun _ _ => rfl)).symm
  | n + 1 => by
    show xs (fun i => xs (fun j => h i j) m) n ^^^ xs (fun j => h n j) m = xs (fun j => xs (fun i => h i j) n ^^^ h n j) m
    rw [xs_xor, xs_swap h m n]

/-! ### products -/
def mulM (n : Nat) (f g : Nat → Nat → Nat) : Nat → Nat → Nat := fun i k => xs (fun j => Gf.mul (f i j) (g j k)) n
theorem mulM_bt {f : Nat → Nat → Nat} (hf : Bt f) (n : Nat) (g : Nat → Nat → Nat) : Bt (mulM n f g) := fun _ _ => xs_lt (fun _ => Gf.mul_lt (hf _ _) _) n
theorem mulM_congr {n : Nat} {f f' g g' : Nat → Nat → Nat} {i k : Nat} (hf : ∀ j, j < n → f i j = f' i j) (hg : ∀ j, j < n → g j k = g' j k) : mulM n f g i k = mulM n f' g' i k :=
  xs_congr (fun j hj => by rw [hf j hj, hg j hj])
theorem mulM_assoc {f g h : Nat → Nat → Nat} (hf : Bt f) (hg : Bt g) (hh : Bt h) (m n i k : Nat) : mulM n (mulM m f g) h i k = mulM m f (mulM n g h) i k := by
  show xs (fun j => Gf.mul (xs (fun l => Gf.mul (f i l) (g l j)) m) (h j k)) n = xs (fun l => Gf.mul (f i l) (xs (fun j => Gf.mul (g l j) (h j k)) n)) m
  rw [show (fun j => Gf.mul (xs (fun l => Gf.mul (f i l) (g l j)) m) (h j k)) = (fun j => xs (fun l => Gf.mul (Gf.mul (f i l) (g l j)) (h j k)) m) from
    funext fun j => xs_mul_right (fun l => Gf.mul_lt (hf _ _) _) _ m]
  rw [show (fun l => Gf.mul (f i l) (xs (fun j => Gf.mul (g l j) (h j k)) n)) = (fun l => xs (fun j => Gf.mul (f i l) (Gf.mul (g l j) (h j k))) n) from
    funext fun l => xs_mul_left _ _ n]
  rw [xs_swap]
  exact xs_congr (fun l _ => xs_congr (fun j _ => Gf.mul_assoc _ _ _ (hf _ _) (hg _ _) (hh _ _)))
def oneF : Nat → Nat → Nat := fun i j => if i = j then 1 else 0
theorem oneF_bt : Bt oneF := fun i j => by unfold oneF; split <;> omega
theorem mulM_one_left {n i k : Nat} {g : Nat → Nat → Nat} (hg : Bt g) (hi : i < n) : mulM n oneF g i k = g i k := by
  show xs (fun j => Gf.mul (oneF i j) (g j k)) n = _
  rw [xs_single hi (fun j _ hne => by
    show Gf.mul (oneF i j) _ = 0
    rw [show oneF i j = 0 from if_neg (fun e => hne e.symm), Gf.zero_mul])]
  rw [show oneF i i = 1 from if_pos rfl, Gf.one_mul _ (hg _ _)]
theorem mulM_one_right {n i k : Nat} {f : Nat → Nat → Nat} (hf : Bt f) (hk : k < n) : mulM n f oneF i k = f i k := by
  show xs (fun j => Gf.mul (f i j) (oneF j k)) n = _
  rw [xs_single hk (fun j _ hne => by
    show Gf.mul _ (oneF j k) = 0
    rw [show oneF j k = 0 from if_neg hne, Gf.mul_zero])]
  rw [show oneF k k = 1 from if_pos rfl, Gf.mul_one _ (hf _ _)]

/-! ### rows made of rows -/
/-- f's rows below r are made of g's -/
def Made (r : Nat) (f g : Nat → Nat → Nat) : Prop := ∃ P, Bt P ∧ ∀ i k, i < r → f i k = mulM r P g i k
theorem Made.refl {r : Nat} {f : Nat → Nat → Nat} (hf : Bt f) : Made r f f := ⟨oneF, oneF_bt, fun _ _ hi => (mulM_one_left hf hi).symm⟩
theorem Made.trans {r : Nat} {f g h : Nat → Nat → Nat} (hh : Bt h) : Made r f g → Made r g h → Made r f h := fun ⟨P, hP, hp⟩ ⟨Q, hQ, hq⟩ => by
  refine ⟨mulM r P Q, mulM_bt hP r Q, fun i k hi => ?_⟩
  rw [hp i k hi, mulM_assoc hP hQ hh]
  exact mulM_congr (fun _ _ => rfl) (fun j hj => hq j k hj)
theorem mul0 (x : Nat) : Gf.mul 0 x = 0 := Gf.zero_mul x
theorem made_swap {r a b : Nat} {f : Nat → Nat → Nat} (hf : Bt f) (ha : a < r) (hb : b < r) : Made r (swapF f a b) f := by
  refine ⟨swapF oneF a b, oneF_bt.swap a b, fun i k hi => ?_⟩
  have key : ∀ q, q < r → (∀ j, swapF oneF a b i j = oneF q j) → mulM r (swapF oneF a b) f i k = f q k := fun q hq e => by
    rw [show mulM r (swapF oneF a b) f i k = mulM r oneF f q k from xs_congr (fun j _ => by rw [e j])]
    exact mulM_one_left hf hq
  by_cases h1 : i = a
  · subst h1
    rw [key b hb (fun j => by simp [swapF])]
    simp [swapF]
  · by_cases h2 : i = b
    · subst h2
      rw [key a ha (fun j => by simp [swapF, h1])]
      simp [swapF, h1]
    · rw [key i hi (fun j => by simp [swapF, h1, h2])]
      simp [swapF, h1, h2]
theorem made_scale {r a v : Nat} {f : Nat → Nat → Nat} (hf : Bt f) (hv : v < 256) : Made r (scaleF f a v) f := by
  refine ⟨fun i j => if i = j then (if i = a then v else 1) else 0, fun i j => ?_, fun i k hi => ?_⟩
  · show (if i = j then (if i = a then v else 1) else 0) < 256
    split
    · split <;> omega
    · omega
  · show _ = xs (fun j => Gf.mul (if i = j then (if i = a then v else 1) else 0) (f j k)) r
    rw [xs_single hi (fun j _ hne => by
      show Gf.mul (if i = j then _ else 0) _ = 0
      rw [if_neg (fun e => hne e.symm), Gf.zero_mul])]
    rw [if_pos rfl]
    unfold scaleF
    by_cases h : i = a
    · subst h
      rw [if_pos rfl, if_pos rfl, Gf.mul_comm _ _ (hf _ _) hv]
    · rw [if_neg h, if_neg h, Gf.one_mul _ (hf _ _)]
theorem made_add {r a b v : Nat} {f : Nat → Nat → Nat} (hf : Bt f) (hb : b < r) (hv : v < 256) : Made r (addF f a b v) f := by
  refine ⟨fun i j => oneF i j ^^^ (if i = a ∧ j = b then v else 0), fun i j => ?_, fun i k hi => ?_⟩
  · refine Gf.xor_lt (oneF_bt _ _) ?_
    split <;> omega
  · show _ = xs (fun j => Gf.mul (oneF i j ^^^ (if i = a ∧ j = b then v else 0)) (f j k)) r
    have e : (fun j => Gf.mul (oneF i j ^^^ (if i = a ∧ j = b then v else 0)) (f j k)) = (fun j => Gf.mul (oneF i j) (f j k) ^^^ Gf.mul (if i = a ∧ j = b then v else 0) (f j k)) := funext fun j =>
      Gf.mul_left (oneF_bt _ _) (by split <;> omega) _
    rw [e, xs_xor]
    rw [show xs (fun j => Gf.mul (oneF i j) (f j k)) r = f i k from mulM_one_left hf hi]
    unfold addF
    by_cases h : i = a
    · subst h
      rw [if_pos rfl, xs_single hb (fun j _ hne => by
        show Gf.mul (if i = i ∧ j = b then v else 0) _ = 0
        rw [if_neg (fun e => hne e.2), Gf.zero_mul])]
      rw [if_pos ⟨rfl, rfl⟩, Gf.mul_comm _ _ (hf _ _) hv]
    · rw [if_neg h, xs_zero (fun j _ => by
        show Gf.mul (if i = a ∧ j = b then v else 0) _ = 0
        rw [if_neg (fun e => h e.1), Gf.zero_mul]), Nat.xor_zero]
theorem swapF_twice (f : Nat → Nat → Nat) (a b : Nat) : swapF (swapF f a b) a b = f := by
  funext i j
  unfold swapF
  by_cases h1 : i = a
  · subst h1
    by_cases h2 : b = i
    · subst h2; simp
    · simp [h2]
  · by_cases h2 : i = b
    · subst h2; simp [h1]
    · simp [h1, h2]
theorem scaleF_back {f : Nat → Nat → Nat} (hf : Bt f) (a v : Nat) (h0 : 0 < v) (hv : v < 256) : scaleF (scaleF f a v) a (Gf.inv v) = f := by
  funext i j
  unfold scaleF
  by_cases h : i = a
  · subst h
    simp only [if_true]
    rw [Gf.mul_assoc _ _ _ (hf _ _) hv (Gf.inv_lt hv), Gf.mul_comm v _ hv (Gf.inv_lt hv), Gf.mul_inv v h0 hv, Gf.mul_one _ (hf _ _)]
  · simp [h]
theorem addF_twice (f : Nat → Nat → Nat) (a b v : Nat) (hne : a ≠ b) : addF (addF f a b v) a b v = f := by
  funext i j
  unfold addF
  by_cases h : i = a
  · subst h
    rw [if_pos rfl, if_pos rfl, if_neg (fun e => hne e.symm), Nat.xor_assoc, Nat.xor_self, Nat.xor_zero]
  · simp [h]
/-- each made of the other -/
def Alike2 (r : Nat) (f g : Nat → Nat → Nat) : Prop := Made r f g ∧ Made r g f
theorem Alike2.trans {r : Nat} {f g h : Nat → Nat → Nat} (hf : Bt f) (hh : Bt h) (x : Alike2 r f g) (y : Alike2 r g h) : Alike2 r f h := ⟨x.1.trans hh y.1, y.2.trans hf x.2⟩
theorem alike_elim {r top col : Nat} {f : Nat → Nat → Nat} (hf : Bt f) (ht : top < r) : ∀ n, n ≤ r → Alike2 r (elimTo f top col n) f
  | 0, _ => by rw [elimTo_zero]; exact ⟨Made.refl hf, Made.refl hf⟩
  | n + 1, h => by
    have ih := alike_elim hf ht (col := col) n (by omega)
    by_cases e : n = top
    · subst e
      rw [elimTo_top]; exact ih
    · rw [← elimTo_succ f top col n e]
      refine Alike2.trans ((hf.elim _ _ _).add _ _ _) hf ⟨made_add (hf.elim _ _ _) ht (hf _ _), ?_⟩ ih
      have h2 := made_add (r := r) (a := n) (b := top) (v := f n col) ((hf.elim top col n).add n top (f n col)) ht (hf _ _)
      rw [addF_twice _ _ _ _ e] at h2
      exact h2
theorem alike_sweep {r rank col a : Nat} {f : Nat → Nat → Nat} (hf : Bt f) (hr : rank < r) (ha : a < r) (h0 : f a col ≠ 0) : Alike2 r (sweepF r f rank col a) f := by
  have hv := Gf.inv_lt (hf a col)
  have hp := Gf.inv_pos (f a col) (by omega) (hf a col)
  refine Alike2.trans ((hf.top _ _ _).elim _ _ _) hf (alike_elim (hf.top _ _ _) hr r (Nat.le_refl r)) ?_
  refine Alike2.trans (hf.top _ _ _) hf ⟨made_scale (hf.swap _ _) hv, ?_⟩ ⟨made_swap hf hr ha, ?_⟩
  · have h := made_scale (r := r) (a := rank) (v := Gf.inv (Gf.inv (f a col))) (hf.top rank col a) (Gf.inv_lt hv)
    unfold topF at h
    rw [scaleF_back (hf.swap _ _) _ _ hp hv] at h
    exact h
  · have h := made_swap (r := r) (a := rank) (b := a) (hf.swap rank a) hr ha
    rw [swapF_twice] at h
    exact h
theorem alike_red (r : Nat) (f : Nat → Nat → Nat) (hf : Bt f) : ∀ n, Alike2 r (redTo r f n).2 f
  | 0 => ⟨Made.refl hf, Made.refl hf⟩
  | n + 1 => by
    have ih := alike_red r f hf n
    cases h : pv (redTo r f n).2 n (redTo r f n).1 (r - (redTo r f n).1) with
    | none => rw [redTo_none r f n h]; exact ih
    | some a =>
      obtain ⟨g1, g2, g3, _⟩ := pv_some h
      rw [redTo_some r f n a h]
      exact Alike2.trans ((redTo_bt r f hf n).sweep _ _ _ _) hf (alike_sweep (redTo_bt r f hf n) (by omega) (by omega) g3) ih

/-! ### the form at the end -/
theorem topF_at {f : Nat → Nat → Nat} {rank col a : Nat} (hf : Bt f) (h0 : f a col ≠ 0) : topF f rank col a rank col = 1 := by
  unfold topF scaleF swapF
  rw [if_pos rfl, if_pos rfl, Gf.mul_comm _ _ (hf _ _) (Gf.inv_lt (hf _ _)), Gf.mul_inv _ (by omega) (hf _ _)]
/-- the column swept -/
theorem sweep_col {r rank col a i : Nat} {f : Nat → Nat → Nat} (hf : Bt f) (h0 : f a col ≠ 0) (hi : i < r) : sweepF r f rank col a i col = if i = rank then 1 else 0 := by
  unfold sweepF elimTo
  by_cases h : i = rank
  · subst h
    simp [topF_at hf h0]
  · rw [if_pos ⟨hi, h⟩, if_neg h, topF_at hf h0, Gf.one_mul _ (hf.top _ _ _ _ _), Nat.xor_self]
/-- a column that is 0 in both rows stays -/
theorem sweep_other {r rank col a i j : Nat} {f : Nat → Nat → Nat} (h1 : f rank j = 0) (h2 : f a j = 0) : sweepF r f rank col a i j = f i j := by
  have ht : ∀ i, topF f rank col a i j = f i j := fun i => by
    unfold topF scaleF swapF
    by_cases e : i = rank
    · subst e; simp [h1, h2, Gf.zero_mul]
    · by_cases e2 : i = a
      · subst e2; simp [e, h1, h2]
      · simp [e, e2]
  unfold sweepF elimTo
  by_cases h : i < r ∧ i ≠ rank
  · rw [if_pos h, ht, ht, h1, Gf.zero_mul, Nat.xor_zero]
  · rw [if_neg h, ht]
theorem red_low (r : Nat) (f : Nat → Nat → Nat) (hf : Bt f) : ∀ n i j, (redTo r f n).1 ≤ i → i < r → j < n → (redTo r f n).2 i j = 0
  | 0, _, _, _, _, h => by omega
  | n + 1, i, j, h1, h2, h3 => by
    have ih := red_low r f hf n
    have hb := redTo_bt r f hf n
    cases h : pv (redTo r f n).2 n (redTo r f n).1 (r - (redTo r f n).1) with
    | none =>
      rw [redTo_none r f n h] at h1 ⊢
      by_cases e : j = n
      · rw [e]; exact pv_none h i h1 (by omega)
      · exact ih i j h1 h2 (by omega)
    | some a =>
      obtain ⟨g1, g2, g3, _⟩ := pv_some h
      rw [redTo_some r f n a h] at h1 ⊢
      have h1' : (redTo r f n).1 + 1 ≤ i := h1
      show sweepF r (redTo r f n).2 (redTo r f n).1 n a i j = 0
      by_cases e : j = n
      · rw [e, sweep_col hb g3 h2, if_neg (by omega)]
      · rw [sweep_other (ih _ j (Nat.le_refl _) (by omega) (by omega)) (ih a j g1 (by omega) (by omega))]
        exact ih i j (by omega) h2 (by omega)
/-- columns of One, one for each row up to the rank -/
theorem red_cols (r : Nat) (f : Nat → Nat → Nat) (hf : Bt f) : ∀ n, ∃ p : Nat → Nat, ∀ t, t < (redTo r f n).1 → p t < n ∧ ∀ i, i < r → (redTo r f n).2 i (p t) = oneF i t
  | 0 => ⟨fun _ => 0, fun t h => by exact absurd h (Nat.not_lt_zero t)⟩
  | n + 1 => by
    obtain ⟨p, hp⟩ := red_cols r f hf n
    have hb := redTo_bt r f hf n
    have hl := (redTo_le r f n).1
    cases h : pv (redTo r f n).2 n (redTo r f n).1 (r - (redTo r f n).1) with
    | none =>
      rw [redTo_none r f n h]
      exact ⟨p, fun t ht => ⟨by have := (hp t ht).1; omega, (hp t ht).2⟩⟩
    | some a =>
      obtain ⟨g1, g2, g3, _⟩ := pv_some h
      rw [redTo_some r f n a h]
      refine ⟨fun t => if t = (redTo r f n).1 then n else p t, fun t ht => ?_⟩
      have ht' : t < (redTo r f n).1 + 1 := ht
      show (if t = (redTo r f n).1 then n else p t) < n + 1 ∧ ∀ i, i < r → sweepF r (redTo r f n).2 (redTo r f n).1 n a i (if t = (redTo r f n).1 then n else p t) = oneF i t
      by_cases e : t = (redTo r f n).1
      · rw [if_pos e]
        refine ⟨by omega, fun i hi => ?_⟩
        rw [sweep_col hb g3 hi, e]; rfl
      · rw [if_neg e]
        have hpt := hp t (by omega)
        refine ⟨by have := hpt.1; omega, fun i hi => ?_⟩
        rw [sweep_other, hpt.2 i hi]
        · rw [hpt.2 _ (by omega)]; exact if_neg (fun h => e h.symm)
        · rw [hpt.2 _ (by omega)]; exact if_neg (by omega)
/-- the rank goes up by at most one a column -/
theorem red_steps (r : Nat) (f : Nat → Nat → Nat) (n : Nat) : ∀ k, (redTo r f (n + k)).1 ≤ (redTo r f n).1 + k
  | 0 => Nat.le_refl _
  | k + 1 => by
    have ih := red_steps r f n k
    rw [← Nat.add_assoc]
    cases h : pv (redTo r f (n + k)).2 (n + k) (redTo r f (n + k)).1 (r - (redTo r f (n + k)).1) with
    | none => rw [redTo_none r f (n + k) h]; omega
    | some a => rw [redTo_some r f (n + k) a h]; show (redTo r f (n + k)).1 + 1 ≤ _; omega
/-- of full rank the columns are those of One -/
theorem red_full (r : Nat) (f : Nat → Nat → Nat) (hf : Bt f) (n : Nat) (hn : (redTo r f n).1 = n) : ∀ m, m ≤ n → ∀ i j, i < r → j < m → (redTo r f m).2 i j = oneF i j
  | 0, _, _, _, _, h => by omega
  | m + 1, hm, i, j, hi, hj => by
    have ih := red_full r f hf n hn m (by omega)
    have hb := redTo_bt r f hf m
    have h1 := (redTo_le r f m).2
    have h2 := red_steps r f m (n - m)
    rw [show m + (n - m) = n by omega, hn] at h2
    have h3 := red_steps r f (m + 1) (n - (m + 1))
    rw [show m + 1 + (n - (m + 1)) = n by omega, hn] at h3
    have hrm : (redTo r f m).1 = m := by omega
    cases h : pv (redTo r f m).2 m (redTo r f m).1 (r - (redTo r f m).1) with
    | none => rw [redTo_none r f m h] at h3; omega
    | some a =>
      obtain ⟨g1, g2, g3, _⟩ := pv_some h
      rw [redTo_some r f m a h]
      show sweepF r (redTo r f m).2 (redTo r f m).1 m a i j = _
      by_cases e : j = m
      · rw [e, sweep_col hb g3 hi, hrm]; rfl
      · rw [sweep_other, ih i j hi (by omega)]
        · rw [ih _ j (by omega) (by omega)]; exact if_neg (by omega)
        · rw [ih _ j (by omega) (by omega)]; exact if_neg (by omega)

/-! ### too few rows -/
/-- of more rows than columns some sum of multiples, not all 0, is 0 -/
theorem depends : ∀ (k n : Nat) (A : Nat → Nat → Nat), Bt A → k < n → ∃ v : Nat → Nat, (∀ i, v i < 256) ∧ (∃ i, i < n ∧ v i ≠ 0) ∧ ∀ j, j < k → xs (fun i => Gf.mul (v i) (A i j)) n = 0
  | 0, n, _, _, h => ⟨fun _ => 1, fun _ => by show 1 < 256; omega, ⟨0, h, by show 1 ≠ 0; omega⟩, fun j hj => by omega⟩
  | k + 1, n, A, hA, h => by
    by_cases hz : ∃ p, p < n ∧ A p k ≠ 0
    · obtain ⟨p, hp, h0⟩ := hz
      -- the row p, taken off all others
      obtain ⟨m, rfl⟩ : ∃ m, n = m + 1 := ⟨n - 1, by omega⟩
      let sk : Nat → Nat := fun i => if i < p then i else i + 1
      have hsk : ∀ i, sk i ≠ p := fun i => by show (if i < p then i else i + 1) ≠ p; split <;> omega
      let q : Nat → Nat := fun i => Gf.mul (A i k) (Gf.inv (A p k))
      have hq : ∀ i, q i < 256 := fun i => Gf.mul_lt (hA _ _) _
      have hqk : ∀ i, Gf.mul (q i) (A p k) = A i k := fun i => Gf.div_mul _ _ (hA _ _) (by omega) (hA _ _)
      obtain ⟨v, hv, ⟨i0, hi0, hvi⟩, hs⟩ := depends k m (fun i j => A (sk i) j ^^^ Gf.mul (q (sk i)) (A p j)) (fun i j => Gf.xor_lt (hA _ _) (Gf.mul_lt (hq _) _)) (by omega)
      -- sums over all rows but p
      have split : ∀ g : Nat → Nat, xs g (m + 1) = xs (fun i => g (sk i)) m ^^^ g p := by
        intro g
        have gen : ∀ l, p ≤ l → xs g (l + 1) = xs (fun i => g (sk i)) l ^^^ g p := by
          intro l
          induction l with
          | zero =>
            intro hl
            obtain rfl : p = 0 := by omega
            rfl
          | succ l ih =>
            intro hl
            by_cases e : p = l + 1
            · show xs g (l + 1) ^^^ g (l + 1) = _
              rw [e]
              congr 1
              refine xs_congr (fun i hi => ?_)
              show g i = g (if i < p then i else i + 1)
              rw [if_pos (by omega)]
            · show xs g (l + 1) ^^^ g (l + 1) = (xs (fun i => g (sk i)) l ^^^ g (sk l)) ^^^ g p
              rw [ih (by omega), show sk l = l + 1 from if_neg (by omega)]
              rw [Nat.xor_assoc, Nat.xor_comm (g p), ← Nat.xor_assoc]
        exact gen m (by omega)
      let back : Nat → Nat := fun i => if i < p then i else i - 1
      have hback : ∀ i, back (sk i) = i := fun i => by
        show (if (if i < p then i else i + 1) < p then (if i < p then i else i + 1) else (if i < p then i else i + 1) - 1) = i
        by_cases e : i < p
        · rw [if_pos e, if_pos e]
        · rw [if_neg e, if_neg (by omega)]; omega
      let S : Nat := xs (fun i => Gf.mul (v i) (q (sk i))) m
      have hS : S < 256 := xs_lt (fun i => Gf.mul_lt (hv i) _) m
      let u : Nat → Nat := fun i => if i = p then S else v (back i)
      have hus : ∀ i, u (sk i) = v i := fun i => by show (if sk i = p then S else v (back (sk i))) = v i; rw [if_neg (hsk i), hback]
      have hup : u p = S := if_pos rfl
      refine ⟨u, fun i => ?_, ⟨sk i0, ?_, by rw [hus]; exact hvi⟩, fun j hj => ?_⟩
      · show (if i = p then S else v (back i)) < 256
        split
        · exact hS
        · exact hv _
      · show (if i0 < p then i0 else i0 + 1) < m + 1
        split <;> omega
      · rw [split, hup]
        have e1 : xs (fun i => Gf.mul (u (sk i)) (A (sk i) j)) m = xs (fun i => Gf.mul (v i) (A (sk i) j)) m := xs_congr (fun i _ => by rw [hus])
        have e2 : Gf.mul S (A p j) = xs (fun i => Gf.mul (v i) (Gf.mul (q (sk i)) (A p j))) m := by
          show Gf.mul (xs (fun i => Gf.mul (v i) (q (sk i))) m) (A p j) = _
          rw [xs_mul_right (fun i => Gf.mul_lt (hv i) _)]
          exact xs_congr (fun i _ => Gf.mul_assoc _ _ _ (hv _) (hq _) (hA _ _))
        show xs (fun i => Gf.mul (u (sk i)) (A (sk i) j)) m ^^^ Gf.mul S (A p j) = 0
        rw [e1, e2, ← xs_xor]
        by_cases e : j = k
        · subst e
          refine xs_zero (fun i _ => ?_)
          rw [hqk, Nat.xor_self]
        · rw [← hs j (by omega)]
          exact xs_congr (fun i _ => (Gf.mul_right _ _ _).symm)
    · obtain ⟨v, hv, hi, hs⟩ := depends k n A hA (by omega)
      refine ⟨v, hv, hi, fun j hj => ?_⟩
      by_cases e : j = k
      · refine xs_zero (fun i hin => ?_)
        have : A i j = 0 := by
          rw [e]
          exact Classical.byContradiction fun hne => hz ⟨i, hin, hne⟩
        rw [this, Gf.mul_zero]
      · exact hs j (by omega)
/-- One is no product through fewer -/
theorem one_through {n k : Nat} {A B : Nat → Nat → Nat} (hA : Bt A) (hB : Bt B) (h : ∀ i j, i < n → j < n → mulM k A B i j = oneF i j) : n ≤ k := by
  apply Nat.le_of_not_lt
  intro hk
  obtain ⟨v, hv, ⟨i0, hi0, h0⟩, hs⟩ := depends k n A hA hk
  apply h0
  have hvB : Bt (fun _ j => v j) := fun _ j => hv j
  have e1 : mulM n (fun _ j => v j) (mulM k A B) 0 i0 = v i0 := by
    rw [show mulM n (fun _ j => v j) (mulM k A B) 0 i0 = mulM n (fun _ j => v j) oneF 0 i0 from mulM_congr (fun _ _ => rfl) (fun j hj => h j i0 hj hi0)]
    exact mulM_one_right hvB hi0
  rw [← e1, ← mulM_assoc hvB hA hB]
  refine xs_zero (fun j hj => ?_)
  show Gf.mul (xs (fun i => Gf.mul (v i) (A i j)) n) _ = 0
  rw [hs j hj, Gf.zero_mul]
end Go.Proofs.Ytoonpnpooljmlaa

namespace Go.Proofs.Ytoonpnpooljmlaa

/-- two matrices side by side, the first of n columns -/
def beside (n : Nat) (f g : Nat → Nat → Nat) : Nat → Nat → Nat := fun i j => if j < n then f i j else g i (j - n)
theorem beside_left {n i j : Nat} (f g : Nat → Nat → Nat) (h : j < n) : beside n f g i j = f i j := if_pos h
theorem beside_right (n i j : Nat) (f g : Nat → Nat → Nat) : beside n f g i (n + j) = g i j := by
  unfold beside; rw [if_neg (by omega), Nat.add_sub_cancel_left]
theorem beside_bt {f g : Nat → Nat → Nat} (hf : Bt f) (hg : Bt g) (n : Nat) : Bt (beside n f g) := fun i j => by
  unfold beside; split
  · exact hf _ _
  · exact hg _ _
def rankF (r c : Nat) (f : Nat → Nat → Nat) : Nat := (redTo r (beside c f oneF) c).1
def invF (n : Nat) (f : Nat → Nat → Nat) : Nat → Nat → Nat := fun i j => (redTo n (beside n f oneF) n).2 i (n + j)
theorem rankF_le (r c : Nat) (f : Nat → Nat → Nat) : rankF r c f ≤ r ∧ rankF r c f ≤ c := redTo_le r _ c
theorem invF_bt {f : Nat → Nat → Nat} (hf : Bt f) (n : Nat) : Bt (invF n f) := fun i j => redTo_bt n _ (beside_bt hf oneF_bt n) n i (n + j)
theorem inv_left {n : Nat} {f : Nat → Nat → Nat} (hf : Bt f) (hr : rankF n n f = n) {i k : Nat} (hi : i < n) (hk : k < n) : mulM n (invF n f) f i k = oneF i k := by
  have hF := beside_bt hf oneF_bt n
  obtain ⟨P, hP, hp⟩ := (alike_red n _ hF n).1
  have hl := red_full n _ hF n hr n (Nat.le_refl n)
  have h1 : ∀ j, j < n → invF n f i j = P i j := fun j hj => by
    show (redTo n (beside n f oneF) n).2 i (n + j) = _
    rw [hp i (n + j) hi, show mulM n P (beside n f oneF) i (n + j) = mulM n P oneF i j from xs_congr (fun q _ => by rw [beside_right])]
    exact mulM_one_right hP hj
  rw [mulM_congr (f' := P) (g' := f) h1 (fun _ _ => rfl)]
  rw [← hl i k hi hk, hp i k hi]
  exact xs_congr (fun q _ => by rw [beside_left f oneF hk])
theorem inv_right {n : Nat} {f : Nat → Nat → Nat} (hf : Bt f) (hr : rankF n n f = n) {i k : Nat} (hi : i < n) : mulM n f (invF n f) i k = oneF i k := by
  have hF := beside_bt hf oneF_bt n
  obtain ⟨Q, hQ, hq⟩ := (alike_red n _ hF n).2
  have hl := red_full n _ hF n hr n (Nat.le_refl n)
  have h1 : ∀ j, j < n → f i j = Q i j := fun j hj => by
    have h := hq i j hi
    rw [beside_left f oneF hj] at h
    rw [h, mulM_congr (f' := Q) (g' := oneF) (fun _ _ => rfl) (fun q hq' => hl q j hq' hj)]
    exact mulM_one_right hQ hj
  rw [mulM_congr (f' := Q) (g' := invF n f) h1 (fun _ _ => rfl)]
  have h := hq i (n + k) hi
  rw [beside_right] at h
  exact h.symm
theorem xs_less {g : Nat → Nat} {m : Nat} : ∀ k, (∀ j, m ≤ j → j < m + k → g j = 0) → xs g (m + k) = xs g m
  | 0, _ => rfl
  | k + 1, h => by
    show xs g (m + k) ^^^ g (m + k) = _
    rw [h (m + k) (by omega) (by omega), Nat.xor_zero]
    exact xs_less k (fun j h1 h2 => h j h1 (by omega))
theorem rank_of_inv {n : Nat} {f g : Nat → Nat → Nat} (hf : Bt f) (hg : Bt g) (h : ∀ i k, i < n → k < n → mulM n f g i k = oneF i k) : rankF n n f = n := by
  have hF := beside_bt hf oneF_bt n
  have hle := (rankF_le n n f).1
  obtain ⟨Q, hQ, hq⟩ := (alike_red n _ hF n).2
  have hB := redTo_bt n _ hF n
  have hz := red_low n _ hF n
  refine Nat.le_antisymm hle ?_
  refine one_through (A := Q) (B := mulM n (redTo n (beside n f oneF) n).2 g) hQ (mulM_bt hB n g) (fun i k hi hk => ?_)
  have e1 : mulM n (mulM n Q (redTo n (beside n f oneF) n).2) g i k = oneF i k := by
    rw [← h i k hi hk]
    refine mulM_congr (fun j hj => ?_) (fun _ _ => rfl)
    rw [← hq i j hi, beside_left f oneF hj]
  rw [mulM_assoc hQ hB hg] at e1
  rw [← e1]
  show xs _ (rankF n n f) = xs _ n
  have e2 := xs_less (g := fun j => Gf.mul (Q i j) (mulM n (redTo n (beside n f oneF) n).2 g j k)) (m := rankF n n f) (n - rankF n n f) (fun j h1 h2 => by
    have : mulM n (redTo n (beside n f oneF) n).2 g j k = 0 := xs_zero (fun q hq' => by
      show Gf.mul _ _ = 0
      rw [hz j q h1 (by omega) hq', Gf.zero_mul])
    show Gf.mul _ _ = 0
    rw [this, Gf.mul_zero])
  rw [show rankF n n f + (n - rankF n n f) = n by omega] at e2
  exact e2.symm
theorem inv_rank {n : Nat} {f : Nat → Nat → Nat} (hf : Bt f) (hr : rankF n n f = n) : rankF n n (invF n f) = n :=
  rank_of_inv (invF_bt hf n) hf (fun _ _ hi hk => inv_left hf hr hi hk)
theorem inv_back {n : Nat} {f : Nat → Nat → Nat} (hf : Bt f) (hr : rankF n n f = n) {i k : Nat} (hi : i < n) (hk : k < n) : invF n (invF n f) i k = f i k := by
  have hG := invF_bt hf n
  have hG' := invF_bt hG n
  have e1 : mulM n (mulM n (invF n (invF n f)) (invF n f)) f i k = f i k := by
    rw [mulM_congr (f' := oneF) (g' := f) (fun j hj => inv_left hG (inv_rank hf hr) hi hj) (fun _ _ => rfl)]
    exact mulM_one_left hf hi
  rw [mulM_assoc hG' hG hf] at e1
  rw [← e1, mulM_congr (f' := invF n (invF n f)) (g' := oneF) (fun _ _ => rfl) (fun j hj => inv_left hf hr hj hk)]
  exact (mulM_one_right hG' hk).symm
/-- of a product the rank is no more than the numbers between -/
theorem rank_product {r c m : Nat} {a b F : Nat → Nat → Nat} (ha : Bt a) (hb : Bt b) (hF : Bt F) (h : ∀ i k, i < r → k < c → F i k = mulM m a b i k) : (redTo r F c).1 ≤ m := by
  obtain ⟨P, hP, hp⟩ := (alike_red r F hF c).1
  obtain ⟨p, hcol⟩ := red_cols r F hF c
  have hle := (redTo_le r F c).1
  refine one_through (A := mulM r P a) (B := fun j t => b j (p t)) (mulM_bt hP r a) (fun j t => hb _ _) (fun i t hi ht => ?_)
  obtain ⟨h1, h2⟩ := hcol t ht
  rw [← h2 i (by omega), hp i (p t) (by omega)]
  rw [mulM_congr (f' := P) (g' := mulM m a b) (fun _ _ => rfl) (fun j hj => h j (p t) hj h1)]
  rw [← mulM_assoc hP ha hb]
  rfl
end Go.Proofs.Ytoonpnpooljmlaa

namespace Go.Proofs.Ytoonpnpooljmlaa

/-- a polynomial's value: its n first coefficients -/
def ev (c : Nat → Nat) (n x : Nat) : Nat := xs (fun k => Gf.mul (Gf.pow x k) (c k)) n
/-- times (x + a) -/
def lin (a : Nat) (c : Nat → Nat) : Nat → Nat := fun k => (if k = 0 then 0 else c (k - 1)) ^^^ Gf.mul a (c k)
theorem lin_lt {a : Nat} (ha : a < 256) {c : Nat → Nat} (hc : ∀ k, c k < 256) (k : Nat) : lin a c k < 256 := by
  unfold lin
  refine Gf.xor_lt ?_ (Gf.mul_lt ha _)
  split
  · omega
  · exact hc _
theorem xs_shift (g : Nat → Nat) : ∀ n, xs g (n + 1) = g 0 ^^^ xs (fun k => g (k + 1)) n
  | 0 => by show xs g 0 ^^^ g 0 = g 0 ^^^ 0; show 0 ^^^ g 0 = _; rw [Nat.zero_xor, Nat.xor_zero]
  | n + 1 => by
    show xs g (n + 1) ^^^ g (n + 1) = g 0 ^^^ (xs (fun k => g (k + 1)) n ^^^ g (n + 1))
    rw [xs_shift g n, Nat.xor_assoc]
theorem ev_lin {a x n : Nat} (ha : a < 256) (hx : x < 256) {c : Nat → Nat} (hc : ∀ k, c k < 256) (h0 : c n = 0) : ev (lin a c) (n + 1) x = Gf.mul (x ^^^ a) (ev c n x) := by
  have hp := Gf.pow_lt256 hx
  have hg : ∀ k, Gf.mul (Gf.pow x k) (c k) < 256 := fun k => Gf.mul_lt (hp k) _
  have e1 : ev (lin a c) (n + 1) x = xs (fun k => Gf.mul (Gf.pow x k) (if k = 0 then 0 else c (k - 1)) ^^^ Gf.mul (Gf.pow x k) (Gf.mul a (c k))) (n + 1) :=
    xs_congr (fun k _ => by unfold lin; rw [Gf.mul_right])
  rw [e1, xs_xor, xs_shift (fun k => Gf.mul (Gf.pow x k) (if k = 0 then 0 else c (k - 1)))]
  have e2 : Gf.mul (Gf.pow x 0) (if 0 = 0 then 0 else c (0 - 1)) = 0 := Gf.mul_zero _
  have e3 : xs (fun k => Gf.mul (Gf.pow x (k + 1)) (if k + 1 = 0 then 0 else c (k + 1 - 1))) n = Gf.mul x (ev c n x) := by
    unfold ev
    rw [xs_mul_left]
    refine xs_congr (fun k _ => ?_)
    rw [if_neg (by omega), Nat.add_sub_cancel]
    show Gf.mul (Gf.mul (Gf.pow x k) x) (c k) = Gf.mul x (Gf.mul (Gf.pow x k) (c k))
    rw [Gf.mul_comm _ x (hp k) hx, Gf.mul_assoc _ _ _ hx (hp k) (hc k)]
  have e4 : xs (fun k => Gf.mul (Gf.pow x k) (Gf.mul a (c k))) (n + 1) = Gf.mul a (ev c n x) := by
    show xs _ n ^^^ Gf.mul (Gf.pow x n) (Gf.mul a (c n)) = _
    rw [h0, Gf.mul_zero, Gf.mul_zero, Nat.xor_zero]
    unfold ev
    rw [xs_mul_left]
    refine xs_congr (fun k _ => ?_)
    rw [← Gf.mul_assoc _ _ _ (hp k) ha (hc k), Gf.mul_comm _ a (hp k) ha, Gf.mul_assoc _ _ _ ha (hp k) (hc k)]
  show (Gf.mul (Gf.pow x 0) (if 0 = 0 then 0 else c (0 - 1)) ^^^ xs (fun k => Gf.mul (Gf.pow x (k + 1)) (if k + 1 = 0 then 0 else c (k + 1 - 1))) n) ^^^ _ = _
  rw [e2, e3, e4, Nat.zero_xor, Gf.mul_left hx ha]
/-- the polynomial of some roots -/
def pr : List Nat → Nat → Nat
  | [] => fun k => if k = 0 then 1 else 0
  | a :: l => lin a (pr l)
theorem pr_lt : ∀ {l : List Nat}, (∀ a ∈ l, a < 256) → ∀ k, pr l k < 256
  | [], _, k => by show (if k = 0 then 1 else 0) < 256; split <;> omega
  | a :: l, h, k => lin_lt (h a (by simp)) (pr_lt (fun b hb => h b (by simp [hb]))) k
theorem pr_high : ∀ (l : List Nat) (k : Nat), l.length < k → pr l k = 0
  | [], k, h => if_neg (by simp at h; omega)
  | a :: l, k, h => by
    show (if k = 0 then 0 else pr l (k - 1)) ^^^ Gf.mul a (pr l k) = 0
    simp only [List.length_cons] at h
    rw [if_neg (by omega), pr_high l (k - 1) (by omega), pr_high l k (by omega), Gf.mul_zero, Nat.xor_self]
def pe : List Nat → Nat → Nat
  | [], _ => 1
  | a :: l, x => Gf.mul (x ^^^ a) (pe l x)
theorem pe_lt {x : Nat} (hx : x < 256) : ∀ {l : List Nat}, (∀ a ∈ l, a < 256) → pe l x < 256
  | [], _ => by show 1 < 256; omega
  | a :: l, h => Gf.mul_lt (Gf.xor_lt hx (h a (by simp))) _
theorem ev_pr {x : Nat} (hx : x < 256) : ∀ {l : List Nat}, (∀ a ∈ l, a < 256) → ev (pr l) (l.length + 1) x = pe l x
  | [], _ => by
    show xs (fun k => Gf.mul (Gf.pow x k) (if k = 0 then 1 else 0)) 1 = 1
    show 0 ^^^ Gf.mul 1 1 = 1
    rw [Nat.zero_xor, Gf.mul_one 1 (by omega)]
  | a :: l, h => by
    have hl : ∀ b ∈ l, b < 256 := fun b hb => h b (by simp [hb])
    show ev (lin a (pr l)) (l.length + 1 + 1) x = Gf.mul (x ^^^ a) (pe l x)
    rw [ev_lin (h a (by simp)) hx (pr_lt hl) (pr_high l _ (by omega)), ev_pr hx hl]
theorem mul_pos {a b : Nat} (h0 : 0 < a) (ha : a < 256) (hb0 : 0 < b) (hb : b < 256) : 0 < Gf.mul a b := by
  refine Nat.pos_of_ne_zero fun h => ?_
  have e : Gf.mul (Gf.mul (Gf.inv a) a) b = b := by rw [Gf.mul_inv a h0 ha, Gf.one_mul b hb]
  rw [Gf.mul_assoc _ _ _ (Gf.inv_lt ha) ha hb, h, Gf.mul_zero] at e
  omega
theorem pe_zero {x : Nat} : ∀ {l : List Nat}, x ∈ l → pe l x = 0
  | a :: l, h => by
    show Gf.mul (x ^^^ a) (pe l x) = 0
    rcases List.mem_cons.1 h with rfl | h
    · rw [Nat.xor_self, Gf.zero_mul]
    · rw [pe_zero h, Gf.mul_zero]
theorem pe_pos {x : Nat} (hx : x < 256) : ∀ {l : List Nat}, (∀ a ∈ l, a < 256) → x ∉ l → 0 < pe l x
  | [], _, _ => by show 0 < 1; omega
  | a :: l, h, hn => by
    have ha := h a (by simp)
    have hl : ∀ b ∈ l, b < 256 := fun b hb => h b (by simp [hb])
    refine mul_pos ?_ (Gf.xor_lt hx ha) (pe_pos hx hl (fun q => hn (by simp [q]))) (pe_lt hx hl)
    refine Nat.pos_of_ne_zero fun e => hn ?_
    have : x = a := by
      have h1 : x ^^^ a ^^^ a = 0 ^^^ a := by rw [e]
      rw [Nat.xor_assoc, Nat.xor_self, Nat.xor_zero, Nat.zero_xor] at h1
      exact h1
    simp [this]
/-- rows of powers of unlike numbers have an inverse -/
theorem vander {n : Nat} {p : Nat → Nat} (hp : ∀ i, p i < 256) (hd : ∀ i j, i < n → j < n → p i = p j → i = j) : rankF n n (fun i k => Gf.pow (p i) k) = n := by
  have hb : Bt (fun i k => Gf.pow (p i) k) := fun i k => Gf.pow_lt256 (hp i) k
  obtain ⟨R, hR⟩ : ∃ R : Nat → List Nat, R = fun j => ((List.range n).erase j).map p := ⟨_, rfl⟩
  have hRl : ∀ j, ∀ a ∈ R j, a < 256 := fun j a ha => by
    rw [hR] at ha
    obtain ⟨i, _, rfl⟩ := List.mem_map.1 ha
    exact hp i
  have hG : Bt (fun k j => Gf.mul (pr (R j) k) (Gf.inv (pe (R j) (p j)))) := fun k j => Gf.mul_lt (pr_lt (hRl j) k) _
  refine rank_of_inv hb hG fun i j hi hj => ?_
  have hlen : (R j).length + 1 = n := by
    rw [hR]
    simp only [List.length_map]
    rw [List.length_erase_of_mem (List.mem_range.2 hj), List.length_range]
    omega
  have e : mulM n (fun i k => Gf.pow (p i) k) (fun k j => Gf.mul (pr (R j) k) (Gf.inv (pe (R j) (p j)))) i j = Gf.mul (pe (R j) (p i)) (Gf.inv (pe (R j) (p j))) := by
    have h1 := ev_pr (hp i) (hRl j)
    rw [hlen] at h1
    rw [← h1]
    show xs (fun k => Gf.mul (Gf.pow (p i) k) (Gf.mul (pr (R j) k) (Gf.inv (pe (R j) (p j))))) n = Gf.mul (xs (fun k => Gf.mul (Gf.pow (p i) k) (pr (R j) k)) n) _
    rw [xs_mul_right (fun k => Gf.mul_lt (Gf.pow_lt256 (hp i) k) _)]
    refine xs_congr (fun k _ => ?_)
    rw [Gf.mul_assoc _ _ _ (Gf.pow_lt256 (hp i) k) (pr_lt (hRl j) k) (Gf.inv_lt (pe_lt (hp j) (hRl j)))]
  rw [e]
  by_cases hij : i = j
  · subst hij
    have hno : p i ∉ R i := by
      rw [hR]
      intro h
      obtain ⟨m, hm, hpm⟩ := List.mem_map.1 h
      have hmn := List.mem_range.1 (List.mem_of_mem_erase hm)
      have := hd m i hmn hi hpm
      subst this
      exact List.Nodup.not_mem_erase List.nodup_range hm
    have h0 := pe_pos (hp i) (hRl i) hno
    have hlt := pe_lt (hp i) (hRl i)
    rw [Gf.mul_comm _ _ hlt (Gf.inv_lt hlt), Gf.mul_inv _ h0 hlt]
    unfold oneF
    rw [if_pos rfl]
  · have hin : p i ∈ R j := by
      rw [hR]
      exact List.mem_map.2 ⟨i, (List.mem_erase_of_ne hij).2 (List.mem_range.2 hi), rfl⟩
    rw [pe_zero hin, Gf.zero_mul]
    unfold oneF
    rw [if_neg hij]
/-- a shape's numbers: of each row's power the powers -/
def allF : Nat → Nat → Nat := fun i k => Gf.pow (Gf.dbls i) k
theorem allF_bt : Bt allF := fun i k => Gf.pow_lt256 (Gf.dbls_lt i) k
/-- any K rows of them have an inverse -/
theorem rows_rank {n : Nat} {z : Nat → Nat} (hz : ∀ i, i < n → z i < 255) (hd : ∀ i j, i < n → j < n → z i = z j → i = j) : rankF n n (fun i k => allF (z i) k) = n := by
  refine vander (p := fun i => Gf.dbls (z i)) (fun i => Gf.dbls_lt _) fun i j hi hj h => hd i j hi hj ?_
  have h1 := (Gf.log_dbls (z i) (hz i hi)).2
  have h2 := (Gf.log_dbls (z j) (hz j hj)).2
  have h' : Gf.dbls (z i) = Gf.dbls (z j) := h
  rw [← h1, ← h2, h']
theorem top_rank {n : Nat} (hn : n ≤ 255) : rankF n n allF = n := rows_rank (z := fun i => i) (fun i hi => by omega) (fun _ _ _ _ h => h)
end Go.Proofs.Ytoonpnpooljmlaa

namespace Go.Proofs.Ytoonpnpooljmlaa
open Go.RowKit

/-- A callee that changes nothing, in a region that draws. -/
theorem quietly {P : Program} {f : FuncId} {args : Array Value} {w : World} {n : Nat} {v : Value}
    (h : Calls P f args (w.drewN n) fun e w' => e = .returned v ∧ w.drewN n = w') : Calls P f args (w.drewN n) fun e w'' => e = .returned v ∧ ∃ m, w'' = w.drewN m :=
  h.mono fun _ _ ⟨he, hm⟩ => ⟨he, n, hm.symm⟩

/-- All that lay in W lies in wr as it did. -/
def Kept (W wr : World) : Prop := Below W.heap.size W wr
theorem Kept.refl (W : World) : Kept W W := Below.refl _ _
theorem Kept.trans {a b c : World} (h : Kept a b) (k : Kept b c) : Kept a c := Below.trans h (Below.mono k (Below.size h))
theorem Kept.below {a b : World} (h : Kept a b) : Below a.heap.size a b := h
theorem Kept.alloc {a b : World} (h : Kept a b) (o : Obj) : Kept a (b.alloc o) := Below.alloc h (Below.size h) o
theorem Kept.drewN {a b : World} (h : Kept a b) (n : Nat) : Kept a (b.drewN n) := Below.trans h ⟨rfl, rfl, rfl, Nat.le_refl _, fun _ _ => rfl⟩
theorem Kept.drew {a b : World} (h : Kept a b) : Kept a b.drew := Below.drew h
theorem Kept.setCell {a b : World} (h : Kept a b) {p : Addr} (hp : a.heap.size ≤ p.block) (u : Value) : Kept a (b.setCell p u) := Below.setCell h hp u
theorem Kept.cell {a b : World} (h : Kept a b) {k o : Nat} {v : Value} (hk : k < a.heap.size) (hc : a.cell? ⟨k, o, none⟩ = some v) : b.cell? ⟨k, o, none⟩ = some v :=
  (Below.cell h (p := ⟨k, o, none⟩) hk).trans hc
theorem Kept.size {a b : World} (h : Kept a b) : a.heap.size ≤ b.heap.size := Below.size h
theorem Kept.frozen {a b : World} (h : Kept a b) {k o : Nat} {v : Bool} (hk : k < a.heap.size) (hc : a.frozen? ⟨k, o, none⟩ = v) : b.frozen? ⟨k, o, none⟩ = v :=
  (Below.frozen h (p := ⟨k, o, none⟩) hk).trans hc
theorem cell_lt {W : World} {b o : Nat} {v : Value} (h : W.cell? ⟨b, o, none⟩ = some v) : b < W.heap.size := World.block_lt_of_cell? _ _ h
/-- the cells of a new block -/
theorem cell_new (W : World) (xs : Array Value) (t : TypeId) (i : Nat) : (W.alloc (.cells xs t)).cell? ⟨W.heap.size, i, none⟩ = xs[i]? := by
  simp
theorem size_alloc (W : World) (o : Obj) : (W.alloc o).heap.size = W.heap.size + 1 := by simp

/-- A whole block of cells, as it lies. -/
def BlockAt (w : World) (b : Nat) (C : Array Value) (t : TypeId) : Prop := w.heap[b]? = some (.cells C t (0, 0))
theorem BlockAt.lt {w : World} {b : Nat} {C : Array Value} {t : TypeId} (h : BlockAt w b C t) : b < w.heap.size := by
  rcases Nat.lt_or_ge b w.heap.size with k | k
  · exact k
  · have h' : w.heap[b]? = some (.cells C t (0, 0)) := h
    rw [Array.getElem?_eq_none k] at h'; cases h'
theorem BlockAt.cell {w : World} {b : Nat} {C : Array Value} {t : TypeId} (h : BlockAt w b C t) (i : Nat) : w.cell? ⟨b, i, none⟩ = C[i]? := Joins.cell_of_block h i
theorem BlockAt.free {w : World} {b : Nat} {C : Array Value} {t : TypeId} (h : BlockAt w b C t) (i : Nat) : w.frozen? ⟨b, i, none⟩ = false := Joins.unfrozen_of_block h i
theorem BlockAt.set {w : World} {b i : Nat} {C : Array Value} {t : TypeId} (h : BlockAt w b C t) (v : Value) : BlockAt (w.setCell ⟨b, i, none⟩ v) b (C.setIfInBounds i v) t := Joins.block_setCell h v
theorem BlockAt.kept {w w' : World} {b : Nat} {C : Array Value} {t : TypeId} (h : BlockAt w b C t) (k : Kept w w') : BlockAt w' b C t := (Below.block k b h.lt).trans h
theorem BlockAt.new (w : World) (C : Array Value) (t : TypeId) : BlockAt (w.alloc (.cells C t)) w.heap.size C t := by
  show (w.heap.push _)[w.heap.size]? = _
  simp
end Go.Proofs.Ytoonpnpooljmlaa

namespace Go.Proofs.Ytoonpnpooljmlaa
open Go.RowKit

/-! ### a region that leaves its order open, whose calls may make memory but write none that was there -/
/-- The worlds that keep all that lay in w. -/
def Later (w : World) : Type := { u : World // Kept w u }
def Later.of {w u : World} (h : Kept w u) : Later w := ⟨u, h⟩
theorem region_later {P : Program} {id : Nat} {Q : Exit → Act → World → Prop} {a : Act} {w : World} {l : List Oper} (hm : P.follows .mixedOrders = true) (hB : Region.lexB .any l.toArray = true)
    (h : wpQuiet P l.toArray (fun w' => ∃ u : Later w, w' = u.1) (fun a' => ∀ w', (∃ u : Later w, w' = u.1) → Q .normal a' w') l a) : (Code.region id l.toArray true).wp P Q a w :=
  wp_region_quiet (C := fun w' => ∃ u : Later w, w' = u.1) hm hB ⟨⟨{ w with drawn := w.drawn + 1 }, ⟨rfl, rfl, rfl, Nat.le_refl _, fun _ _ => rfl⟩⟩, rfl⟩ (by simpa using h)
/-- A callee that makes memory, in such a region. -/
theorem later_call {P : Program} {f : FuncId} {args : Array Value} {w : World} {u : Later w} {v : Value}
    (h : Calls P f args u.1 fun e w' => e = .returned v ∧ Kept u.1 w') : Calls P f args u.1 fun e w'' => e = .returned v ∧ ∃ u' : Later w, w'' = u'.1 :=
  h.mono fun _ w' ⟨he, hk⟩ => ⟨he, ⟨⟨w', u.2.trans hk⟩, rfl⟩⟩
/-- A callee that changes nothing. -/
theorem later_same {P : Program} {f : FuncId} {args : Array Value} {w : World} {u : Later w} {v : Value}
    (h : Calls P f args u.1 fun e w' => e = .returned v ∧ u.1 = w') : Calls P f args u.1 fun e w'' => e = .returned v ∧ ∃ u' : Later w, w'' = u'.1 :=
  h.mono fun _ _ ⟨he, hk⟩ => ⟨he, ⟨u, hk.symm⟩⟩
theorem later_cell {w : World} {b o : Nat} {v : Value} (h : w.cell? ⟨b, o, none⟩ = some v) : ∀ u : Later w, u.1.cell? ⟨b, o, none⟩ = some v :=
  fun u => u.2.cell (cell_lt h) h

/-! ### a row of bytes -/
structure Buf (w : World) (b : Nat) (l : List UInt8) : Prop where
  lt : b < w.heap.size
  cell : ∀ i (h : i < l.length), w.cell? ⟨b, i, none⟩ = some (.int .u8 (l[i].toNat : Int))
  free : ∀ i, i < l.length → w.frozen? ⟨b, i, none⟩ = false
theorem Buf.kept {w w' : World} {b : Nat} {l : List UInt8} (h : Buf w b l) (k : Kept w w') : Buf w' b l :=
  ⟨Nat.lt_of_lt_of_le h.lt k.size, fun i hi => k.cell h.lt (h.cell i hi), fun i hi => k.frozen h.lt (h.free i hi)⟩
theorem Buf.set {w : World} {b : Nat} {l : List UInt8} (h : Buf w b l) (i : Nat) (hi : i < l.length) (x : UInt8) : Buf (w.setCell ⟨b, i, none⟩ (.int .u8 (x.toNat : Int))) b (l.set i x) := by
  refine ⟨by simpa using h.lt, fun j hj => ?_, fun j hj => by rw [World.frozen?_setCell]; exact h.free j (by simpa using hj)⟩
  by_cases e : i = j
  · subst e
    rw [World.cell?_setCell_same _ _ _ (h.cell i hi)]
    simp
  · have hne : (⟨b, i, none⟩ : Addr) ≠ ⟨b, j, none⟩ := fun h => e (by cases h; rfl)
    rw [World.cell?_setCell_other (h := hne), h.cell j (by simpa using hj)]
    simp [e]
/-- '[]byte(s)' -/
def bytesBehind (w : World) (t : TypeId) (s : ByteArray) : World :=
  w.drew.alloc (.cells (bytesRow s (grownCap w s.size 0 t)) t ((bytesRow s (grownCap w s.size 0 t)).size, (bytesRow s (grownCap w s.size 0 t)).size + 1))
theorem bytes_of {P : Program} (src dst e : TypeId) (s : ByteArray) (hs : P.underlying src = some .string) (hd : P.underlying dst = some (.slice e)) (he : P.underlying e = some (.int .u8)) :
    ∀ w, (convert src dst (.string s)).run P w = .ok (.slice (some ⟨w.heap.size, 0, none⟩) s.size (grownCap w s.size 0 e)) (bytesBehind w e s) := fun w => run_bytes_of_string w src dst e s hs hd he
theorem bytesBehind_kept (w : World) (t : TypeId) (s : ByteArray) : Kept w (bytesBehind w t s) := by
  have h : Kept w w.drew := (Kept.refl w).drew
  exact h.alloc _
theorem bytesBehind_size (w : World) (t : TypeId) (s : ByteArray) : (bytesBehind w t s).heap.size = w.heap.size + 1 := by
  unfold bytesBehind; rw [World.size_alloc, World.size_drew]
theorem bytesBehind_buf (w : World) (t : TypeId) (s : ByteArray) : Buf (bytesBehind w t s) w.heap.size s.data.toList := by
  have hz : (bytesBehind w t s).heap.size = w.heap.size + 1 := by
    unfold bytesBehind; rw [World.size_alloc, World.size_drew]
  refine ⟨by omega, fun i hi => ?_, fun i hi => ?_⟩
  · have hi' : i < s.size := by simpa using hi
    have h := World.cell?_alloc_mark w.drew (bytesRow s (grownCap w s.size 0 t)) t ((bytesRow s (grownCap w s.size 0 t)).size, (bytesRow s (grownCap w s.size 0 t)).size + 1) i
    rw [World.size_drew] at h
    unfold bytesBehind
    rw [h]
    simp [bytesRow, Array.getElem?_append, hi']
  · have hi' : i < s.data.size := by simpa using hi
    have h := World.frozen?_alloc_mark w.drew (bytesRow s (grownCap w s.size 0 t)) t (bytesRow s (grownCap w s.size 0 t)).size ((bytesRow s (grownCap w s.size 0 t)).size + 1) i
    rw [World.size_drew] at h
    unfold bytesBehind
    rw [h]
    have e : s.size = s.data.size := rfl
    have : i < (bytesRow s (grownCap w s.size 0 t)).size := by
      simp [bytesRow]; omega
    simp; omega
/-- 'string(b)' -/
theorem Buf.string {P : Program} {w : World} {b : Nat} {l : List UInt8} (h : Buf w b l) (src dst e : TypeId) (hs : P.underlying src = some (.slice e)) (he : P.underlying e = some (.int .u8)) (hd : P.underlying dst = some .string) (cap : Nat) :
    (convert src dst (.slice (some ⟨b, 0, none⟩) l.length cap)).run P w = .ok (.string ⟨l.toArray⟩) w := by
  refine run_convert_bytes_back w src dst e ⟨b, 0, none⟩ cap l hs he hd (fun j hj => ?_)
  have e : (⟨b, 0, none⟩ : Addr).add j = ⟨b, j, none⟩ := by unfold Addr.add; split <;> simp_all
  rw [e]
  exact h.cell j hj

/-! ### a list of bytes turned from its head on -/
def upto (f : Nat → UInt8 → UInt8) (l : List UInt8) (k : Nat) : List UInt8 := l.mapIdx fun i x => if i < k then f i x else x
theorem upto_length (f : Nat → UInt8 → UInt8) (l : List UInt8) (k : Nat) : (upto f l k).length = l.length := by simp [upto]
theorem upto_zero (f : Nat → UInt8 → UInt8) (l : List UInt8) : upto f l 0 = l := by
  apply List.ext_getElem <;> simp [upto]
theorem upto_get (f : Nat → UInt8 → UInt8) (l : List UInt8) (k : Nat) (hk : k < l.length) : (upto f l k)[k]'(by rw [upto_length]; exact hk) = l[k] := by simp [upto]
theorem upto_set (f : Nat → UInt8 → UInt8) (l : List UInt8) (k : Nat) (hk : k < l.length) : (upto f l k).set k (f k l[k]) = upto f l (k + 1) := by
  apply List.ext_getElem
  · simp [upto]
  · intro i h1 h2
    simp only [upto, List.getElem_set, List.getElem_mapIdx]
    by_cases e : k = i
    · subst e; simp
    · rw [if_neg e]
      by_cases h : i < k
      · rw [if_pos h, if_pos (by omega)]
      · rw [if_neg h, if_neg (by omega)]
theorem upto_all (f : Nat → UInt8 → UInt8) (l : List UInt8) (k : Nat) (hk : l.length ≤ k) : upto f l k = l.mapIdx f := by
  apply List.ext_getElem
  · simp [upto]
  · intro i h1 h2
    have : i < k := by simp [upto] at h1; omega
    simp [upto, this]

theorem str_list (s : ByteArray) : (⟨s.data.toList.toArray⟩ : ByteArray) = s := Joins.bytes_eta s
theorem str_size (s : ByteArray) : s.data.toList.length = s.size := by simp

/-! ### whole rows -/
/-- The world under a name of its own. -/
theorem wp_named {P : Program} {c : Code} {Q : Exit → Act → World → Prop} {a : Act} {w : World} (h : ∀ w1, w1 = w → c.wp P Q a w1) : c.wp P Q a w := h _ rfl
theorem Kept.setRow {a b : World} (h : Kept a b) {g : Nat} (hg : a.heap.size ≤ g) (cs : Array Value) : Kept a (b.setRow g cs) :=
  Below.trans h ⟨rfl, rfl, rfl, by simp [World.setRow], fun k hk => setRow_other b g k cs (by omega)⟩
theorem BlockAt.setRow {w : World} {g : Nat} {C : Array Value} {t : TypeId} (h : BlockAt w g C t) (cs : Array Value) : BlockAt (w.setRow g cs) g cs t := setRow_heap w g C cs t (0, 0) h
theorem BlockAt.other {w : World} {g g' : Nat} {C : Array Value} {t : TypeId} (h : BlockAt w g C t) (cs : Array Value) (hne : g ≠ g') : BlockAt (w.setRow g' cs) g C t := (setRow_other w g' g cs hne).trans h
theorem BlockAt.setOther {w : World} {g g' i : Nat} {C : Array Value} {t : TypeId} (h : BlockAt w g C t) (v : Value) (hne : g ≠ g') : BlockAt (w.setCell ⟨g', i, none⟩ v) g C t := (Below.heap_setCell w ⟨g', i, none⟩ v g hne).trans h
theorem wpList_store_block {P : Program} {ops : Array Oper} {rest : List Oper} {op : Oper} {a : Act} {w : World} {Q : Exit → Act → World → Prop} (hgd : op.guard = none) (ty : TypeId) (x y : Operand) (ho : op.op = .store ty x y)
    (g : Nat) (cells old : Array Value) (t : TypeId) (hx : a.eval x = .pointer (some ⟨g, 0, none⟩)) (hy : a.eval y = .agg cells) (hg : BlockAt w g old t) (hi : (P.info? ty).map (·.size) = some cells.size) (hsz : old.size = cells.size) (h1 : cells.all (·.oneCell') = true)
    (h : wpList P ops Q rest (a.put op.dst undef) (w.setRow g cells)) : wpList P ops Q (op :: rest) a w :=
  wpList_plain hgd fun _ hK => by
    unfold Oper.wp execOp
    simp only [ho, hx, hy, Instr.storeAt, Instr.sureAddr, Sem.run_bind, Sem.run_pure, Result.andThen_ok, run_storeVar_row w g t ty old cells hg hi hsz h1]
    exact hK _ _ h

theorem zero_run {P : Program} {t : TypeId} {v : Value} (h : (P.info? t).map (·.zero) = some (some v)) (w : World) : (zeroValue t).run P w = .ok v w := by
  cases hq : P.info? t with
  | none => simp [hq] at h
  | some i => simp [hq] at h; simp [zeroValue, typeInfo, hq, h]
theorem wpList_alloc_block {P : Program} {ops : Array Oper} {rest : List Oper} {op : Oper} {a : Act} {w : World} {Q : Exit → Act → World → Prop} (hgd : op.guard = none) (ty : TypeId) (ho : op.op = .alloc ty)
    (z : Array Value) (hz : (P.info? ty).map (·.zero) = some (some (.agg z)))
    (h : wpList P ops Q rest (a.put op.dst (.pointer (some ⟨w.heap.size, 0, none⟩))) (w.alloc (.cells z ty))) : wpList P ops Q (op :: rest) a w :=
  wpList_plain hgd fun _ hK => by
    unfold Oper.wp execOp
    have hr : (Instr.alloc ty true (.tuple #[])).run P w = .ok (.pointer (some ⟨w.heap.size, 0, none⟩)) (w.alloc (.cells z ty)) := by
      simp [Instr.alloc, zero_run hz, Result.andThen, Value.cells, go_sem]
    simp only [ho, hr, Sem.run_bind, Sem.run_pure, Result.andThen_ok]
    exact hK _ _ h
theorem wpList_build_zero {P : Program} {ops : Array Oper} {rest : List Oper} {op : Oper} {a : Act} {w : World} {Q : Exit → Act → World → Prop} (hgd : op.guard = none) (ty : TypeId) (ho : op.op = .build ty #[])
    (z : Array Value) (hz : P.built ty [] = some z)
    (h : wpList P ops Q rest (a.put op.dst (.agg z)) w) : wpList P ops Q (op :: rest) a w :=
  wpList_plain hgd fun _ hK => by
    unfold Oper.wp execOp
    have hr := run_build w ty #[] z hz
    simp only [ho, Array.map_empty, hr, Sem.run_bind, Sem.run_pure, Result.andThen_ok]
    exact hK _ _ h
end Go.Proofs.Ytoonpnpooljmlaa

namespace Go.Proofs.Ytoonpnpooljmlaa
open Go.RowKit Go.Shelf

/-- A scope through which the run goes without a goto. -/
theorem wpIn_scope {n : Nat} {P : Program} {c : Code} {Q : Exit → Act → World → Prop} {a : Act} {w : World} (h : c.wpIn Fence.wide n P (Exit.noGoto Q) a w) : (Code.scope c).wpIn Fence.wide n P Q a w :=
  wpIn_wide.2 (wp_scope_straight (wpIn_wide.1 h))
theorem wp_of_in (n : Nat) {P : Program} {c : Code} {Q : Exit → Act → World → Prop} {a : Act} {w : World} (h : c.wpIn Fence.wide n P Q a w) : c.wp P Q a w := wpIn_wide.1 h
theorem noGoto_normal {Q : Exit → Act → World → Prop} {a : Act} {w : World} (h : Q .normal a w) : Exit.noGoto Q .normal a w := h
theorem noGoto_ret {Q : Exit → Act → World → Prop} {a : Act} {w : World} (h : Q .ret a w) : Exit.noGoto Q .ret a w := h
theorem box_of {W : World} {b : Nat} {v : Value} {t : TypeId} (h : W.heap[b]? = some (.cells #[v] t (0, 0))) : W.cell? ⟨b, 0, none⟩ = some v ∧ W.frozen? ⟨b, 0, none⟩ = false := by
  refine ⟨?_, ?_⟩
  · simp [World.cell?, h]
  · simp [World.frozen?, h]
/-- a new box -/
theorem box_new (W : World) (v : Value) (t : TypeId) : (W.alloc (.cells #[v] t)).cell? ⟨W.heap.size, 0, none⟩ = some v ∧ (W.alloc (.cells #[v] t)).frozen? ⟨W.heap.size, 0, none⟩ = false :=
  box_of (World.alloc_heap_new W _)
theorem box_later {W : World} {a : Addr} {v : Value} (o : Obj) (h : W.cell? a = some v) (hf : W.frozen? a = false) : (W.alloc o).cell? a = some v ∧ (W.alloc o).frozen? a = false :=
  ⟨cell_kept h (World.grownBy_alloc W o none) (fun r e => by cases e), (frozen_kept h (World.grownBy_alloc W o none) (fun r e => by cases e)).trans hf⟩

/-! ### what a round of a loop keeps: all blocks of cells but those that are its own to write -/
structure CellsBut (R : Nat → Prop) (A B : World) : Prop where
  size : A.heap.size ≤ B.heap.size
  block : ∀ k cs t fr, ¬ R k → A.heap[k]? = some (.cells cs t fr) → B.heap[k]? = some (.cells cs t fr)
theorem CellsBut.refl (R : Nat → Prop) (A : World) : CellsBut R A A := ⟨Nat.le_refl _, fun _ _ _ _ _ h => h⟩
theorem CellsBut.trans {R : Nat → Prop} {A B C : World} (h : CellsBut R A B) (k : CellsBut R B C) : CellsBut R A C :=
  ⟨Nat.le_trans h.size k.size, fun i cs t fr hr hi => k.block i cs t fr hr (h.block i cs t fr hr hi)⟩
theorem CellsBut.putObj {R : Nat → Prop} {w : World} (W : World) (l : Nat) (o o' : Obj) (_ : w.heap.size ≤ l) (h : W.heap[l]? = some o) (hc : o.isCells = false) (_ : o.isWalk = false) : CellsBut R W (W.putObj l o') := by
  refine ⟨by simp, fun k cs t fr _ hk => ?_⟩
  have hne : k ≠ l := fun e => by
    subst e
    rw [h] at hk
    cases hk
    cases hc
  rw [World.putObj_heap_other hne]
  exact hk
theorem CellsBut.of_kept {R : Nat → Prop} {A B : World} (h : Kept A B) : CellsBut R A B :=
  ⟨h.size, fun k cs t fr _ hk => by
    have hlt : k < A.heap.size := (Array.getElem?_eq_some_iff.1 hk).1
    exact (Below.block h k hlt).trans hk⟩
theorem CellsBut.setCell {R : Nat → Prop} {b i : Nat} (A : World) (v : Value) (hR : R b) : CellsBut R A (A.setCell ⟨b, i, none⟩ v) := by
  refine ⟨by simp, fun k cs t fr hr hk => ?_⟩
  have hne : k ≠ b := fun e => hr (by rw [e]; exact hR)
  exact (Below.heap_setCell A ⟨b, i, none⟩ v k hne).trans hk
theorem BlockAt.but {R : Nat → Prop} {A B : World} {b : Nat} {C : Array Value} {t : TypeId} (h : BlockAt A b C t) (k : CellsBut R A B) (hr : ¬ R b) : BlockAt B b C t := k.block b C t (0, 0) hr h
/-- The world grown by nothing that was there. -/
theorem grown_of_kept {A B : World} (h : Kept A B) : A.grownBy B none :=
  ⟨Below.os h, Below.tape h, Below.output h, Below.size h, fun k hk _ => Below.block h k hk⟩
theorem AbidesFrom.kept {β : Type} {B : Nat} {J : β → World → Prop} (h : AbidesFrom B J) {s : β} {A A' : World} (hs : J s A) (k : Kept A A') : J s A' :=
  h s A A' none hs (grown_of_kept k) (fun r e => by cases e)
theorem box_block (w : World) (v : Value) (t : TypeId) : BlockAt (w.alloc (.cells #[v] t)) w.heap.size #[v] t := BlockAt.new w #[v] t

/-- places set one by one, each by what it holds -/
def setBy (g : Nat → UInt8 → UInt8) (l : List UInt8) (i : Nat) : List UInt8 := l.set i (g i (l.getD i 0))
theorem setBy_length (g : Nat → UInt8 → UInt8) (l : List UInt8) (i : Nat) : (setBy g l i).length = l.length := by simp [setBy]
def setAll (g : Nat → UInt8 → UInt8) (l : List UInt8) (is : List Nat) : List UInt8 := is.foldl (setBy g) l
theorem setAll_length (g : Nat → UInt8 → UInt8) : ∀ (is : List Nat) (l : List UInt8), (setAll g l is).length = l.length
  | [], _ => rfl
  | i :: is, l => by
    show (setAll g (setBy g l i) is).length = _
    rw [setAll_length g is, setBy_length]
theorem setAll_snoc (g : Nat → UInt8 → UInt8) (l : List UInt8) (is : List Nat) (i : Nat) : setAll g l (is ++ [i]) = setBy g (setAll g l is) i := by simp [setAll]
theorem setAll_range (g : Nat → UInt8 → UInt8) (l : List UInt8) : ∀ k, k ≤ l.length → setAll g l (List.range k) = upto g l k
  | 0, _ => by rw [upto_zero]; rfl
  | k + 1, h => by
    have hk : k < l.length := by omega
    rw [List.range_succ, setAll_snoc, setAll_range g l k (by omega)]
    have hu : k < (upto g l k).length := by rw [upto_length]; exact hk
    have e : (upto g l k).getD k 0 = l[k] := by
      rw [List.getD_eq_getElem?_getD, List.getElem?_eq_getElem hu, upto_get g l k hk]
      rfl
    unfold setBy
    rw [e, upto_set g l k hk]

theorem Buf.grown {W W' : World} {b : Nat} {l : List UInt8} {row : Option Nat} (h : Buf W b l) (hg : W.grownBy W' row) (hr : ∀ r, row = some r → ∃ o : Obj, W.heap[r]? = some o ∧ o.isCells = false) : Buf W' b l :=
  ⟨Nat.lt_of_lt_of_le h.lt hg.size, fun i hi => cell_kept (h.cell i hi) hg hr, fun i hi => (frozen_kept (h.cell i hi) hg hr).trans (h.free i hi)⟩

/-- the places of what has come -/
def ixs {n : Nat} (l : List { k : Nat // k < n }) : List Nat := l.map (·.1)
theorem ixs_nil {n : Nat} : ixs ([] : List { k : Nat // k < n }) = [] := rfl
theorem ixs_snoc {n : Nat} (l : List { k : Nat // k < n }) (k : Nat) (hk : k < n) : ixs (l ++ [⟨k, hk⟩]) = ixs l ++ [k] := by simp [ixs]
theorem ixs_length {n : Nat} (l : List { k : Nat // k < n }) : (ixs l).length = l.length := by simp [ixs]
theorem cell_other {w : World} {b b' i i' : Nat} {v u : Value} (h : w.cell? ⟨b, i, none⟩ = some v) (hne : b ≠ b') : (w.setCell ⟨b', i', none⟩ u).cell? ⟨b, i, none⟩ = some v := by
  have hn : (⟨b', i', none⟩ : Addr) ≠ ⟨b, i, none⟩ := fun e => hne (by cases e; rfl)
  rw [World.cell?_setCell_other (h := hn)]
  exact h
end Go.Proofs.Ytoonpnpooljmlaa

namespace Go.Proofs.Ytoonpnpooljmlaa
open Go.RowKit

theorem results_row_tmp {P : Program} {fn : Func} {p u : Tmp} {ty : TypeId} (h : fn.results = #[.cell p ty, .tmp u]) (tmps : Array Value) (w : World) (g : Nat) (t : TypeId) (cs : Array Value) (d : TypeDesc)
    (hp : tmps.getD p undef = .pointer (some ⟨g, 0, none⟩)) (hg : BlockAt w g cs t)
    (hu : P.underlying ty = some d) (hd : (match d with | .struct _ | .array _ _ => true | _ => false) = true) (hi : (P.info? ty).map (·.size) = some cs.size) (v : Value) (hv : tmps.getD u undef = v) :
    (results fn tmps).run P w = .ok (.tuple #[.agg cs, v]) w := by
  have hp' : tmps[p]?.getD undef = .pointer (some ⟨g, 0, none⟩) := by simpa using hp
  have hv' : tmps[u]?.getD undef = v := by simpa using hv
  have hg' : w.heap[g]? = some (.cells cs t (0, 0)) := hg
  simp [results, h, hp', hv', asAddr, run_loadVar_row w g t ty cs (0, 0) d hg' hu hd hi, Result.andThen]
theorem results_tmp_row {P : Program} {fn : Func} {p u : Tmp} {ty : TypeId} (h : fn.results = #[.tmp u, .cell p ty]) (tmps : Array Value) (w : World) (g : Nat) (t : TypeId) (cs : Array Value) (d : TypeDesc)
    (hp : tmps.getD p undef = .pointer (some ⟨g, 0, none⟩)) (hg : BlockAt w g cs t)
    (hu : P.underlying ty = some d) (hd : (match d with | .struct _ | .array _ _ => true | _ => false) = true) (hi : (P.info? ty).map (·.size) = some cs.size) (v : Value) (hv : tmps.getD u undef = v) :
    (results fn tmps).run P w = .ok (.tuple #[v, .agg cs]) w := by
  have hp' : tmps[p]?.getD undef = .pointer (some ⟨g, 0, none⟩) := by simpa using hp
  have hv' : tmps[u]?.getD undef = v := by simpa using hv
  have hg' : w.heap[g]? = some (.cells cs t (0, 0)) := hg
  simp [results, h, hp', hv', asAddr, run_loadVar_row w g t ty cs (0, 0) d hg' hu hd hi, Result.andThen]
theorem one3 (r c : Int) (a : Option Addr) (l cap : Nat) : (#[Value.int .i64 r, .int .i64 c, .slice a l cap] : Array Value).all (·.oneCell') = true := by simp [Value.oneCell']
theorem box3 {W : World} {b : Nat} {x y z : Value} {t : TypeId} (h : BlockAt W b #[x, y, z] t) : W.cell? ⟨b, 0, none⟩ = some x ∧ W.cell? ⟨b, 1, none⟩ = some y ∧ W.cell? ⟨b, 2, none⟩ = some z :=
  ⟨h.cell 0, h.cell 1, h.cell 2⟩
theorem box1 {W : World} {b : Nat} {x : Value} {t : TypeId} (h : BlockAt W b #[x] t) : W.cell? ⟨b, 0, none⟩ = some x := h.cell 0
/-- a new block, some blocks later -/
theorem BlockAt.new1 (w : World) (C : Array Value) (t : TypeId) (o : Obj) : BlockAt ((w.alloc o).alloc (.cells C t)) (w.heap.size + 1) C t := by
  have h := BlockAt.new (w.alloc o) C t
  rw [World.size_alloc] at h
  exact h
theorem BlockAt.new2 (w : World) (C : Array Value) (t : TypeId) (o o2 : Obj) : BlockAt (((w.alloc o).alloc o2).alloc (.cells C t)) (w.heap.size + 1 + 1) C t := by
  have h := BlockAt.new1 (w.alloc o) C t o2
  rw [World.size_alloc] at h
  exact h
theorem BlockAt.new3 (w : World) (C : Array Value) (t : TypeId) (o o2 o3 : Obj) : BlockAt ((((w.alloc o).alloc o2).alloc o3).alloc (.cells C t)) (w.heap.size + 1 + 1 + 1) C t := by
  have h := BlockAt.new2 (w.alloc o) C t o2 o3
  rw [World.size_alloc] at h
  exact h
/-- what is left of a range's deferred calls is taken -/
theorem grown_put (W : World) (D : Nat) (o' : Obj) : W.grownBy (W.putObj D o') (some D) := grownBy_putObj' W D o'
theorem grown_row (W : World) (g : Nat) (cs : Array Value) : W.grownBy (W.setRow g cs) (some g) := ⟨rfl, rfl, rfl, by simp [World.setRow], fun k _ hne => setRow_other W g k cs (fun e => hne (by rw [e]))⟩
end Go.Proofs.Ytoonpnpooljmlaa
