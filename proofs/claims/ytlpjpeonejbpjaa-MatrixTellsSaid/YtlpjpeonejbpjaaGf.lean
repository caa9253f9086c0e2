/- Plain arithmetic of the numbers below 256, with no program in it: doubling, products, powers, inverses and logarithms, and the laws that the layer's statements need. No conditions. -/
import Derived.WalkKit
namespace Go.Proofs.Ytlpjpeonejbpjaa.Gf

def dbl (a : Nat) : Nat := (a * 2 % 256) ^^^ (a / 128 * 29)
def mulTo (a b : Nat) : Nat → Nat × Nat
  | 0 => (0, a)
  | n + 1 => ((mulTo a b n).1 ^^^ ((mulTo a b n).2 * (b / 2 ^ n % 2)), dbl (mulTo a b n).2)
def mul (a b : Nat) : Nat := (mulTo a b 8).1

theorem below (p : Nat → Bool) (h : (List.range 256).all p = true) (a : Nat) (ha : a < 256) : p a = true :=
  List.all_eq_true.1 h a (List.mem_range.2 ha)

theorem dbl_lt {a : Nat} (ha : a < 256) : dbl a < 256 := by
  have h1 : a * 2 % 256 < 2 ^ 8 := by omega
  have h2 : a / 128 * 29 < 2 ^ 8 := by omega
  exact Nat.xor_lt_two_pow h1 h2

theorem mulTo_lt {a : Nat} (ha : a < 256) (b : Nat) : ∀ n, (mulTo a b n).1 < 256 ∧ (mulTo a b n).2 < 256
  | 0 => ⟨by simp [mulTo], ha⟩
  | n + 1 => by
    obtain ⟨h1, h2⟩ := mulTo_lt ha b n
    refine ⟨?_, dbl_lt h2⟩
    have h3 : (mulTo a b n).2 * (b / 2 ^ n % 2) < 2 ^ 8 := by
      rcases Nat.mod_two_eq_zero_or_one (b / 2 ^ n) with h | h <;> rw [h] <;> omega
    exact Nat.xor_lt_two_pow (n := 8) h1 h3
theorem mul_lt {a : Nat} (ha : a < 256) (b : Nat) : mul a b < 256 := (mulTo_lt ha b 8).1

/-! ### linear in both -/
theorem dbl_xor {a b : Nat} (ha : a < 256) (hb : b < 256) : dbl (a ^^^ b) = dbl a ^^^ dbl b := by
  have e1 : (a ^^^ b) * 2 % 256 = (a * 2 % 256) ^^^ (b * 2 % 256) := by
    have h := Nat.xor_mod_two_pow (a := a * 2) (b := b * 2) (n := 8)
    have k : (a ^^^ b) * 2 = a * 2 ^^^ b * 2 := by
      have := Nat.shiftLeft_xor_distrib (a := a) (b := b) (i := 1)
      simpa [Nat.shiftLeft_eq] using this
    rw [k]; exact h
  have e2 : (a ^^^ b) / 128 = (a / 128) ^^^ (b / 128) := by
    have := Nat.shiftRight_xor_distrib (a := a) (b := b) (i := 7)
    simpa [Nat.shiftRight_eq_div_pow] using this
  have e3 : ((a / 128) ^^^ (b / 128)) * 29 = (a / 128 * 29) ^^^ (b / 128 * 29) := by
    have h1 : a / 128 = 0 ∨ a / 128 = 1 := by omega
    have h2 : b / 128 = 0 ∨ b / 128 = 1 := by omega
    rcases h1 with h1 | h1 <;> rcases h2 with h2 | h2 <;> rw [h1, h2] <;> decide
  unfold dbl
  rw [e1, e2, e3]
  ac_rfl

theorem bit_xor (b c n : Nat) : (b ^^^ c) / 2 ^ n % 2 = (b / 2 ^ n % 2) ^^^ (c / 2 ^ n % 2) := by
  have h1 := Nat.shiftRight_xor_distrib (a := b) (b := c) (i := n)
  simp only [Nat.shiftRight_eq_div_pow] at h1
  rw [h1]
  exact Nat.xor_mod_two_pow (n := 1)

theorem bit01 (b n : Nat) : b / 2 ^ n % 2 = 0 ∨ b / 2 ^ n % 2 = 1 := Nat.mod_two_eq_zero_or_one _

theorem mulTo_left {a a' : Nat} (ha : a < 256) (ha' : a' < 256) (b : Nat) : ∀ n, (mulTo (a ^^^ a') b n).1 = (mulTo a b n).1 ^^^ (mulTo a' b n).1 ∧ (mulTo (a ^^^ a') b n).2 = (mulTo a b n).2 ^^^ (mulTo a' b n).2
  | 0 => ⟨by simp [mulTo], rfl⟩
  | n + 1 => by
    obtain ⟨h1, h2⟩ := mulTo_left ha ha' b n
    refine ⟨?_, ?_⟩
    · simp only [mulTo, h1, h2]
      rcases bit01 b n with h | h <;> rw [h] <;> simp only [Nat.mul_zero, Nat.mul_one, Nat.xor_zero]
      ac_rfl
    · simp only [mulTo, h2]
      exact dbl_xor (mulTo_lt ha b n).2 (mulTo_lt ha' b n).2
theorem mul_left {a a' : Nat} (ha : a < 256) (ha' : a' < 256) (b : Nat) : mul (a ^^^ a') b = mul a b ^^^ mul a' b := (mulTo_left ha ha' b 8).1

theorem mulTo_right (a b c : Nat) : ∀ n, (mulTo a (b ^^^ c) n).1 = (mulTo a b n).1 ^^^ (mulTo a c n).1 ∧ (mulTo a (b ^^^ c) n).2 = (mulTo a b n).2 ∧ (mulTo a c n).2 = (mulTo a b n).2
  | 0 => ⟨by simp [mulTo], rfl, rfl⟩
  | n + 1 => by
    obtain ⟨h1, h2, h3⟩ := mulTo_right a b c n
    refine ⟨?_, by simp only [mulTo, h2], by simp only [mulTo, h3]⟩
    simp only [mulTo, h1, h2, h3, bit_xor]
    rcases bit01 b n with h | h <;> rcases bit01 c n with k | k <;> rw [h, k] <;> simp only [Nat.mul_zero, Nat.mul_one, Nat.xor_zero, Nat.xor_self, Nat.zero_xor]
    · ac_rfl
    · ac_rfl
    · have e : (mulTo a b n).1 ^^^ (mulTo a b n).2 ^^^ ((mulTo a c n).1 ^^^ (mulTo a b n).2) = (mulTo a b n).1 ^^^ (mulTo a c n).1 ^^^ ((mulTo a b n).2 ^^^ (mulTo a b n).2) := by ac_rfl
      rw [e, Nat.xor_self, Nat.xor_zero]
theorem mul_right (a b c : Nat) : mul a (b ^^^ c) = mul a b ^^^ mul a c := (mulTo_right a b c 8).1

/-! ### what holds of the eight powers of two holds of all -/
def parts (a : Nat) : Nat := (a &&& 1) ^^^ ((a &&& 2) ^^^ ((a &&& 4) ^^^ ((a &&& 8) ^^^ ((a &&& 16) ^^^ ((a &&& 32) ^^^ ((a &&& 64) ^^^ (a &&& 128)))))))
set_option maxRecDepth 100000 in
theorem parts_eq (a : Nat) (ha : a < 256) : parts a = a := by
  simpa using below (fun a => parts a == a) (by decide +kernel) a ha
set_option maxRecDepth 100000 in
theorem part_of (a i : Nat) (ha : a < 256) (hi : i < 8) : a &&& 2 ^ i = 0 ∨ a &&& 2 ^ i = 2 ^ i := by
  have h := below (fun a => (List.range 8).all fun i => a &&& 2 ^ i == 0 || a &&& 2 ^ i == 2 ^ i) (by decide +kernel) a ha
  have h' := List.all_eq_true.1 h i (List.mem_range.2 hi)
  simpa using h'
theorem spans (p : Nat → Prop) (h0 : p 0) (hx : ∀ a b, a < 256 → b < 256 → p a → p b → p (a ^^^ b)) (h2 : ∀ i, i < 8 → p (2 ^ i)) (a : Nat) (ha : a < 256) : p a := by
  have hp : ∀ i, i < 8 → (a &&& 2 ^ i) < 256 ∧ p (a &&& 2 ^ i) := fun i hi => by
    refine ⟨Nat.lt_of_le_of_lt Nat.and_le_left ha, ?_⟩
    rcases part_of a i ha hi with h | h <;> rw [h]
    · exact h0
    · exact h2 i hi
  have hs : ∀ x y : Nat, x < 256 ∧ p x → y < 256 ∧ p y → x ^^^ y < 256 ∧ p (x ^^^ y) := fun x y k l =>
    ⟨Nat.xor_lt_two_pow (n := 8) k.1 l.1, hx x y k.1 l.1 k.2 l.2⟩
  rw [← parts_eq a ha]
  unfold parts
  exact (hs _ _ (hp 0 (by omega)) (hs _ _ (hp 1 (by omega)) (hs _ _ (hp 2 (by omega)) (hs _ _ (hp 3 (by omega)) (hs _ _ (hp 4 (by omega)) (hs _ _ (hp 5 (by omega)) (hs _ _ (hp 6 (by omega)) (hp 7 (by omega))))))))).2

theorem mul_zero (a : Nat) : mul a 0 = 0 := by
  have h := mul_right a 0 0
  simpa using h
theorem zero_mul (b : Nat) : mul 0 b = 0 := by
  have h := mul_left (a := 0) (a' := 0) (by omega) (by omega) b
  simpa using h

theorem pow_lt (i : Nat) (hi : i < 8) : 2 ^ i < 256 := by
  have h := below (fun i => decide (8 ≤ i ∨ 2 ^ i < 256)) (by decide +kernel) i (by omega)
  have := of_decide_eq_true h
  omega

def commOk : Bool := (List.range 8).all fun i => (List.range 8).all fun k => mul (2 ^ i) (2 ^ k) == mul (2 ^ k) (2 ^ i)
theorem comm_ok : commOk = true := by decide +kernel
theorem comm2 (i k : Nat) (hi : i < 8) (hk : k < 8) : mul (2 ^ i) (2 ^ k) = mul (2 ^ k) (2 ^ i) := by
  have h := List.all_eq_true.1 (List.all_eq_true.1 comm_ok i (List.mem_range.2 hi)) k (List.mem_range.2 hk)
  simpa using h
theorem mul_comm (a b : Nat) (ha : a < 256) (hb : b < 256) : mul a b = mul b a := by
  refine spans (fun a => mul a b = mul b a) (by rw [zero_mul, mul_zero]) (fun x y hx hy h k => ?_) (fun i hi => ?_) a ha
  · show mul (x ^^^ y) b = mul b (x ^^^ y)
    rw [mul_left hx hy, mul_right, h, k]
  · refine spans (fun b => mul (2 ^ i) b = mul b (2 ^ i)) (by rw [zero_mul, mul_zero]) (fun x y hx hy h k => ?_) (fun j hj => comm2 i j hi hj) b hb
    show mul (2 ^ i) (x ^^^ y) = mul (x ^^^ y) (2 ^ i)
    rw [mul_left hx hy, mul_right, h, k]

def assocOk : Bool := (List.range 8).all fun i => (List.range 8).all fun k => (List.range 8).all fun j => mul (mul (2 ^ i) (2 ^ k)) (2 ^ j) == mul (2 ^ i) (mul (2 ^ k) (2 ^ j))
theorem assoc_ok : assocOk = true := by decide +kernel
theorem assoc2 (i k j : Nat) (hi : i < 8) (hk : k < 8) (hj : j < 8) : mul (mul (2 ^ i) (2 ^ k)) (2 ^ j) = mul (2 ^ i) (mul (2 ^ k) (2 ^ j)) := by
  have h := List.all_eq_true.1 (List.all_eq_true.1 (List.all_eq_true.1 assoc_ok i (List.mem_range.2 hi)) k (List.mem_range.2 hk)) j (List.mem_range.2 hj)
  simpa using h
theorem mul_assoc (a b c : Nat) (ha : a < 256) (hb : b < 256) (hc : c < 256) : mul (mul a b) c = mul a (mul b c) := by
  refine spans (fun a => mul (mul a b) c = mul a (mul b c)) (by simp only [zero_mul]) (fun x y hx hy h k => ?_) (fun i hi => ?_) a ha
  · show mul (mul (x ^^^ y) b) c = mul (x ^^^ y) (mul b c)
    rw [mul_left hx hy, mul_left hx hy, mul_left (mul_lt hx b) (mul_lt hy b), h, k]
  have h2 := pow_lt i hi
  refine spans (fun b => mul (mul (2 ^ i) b) c = mul (2 ^ i) (mul b c)) (by simp only [zero_mul, mul_zero]) (fun x y hx hy h k => ?_) (fun j hj => ?_) b hb
  · show mul (mul (2 ^ i) (x ^^^ y)) c = mul (2 ^ i) (mul (x ^^^ y) c)
    rw [mul_right, mul_left (mul_lt h2 x) (mul_lt h2 y), mul_left hx hy, mul_right, h, k]
  refine spans (fun c => mul (mul (2 ^ i) (2 ^ j)) c = mul (2 ^ i) (mul (2 ^ j) c)) (by simp only [mul_zero]) (fun x y _ _ h k => ?_) (fun l hl => assoc2 i j l hi hj hl) c hc
  show mul (mul (2 ^ i) (2 ^ j)) (x ^^^ y) = mul (2 ^ i) (mul (2 ^ j) (x ^^^ y))
  rw [mul_right, mul_right (2 ^ j), mul_right (2 ^ i), h, k]

set_option maxRecDepth 100000 in
theorem mul_one (a : Nat) (ha : a < 256) : mul a 1 = a := by
  simpa using below (fun a => mul a 1 == a) (by decide +kernel) a ha
theorem one_mul (a : Nat) (ha : a < 256) : mul 1 a = a := by rw [mul_comm 1 a (by omega) ha, mul_one a ha]

/-! ### powers: 'pow' by counting, 'raiseTo' by squares -/
def pow (a : Nat) : Nat → Nat
  | 0 => 1
  | n + 1 => mul (pow a n) a
theorem pow_lt256 {a : Nat} (ha : a < 256) : ∀ n, pow a n < 256
  | 0 => by simp [pow]
  | n + 1 => mul_lt (pow_lt256 ha n) a
theorem pow_add {a : Nat} (ha : a < 256) (n : Nat) : ∀ m, pow a (n + m) = mul (pow a n) (pow a m)
  | 0 => (mul_one _ (pow_lt256 ha n)).symm
  | m + 1 => by
    show mul (pow a (n + m)) a = mul (pow a n) (mul (pow a m) a)
    rw [pow_add ha n m, mul_assoc _ _ _ (pow_lt256 ha n) (pow_lt256 ha m) ha]
theorem pow_sq {a : Nat} (ha : a < 256) : ∀ n, pow (mul a a) n = pow a (2 * n)
  | 0 => rfl
  | n + 1 => by
    show mul (pow (mul a a) n) (mul a a) = mul (mul (pow a (2 * n)) a) a
    rw [pow_sq ha n, ← mul_assoc _ _ _ (pow_lt256 ha _) ha ha]
/-- a round of the loop by squares: what is yet to come, times what is there, stays -/
theorem round_odd {r s n : Nat} (hr : r < 256) (hs : s < 256) (hn : n % 2 = 1) : mul (mul r s) (pow (mul s s) (n / 2)) = mul r (pow s n) := by
  rw [pow_sq hs, mul_assoc _ _ _ hr hs (pow_lt256 hs _)]
  have e : n = 2 * (n / 2) + 1 := by omega
  rw [mul_comm s _ hs (pow_lt256 hs _)]
  show mul r (pow s (2 * (n / 2) + 1)) = _
  rw [← e]
theorem round_even {r s n : Nat} (hs : s < 256) (hn : n % 2 = 0) : mul r (pow (mul s s) (n / 2)) = mul r (pow s n) := by
  rw [pow_sq hs]
  have e : n = 2 * (n / 2) := by omega
  rw [← e]
theorem pow_mul {a : Nat} (ha : a < 256) (n : Nat) : ∀ m, pow (pow a n) m = pow a (n * m)
  | 0 => rfl
  | m + 1 => by
    show mul (pow (pow a n) m) (pow a n) = pow a (n * m + n)
    rw [pow_mul ha n m, pow_add ha]
theorem mul_pow {a b : Nat} (ha : a < 256) (hb : b < 256) : ∀ n, pow (mul a b) n = mul (pow a n) (pow b n)
  | 0 => by simp [pow, mul_one]
  | n + 1 => by
    show mul (pow (mul a b) n) (mul a b) = mul (mul (pow a n) a) (mul (pow b n) b)
    have hx := pow_lt256 ha n
    have hy := pow_lt256 hb n
    rw [mul_pow ha hb n, mul_assoc _ _ _ hx hy (mul_lt ha b), ← mul_assoc _ _ _ hy ha hb, mul_comm _ a hy ha, mul_assoc _ _ _ ha hy hb, ← mul_assoc _ _ _ hx ha (mul_lt hy b)]

/-! ### powers of two, logarithms -/
def dbls : Nat → Nat
  | 0 => 1
  | n + 1 => dbl (dbls n)
set_option maxRecDepth 100000 in
theorem dbl_mul (a : Nat) (ha : a < 256) : mul a 2 = dbl a := by
  simpa using below (fun a => mul a 2 == dbl a) (by decide +kernel) a ha
theorem pow_two : ∀ n, pow 2 n = dbls n
  | 0 => rfl
  | n + 1 => by
    show mul (pow 2 n) 2 = dbl (dbls n)
    rw [dbl_mul _ (pow_lt256 (by omega) n), pow_two n]
theorem dbls_lt (n : Nat) : dbls n < 256 := by rw [← pow_two]; exact pow_lt256 (by omega) n

/-- all of them, one behind the other: 'list n x': x, its double, .. -/
def row : Nat → Nat → List Nat
  | 0, _ => []
  | n + 1, x => x :: row n (dbl x)
theorem row_get (x : Nat) : ∀ n k, k < n → (row n (dbls x))[k]? = some (dbls (x + k))
  | 0, _, h => by omega
  | n + 1, 0, _ => rfl
  | n + 1, k + 1, h => by
    show (row n (dbls (x + 1)))[k]? = _
    rw [row_get (x + 1) n k (by omega), show x + 1 + k = x + (k + 1) by omega]
def idx (l : List Nat) (a : Nat) : Nat := l.idxOf a
def log (a : Nat) : Nat := (row 255 1).idxOf a
set_option maxRecDepth 100000 in
theorem log_ok : ((List.range 256).all fun a => a == 0 || ((row 255 1).idxOf a < 255 && (row 255 1)[(row 255 1).idxOf a]? == some a)) = true := by decide +kernel
set_option maxRecDepth 100000 in
theorem exp_ok : ((List.range 255).all fun n => match (row 255 1)[n]? with | some a => a != 0 && (row 255 1).idxOf a == n | none => false) = true := by decide +kernel
theorem log_lt (a : Nat) (h0 : 0 < a) (ha : a < 256) : log a < 255 ∧ dbls (log a) = a := by
  have h := List.all_eq_true.1 log_ok a (List.mem_range.2 ha)
  simp only [Bool.or_eq_true, beq_iff_eq, Bool.and_eq_true, decide_eq_true_eq] at h
  rcases h with h | ⟨h, k⟩
  · omega
  · have e := row_get 0 255 (log a) h
    refine ⟨h, ?_⟩
    rw [Nat.zero_add] at e
    exact Option.some.inj (e.symm.trans k)
theorem log_dbls (n : Nat) (hn : n < 255) : 0 < dbls n ∧ log (dbls n) = n := by
  have h := List.all_eq_true.1 exp_ok n (List.mem_range.2 hn)
  have e := row_get 0 255 n hn
  rw [Nat.zero_add] at e
  have e' : (row 255 1)[n]? = some (dbls n) := e
  rw [e'] at h
  simp only [Bool.and_eq_true, bne_iff_ne, beq_iff_eq] at h
  exact ⟨Nat.pos_of_ne_zero h.1, h.2⟩
theorem dbls_ne (a n : Nat) (hn : n < log a) (h0 : 0 < a) (ha : a < 256) : dbls n ≠ a := by
  intro e
  have h1 := (log_lt a h0 ha).1
  have h2 := (log_dbls n (by omega)).2
  rw [e] at h2
  omega
theorem dbls_255 : dbls 255 = 1 := by decide +kernel
theorem dbls_period (n : Nat) : dbls (n + 255) = dbls n := by
  rw [← pow_two, ← pow_two, pow_add (by omega), pow_two 255, dbls_255, mul_one _ (pow_lt256 (by omega) n)]
theorem dbls_mod (n : Nat) : dbls (n % 255) = dbls n := by
  have h : ∀ k, dbls (n % 255 + 255 * k) = dbls (n % 255) := fun k => by
    induction k with
    | zero => rfl
    | succ k ih => rw [show n % 255 + 255 * (k + 1) = (n % 255 + 255 * k) + 255 by omega, dbls_period, ih]
  have := h (n / 255)
  rw [show n % 255 + 255 * (n / 255) = n by omega] at this
  exact this.symm

/-! ### inverses -/
def inv (a : Nat) : Nat := pow a 254
theorem inv_lt {a : Nat} (ha : a < 256) : inv a < 256 := pow_lt256 ha 254
theorem pow_255 (a : Nat) (h0 : 0 < a) (ha : a < 256) : pow a 255 = 1 := by
  obtain ⟨_, h⟩ := log_lt a h0 ha
  rw [← pow_two] at h
  rw [← h, pow_mul (by omega), Nat.mul_comm, ← pow_mul (by omega), pow_two 255, dbls_255]
  induction log a with
  | zero => rfl
  | succ n ih => show mul (pow 1 n) 1 = 1; rw [ih]; rfl
theorem mul_inv (a : Nat) (h0 : 0 < a) (ha : a < 256) : mul (inv a) a = 1 := pow_255 a h0 ha
theorem inv_pos (a : Nat) (h0 : 0 < a) (ha : a < 256) : 0 < inv a := by
  rcases Nat.eq_zero_or_pos (inv a) with h | h
  · have e := mul_inv a h0 ha
    rw [h, zero_mul] at e
    omega
  · exact h
theorem inv_inv (a : Nat) (h0 : 0 < a) (ha : a < 256) : inv (inv a) = a := by
  have h1 := mul_inv a h0 ha
  have h2 := mul_inv (inv a) (inv_pos a h0 ha) (inv_lt ha)
  have hi := inv_lt ha
  have hii := inv_lt hi
  have e := mul_assoc (inv (inv a)) (inv a) a hii hi ha
  rw [h2, h1, one_mul a ha, mul_one _ hii] at e
  exact e.symm
theorem div_mul (a b : Nat) (ha : a < 256) (h0 : 0 < b) (hb : b < 256) : mul (mul a (inv b)) b = a := by
  rw [mul_assoc _ _ _ ha (inv_lt hb) hb, mul_inv b h0 hb, mul_one a ha]
theorem xor_lt {a b : Nat} (ha : a < 256) (hb : b < 256) : a ^^^ b < 256 := Nat.xor_lt_two_pow (n := 8) ha hb
theorem square_xor (a b : Nat) (ha : a < 256) (hb : b < 256) : mul (a ^^^ b) (a ^^^ b) = mul a a ^^^ mul b b := by
  rw [mul_left ha hb, mul_right, mul_right, mul_comm b a hb ha]
  have e : mul a a ^^^ mul a b ^^^ (mul a b ^^^ mul b b) = mul a a ^^^ mul b b ^^^ (mul a b ^^^ mul a b) := by ac_rfl
  rw [e, Nat.xor_self, Nat.xor_zero]
end Go.Proofs.Ytlpjpeonejbpjaa.Gf
