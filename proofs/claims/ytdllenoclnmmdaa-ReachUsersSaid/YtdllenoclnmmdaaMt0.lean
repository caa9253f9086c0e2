/- Texts in their order; digests that rise; a manifest as data (nothing of the program). -/
import Derived.Test.YtdllenoclnmmdaaHp
import Derived.Test.YtdllenoclnmmdaaStd
namespace Go.Proofs.Ytdllenoclnmmdaa
open Go.RowKit

/-- is a text less than another one, byte by byte? -/
def ltB (x y : ByteArray) : Bool := Op.bytesLess x.toList y.toList
theorem bytesLess_irrefl : ∀ x : List UInt8, Op.bytesLess x x = false
  | [] => rfl
  | a :: x => by
    show (decide (a < a) || (a == a && Op.bytesLess x x)) = false
    rw [bytesLess_irrefl x]
    simp
theorem bytesLess_trans : ∀ x y z : List UInt8, Op.bytesLess x y = true → Op.bytesLess y z = true → Op.bytesLess x z = true
  | [], [], _, h, _ => by simp [Op.bytesLess] at h
  | _ :: _, [], _, h, _ => by simp [Op.bytesLess] at h
  | _, _ :: _, [], _, h => by simp [Op.bytesLess] at h
  | [], _ :: _, _ :: _, _, _ => rfl
  | a :: x, b :: y, c :: z, h, k => by
    have h' : (decide (a < b) || (a == b && Op.bytesLess x y)) = true := h
    have k' : (decide (b < c) || (b == c && Op.bytesLess y z)) = true := k
    show (decide (a < c) || (a == c && Op.bytesLess x z)) = true
    simp only [Bool.or_eq_true, Bool.and_eq_true, decide_eq_true_eq, beq_iff_eq] at h' k' ⊢
    rcases h' with h1 | ⟨h1, h2⟩
    · rcases k' with k1 | ⟨k1, _⟩
      · exact .inl (UInt8.lt_trans h1 k1)
      · exact .inl (k1 ▸ h1)
    · rcases k' with k1 | ⟨k1, k2⟩
      · exact .inl (h1 ▸ k1)
      · exact .inr ⟨h1.trans k1, bytesLess_trans x y z h2 k2⟩
theorem bytesLess_total : ∀ x y : List UInt8, Op.bytesLess x y = false → Op.bytesLess y x = false → x = y
  | [], [], _, _ => rfl
  | [], _ :: _, h, _ => by simp [Op.bytesLess] at h
  | _ :: _, [], _, h => by simp [Op.bytesLess] at h
  | a :: x, b :: y, h, k => by
    have h' : (decide (a < b) || (a == b && Op.bytesLess x y)) = false := h
    have k' : (decide (b < a) || (b == a && Op.bytesLess y x)) = false := k
    simp only [Bool.or_eq_false_iff, Bool.and_eq_false_iff, decide_eq_false_iff_not, beq_eq_false_iff_ne] at h' k'
    have e : a = b := by
      rcases Nat.lt_trichotomy a.toNat b.toNat with q | q | q
      · exact absurd (UInt8.lt_iff_toNat_lt.2 q) h'.1
      · exact UInt8.toNat_inj.1 q
      · exact absurd (UInt8.lt_iff_toNat_lt.2 q) k'.1
    subst e
    rw [bytesLess_total x y (h'.2.resolve_left (fun q => q rfl)) (k'.2.resolve_left (fun q => q rfl))]
theorem toList_inj {x y : ByteArray} (h : x.toList = y.toList) : x = y := by
  rw [ByteArray.toList_eq, ByteArray.toList_eq] at h
  obtain ⟨⟨a⟩⟩ := x
  obtain ⟨⟨b⟩⟩ := y
  simp at h
  rw [h]
theorem ltB_irrefl (x : ByteArray) : ltB x x = false := bytesLess_irrefl _
theorem ltB_trans {x y z : ByteArray} (h : ltB x y = true) (k : ltB y z = true) : ltB x z = true := bytesLess_trans _ _ _ h k
theorem ltB_total {x y : ByteArray} (h : ltB x y = false) (k : ltB y x = false) : x = y := toList_inj (bytesLess_total _ _ h k)
theorem ltB_asymm {x y : ByteArray} (h : ltB x y = true) : ltB y x = false := by
  cases k : ltB y x with
  | false => rfl
  | true => have := ltB_trans h k; rw [ltB_irrefl] at this; exact this.symm
theorem ltB_ne {x y : ByteArray} (h : ltB x y = true) : x ≠ y := fun e => by subst e; rw [ltB_irrefl] at h; cases h

/-- what the comparisons of texts give -/
theorem run_geq {t u : ByteArray} {b : Bool} (h : ltB t u = b) (P : Program) (w : World) : ∀ T : TypeId, (binOp .geq T (.string t) (.string u)).run P w = .ok (.bool (!b)) w := by
  unfold ltB at h
  intro T
  simp [binOp, Op.stringOp, h]
theorem run_lss {t u : ByteArray} {b : Bool} (h : ltB t u = b) (P : Program) (w : World) : ∀ T : TypeId, (binOp .lss T (.string t) (.string u)).run P w = .ok (.bool b) w := by
  unfold ltB at h
  intro T
  simp [binOp, Op.stringOp, h]
theorem ltB_or_eq (t u : ByteArray) : (Op.bytesLess t.toList u.toList || t.toList == u.toList) = !ltB u t := by
  by_cases e : t = u
  · subst e; rw [ltB_irrefl]; simp
  · have e2 : (t.toList == u.toList) = false := by
      rw [beq_eq_false_iff_ne]; exact fun h => e (toList_inj h)
    rw [e2, Bool.or_false]
    show ltB t u = !ltB u t
    cases h : ltB u t with
    | true => rw [ltB_asymm h]; rfl
    | false =>
      cases k : ltB t u with
      | true => rfl
      | false => exact absurd (ltB_total k h) e
theorem run_leq {t u : ByteArray} {b : Bool} (h : ltB u t = b) (P : Program) (w : World) : ∀ T : TypeId, (binOp .leq T (.string t) (.string u)).run P w = .ok (.bool (!b)) w := by
  have := ltB_or_eq t u
  intro T
  rw [h] at this
  simp [binOp, Op.stringOp, Sem.run_pure, this]
theorem run_gtr {t u : ByteArray} {b : Bool} (h : ltB u t = b) (P : Program) (w : World) : ∀ T : TypeId, (binOp .gtr T (.string t) (.string u)).run P w = .ok (.bool b) w := by
  have := ltB_or_eq t u
  intro T
  rw [h] at this
  simp [binOp, Op.stringOp, Sem.run_pure, this]

def txt (l : List ByteArray) (i : Nat) : ByteArray := l.getD i ByteArray.empty
/-- are all of these of 32 bytes? -/
def szB (l : List ByteArray) : Bool := l.all fun d => decide (d.size = 32)
/-- do these rise, up to the n-th, without twins? -/
def riK (l : List ByteArray) (n : Nat) : Bool := (List.range n).all fun i => decide (i = 0) || ltB (txt l (i - 1)) (txt l i)
def riB (l : List ByteArray) : Bool := riK l l.length
theorem riK_zero (l : List ByteArray) : riK l 0 = true := rfl
theorem riK_succ (l : List ByteArray) (n : Nat) : riK l (n + 1) = (riK l n && (decide (n = 0) || ltB (txt l (n - 1)) (txt l n))) := by
  unfold riK
  rw [List.range_succ, List.all_append]
  simp
theorem riK_at {l : List ByteArray} {n i : Nat} (h : riK l n = true) (hi : i < n) (h0 : 0 < i) : ltB (txt l (i - 1)) (txt l i) = true := by
  unfold riK at h
  rw [List.all_eq_true] at h
  have := h i (List.mem_range.2 hi)
  rw [Bool.or_eq_true] at this
  exact this.resolve_left (fun e => by have := of_decide_eq_true e; omega)
theorem riK_false {l : List ByteArray} {n i : Nat} (hi : i < n) (h0 : 0 < i) (h : ltB (txt l (i - 1)) (txt l i) = false) : riK l n = false := by
  cases e : riK l n with
  | false => rfl
  | true => have := riK_at e hi h0; rw [h] at this; exact this.symm
/-- a list that rises: of any two the first is less -/
theorem riK_lt {l : List ByteArray} {n : Nat} (h : riK l n = true) : ∀ j i, i < j → j < n → ltB (txt l i) (txt l j) = true
  | 0, i, hi, _ => absurd hi (Nat.not_lt_zero i)
  | j + 1, i, hi, hj => by
    have h1 := riK_at h hj (Nat.succ_pos j)
    rw [Nat.add_sub_cancel] at h1
    by_cases e : i = j
    · subst e; exact h1
    · exact ltB_trans (riK_lt h j i (by omega) (by omega)) h1
/-- digests: of 32 bytes, rising -/
def dgB (l : List ByteArray) : Bool := szB l && riB l

structure Mf where
  k : Int
  bs : List ByteArray
  us : List ByteArray
def mfFew (m : Mf) : Bool := decide (m.bs.length + m.us.length ≤ 20)
def mfMade (m : Mf) : Bool := decide (0 ≤ m.k) && (decide (m.k ≤ 255) && (szB m.bs && szB m.us))
/-- may a manifest be? -/
def mfB (m : Mf) : Bool := mfFew m && (mfMade m && (riB m.bs && riB m.us))
end Go.Proofs.Ytdllenoclnmmdaa
