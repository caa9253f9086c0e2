
/- Package array as data: disks, what each call makes of them and tells (no conditions). A disk that is lost is none; a text of no bytes in the cache is nothing. The power: l is how many changes are left, 0 that it is off, -1 that it never goes. -/
import Derived.ProofKit
namespace Go.Proofs.Ytkfomaoillnehaa
open Go.RowKit

structure Dsk where
  k : Nat → ByteArray
  c : Nat → ByteArray
structure Arr where
  ds : Nat → Option Dsk
  m : Nat
  n : Nat
  g : Nat
  l : Int
def zeroT : ByteArray := ⟨(List.replicate 64 (0 : UInt8)).toArray⟩
def freshD : Dsk := ⟨fun _ => zeroT, fun _ => ByteArray.empty⟩
def newA (m n : Nat) : Arr := ⟨fun _ => some freshD, m, n, 0, -1⟩
def upF {α : Type} (f : Nat → α) (i : Nat) (x : α) : Nat → α := fun j => if j = i then x else f j
theorem upF_same {α : Type} (f : Nat → α) (i : Nat) (x : α) : upF f i x i = x := by simp [upF]
theorem upF_other {α : Type} (f : Nat → α) {i j : Nat} (x : α) (h : j ≠ i) : upF f i x j = f j := by simp [upF, h]
def isThere (S : Arr) (d : Int) : Bool := decide (0 ≤ d ∧ d < (S.m : Int))
def isSec (S : Arr) (s : Int) : Bool := decide (0 ≤ s ∧ s < (S.n : Int))
def liveA (S : Arr) (d : Int) : Bool := isThere S d && (S.ds d.toNat).isSome
/-- what a disk that is there answers ahead of all -/
def serveA (S : Arr) (d : Nat) : Int := if S.l = 0 then 9 else if (S.ds d).isNone then 8 else 0
def readD (x : Dsk) (s : Nat) : ByteArray := if (x.c s).size = 0 then x.k s else x.c s
def readA (S : Arr) (d s : Int) : ByteArray × Int :=
  if isThere S d = false ∨ isSec S s = false then (ByteArray.empty, 3) else if serveA S d.toNat = 0 then (match S.ds d.toNat with | none => ByteArray.empty | some x => readD x s.toNat, 0) else (ByteArray.empty, serveA S d.toNat)
/-- one change more -/
def chgA (S : Arr) : Arr := { S with g := S.g + 1, l := if 0 < S.l then S.l - 1 else S.l }
def putD (S : Arr) (d : Nat) (x : Dsk) : Arr := { S with ds := upF S.ds d (some x) }
def writeA (S : Arr) (d s : Int) (t : ByteArray) : Arr × Int :=
  if isThere S d = false ∨ isSec S s = false then (S, 3) else if t.size ≠ 64 then (S, 1) else if serveA S d.toNat = 0 then
    (match S.ds d.toNat with | none => (S, 0) | some x => (chgA (putD S d.toNat ⟨x.k, upF x.c s.toNat t⟩), 0)) else (S, serveA S d.toNat)
/-- the first i sectors are brought from the cache -/
def flushD (x : Dsk) (i : Nat) : Dsk := ⟨fun j => if j < i ∧ (x.c j).size ≠ 0 then x.c j else x.k j, fun j => if j < i then ByteArray.empty else x.c j⟩
def flushA (S : Arr) (d : Int) : Arr × Int :=
  if isThere S d = false then (S, 3) else if serveA S d.toNat = 0 then (match S.ds d.toNat with | none => (S, 0) | some x => (chgA (putD S d.toNat (flushD x S.n)), 0)) else (S, serveA S d.toNat)
def offA (S : Arr) (n : Int) : Arr := if S.l = 0 then S else { S with l := max (-1) n }
/-- is the j-th that lay in a cache picked? -/
def pickA (l : List Int) (j : Nat) : Bool := decide (0 < l.length) && decide (l.getD (j % l.length) 0 % 2 = 1)
/-- the first i sectors of a disk, of which j were dirty ahead -/
def crashR (l : List Int) (x : Dsk) (j : Nat) : Nat → Dsk × Nat
  | 0 => (x, j)
  | i + 1 => let r := crashR l x j i
    if (x.c i).size = 0 then r else (⟨if pickA l r.2 then upF r.1.k i (x.c i) else r.1.k, upF r.1.c i ByteArray.empty⟩, r.2 + 1)
/-- the first i disks -/
def crashD (l : List Int) (n : Nat) (ds : Nat → Option Dsk) : Nat → (Nat → Option Dsk) × Nat
  | 0 => (ds, 0)
  | i + 1 => let r := crashD l n ds i
    match ds i with
    | none => r
    | some x => (upF r.1 i (some (crashR l x r.2 n).1), (crashR l x r.2 n).2)
def crashA (S : Arr) (l : List Int) : Arr := { S with ds := (crashD l S.n S.ds S.m).1, l := -1 }
def loseA (S : Arr) (d : Int) : Arr × Int := if isThere S d = false then (S, 3) else ({ S with ds := upF S.ds d.toNat none }, 0)
def replA (S : Arr) (d : Int) : Arr × Int := if isThere S d = false then (S, 3) else (putD S d.toNat freshD, 0)
/-- one bit of a text turned -/
def turnT (t : ByteArray) (b : Nat) : ByteArray := ⟨(t.data.toList.set (b / 8) ((t.data.toList.getD (b / 8) 0) ^^^ (1 <<< (UInt8.ofNat (b % 8))))).toArray⟩
def flipA (S : Arr) (d b : Int) : Arr × Int :=
  if isThere S d = false then (S, 3) else if b < 0 then (S, 1) else match S.ds d.toNat with
    | none => (S, 8)
    | some x => (putD S d.toNat ⟨upF x.k (b.toNat % (S.n * 512) / 512) (turnT (x.k (b.toNat % (S.n * 512) / 512)) (b.toNat % (S.n * 512) % 512)), x.c⟩, 0)
/-- how many of the first i sectors are dirty; of the first i disks -/
def dirtyR (x : Dsk) : Nat → Nat
  | 0 => 0
  | i + 1 => dirtyR x i + if (x.c i).size = 0 then 0 else 1
def dirtyD (n : Nat) (ds : Nat → Option Dsk) : Nat → Nat
  | 0 => 0
  | i + 1 => dirtyD n ds i + match ds i with | none => 0 | some x => dirtyR x n
def dirtyA (S : Arr) : Nat := dirtyD S.n S.ds S.m
/-- what lies behind sector i is as it was -/
theorem crashR_behind (l : List Int) (x : Dsk) (j : Nat) : ∀ i s, i ≤ s → (crashR l x j i).1.k s = x.k s ∧ (crashR l x j i).1.c s = x.c s
  | 0, _, _ => ⟨rfl, rfl⟩
  | i + 1, s, h => by
    obtain ⟨h1, h2⟩ := crashR_behind l x j i s (by omega)
    unfold crashR
    dsimp only
    split
    · exact ⟨h1, h2⟩
    · refine ⟨?_, ?_⟩
      · dsimp only
        split
        · rw [upF_other _ _ (by omega)]; exact h1
        · exact h1
      · dsimp only
        rw [upF_other _ _ (by omega)]; exact h2
theorem crashD_behind (l : List Int) (n : Nat) (ds : Nat → Option Dsk) : ∀ i d, i ≤ d → (crashD l n ds i).1 d = ds d
  | 0, _, _ => rfl
  | i + 1, d, h => by
    have h1 := crashD_behind l n ds i d (by omega)
    unfold crashD
    dsimp only
    split
    · exact h1
    · dsimp only; rw [upF_other _ _ (by omega)]; exact h1
theorem flushD_zero (x : Dsk) : flushD x 0 = x := by
  obtain ⟨k, c⟩ := x
  simp [flushD]
theorem flushD_dirty (x : Dsk) (i : Nat) (h : (x.c i).size ≠ 0) : flushD x (i + 1) = ⟨upF (flushD x i).k i (x.c i), upF (flushD x i).c i ByteArray.empty⟩ := by
  unfold flushD upF
  dsimp only
  congr 1
  · funext j
    by_cases hj : j = i
    · subst hj; simp [h]
    · simp only [hj, if_false, show (j < i + 1) = (j < i) by simp; omega]
  · funext j
    by_cases hj : j = i
    · subst hj; simp
    · simp only [hj, if_false, show (j < i + 1) = (j < i) by simp; omega]
theorem flushD_clean (x : Dsk) (i : Nat) (h : (x.c i).size = 0) (he : x.c i = ByteArray.empty) : flushD x (i + 1) = flushD x i := by
  unfold flushD
  congr 1
  · funext j
    by_cases hj : j = i
    · subst hj; simp [h]
    · simp only [show (j < i + 1) = (j < i) by simp; omega]
  · funext j
    by_cases hj : j = i
    · subst hj; simp [he]
    · simp only [show (j < i + 1) = (j < i) by simp; omega]
/-- the power, as the program holds it -/
def Pow (off bound : Bool) (left l : Int) : Prop := (off = true ∧ l = 0) ∨ (off = false ∧ bound = false ∧ l = -1) ∨ (off = false ∧ bound = true ∧ left = l ∧ 1 ≤ l)
theorem Pow.off_iff {off bound : Bool} {left l : Int} (h : Pow off bound left l) : off = decide (l = 0) := by
  rcases h with ⟨h1, h2⟩ | ⟨h1, _, h2⟩ | ⟨h1, _, _, h2⟩
  · rw [h1, h2]; rfl
  · rw [h1, h2]; rfl
  · rw [h1]; exact (decide_eq_false (by omega)).symm
/-- one change more, while it is not off -/
theorem Pow.change {off bound : Bool} {left l : Int} (h : Pow off bound left l) (h0 : l ≠ 0) : Pow (if bound then decide (left - 1 ≤ 0) else off) bound (if bound then left - 1 else left) (if 0 < l then l - 1 else l) := by
  rcases h with ⟨_, h2⟩ | ⟨h1, h2, h3⟩ | ⟨h1, h2, h3, h4⟩
  · exact absurd h2 h0
  · subst h1 h2 h3; exact .inr (.inl ⟨rfl, rfl, by decide⟩)
  · subst h1 h2 h3
    rw [if_pos rfl, if_pos rfl, if_pos (by omega)]
    by_cases hl : left = 1
    · subst hl; exact .inl ⟨by decide, by decide⟩
    · exact .inr (.inr ⟨decide_eq_false (by omega), rfl, rfl, by omega⟩)
theorem Pow.turn (n : Int) : Pow (decide (n = 0)) (decide (0 ≤ n)) n (max (-1) n) := by
  by_cases hn : n = 0
  · subst hn; exact .inl ⟨by decide, by decide⟩
  by_cases hn2 : 0 ≤ n
  · exact .inr (.inr ⟨decide_eq_false hn, decide_eq_true hn2, by omega, by omega⟩)
  · exact .inr (.inl ⟨decide_eq_false hn, decide_eq_false hn2, by omega⟩)
end Go.Proofs.Ytkfomaoillnehaa
