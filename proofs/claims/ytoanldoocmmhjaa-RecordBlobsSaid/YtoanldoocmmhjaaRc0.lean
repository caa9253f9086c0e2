/- Records, as data: which fields a kind names, whether a record may be, its bytes (no conditions). -/
import Derived.Test.YtoanldoocmmhjaaStd
namespace Go.Proofs.Ytoanldoocmmhjaa
open Go.RowKit

/-- A slice value that reads as these slots. -/
structure SlotsIn (W : World) (a : Option Addr) (len : Nat) (zs : List (Int × Int)) : Prop where
  len_eq : zs.length = len
  le : len ≤ 9223372036854775807
  wf : ∀ x ∈ zs, (-9223372036854775808 ≤ x.1 ∧ x.1 ≤ 9223372036854775807) ∧ (-9223372036854775808 ≤ x.2 ∧ x.2 ≤ 9223372036854775807)
  cells : ∃ b off, (0 < len → a = some ⟨b, off, none⟩) ∧ ∀ i, i < len → b < W.heap.size ∧ W.cell? ⟨b, off + i * 2, none⟩ = some (.int .i64 (zs.getD i (0, 0)).1) ∧ W.cell? ⟨b, off + i * 2 + 1, none⟩ = some (.int .i64 (zs.getD i (0, 0)).2)
theorem SlotsIn.kept {W W' : World} {a : Option Addr} {len : Nat} {zs : List (Int × Int)} (h : SlotsIn W a len zs) (q : Kept W W') : SlotsIn W' a len zs := by
  obtain ⟨b, off, ha, hc⟩ := h.cells
  exact ⟨h.len_eq, h.le, h.wf, b, off, ha, fun i hi => ⟨Nat.lt_of_lt_of_le (hc i hi).1 q.size, q.cell (hc i hi).1 (hc i hi).2.1, q.cell (hc i hi).1 (hc i hi).2.2⟩⟩
theorem SlotsIn.nil (W : World) (a : Option Addr) : SlotsIn W a 0 [] := ⟨rfl, by omega, (fun x hx => (by cases hx)), 0, 0, fun h => absurd h (Nat.lt_irrefl 0), fun i hi => absurd hi (Nat.not_lt_zero i)⟩
theorem IntsIn.nil (W : World) (k : IntKind) (a : Option Addr) : IntsIn W k a 0 [] := ⟨rfl, by omega, (fun x hx => (by cases hx)), 0, 0, fun h => absurd h (Nat.lt_irrefl 0), fun i hi => absurd hi (Nat.not_lt_zero i)⟩
theorem SlotsIn.bd {W : World} {a : Option Addr} {len : Nat} {zs : List (Int × Int)} (h : SlotsIn W a len zs) (i : Nat) (hi : i < len) :
    (-9223372036854775808 ≤ (zs.getD i (0, 0)).1 ∧ (zs.getD i (0, 0)).1 ≤ 9223372036854775807) ∧ (-9223372036854775808 ≤ (zs.getD i (0, 0)).2 ∧ (zs.getD i (0, 0)).2 ≤ 9223372036854775807) := by
  have hl : i < zs.length := by rw [h.len_eq]; exact hi
  exact h.wf _ (by simp [List.getD, hl])
/-- the cells, in every later world -/
theorem SlotsIn.cell {W : World} {a : Option Addr} {l : Nat} {zs : List (Int × Int)} (h : SlotsIn W a l zs) (hl : 0 < l) : ∃ b off, a = some ⟨b, off, none⟩ ∧ ∀ i, i < l → ∀ w, Kept W w → w.cell? ⟨b, off + i * 2, none⟩ = some (.int .i64 (zs.getD i (0, 0)).1) ∧ w.cell? ⟨b, off + i * 2 + 1, none⟩ = some (.int .i64 (zs.getD i (0, 0)).2) := by
  obtain ⟨b, off, ha, hc⟩ := h.cells
  exact ⟨b, off, ha hl, fun i hi w k => ⟨k.cell (hc i hi).1 (hc i hi).2.1, k.cell (hc i hi).1 (hc i hi).2.2⟩⟩
theorem IntsIn.cell {W : World} {k : IntKind} {a : Option Addr} {l : Nat} {zs : List Int} (h : IntsIn W k a l zs) (hl : 0 < l) : ∃ b off, a = some ⟨b, off, none⟩ ∧ ∀ i, i < l → ∀ w, Kept W w → w.cell? ⟨b, off + i, none⟩ = some (.int k (zs.getD i 0)) := by
  obtain ⟨b, off, ha, hc⟩ := h.cells
  exact ⟨b, off, ha hl, fun i hi w kk => kk.cell (hc i hi).1 (hc i hi).2⟩

namespace Rc
/-- which fields a kind names -/
def fI (k : Int) : Bool := decide (k = 1 ∨ k = 2 ∨ k = 3 ∨ k = 4 ∨ k = 5)
def fN (k : Int) : Bool := decide (k = 7 ∨ k = 8)
def fD (k : Int) : Bool := decide (k = 4 ∨ k = 5 ∨ k = 6 ∨ k = 7)
def fL (k : Int) : Bool := decide (k = 2 ∨ k = 4 ∨ k = 5)
def fS (k : Int) : Bool := decide (k = 1 ∨ k = 2)
def okK (k : Int) : Bool := decide (1 ≤ k ∧ k ≤ 8)
def within (n a b : Int) : Bool := decide (a ≤ n ∧ n ≤ b)
def gen (n : Int) : Bool := within n 0 1073741824
def slotB (x : Int × Int) : Bool := within x.1 (-1) 11 && within x.2 0 63
def listB (k : Int) (zs : List Int) : Bool := decide (zs.length ≤ 2000) && !(decide (k = 2) && decide (zs.length ≠ 2)) && zs.all gen
def slotsB (zs : List (Int × Int)) : Bool := decide (1 ≤ zs.length ∧ zs.length ≤ 14) && zs.all slotB
end Rc
/-- A record. -/
structure Rec where
  kind : Int
  id : Int
  name : ByteArray
  dig : ByteArray
  list : List Int
  slots : List (Int × Int)
namespace Rec
def zero : Rec := ⟨0, 0, ByteArray.empty, ByteArray.empty, [], []⟩
def idB (r : Rec) : Bool := if Rc.fI r.kind then Rc.gen r.id else decide (r.id = 0)
def nameB (r : Rec) : Bool := if Rc.fN r.kind then decide (1 ≤ r.name.size ∧ r.name.size ≤ 40) else decide (r.name.size = 0)
def digB (r : Rec) : Bool := if Rc.fD r.kind then decide (r.dig.size = 32) else decide (r.dig.size = 0)
def lstB (r : Rec) : Bool := if Rc.fL r.kind then Rc.listB r.kind r.list else decide (r.list.length = 0)
def sltB (r : Rec) : Bool := if Rc.fS r.kind then Rc.slotsB r.slots else decide (r.slots.length = 0)
/-- may it be? -/
def may (r : Rec) : Bool := Rc.okK r.kind && idB r && nameB r && digB r && lstB r && sltB r
end Rec
namespace Rc
/-- n's lowest bytes, the highest first -/
def hi (n : Int) : Nat → List UInt8
  | 0 => []
  | k + 1 => UInt8.ofNat (n / 2 ^ (8 * k) % 256).toNat :: hi n k
theorem hi_length (n : Int) (k : Nat) : (hi n k).length = k := by
  induction k with
  | zero => rfl
  | succ k ih => simp [hi, ih]
def hiL (zs : List Int) : List UInt8 := zs.flatMap fun n => hi n 4
def hiS (zs : List (Int × Int)) : List UInt8 := zs.flatMap fun x => hi x.1 4 ++ hi x.2 4
end Rc
/-- its bytes -/
def Rec.bytes (r : Rec) : List UInt8 :=
  Rc.hi r.kind 1 ++ (if Rc.fI r.kind then Rc.hi r.id 4 else []) ++ (if Rc.fN r.kind then Rc.hi r.name.size 1 ++ r.name.data.toList else []) ++ (if Rc.fD r.kind then r.dig.data.toList else [])
    ++ (if Rc.fL r.kind then Rc.hi r.list.length 4 ++ Rc.hiL r.list else []) ++ (if Rc.fS r.kind then Rc.hi r.slots.length 1 ++ Rc.hiS r.slots else [])
/-- the cells of a record -/
def recCells (r : Rec) (al : Option Addr) (nl cl : Nat) (az : Option Addr) (nz cz : Nat) : Array Value := #[.int .i64 r.kind, .int .i64 r.id, .string r.name, .string r.dig, .slice al nl cl, .slice az nz cz]
/-- Lists that read as a record's. -/
structure RecIn (W : World) (r : Rec) (al : Option Addr) (nl : Nat) (az : Option Addr) (nz : Nat) : Prop where
  list : IntsIn W .i64 al nl r.list
  slots : SlotsIn W az nz r.slots
  kind : -9223372036854775808 ≤ r.kind ∧ r.kind ≤ 9223372036854775807
  id : -9223372036854775808 ≤ r.id ∧ r.id ≤ 9223372036854775807
  name : r.name.size ≤ 9223372036854775807
  dig : r.dig.size ≤ 9223372036854775807
theorem RecIn.kept {W W' : World} {r : Rec} {al : Option Addr} {nl : Nat} {az : Option Addr} {nz : Nat} (h : RecIn W r al nl az nz) (k : Kept W W') : RecIn W' r al nl az nz :=
  ⟨h.list.kept k, h.slots.kept k, h.kind, h.id, h.name, h.dig⟩
theorem box6 {W : World} {b : Nat} {x0 x1 x2 x3 x4 x5 : Value} {t : TypeId} (h : BlockAt W b #[x0, x1, x2, x3, x4, x5] t) : W.cell? ⟨b, 0, none⟩ = some x0 ∧ W.cell? ⟨b, 1, none⟩ = some x1 ∧ W.cell? ⟨b, 2, none⟩ = some x2 ∧ W.cell? ⟨b, 3, none⟩ = some x3 ∧ W.cell? ⟨b, 4, none⟩ = some x4 ∧ W.cell? ⟨b, 5, none⟩ = some x5 :=
  ⟨by simpa using h.cell 0, by simpa using h.cell 1, by simpa using h.cell 2, by simpa using h.cell 3, by simpa using h.cell 4, by simpa using h.cell 5⟩
end Go.Proofs.Ytoanldoocmmhjaa
