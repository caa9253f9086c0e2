/- What the walk of RecordBytes keeps from round to round: small laws (no conditions). -/
import Derived.Test.YtoanldoocmmhjaaRl3
import Derived.Test.YtoanldoocmmhjaaRl6
import Derived.Test.YtoanldoocmmhjaaRr3
import Derived.Test.YtoanldoocmmhjaaRr5
import Derived.Test.YtoanldoocmmhjaaRr8d
import Derived.Test.YtoanldoocmmhjaaRc11
import Derived.Test.YtoanldoocmmhjaaTail
import Derived.Test.YtoanldoocmmhjaaLater
import Derived.Laws.BitsAllLaws
import Derived.Maps.AppendAt
namespace Go.Proofs.Ytoanldoocmmhjaa
open Go.RowKit
theorem if_len (c : Bool) (x : List UInt8) : (if c then x else []).length ≤ x.length := by
  split
  · exact Nat.le_refl _
  · exact Nat.zero_le _
theorem bytes_len (r : Rec) : 1 ≤ r.bytes.length ∧ r.bytes.length ≤ 20 + 8 * recLen r := by
  unfold Rec.bytes recLen
  simp only [List.length_append, Rc.hi_length]
  have h1 := if_len (Rc.fI r.kind) (Rc.hi r.id 4)
  have h2 := if_len (Rc.fN r.kind) (Rc.hi r.name.size 1 ++ r.name.data.toList)
  have h3 := if_len (Rc.fD r.kind) r.dig.data.toList
  have h4 := if_len (Rc.fL r.kind) (Rc.hi r.list.length 4 ++ Rc.hiL r.list)
  have h5 := if_len (Rc.fS r.kind) (Rc.hi r.slots.length 1 ++ Rc.hiS r.slots)
  simp only [List.length_append, Rc.hi_length, hiL_len, hiS_len] at h1 h2 h3 h4 h5
  have e1 : r.name.data.toList.length = r.name.size := by simp
  have e2 : r.dig.data.toList.length = r.dig.size := by simp
  rw [e1] at h2
  rw [e2] at h3
  omega
theorem eqB_self (r : Rec) : Rec.eqB r r = true := by unfold Rec.eqB; simp
theorem box3' {W : World} {b : Nat} {x y z : Value} {t : TypeId} (h : BlockAt W b #[x, y, z] t) : W.cell? ⟨b, 0, none⟩ = some x ∧ W.cell? ⟨b, 1, none⟩ = some y ∧ W.cell? ⟨b, 2, none⟩ = some z := box3 h
/-- one bit turned -/
theorem turn8' (x : UInt8) (r : Nat) (hr : r < 8) : ∃ y : UInt8, bits .xor .u8 (x.toNat : Int) ((2 : Int) ^ r % 256) = (y.toNat : Int) := by
  have hx := UInt8.toNat_lt x
  have hp : 2 ^ r < 256 := Nat.lt_of_lt_of_le (Nat.pow_lt_pow_right (by decide) hr) (by decide)
  have h := u8_xor_nat x.toNat (2 ^ r) hx hp
  have hl : x.toNat ^^^ 2 ^ r < 256 := Nat.xor_lt_two_pow (n := 8) hx hp
  refine ⟨UInt8.ofNat (x.toNat ^^^ 2 ^ r), ?_⟩
  rw [UInt8.toNat_ofNat', Nat.mod_eq_of_lt hl, ← h]
  congr 1
  have : ((2 ^ r % 256 : Nat) : Int) = (2 : Int) ^ r % 256 := by simp
  rw [← this, Nat.mod_eq_of_lt hp]
/-- texts of its own, an ask beside them -/
structure L1 (w wr : World) (C : Array Value) (N : Nat) (ts : List ByteArray) (v : Value) : Prop where
  own : wr.ownsRow (w.heap.size + 1) 9 1 v ts.length (ts.map Value.string)
  box : BlockAt wr w.heap.size C 26
  kept : Kept w wr
  short : ∀ t ∈ ts, t.size ≤ 100000
  few : ts.length ≤ N
theorem L1.later {w wr wx : World} {C : Array Value} {N M : Nat} {ts : List ByteArray} {v : Value} (h : L1 w wr C N ts v) (k : Kept wr wx) (hN : N ≤ M) : L1 w wx C M ts v :=
  ⟨own_kept h.own k, h.box.kept k, h.kept.trans k, h.short, Nat.le_trans h.few hN⟩
theorem L1.app {w wr wx wy : World} {C : Array Value} {N m : Nat} {ts us : List ByteArray} {v v' : Value} (h : L1 w wr C N ts v) (k : Kept wr wx) (g : wx.grownBy wy v.ownBlock)
    (o : wy.ownsRow (w.heap.size + 1) 9 1 v' (ts.length + m) (ts.map Value.string ++ us.map Value.string)) (hm : us.length = m) (hs : ∀ t ∈ us, t.size ≤ 100000) : L1 w wy C (N + m) (ts ++ us) v' := by
  refine ⟨?_, (h.box.kept k).gr g (own_hi h.own (by omega)), kept_gr (h.kept.trans k) g (fun g' e => by have := (h.own.lt g' e).1; omega), fun t ht => ?_, ?_⟩
  · rw [List.length_append, List.map_append, hm]; exact o
  · rcases List.mem_append.1 ht with h1 | h1
    · exact h.short t h1
    · exact hs t h1
  · rw [List.length_append, hm]; have := h.few; omega
theorem L1.block {w wr : World} {C : Array Value} {N : Nat} {ts : List ByteArray} {v : Value} (h : L1 w wr C N ts v) (g : Nat) (e : v.ownBlock = some g) : g < wr.heap.size := (h.own.lt g e).2
/-- since a world only one row has been written -/
structure FR (w4 wr : World) (v0 v : Value) : Prop where
  gr : w4.grownBy wr v0.ownBlock
  blk : v.ownBlock = v0.ownBlock ∨ ∀ g, v.ownBlock = some g → w4.heap.size ≤ g
theorem FR.start {w4 wr : World} {v0 : Value} (k : Kept w4 wr) : FR w4 wr v0 v0 := ⟨gr_kept k _, .inl rfl⟩
theorem FR.later {w4 wr wx : World} {v0 v : Value} (h : FR w4 wr v0 v) (k : Kept wr wx) : FR w4 wx v0 v := ⟨gr_trans h.gr (gr_kept k _), h.blk⟩
theorem FR.app {w4 wr wx wy : World} {v0 v v' : Value} (h : FR w4 wr v0 v) (k : Kept wr wx) (g : wx.grownBy wy v.ownBlock) (hb : v'.ownBlock = v.ownBlock ∨ v'.ownBlock = some wx.heap.size) : FR w4 wy v0 v' := by
  have hg := gr_trans h.gr (gr_kept k v0.ownBlock)
  refine ⟨?_, ?_⟩
  · rcases h.blk with e | e
    · rw [e] at g; exact gr_trans hg g
    · exact gr_then hg g e
  · rcases hb with e | e
    · rw [e]; exact h.blk
    · right
      intro g' e'
      rw [e] at e'
      cases e'
      exact hg.size
end Go.Proofs.Ytoanldoocmmhjaa
