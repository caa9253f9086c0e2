
/- The reference of package array: blank: a new disk in the rows (conditions: the rows have a place for it). -/
import Derived.Test.YtkfomaoillnehaaAr24
import Derived.Test.YtkfomaoillnehaaAr16
namespace Go.Proofs.Ytkfomaoillnehaa
open Go.RowKit
attribute [local go_sem] Oper.semAt_some

/-- the rows of the reference's array, with a place d -/
structure BlR (w : World) (p A D E d : Nat) (bx : Array Value) : Prop where
  box : BlockAt w p bx 43
  a : ∃ cs, BlockAt w A cs 4
  dd : ∃ cs, BlockAt w D cs 59
  e : ∃ cs, BlockAt w E cs 59
  ca : ∃ v, w.cell? ⟨A, d, none⟩ = some v
  cd : ∃ v, w.cell? ⟨D, d, none⟩ = some v
  ce : ∃ v, w.cell? ⟨E, d, none⟩ = some v
  de : D ≠ E
/-- a new disk under way: k sectors are laid in the row v; the cache is in block cb -/
structure BlI (w : World) (p A D E d n cb base k : Nat) (bx : Array Value) (v : Value) (W : World) : Prop where
  r : BlR W p A D E d bx
  va : W.cell? ⟨A, d, none⟩ = some (.bool true)
  vd : W.cell? ⟨D, d, none⟩ = some v
  ve : W.cell? ⟨E, d, none⟩ = some (.slice (some ⟨cb, 0, none⟩) n n)
  own : W.ownsRow base 9 1 v k (List.replicate k (.string zeroT))
  tc : Txs W cb n (fun _ => ByteArray.empty)
  lo : w.heap.size ≤ cb ∧ cb < base
  but : CellsBut (fun b => b = A ∨ b = D ∨ b = E) w W
  low : ∀ B, B ≤ A → B ≤ D → B ≤ E → B ≤ w.heap.size → Below B w W
  oA : ∀ e, e ≠ d → W.cell? ⟨A, e, none⟩ = w.cell? ⟨A, e, none⟩
  oD : ∀ e, e ≠ d → W.cell? ⟨D, e, none⟩ = w.cell? ⟨D, e, none⟩
  oE : ∀ e, e ≠ d → W.cell? ⟨E, e, none⟩ = w.cell? ⟨E, e, none⟩
  sz : ∀ b t cs, (b = A ∨ b = D ∨ b = E) → BlockAt w b cs t → ∃ cs', BlockAt W b cs' t ∧ cs'.size = cs.size
theorem set_sz {w : World} {b c i : Nat} {t : TypeId} {cs : Array Value} {v : Value} (h : BlockAt w b cs t) : ∃ cs', BlockAt (w.setCell ⟨c, i, none⟩ v) b cs' t ∧ cs'.size = cs.size := by
  by_cases e : b = c
  · subst e; exact ⟨_, h.set v, by simp⟩
  · exact ⟨cs, h.setOther _ e, rfl⟩
theorem cell_kept {w W : World} {b o : Nat} (k : Kept w W) (h : b < w.heap.size) : W.cell? ⟨b, o, none⟩ = w.cell? ⟨b, o, none⟩ := by
  unfold World.cell?
  rw [Below.block k b h]
theorem cell_gr {w W : World} {b o : Nat} {row : Option Nat} (g : w.grownBy W row) (h : b < w.heap.size) (hne : some b ≠ row) : W.cell? ⟨b, o, none⟩ = w.cell? ⟨b, o, none⟩ := by
  unfold World.cell?
  rw [g.block b h hne]
theorem cell_set_ne {w : World} {b c i j : Nat} {v : Value} (h : b ≠ c ∨ i ≠ j) : (w.setCell ⟨c, j, none⟩ v).cell? ⟨b, i, none⟩ = w.cell? ⟨b, i, none⟩ := by
  have hne : (⟨c, j, none⟩ : Addr) ≠ ⟨b, i, none⟩ := fun e => by
    obtain ⟨e1, e2, _⟩ := Addr.mk.inj e
    rcases h with h | h
    · exact h e1.symm
    · exact h e2.symm
  rw [World.cell?_setCell_other (h := hne)]
theorem BlR.kept {w W : World} {p A D E d : Nat} {bx : Array Value} (h : BlR w p A D E d bx) (k : Kept w W) : BlR W p A D E d bx := by
  obtain ⟨ca, hA⟩ := h.a
  obtain ⟨cd, hD⟩ := h.dd
  obtain ⟨ce, hE⟩ := h.e
  exact ⟨h.box.kept k, ⟨ca, hA.kept k⟩, ⟨cd, hD.kept k⟩, ⟨ce, hE.kept k⟩, by rw [cell_kept k hA.lt]; exact h.ca, by rw [cell_kept k hD.lt]; exact h.cd, by rw [cell_kept k hE.lt]; exact h.ce, h.de⟩
theorem cell_some_set {w : World} {a b : Addr} {x : Value} (h : ∃ v, w.cell? a = some v) : ∃ v, (w.setCell b x).cell? a = some v := by
  obtain ⟨v, hv⟩ := h
  exact cell?_setCell_some (w := w) (p := b) (x := x) (q := a) (v := v) hv
/-- a store into one of the rows -/
theorem BlR.set {w : World} {p A D E d : Nat} {bx : Array Value} (h : BlR w p A D E d bx) (b i : Nat) (x : Value) (hb : b = A ∨ b = D ∨ b = E) : BlR (w.setCell ⟨b, i, none⟩ x) p A D E d bx := by
  obtain ⟨ca, hA⟩ := h.a
  obtain ⟨cd, hD⟩ := h.dd
  obtain ⟨ce, hE⟩ := h.e
  have hp : p ≠ b := by
    rcases hb with rfl | rfl | rfl
    · exact block_ne h.box hA (by decide)
    · exact block_ne h.box hD (by decide)
    · exact block_ne h.box hE (by decide)
  have st : ∀ q cs t, BlockAt w q cs t → ∃ cs', BlockAt (w.setCell ⟨b, i, none⟩ x) q cs' t := fun q cs t hq => by
    by_cases e : q = b
    · subst e; exact ⟨_, hq.set x⟩
    · exact ⟨cs, hq.setOther _ e⟩
  exact ⟨h.box.setOther _ hp, st _ _ _ hA, st _ _ _ hD, st _ _ _ hE, cell_some_set h.ca, cell_some_set h.cd, cell_some_set h.ce, h.de⟩
/-- the rows are no texts -/
theorem BlR.ne {w : World} {p A D E d : Nat} {bx : Array Value} (h : BlR w p A D E d bx) {q : Nat} {cs : Array Value} (hq : BlockAt w q cs 9) : q ≠ p ∧ q ≠ A ∧ q ≠ D ∧ q ≠ E := by
  obtain ⟨ca, hA⟩ := h.a
  obtain ⟨cd, hD⟩ := h.dd
  obtain ⟨ce, hE⟩ := h.e
  exact ⟨block_ne hq h.box (by decide), block_ne hq hA (by decide), block_ne hq hD (by decide), block_ne hq hE (by decide)⟩
theorem BlR.lts {w : World} {p A D E d : Nat} {bx : Array Value} (h : BlR w p A D E d bx) : p < w.heap.size ∧ A < w.heap.size ∧ D < w.heap.size ∧ E < w.heap.size ∧ A ≠ D ∧ A ≠ E := by
  obtain ⟨ca, hA⟩ := h.a
  obtain ⟨cd, hD⟩ := h.dd
  obtain ⟨ce, hE⟩ := h.e
  exact ⟨h.box.lt, hA.lt, hD.lt, hE.lt, block_ne hA hD (by decide), block_ne hA hE (by decide)⟩
/-- what another block is written leaves of the rows -/
theorem BlR.gr {w W : World} {p A D E d : Nat} {bx : Array Value} {row : Option Nat} (h : BlR w p A D E d bx) (g : w.grownBy W row) (hp : some p ≠ row) (ha : some A ≠ row) (hd : some D ≠ row) (he : some E ≠ row) : BlR W p A D E d bx := by
  obtain ⟨ca, hA⟩ := h.a
  obtain ⟨cd, hD⟩ := h.dd
  obtain ⟨ce, hE⟩ := h.e
  exact ⟨h.box.gr g hp, ⟨ca, hA.gr g ha⟩, ⟨cd, hD.gr g hd⟩, ⟨ce, hE.gr g he⟩, by rw [cell_gr g hA.lt ha]; exact h.ca, by rw [cell_gr g hD.lt hd]; exact h.cd, by rw [cell_gr g hE.lt he]; exact h.ce, h.de⟩
/-- one sector more -/
theorem BlI.step {w W Wb W9 : World} {p A D E d n cb base k : Nat} {bx : Array Value} {v v' : Value} (h : BlI w p A D E d n cb base k bx v W) (kb : Kept W Wb) (ho : W9.ownsRow base 9 1 v' (k + 1) (List.replicate k (.string zeroT) ++ [.string zeroT])) (hg : Wb.grownBy W9 v.ownBlock) : BlI w p A D E d n cb base (k + 1) bx v' (W9.setCell ⟨D, d, none⟩ v') := by
  have hrb := h.r.kept kb
  obtain ⟨l1, l2, l3, l4, ad, ae⟩ := h.r.lts
  obtain ⟨b1, b2, b3, b4, _, _⟩ := hrb.lts
  have hob := own_kept h.own kb
  have hst : ∀ q, v.ownBlock = some q → ∃ cs, BlockAt Wb q cs 9 := fun q e => by
    rcases hob.2 with ⟨e2, _⟩ | ⟨g, cap, cur, e2, _, hq, _⟩
    · rw [e2] at e; cases e
    · rw [e2] at e; cases e; exact ⟨cur, hq⟩
  have hne : some p ≠ v.ownBlock ∧ some A ≠ v.ownBlock ∧ some D ≠ v.ownBlock ∧ some E ≠ v.ownBlock := by
    refine ⟨fun e => ?_, fun e => ?_, fun e => ?_, fun e => ?_⟩
    all_goals
      obtain ⟨cs, hq⟩ := hst _ e.symm
      obtain ⟨q1, q2, q3, q4⟩ := hrb.ne hq
    · exact q1 rfl
    · exact q2 rfl
    · exact q3 rfl
    · exact q4 rfl
  have h9 := hrb.gr hg hne.1 hne.2.1 hne.2.2.1 hne.2.2.2
  have hcb : some cb ≠ v.ownBlock := fun e => by have := (h.own.lt cb e.symm).1; have := h.lo.2; omega
  have c9 : ∀ b e, b < W.heap.size → some b ≠ v.ownBlock → W9.cell? ⟨b, e, none⟩ = W.cell? ⟨b, e, none⟩ := fun b e hb hn => by
    rw [cell_gr hg (Nat.lt_of_lt_of_le hb (Kept.size kb)) hn, cell_kept kb hb]
  have ht9 := (h.tc.kept kb).gr hg hcb
  obtain ⟨ctc, htc⟩ := ht9.blk
  have hDt : cb ≠ D := (h9.ne htc).2.2.1
  obtain ⟨cd9, hD9⟩ := h9.dd
  have hb9 : CellsBut (fun b => b = A ∨ b = D ∨ b = E) w W9 := by
    refine ⟨Nat.le_trans h.but.size (Nat.le_trans (Kept.size kb) hg.size), fun b cs t fr hr hb => ?_⟩
    have hlt : b < w.heap.size := (Array.getElem?_eq_some_iff.1 hb).1
    have hbW := h.but.block b cs t fr hr hb
    have hltW : b < W.heap.size := (Array.getElem?_eq_some_iff.1 hbW).1
    rw [hg.block b (Nat.lt_of_lt_of_le hltW (Kept.size kb)) (fun e => by have := (h.own.lt b e.symm).1; have := h.lo; omega), Below.block kb b hltW]
    exact hbW
  refine ⟨h9.set D d v' (.inr (.inl rfl)), ?_, ?_, ?_, ?_, ?_, h.lo, ?_, ?_, fun e he => ?_, fun e he => ?_, fun e he => ?_, fun b t cs hb hbl => ?_⟩
  · rw [cell_set_ne (.inl ad), c9 A d l2 hne.2.1]; exact h.va
  · obtain ⟨x, hx⟩ := h9.cd
    exact World.cell?_setCell_same _ _ _ hx
  · rw [cell_set_ne (.inl (fun e => h.r.de e.symm)), c9 E d l4 hne.2.2.2]; exact h.ve
  · have hk : List.replicate (k + 1) (Value.string zeroT) = List.replicate k (.string zeroT) ++ [.string zeroT] := List.replicate_succ'
    rw [hk]
    refine ho.kept (gr_set W9 D d v') ?_
    rcases ho.2 with ⟨e3, _⟩ | ⟨q, cap, cur, e3, _, hq, _⟩
    · rw [e3]; exact .inl rfl
    · rw [e3]
      refine .inr fun e2 => ?_
      cases e2
      exact (h9.ne hq).2.2.1 rfl
  · exact ht9.other hDt v'
  · exact hb9.trans' (CellsBut.setCell W9 v' (.inr (.inl rfl)))
  · intro B hA hD hE hw
    refine Below.setCell ?_ (p := ⟨D, d, none⟩) hD v'
    exact Below.grown (Below.trans (h.low B hA hD hE hw) (Below.mono kb (Nat.le_trans hw h.but.size))) hg (Nat.le_trans hw (Nat.le_trans h.but.size (Kept.size kb))) (fun r e => by have := (h.own.lt r e).1; have := h.lo; omega)
  · rw [cell_set_ne (.inl ad), c9 A e l2 hne.2.1]; exact h.oA e he
  · rw [cell_set_ne (.inr he), c9 D e l3 hne.2.2.1]; exact h.oD e he
  · rw [cell_set_ne (.inl (fun x => h.r.de x.symm)), c9 E e l4 hne.2.2.2]; exact h.oE e he
  · obtain ⟨c1, hc1, e1⟩ := h.sz b t cs hb hbl
    have hn9 : some b ≠ v.ownBlock := by
      rcases hb with rfl | rfl | rfl
      · exact hne.2.1
      · exact hne.2.2.1
      · exact hne.2.2.2
    obtain ⟨c2, hc2, e2⟩ := set_sz (c := D) (i := d) (v := v') ((hc1.kept kb).gr hg hn9)
    exact ⟨c2, hc2, e2.trans e1⟩
/-- the stores and the making are done -/
theorem BlI.start {w : World} {p A D E d n cb : Nat} {bx : Array Value} (h : BlR w p A D E d bx) (hcb : cb = w.heap.size) : BlI w p A D E d n cb (cb + 1) 0 bx (.slice none 0 0) (((((w.setCell ⟨A, d, none⟩ (.bool true)).setCell ⟨D, d, none⟩ (.slice none 0 0)).setCell ⟨E, d, none⟩ (.slice (some ⟨cb, 0, none⟩) n n)).drew).alloc (.cells (madeCells #[.string ByteArray.empty] n) 9)) := by
  obtain ⟨l1, l2, l3, l4, ad, ae⟩ := h.lts
  have de := h.de
  have h1 := h.set A d (.bool true) (.inl rfl)
  have h2 := h1.set D d (.slice none 0 0) (.inr (.inl rfl))
  have h3 := h2.set E d (.slice (some ⟨cb, 0, none⟩) n n) (.inr (.inr rfl))
  obtain ⟨x1, k1⟩ := h.ca
  obtain ⟨x2, k2⟩ := h1.cd
  obtain ⟨x3, k3⟩ := h2.ce
  have hk := (Kept.refl (((w.setCell ⟨A, d, none⟩ (.bool true)).setCell ⟨D, d, none⟩ (.slice none 0 0)).setCell ⟨E, d, none⟩ (.slice (some ⟨cb, 0, none⟩) n n))).drew.alloc (.cells (madeCells #[.string ByteArray.empty] n) 9)
  have hz : (((w.setCell ⟨A, d, none⟩ (.bool true)).setCell ⟨D, d, none⟩ (.slice none 0 0)).setCell ⟨E, d, none⟩ (.slice (some ⟨cb, 0, none⟩) n n)).heap.size = w.heap.size := by simp
  obtain ⟨m1, m2, m3, m4, _, _⟩ := h3.lts
  have ht := Txs.made ((((w.setCell ⟨A, d, none⟩ (.bool true)).setCell ⟨D, d, none⟩ (.slice none 0 0)).setCell ⟨E, d, none⟩ (.slice (some ⟨cb, 0, none⟩) n n)).drew) n
  rw [World.size_drew, hz, ← hcb] at ht
  refine ⟨h3.kept hk, ?_, ?_, ?_, ⟨rfl, .inl ⟨rfl, rfl⟩⟩, ht, ⟨by omega, by omega⟩, ?_, ?_, fun e he => ?_, fun e he => ?_, fun e he => ?_, fun b t cs _ hbl => ?_⟩
  · rw [cell_kept hk m2, cell_set_ne (.inl ae), cell_set_ne (.inl ad), World.cell?_setCell_same _ _ _ k1]
  · rw [cell_kept hk m3, cell_set_ne (.inl de), World.cell?_setCell_same _ _ _ k2]
  · rw [cell_kept hk m4, World.cell?_setCell_same _ _ _ k3]
  · exact (((CellsBut.setCell w (.bool true) (.inl rfl)).trans' (CellsBut.setCell _ (.slice none 0 0) (.inr (.inl rfl)))).trans' (CellsBut.setCell _ _ (.inr (.inr rfl)))).trans' (CellsBut.of_kept hk)
  · intro B hA hD hE hw
    exact Below.trans (Below.setCell (Below.setCell (Below.setCell (Below.refl _ _) (p := ⟨A, d, none⟩) hA _) (p := ⟨D, d, none⟩) hD _) (p := ⟨E, d, none⟩) hE _) (Below.mono hk (by rw [hz]; exact hw))
  · rw [cell_kept hk m2, cell_set_ne (.inl ae), cell_set_ne (.inl ad), cell_set_ne (.inr he)]
  · rw [cell_kept hk m3, cell_set_ne (.inl de), cell_set_ne (.inr he), cell_set_ne (.inl (fun x => ad x.symm))]
  · rw [cell_kept hk m4, cell_set_ne (.inr he), cell_set_ne (.inl (fun x => de x.symm)), cell_set_ne (.inl (fun x => ae x.symm))]
  · obtain ⟨q1, hq1, s1⟩ := set_sz (c := A) (i := d) (v := .bool true) hbl
    obtain ⟨q2, hq2, s2⟩ := set_sz (c := D) (i := d) (v := .slice none 0 0) hq1
    obtain ⟨q3, hq3, s3⟩ := set_sz (c := E) (i := d) (v := .slice (some ⟨cb, 0, none⟩) n n) hq2
    exact ⟨q3, hq3.kept hk, by omega⟩
theorem bytes_zero : (⟨(List.replicate 64 (0 : UInt8)).toArray⟩ : ByteArray) = zeroT := rfl
end Go.Proofs.Ytkfomaoillnehaa
