/- Small laws on rows, blocks and lists of texts that any seat's walks use (no conditions). -/
import Derived.Test.YtdllenoclnmmdaaRound
import Derived.Test.YtdllenoclnmmdaaStrs
import Derived.Test.YtdllenoclnmmdaaRes
import Derived.Laws.OwnMore
import Derived.Maps.AppendAt
import Derived.Maps.OwnIn
namespace Go.Proofs.Ytdllenoclnmmdaa
open Go.RowKit

theorem own_kept {A B : World} {base : Nat} {e : TypeId} {s n : Nat} {v : Value} {xs : List Value} (h : A.ownsRow base e s v n xs) (k : Kept A B) : B.ownsRow base e s v n xs := by
  obtain ⟨h1, h2 | ⟨g, cap, cur, hv, hb, hg, h3⟩⟩ := h
  · exact ⟨h1, .inl h2⟩
  · exact ⟨h1, .inr ⟨g, cap, cur, hv, hb, BlockAt.kept (show BlockAt A g cur e from hg) k, h3⟩⟩
theorem block_grown {w w' : World} {b : Nat} {C : Array Value} {t : TypeId} {row : Option Nat} (h : BlockAt w b C t) (g : w.grownBy w' row) (hne : some b ≠ row) : BlockAt w' b C t := (g.block b h.lt hne).trans h
theorem block_own {w w' : World} {b : Nat} {C : Array Value} {t : TypeId} {row : Option Nat} (h : BlockAt w b C t) (g : w.grownBy w' row) (hr : ∀ k, row = some k → ∃ o : Obj, w.heap[k]? = some o ∧ o.isCells = false) : BlockAt w' b C t := block_grown h g (fun e => by
  obtain ⟨o, ho, hc⟩ := hr b e.symm
  rw [show w.heap[b]? = _ from h] at ho
  cases ho
  cases hc)
theorem own_own {A B : World} {base : Nat} {e : TypeId} {s n : Nat} {v : Value} {xs : List Value} {row : Option Nat} (h : A.ownsRow base e s v n xs) (k : A.grownBy B row) (hr : ∀ k, row = some k → ∃ o : Obj, A.heap[k]? = some o ∧ o.isCells = false) : B.ownsRow base e s v n xs := by
  obtain ⟨h1, h2 | ⟨g, cap, cur, hv, hb, hg, h3⟩⟩ := h
  · exact ⟨h1, .inl h2⟩
  · exact ⟨h1, .inr ⟨g, cap, cur, hv, hb, block_own (show BlockAt A g cur e from hg) k hr, h3⟩⟩
theorem others_own {A B : World} {base : Nat} {e : TypeId} {s n : Nat} {v : Value} {xs : List Value} (h : A.ownsRow base e s v n xs) (g : A.grownBy B v.ownBlock) : KeepsOthers A B :=
  KeepsOthers.of_grownBy g (fun j _ e ho => by
    obtain ⟨h1, h2 | ⟨g, cap, cur, hv, hb, hg, h3⟩⟩ := h
    · rw [h2.1] at e; cases e
    · rw [hv] at e
      cases e
      rw [hg] at ho
      cases ho
      rfl)
theorem but_own {R : Nat → Prop} {A B : World} {row : Option Nat} (g : A.grownBy B row) (hR : ∀ k, row = some k → R k) : CellsBut R A B :=
  ⟨g.size, fun i cs t fr hr hi => by
    have hlt : i < A.heap.size := (Array.getElem?_eq_some_iff.1 hi).1
    exact (g.block i hlt (fun e => hr (hR i e.symm))).trans hi⟩
theorem others_kept {A B : World} (k : Kept A B) : KeepsOthers A B := ⟨Below.size k, fun i _ hi _ => (Below.block k i (Array.getElem?_eq_some_iff.1 hi).1).trans hi⟩

theorem own_slice {A : World} {base : Nat} {e : TypeId} {s n : Nat} {v : Value} {xs : List Value} (h : A.ownsRow base e s v n xs) : ∃ a m c, v = .slice a m c := by
  obtain ⟨_, h2 | ⟨g, cap, cur, hv, _⟩⟩ := h
  · exact ⟨_, _, _, h2.1⟩
  · exact ⟨_, _, _, hv⟩
theorem strs_own {w : World} {base l : Nat} {e : TypeId} {v : Value} {ss : List ByteArray} (ho : w.ownsRow base e 1 v l (ss.map Value.string)) (hl : ss.length = l) (hs : ∀ s ∈ ss, s.size ≤ 9223372036854775807) :
    ∃ a cap, v = .slice a l cap ∧ l ≤ cap ∧ StrsIn w a l ss := by
  rcases ho.2 with ⟨rfl, rfl⟩ | ⟨g, cap, cur, rfl, hb, hg, hn, hm, _⟩
  · exact ⟨none, 0, rfl, Nat.le_refl _, hl, by omega, hs, 0, 0, fun h => absurd h (Nat.lt_irrefl 0), fun i hi => absurd hi (Nat.not_lt_zero i)⟩
  · refine ⟨_, cap, rfl, hn, hl, by unfold maxLen at hm; omega, hs, g, 0, fun _ => rfl, fun i hi => ⟨(ho.lt g rfl).2, ?_⟩⟩
    rw [Nat.zero_add, ho.cellAt i (by omega)]
    have hi' : i < ss.length := by omega
    simp [List.getD, hi']
/-- what a range leaves of itself touches no text -/
theorem strs_put {W : World} {D : Nat} {o o' : Obj} {a : Option Addr} {l : Nat} {ss : List ByteArray} (h : StrsIn W a l ss) (hD : W.heap[D]? = some o) (hc : o.isCells = false) : StrsIn (W.putObj D o') a l ss := by
  obtain ⟨b, off, ha, hcs⟩ := h.cells
  refine ⟨h.len_eq, h.le, h.sizes, b, off, ha, fun i hi => ?_⟩
  obtain ⟨h1, h2⟩ := hcs i hi
  refine ⟨by simpa using h1, ?_⟩
  have hne : b ≠ D := fun e => by
    subst e
    unfold World.cell? at h2
    rw [hD] at h2
    cases o <;> first | (cases hc; done) | (simp at h2; done)
  have hb : (W.putObj D o').heap[b]? = W.heap[b]? := (grown_put W D o').block b h1 (fun e => hne (by cases e; rfl))
  unfold World.cell? at h2 ⊢
  rw [hb]
  exact h2
theorem kept_gr1 {base : Nat} {W a b : World} {row : Option Nat} (h : Below base W a) (g : a.grownBy b row) (hr : ∀ k, row = some k → base ≤ k) (hb : base ≤ W.heap.size := by omega) : Below base W b :=
  ⟨g.os.trans h.os, g.tape.trans h.tape, g.output.trans h.output, Nat.le_trans h.size g.size, fun k hk => (g.block k (by have := h.size; omega) (fun e => by have := hr k e.symm; omega)).trans (h.block k hk)⟩
theorem own_own1 {A B : World} {base : Nat} {e : TypeId} {s n : Nat} {v : Value} {xs : List Value} {row : Option Nat} (h : A.ownsRow base e s v n xs) (g : A.grownBy B row) (hr : row ≠ v.ownBlock) : B.ownsRow base e s v n xs :=
  h.kept g (by
    cases hv : v.ownBlock with
    | none => exact .inl rfl
    | some k => exact .inr fun e => hr (by rw [hv, e]))
theorem slice_of_own1 {w : World} {base : Nat} {e : TypeId} {s n : Nat} {v : Value} {xs : List Value} (h : w.ownsRow base e s v n xs) : ∃ a cap, v = .slice a n cap := by
  obtain ⟨h1, ⟨rfl, rfl⟩ | ⟨g, cap, cur, rfl, hg, _, h3, _⟩⟩ := h
  · exact ⟨none, 0, rfl⟩
  · exact ⟨_, cap, rfl⟩
theorem StrsIn.at {W : World} {a : Option Addr} {l : Nat} {ss : List ByteArray} (h : StrsIn W a l ss) (hl : 0 < l) : ∃ b off, a = some ⟨b, off, none⟩ ∧ ∀ i, i < l → ∀ w, Kept W w → w.cell? ⟨b, off + i, none⟩ = some (.string (ss.getD i ByteArray.empty)) := by
  obtain ⟨b, off, ha, hc⟩ := h.cells
  exact ⟨b, off, ha hl, fun i hi w kk => kk.cell (hc i hi).1 (hc i hi).2⟩
end Go.Proofs.Ytdllenoclnmmdaa
