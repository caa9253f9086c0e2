/- A table of truths of one's own, row by row a block: as it is built by append, and as it is written (no conditions). -/
import Derived.Test.YtjiefcjjgadjiaaDoorGlM
import Derived.Test.YtjiefcjjgadjiaaDoorHp
namespace Go.Proofs.YtjiefcjjgadjiaaDoor
open Go.RowKit Go.Shelf
def rowV (g n : Nat) : Value := .slice (some ⟨g, 0, none⟩) n n
theorem Bs.grown {w w' : World} {g n : Nat} {F : Nat → Bool} {row : Option Nat} (h : Bs w g n F) (k : w.grownBy w' row) (hne : row ≠ some g) : Bs w' g n F := by
  obtain ⟨⟨cs, hb⟩, hc⟩ := h
  have hb' : BlockAt w' g cs 4 := block_grown hb k (fun e => hne e.symm)
  exact ⟨⟨cs, hb'⟩, fun i hi => by rw [hb'.cell, ← hb.cell]; exact hc i hi⟩
theorem Bs.far {w : World} {g n : Nat} {F : Nat → Bool} (h : Bs w g n F) (b k : Nat) (v : Value) (hne : g ≠ b) : Bs (w.setCell ⟨b, k, none⟩ v) g n F := by
  obtain ⟨⟨cs, hb⟩, hc⟩ := h
  exact ⟨⟨cs, (Below.heap_setCell w ⟨b, k, none⟩ v g hne).trans hb⟩, fun i hi => by
    rw [World.cell?_setCell_other (h := fun e => hne (Addr.mk.inj e).1.symm)]
    exact hc i hi⟩
/-- a table under way -/
structure Tup (base : Nat) (W : World) (v : Value) (k n : Nat) (gs : Nat → Nat) : Prop where
  own : W.ownsRow base 51 1 v k ((List.range k).map fun i => rowV (gs i) n)
  row : ∀ i, i < k → Bs W (gs i) n (fun _ => false)
  low : ∀ i, i < k → base ≤ gs i
  ne : ∀ i, i < k → v.ownBlock ≠ some (gs i)
  inj : ∀ i j, i < k → j < k → gs i = gs j → i = j
theorem Tup.start (base : Nat) (W : World) (n : Nat) (gs : Nat → Nat) : Tup base W (.slice none 0 0) 0 n gs :=
  ⟨World.ownsRow_nil _ _ _ _, fun _ h => absurd h (Nat.not_lt_zero _), fun _ h => absurd h (Nat.not_lt_zero _), fun _ h => absurd h (Nat.not_lt_zero _), fun _ _ h => absurd h (Nat.not_lt_zero _)⟩
theorem Tup.more {base : Nat} {W : World} {v : Value} {k n : Nat} {gs : Nat → Nat} (h : Tup base W v k n gs) (hb : base ≤ W.heap.size) {w2 w9 : World} {v' : Value} {lit : Array Value} {t : TypeId}
    (h2 : w2 = (W.alloc (.cells (madeCells #[.bool false] n) 4)).alloc (.cells lit t))
    (hown : w9.ownsRow base 51 1 v' (k + 1) (((List.range k).map fun i => rowV (gs i) n) ++ [rowV W.heap.size n])) (hg : w2.grownBy w9 v.ownBlock) (hat : v'.ownBlock = v.ownBlock ∨ v'.ownBlock = some (W.heap.size + 1 + 1)) :
    Tup base w9 v' (k + 1) n (fun i => if i = k then W.heap.size else gs i) := by
  have hs : w2.heap.size = W.heap.size + 2 := by rw [h2]; simp
  have kk : Kept W w2 := by rw [h2]; exact ((Kept.refl W).alloc _).alloc _
  have hvne : v.ownBlock ≠ some W.heap.size := fun e => by have := (h.own.lt _ e).2; omega
  have hlt : ∀ i, i < k → gs i < W.heap.size := fun i hi => (h.row i hi).lt
  refine ⟨?_, fun i hi => ?_, fun i hi => ?_, fun i hi => ?_, fun i j hi hj e => ?_⟩
  · rw [List.range_succ, List.map_append, List.map_singleton, if_pos rfl]
    rw [show (List.range k).map (fun i => rowV (if i = k then W.heap.size else gs i) n) = (List.range k).map (fun i => rowV (gs i) n) from List.map_congr_left (fun i hi => by rw [if_neg (by have := List.mem_range.1 hi; omega)])]
    exact hown
  · by_cases e : i = k
    · rw [if_pos e]
      have hn : Bs w2 W.heap.size n (fun _ => false) := by rw [h2]; exact (Bs.new W n).kept ((Kept.refl _).alloc _)
      exact hn.grown hg hvne
    · rw [if_neg e]
      exact ((h.row i (by omega)).kept kk).grown hg (h.ne i (by omega))
  · by_cases e : i = k
    · rw [if_pos e]; exact hb
    · rw [if_neg e]; exact h.low i (by omega)
  · by_cases e : i = k
    · rw [if_pos e]
      rcases hat with q | q
      · rw [q]; exact hvne
      · rw [q]; intro e2; have := Option.some.inj e2; omega
    · rw [if_neg e]
      rcases hat with q | q
      · rw [q]; exact h.ne i (by omega)
      · rw [q]; intro e2; have := Option.some.inj e2; have := hlt i (by omega); omega
  · by_cases e1 : i = k <;> by_cases e2 : j = k
    · omega
    · rw [if_pos e1, if_neg e2] at e; have := hlt j (by omega); omega
    · rw [if_neg e1, if_pos e2] at e; have := hlt i (by omega); omega
    · rw [if_neg e1, if_neg e2] at e; exact h.inj i j (by omega) (by omega) e
/-- a table with one truth anew -/
def setM (M : Nat → Nat → Bool) (i x : Nat) (b : Bool) : Nat → Nat → Bool := fun r c => if r = i ∧ c = x then b else M r c
/-- a table that is read and written -/
structure Tab (base : Nat) (W : World) (T m n : Nat) (gs : Nat → Nat) (M : Nat → Nat → Bool) : Prop where
  top : ∀ i, i < m → W.cell? ⟨T, i, none⟩ = some (rowV (gs i) n)
  row : ∀ i, i < m → Bs W (gs i) n (M i)
  low : ∀ i, i < m → base ≤ gs i
  ne : ∀ i, i < m → gs i ≠ T
  inj : ∀ i j, i < m → j < m → gs i = gs j → i = j
theorem Tup.tab {base : Nat} {W : World} {v : Value} {m n : Nat} {gs : Nat → Nat} (h : Tup base W v m n gs) (hm : 0 < m) : ∃ T cap, v = .slice (some ⟨T, 0, none⟩) m cap ∧ Tab base W T m n gs (fun _ _ => false) := by
  have ho := h.own
  obtain ⟨hlen, ⟨rfl, rfl⟩ | ⟨g, cap, cur, rfl, hb, hg, _⟩⟩ := ho
  · omega
  · refine ⟨g, cap, rfl, fun i hi => ?_, h.row, h.low, fun i hi e => h.ne i hi (by show some g = some (gs i); rw [e]), h.inj⟩
    rw [h.own.cellAt i (by omega)]
    simp [hi]
theorem Tab.drew {base : Nat} {W : World} {T m n : Nat} {gs : Nat → Nat} {M : Nat → Nat → Bool} (h : Tab base W T m n gs M) (q : Nat) : Tab base (W.drewN q) T m n gs M := ⟨h.top, fun i hi => ⟨(h.row i hi).block, (h.row i hi).cell⟩, h.low, h.ne, h.inj⟩
theorem Tab.set {base : Nat} {W : World} {T m n : Nat} {gs : Nat → Nat} {M : Nat → Nat → Bool} (h : Tab base W T m n gs M) (i k : Nat) (hi : i < m) (hk : k < n) (b : Bool) (M' : Nat → Nat → Bool) (hM : ∀ r c, r < m → c < n → M' r c = if r = i ∧ c = k then b else M r c) :
    Tab base (W.setCell ⟨gs i, k, none⟩ (.bool b)) T m n gs M' := by
  refine ⟨fun r hr => ?_, fun r hr => ?_, h.low, h.ne, h.inj⟩
  · rw [World.cell?_setCell_other (h := fun e => h.ne i hi (Addr.mk.inj e).1)]
    exact h.top r hr
  · by_cases e : r = i
    · rw [e]
      exact (h.row i hi).set k hk b (M' i) (fun c hc => by
        rw [hM i c hi hc]
        by_cases e2 : c = k
        · rw [if_pos ⟨rfl, e2⟩, if_pos e2]
        · rw [if_neg (fun q => e2 q.2), if_neg e2])
    · exact ((h.row r hr).far (gs i) k (.bool b) (fun q => e (h.inj r i hr hi q))).congr (fun c hc => by rw [hM r c hr hc, if_neg (fun q => e q.1)])
theorem Tab.kept {base : Nat} {w W : World} {T m n : Nat} {gs : Nat → Nat} {M : Nat → Nat → Bool} (h : Tab base W T m n gs M) (hk : Kept w W) (hb : w.heap.size = base) (i k : Nat) (hi : i < m) (b : Bool) : Kept w (W.setCell ⟨gs i, k, none⟩ (.bool b)) :=
  hk.setCell (p := ⟨gs i, k, none⟩) (by rw [hb]; exact h.low i hi) (.bool b)
end Go.Proofs.YtjiefcjjgadjiaaDoor
