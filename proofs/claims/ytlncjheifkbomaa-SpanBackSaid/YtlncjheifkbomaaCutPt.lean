/- cut.Parts: the pieces of a text in memory of their own: what the round knows, world by world (no conditions). -/
import Derived.Test.YtlncjheifkbomaaCutP
import Derived.Test.YtlncjheifkbomaaPjIn
import Derived.Laws.OwnMore
import Derived.Maps.AppendAt
import Derived.Test.YtlncjheifkbomaaShelf
namespace Go.Proofs.Ytlncjheifkbomaa
open Go.RowKit Go.Shelf
attribute [local go_sem] Oper.semAt_some

theorem own_kept {A B : World} {base : Nat} {e : TypeId} {s n : Nat} {v : Value} {xs : List Value} (h : A.ownsRow base e s v n xs) (k : Kept A B) : B.ownsRow base e s v n xs := by
  obtain ⟨h1, h2 | ⟨g, cap, cur, hv, hb, hg, h3⟩⟩ := h
  · exact ⟨h1, .inl h2⟩
  · exact ⟨h1, .inr ⟨g, cap, cur, hv, hb, BlockAt.kept (show BlockAt A g cur e from hg) k, h3⟩⟩
theorem block_grown {w w' : World} {b : Nat} {C : Array Value} {t : TypeId} {row : Option Nat} (h : BlockAt w b C t) (g : w.grownBy w' row) (hne : some b ≠ row) : BlockAt w' b C t := (g.block b h.lt hne).trans h
theorem block_own {w w' : World} {b : Nat} {C : Array Value} {t : TypeId} {row : Option Nat} (h : BlockAt w b C t) (g : w.grownBy w' row) (hr : ∀ k, row = some k → ∃ o : Obj, w.heap[k]? = some o ∧ o.isCells = false) : BlockAt w' b C t := block_grown h g (fun e => by
  obtain ⟨o, ho, hc⟩ := hr b e.symm
  rw [show w.heap[b]? = _ from h] at ho
  cases ho
  cases hc)
theorem own_own {A B : World} {base : Nat} {e : TypeId} {s n : Nat} {v : Value} {xs : List Value} {row : Option Nat} (h : A.ownsRow base e s v n xs) (k : A.grownBy B row) (hr : ∀ k, row = some k → ∃ o : Obj, A.heap[k]? = some o ∧ o.isCells = false) : B.ownsRow base e s v n xs := by
  obtain ⟨h1, h2 | ⟨g, cap, cur, hv, hb, hg, h3⟩⟩ := h
  · exact ⟨h1, .inl h2⟩
  · exact ⟨h1, .inr ⟨g, cap, cur, hv, hb, block_own (show BlockAt A g cur e from hg) k hr, h3⟩⟩
theorem others_own {A B : World} {base : Nat} {e : TypeId} {s n : Nat} {v : Value} {xs : List Value} (h : A.ownsRow base e s v n xs) (g : A.grownBy B v.ownBlock) : KeepsOthers A B :=
  KeepsOthers.of_grownBy g (fun j _ e ho => by
    obtain ⟨h1, h2 | ⟨g, cap, cur, hv, hb, hg, h3⟩⟩ := h
    · rw [h2.1] at e; cases e
    · rw [hv] at e
      cases e
      rw [hg] at ho
      cases ho
      rfl)
theorem but_own {R : Nat → Prop} {A B : World} {row : Option Nat} (g : A.grownBy B row) (hR : ∀ k, row = some k → R k) : CellsBut R A B :=
  ⟨g.size, fun i cs t fr hr hi => by
    have hlt : i < A.heap.size := (Array.getElem?_eq_some_iff.1 hi).1
    exact (g.block i hlt (fun e => hr (hR i e.symm))).trans hi⟩
theorem others_kept {A B : World} (k : Kept A B) : KeepsOthers A B := ⟨Below.size k, fun i _ hi _ => (Below.block k i (Array.getElem?_eq_some_iff.1 hi).1).trans hi⟩

theorem own_slice {A : World} {base : Nat} {e : TypeId} {s n : Nat} {v : Value} {xs : List Value} (h : A.ownsRow base e s v n xs) : ∃ a m c, v = .slice a m c := by
  obtain ⟨_, h2 | ⟨g, cap, cur, hv, _⟩⟩ := h
  · exact ⟨_, _, _, h2.1⟩
  · exact ⟨_, _, _, hv⟩
theorem strs_own {w : World} {base l : Nat} {e : TypeId} {v : Value} {ss : List ByteArray} (ho : w.ownsRow base e 1 v l (ss.map Value.string)) (hl : ss.length = l) (hs : ∀ s ∈ ss, s.size ≤ 9223372036854775807) :
    ∃ a cap, v = .slice a l cap ∧ l ≤ cap ∧ StrsIn w a l ss := by
  rcases ho.2 with ⟨rfl, rfl⟩ | ⟨g, cap, cur, rfl, hb, hg, hn, hm, _⟩
  · exact ⟨none, 0, rfl, Nat.le_refl _, hl, by omega, hs, 0, 0, fun h => absurd h (Nat.lt_irrefl 0), fun i hi => absurd hi (Nat.not_lt_zero i)⟩
  · refine ⟨_, cap, rfl, hn, hl, by unfold maxLen at hm; omega, hs, g, 0, fun _ => rfl, fun i hi => ⟨(ho.lt g rfl).2, ?_⟩⟩
    rw [Nat.zero_add, ho.cellAt i (by omega)]
    have hi' : i < ss.length := by omega
    simp [List.getD, hi']
/-- what a range leaves of itself touches no text -/
theorem strs_put {W : World} {D : Nat} {o o' : Obj} {a : Option Addr} {l : Nat} {ss : List ByteArray} (h : StrsIn W a l ss) (hD : W.heap[D]? = some o) (hc : o.isCells = false) : StrsIn (W.putObj D o') a l ss := by
  obtain ⟨b, off, ha, hcs⟩ := h.cells
  refine ⟨h.len_eq, h.le, h.sizes, b, off, ha, fun i hi => ?_⟩
  obtain ⟨h1, h2⟩ := hcs i hi
  refine ⟨by simpa using h1, ?_⟩
  have hne : b ≠ D := fun e => by
    subst e
    unfold World.cell? at h2
    rw [hD] at h2
    cases o <;> first | (cases hc; done) | (simp at h2; done)
  have hb : (W.putObj D o').heap[b]? = W.heap[b]? := (grown_put W D o').block b h1 (fun e => hne (by cases e; rfl))
  unfold World.cell? at h2 ⊢
  rw [hb]
  exact h2
theorem operIn_append {F : Fence} {n : Nat} {P : Program} {o : Oper} {a : Act} {w w' : World} {K : Act → World → Prop} {Q : Exit → Act → World → Prop} (hF : ∀ f, F.fn f) (s x : Operand) (t : TypeId) (ho : o.op = .call { callee := .builtin .append, args := #[s, x], argTypes := #[t, t] }) {v sl v' : Value}
    (hs : a.eval s = v) (hx : a.eval x = sl) (hr : (Builtin.append_ #[t, t] o.type #[v, sl]).run P w = .ok v' w') (hK : K (a.put o.dst v') w') : Oper.wpIn F n P o a w K Q :=
  Pj.operIn_value hF (by rw [ho]; intro c h; cases h) (by
    unfold execOp
    simp only [ho, resolve, invoke, builtin, Sem.run_bind, Sem.run_pure, Result.andThen_ok, List.map_toArray, List.map_cons, List.map_nil, hs, hx, hr]) hK
theorem Try.infoStr : (Try.prog.info? 9).map (fun i => (i.zero, i.size, i.bytes)) = some (some (.string ByteArray.empty), 1, 16) := by kernel_rfl

/-- strings.Clone: the same bytes -/
theorem clone_any (s : ByteArray) (w : World) (h : s.size ≤ 281474976710656) : Calls Try.prog 43 #[.string s] w fun e w' => e = .returned (.string s) ∧ Kept w w' := by
  go_enter Try.func43, Try.ntmps43
  go_wp2_with fail
  refine (Try.stringslite_Clone s _ h).mono ?_
  rintro e w1 ⟨rfl, hk⟩
  have HK := Lib.hid (show Kept w w1 from hk)
  clear hk
  go_wp2
  go_ret
  exact ⟨rfl, HK.out⟩

/-- the round's region: what the operations that are done have left (W1 the world it begins in; v the slice that is; R the blocks that the slice may own) -/
structure PtJ (W1 : World) (base pl : Nat) (R : Nat → Prop) (v : Value) (k : Nat) (xs : List Value) (t : ByteArray) (L : Nat → Prop) (V : Nat → Value) (w : World) : Prop where
  o2 : L 2 → L 1
  o3 : L 3 → L 2
  o4 : L 4 → L 0 ∧ L 1 ∧ L 2 ∧ L 3
  o5 : L 5 → L 4
  e0 : L 0 → V 0 = v
  e1 : L 1 → V 1 = .string t
  e2 : L 2 → V 2 = .string t
  e3 : L 3 → ¬ L 4 → ∃ b, V 3 = .slice (some ⟨b, 0, none⟩) 1 1 ∧ b < w.heap.size ∧ w.cell? ⟨b, 0, none⟩ = some (.string t)
  s0 : ¬ L 4 → Kept W1 w
  s1 : L 4 → KeepsOthers W1 w ∧ CellsBut (fun j => R j ∨ j = pl) W1 w ∧ Below base W1 w ∧ w.ownsRow base 9 1 (V 4) (k + 1) (xs ++ [.string t]) ∧ (∀ g, (V 4).ownBlock = some g → R g)
  s4 : L 4 → ¬ L 5 → BlockAt w pl #[v] 23
  s5 : L 5 → BlockAt w pl #[V 4] 23
section
variable {W1 : World} {base pl : Nat} {R : Nat → Prop} {v : Value} {k : Nat} {xs : List Value} {t : ByteArray} {L L' : Nat → Prop} {V : Nat → Value} {w w' : World}
theorem PtJ.start (hL : ∀ j, j < 6 → ¬ L j) (k1 : Kept W1 w) : PtJ W1 base pl R v k xs t L V w :=
  ⟨fun h => absurd h (hL 2 (by decide)), fun h => absurd h (hL 3 (by decide)), fun h => absurd h (hL 4 (by decide)), fun h => absurd h (hL 5 (by decide)), fun h => absurd h (hL 0 (by decide)), fun h => absurd h (hL 1 (by decide)), fun h => absurd h (hL 2 (by decide)), fun h => absurd h (hL 3 (by decide)), fun _ => k1,
    fun h => absurd h (hL 4 (by decide)), fun h => absurd h (hL 4 (by decide)), fun h => absurd h (hL 5 (by decide))⟩
theorem PtJ.low {i : Nat} (h : PtJ W1 base pl R v k xs t L V w) (hi : i < 4) (ho : ¬ L i) : ¬ L 4 := fun h4 => by
  obtain ⟨a, b, c, d⟩ := h.o4 h4
  match i, hi with
  | 0, _ => exact ho a
  | 1, _ => exact ho b
  | 2, _ => exact ho c
  | 3, _ => exact ho d
theorem PtJ.more {i : Nat} {x : Value} (h : PtJ W1 base pl R v k xs t L V w) (hi : i < 4) (ho : ¬ L i) (hL : ∀ j, L' j ↔ (j = i ∨ L j)) (hk : Kept w w') (d2 : i = 2 → L 1) (d3 : i = 3 → L 2)
    (x0 : i = 0 → x = v) (x1 : i = 1 → x = .string t) (x2 : i = 2 → x = .string t) (x3 : i = 3 → ∃ b, x = .slice (some ⟨b, 0, none⟩) 1 1 ∧ b < w'.heap.size ∧ w'.cell? ⟨b, 0, none⟩ = some (.string t)) : PtJ W1 base pl R v k xs t L' (Pj.vset V i x) w' := by
  have h4 := h.low hi ho
  have h4' : ¬ L' 4 := fun z => by rcases (hL 4).1 z with e | e; omega; exact h4 e
  have h5' : ¬ L' 5 := fun z => by rcases (hL 5).1 z with e | e; omega; exact h4 (h.o5 e)
  refine ⟨fun z => (hL 1).2 (.inr (((hL 2).1 z).elim (fun e => d2 e.symm) h.o2)), fun z => (hL 2).2 (((hL 3).1 z).elim (fun e => .inr (d3 e.symm)) (fun z => .inr (h.o3 z))), fun z => absurd z h4', fun z => absurd z h5', fun z => ?_, fun z => ?_, fun z => ?_, fun z _ => ?_, fun _ => (h.s0 h4).trans hk, fun z => absurd z h4', fun z => absurd z h4', fun z => absurd z h5'⟩
  · by_cases e : 0 = i
    · subst e; rw [Pj.vset_same]; exact x0 rfl
    · rw [Pj.vset_other _ _ e]; exact h.e0 (((hL 0).1 z).resolve_left e)
  · by_cases e : 1 = i
    · subst e; rw [Pj.vset_same]; exact x1 rfl
    · rw [Pj.vset_other _ _ e]; exact h.e1 (((hL 1).1 z).resolve_left e)
  · by_cases e : 2 = i
    · subst e; rw [Pj.vset_same]; exact x2 rfl
    · rw [Pj.vset_other _ _ e]; exact h.e2 (((hL 2).1 z).resolve_left e)
  · by_cases e : 3 = i
    · subst e; rw [Pj.vset_same]; exact x3 rfl
    · rw [Pj.vset_other _ _ e]
      obtain ⟨b, e1, e2, e3⟩ := h.e3 (((hL 3).1 z).resolve_left e) h4
      exact ⟨b, e1, Nat.lt_of_lt_of_le e2 hk.size, hk.cell e2 e3⟩
theorem PtJ.app {x : Value} (h : PtJ W1 base pl R v k xs t L V w) (ho : ¬ L 4) (hL : ∀ j, L' j ↔ (j = 4 ∨ L j)) (hd : L 0 ∧ L 1 ∧ L 2 ∧ L 3) (hbase : base ≤ W1.heap.size) (hown : W1.ownsRow base 9 1 v k xs) (hR : ∀ g, v.ownBlock = some g → R g) (hpl : BlockAt W1 pl #[v] 23) (hnp : ¬ R pl) (hRn : ∀ g, W1.heap.size ≤ g → R g)
    (hx : w'.ownsRow base 9 1 x (k + 1) (xs ++ [.string t])) (hg : w.grownBy w' v.ownBlock) (hb : x.ownBlock = v.ownBlock ∨ x.ownBlock = some w.heap.size) : PtJ W1 base pl R v k xs t L' (Pj.vset V 4 x) w' := by
  have k1 := h.s0 ho
  have l5 : ¬ L' 5 := fun z => by rcases (hL 5).1 z with e | e; cases e; exact ho (h.o5 e)
  have l4 : L' 4 := (hL 4).2 (.inl rfl)
  have hown1 := own_kept hown k1
  refine ⟨fun _ => (hL 1).2 (.inr hd.2.1), fun _ => (hL 2).2 (.inr hd.2.2.1), fun _ => ⟨(hL 0).2 (.inr hd.1), (hL 1).2 (.inr hd.2.1), (hL 2).2 (.inr hd.2.2.1), (hL 3).2 (.inr hd.2.2.2)⟩, fun z => absurd z l5, fun _ => ?_, fun _ => ?_, fun _ => ?_, fun _ z => absurd l4 z, fun z => absurd l4 z,
    fun _ => ⟨(others_kept k1).trans (others_own hown1 hg), (CellsBut.of_kept k1).trans (but_own hg (fun j e => .inl (hR j e))), Below.trans (Below.mono k1 hbase) ⟨hg.os, hg.tape, hg.output, hg.size, fun j hj => hg.block j (Nat.lt_of_lt_of_le hj (Nat.le_trans hbase k1.size)) (fun e => by have := (hown1.lt j e.symm).1; omega)⟩, by rw [Pj.vset_same]; exact hx, fun g e => ?_⟩,
    fun _ _ => block_grown (hpl.kept k1) hg (fun e => hnp (hR pl e.symm)), fun z => absurd z l5⟩
  · rw [Pj.vset_other _ _ (by decide)]; exact h.e0 hd.1
  · rw [Pj.vset_other _ _ (by decide)]; exact h.e1 hd.2.1
  · rw [Pj.vset_other _ _ (by decide)]; exact h.e2 hd.2.2.1
  · rw [Pj.vset_same] at e
    rcases hb with hb | hb
    · exact hR g (hb ▸ e)
    · rw [hb] at e
      cases e
      exact hRn _ k1.size
theorem PtJ.put (h : PtJ W1 base pl R v k xs t L V w) (h4 : L 4) (ho : ¬ L 5) (hL : ∀ j, L' j ↔ (j = 5 ∨ L j)) (hpb : base ≤ pl) (hnp : ¬ R pl) (x : Value) : PtJ W1 base pl R v k xs t L' (Pj.vset V 5 x) (w.setCell ⟨pl, 0, none⟩ (V 4)) := by
  obtain ⟨a1, a2, a3, a4, a5⟩ := h.s1 h4
  obtain ⟨d0, d1, d2, d3⟩ := h.o4 h4
  have l4 : L' 4 := (hL 4).2 (.inr h4)
  have l5 : L' 5 := (hL 5).2 (.inl rfl)
  have hg : w.grownBy (w.setCell ⟨pl, 0, none⟩ (V 4)) (some pl) := ⟨rfl, rfl, rfl, by simp, fun k _ hne => Below.heap_setCell w ⟨pl, 0, none⟩ (V 4) k (fun e => hne (by rw [e]))⟩
  refine ⟨fun _ => (hL 1).2 (.inr d1), fun _ => (hL 2).2 (.inr d2), fun _ => ⟨(hL 0).2 (.inr d0), (hL 1).2 (.inr d1), (hL 2).2 (.inr d2), (hL 3).2 (.inr d3)⟩, fun _ => l4, fun _ => ?_, fun _ => ?_, fun _ => ?_, fun _ z => absurd l4 z, fun z => absurd l4 z,
    fun _ => ⟨a1.trans (KeepsOthers.setCell _ _ _), a2.trans (CellsBut.setCell _ _ (.inr rfl)), a3.setCell (p := ⟨pl, 0, none⟩) hpb _, ?_, ?_⟩, fun _ z => absurd l5 z, fun _ => ?_⟩
  · rw [Pj.vset_other _ _ (by decide)]; exact h.e0 d0
  · rw [Pj.vset_other _ _ (by decide)]; exact h.e1 d1
  · rw [Pj.vset_other _ _ (by decide)]; exact h.e2 d2
  · rw [Pj.vset_other _ _ (by decide)]
    obtain ⟨h1, h2 | ⟨g, cap, cur, hv, hb, hgg, h3⟩⟩ := a4
    · exact ⟨h1, .inl h2⟩
    · exact ⟨h1, .inr ⟨g, cap, cur, hv, hb, block_grown (show BlockAt w g cur _ from hgg) hg (fun e => by
        have hRg := a5 g (by rw [hv]; rfl)
        cases e
        exact hnp hRg), h3⟩⟩
  · rw [Pj.vset_other _ _ (by decide)]; exact a5
  · rw [Pj.vset_other _ _ (by decide)]
    have := (h.s4 h4 ho).set (i := 0) (V 4)
    simpa using this
end
end Go.Proofs.Ytlncjheifkbomaa
