/- An element laid into a list: a copy of its head, one more, and its tail, in a region that draws its order (no conditions). -/
import Derived.Test.YtdllenoclnmmdaaApp
namespace Go.Proofs.Ytdllenoclnmmdaa.Pj
open Go.RowKit

/-- what the three makings have left: c the copy, b the block of the one, p the append of the one, q the append of the tail -/
structure Ins (base : Nat) (t : TypeId) (s na nb : Nat) (xs ya zs : List Value) (c b p q : Nat) (L : Nat → Prop) (V : Nat → Value) (w : World) : Prop where
  c1 : L c → ¬ L p → w.ownsRow base t s (V c) na xs
  b1 : L b → ¬ L p → ∃ g, V b = .slice (some ⟨g, 0, none⟩) 1 1 ∧ BlockAt w g ya.toArray t
  p1 : L p → ¬ L q → w.ownsRow base t s (V p) (na + 1) (xs ++ ya)
  q1 : L q → w.ownsRow base t s (V q) (na + 1 + nb) (xs ++ ya ++ zs)
  op : L p → L c ∧ L b
  oq : L q → L p
section
variable {base : Nat} {t : TypeId} {s na nb : Nat} {xs ya zs : List Value} {c b p q : Nat} {L L' : Nat → Prop} {V : Nat → Value} {w w' : World}
theorem Ins.start (hc : ¬ L c) (hb : ¬ L b) (hp : ¬ L p) (hq : ¬ L q) : Ins base t s na nb xs ya zs c b p q L V w :=
  ⟨fun h => absurd h hc, fun h => absurd h hb, fun h => absurd h hp, fun h => absurd h hq, fun h => absurd h hp, fun h => absurd h hq⟩
theorem Ins.keep {i : Nat} (h : Ins base t s na nb xs ya zs c b p q L V w) (hc : i ≠ c) (hb : i ≠ b) (hp : i ≠ p) (hq : i ≠ q) (hL : ∀ j, L' j ↔ (j = i ∨ L j)) (hk : Kept w w') {x : Value} : Ins base t s na nb xs ya zs c b p q L' (vset V i x) w' := by
  have e : ∀ j, i ≠ j → (L' j ↔ L j) := fun j hj => ⟨fun q => ((hL j).1 q).resolve_left (fun e => hj e.symm), fun q => (hL j).2 (.inr q)⟩
  have ec := e c hc; have eb := e b hb; have ep := e p hp; have eq := e q hq
  refine ⟨fun h1 h2 => ?_, fun h1 h2 => ?_, fun h1 h2 => ?_, fun h1 => ?_, fun h1 => ⟨ec.2 (h.op (ep.1 h1)).1, eb.2 (h.op (ep.1 h1)).2⟩, fun h1 => ep.2 (h.oq (eq.1 h1))⟩
  · rw [vset_other _ _ (fun e => hc e.symm)]; exact own_kept (h.c1 (ec.1 h1) (fun r => h2 (ep.2 r))) hk
  · rw [vset_other _ _ (fun e => hb e.symm)]
    obtain ⟨g, e1, e2⟩ := h.b1 (eb.1 h1) (fun r => h2 (ep.2 r))
    exact ⟨g, e1, e2.kept hk⟩
  · rw [vset_other _ _ (fun e => hp e.symm)]; exact own_kept (h.p1 (ep.1 h1) (fun r => h2 (eq.2 r))) hk
  · rw [vset_other _ _ (fun e => hq e.symm)]; exact own_kept (h.q1 (eq.1 h1)) hk
theorem Ins.copied (h : Ins base t s na nb xs ya zs c b p q L V w) (ho : ¬ L c) (hcb : c ≠ b) (hcp : c ≠ p) (hcq : c ≠ q) (hL : ∀ j, L' j ↔ (j = c ∨ L j)) (hk : Kept w w') {x : Value} (hx : w'.ownsRow base t s x na xs) : Ins base t s na nb xs ya zs c b p q L' (vset V c x) w' := by
  have e : ∀ j, c ≠ j → (L' j ↔ L j) := fun j hj => ⟨fun q => ((hL j).1 q).resolve_left (fun e => hj e.symm), fun q => (hL j).2 (.inr q)⟩
  have hp : ¬ L' p := fun h1 => ho (h.op ((e p hcp).1 h1)).1
  have hq : ¬ L' q := fun h1 => hp ((e p hcp).2 (h.oq ((e q hcq).1 h1)))
  refine ⟨fun _ _ => by rw [vset_same]; exact hx, fun h1 _ => ?_, fun h1 => absurd h1 hp, fun h1 => absurd h1 hq, fun h1 => absurd h1 hp, fun h1 => absurd h1 hq⟩
  rw [vset_other _ _ (fun e => hcb e.symm)]
  obtain ⟨g, e1, e2⟩ := h.b1 ((e b hcb).1 h1) (fun r => hp ((e p hcp).2 r))
  exact ⟨g, e1, e2.kept hk⟩
theorem Ins.built (h : Ins base t s na nb xs ya zs c b p q L V w) (ho : ¬ L b) (hcb : b ≠ c) (hbp : b ≠ p) (hbq : b ≠ q) (hL : ∀ j, L' j ↔ (j = b ∨ L j)) : Ins base t s na nb xs ya zs c b p q L' (vset V b (.slice (some ⟨w.heap.size, 0, none⟩) 1 1)) (w.alloc (.cells ya.toArray t)) := by
  have e : ∀ j, b ≠ j → (L' j ↔ L j) := fun j hj => ⟨fun q => ((hL j).1 q).resolve_left (fun e => hj e.symm), fun q => (hL j).2 (.inr q)⟩
  have hp : ¬ L' p := fun h1 => ho (h.op ((e p hbp).1 h1)).2
  have hq : ¬ L' q := fun h1 => hp ((e p hbp).2 (h.oq ((e q hbq).1 h1)))
  refine ⟨fun h1 _ => ?_, fun _ _ => ⟨_, vset_same _ _ _, BlockAt.new _ _ _⟩, fun h1 => absurd h1 hp, fun h1 => absurd h1 hq, fun h1 => absurd h1 hp, fun h1 => absurd h1 hq⟩
  rw [vset_other _ _ (fun e => hcb e.symm)]
  exact own_kept (h.c1 ((e c hcb).1 h1) (fun r => hp ((e p hbp).2 r))) ((Kept.refl w).alloc _)
theorem Ins.one (h : Ins base t s na nb xs ya zs c b p q L V w) (ho : ¬ L p) (hc : L c) (hb : L b) (_ : p ≠ c) (_ : p ≠ b) (hpq : p ≠ q) (hL : ∀ j, L' j ↔ (j = p ∨ L j)) {x : Value} (hx : w'.ownsRow base t s x (na + 1) (xs ++ ya)) : Ins base t s na nb xs ya zs c b p q L' (vset V p x) w' := by
  have hp : L' p := (hL p).2 (.inl rfl)
  have hq : ¬ L' q := fun h1 => ho (h.oq (((hL q).1 h1).resolve_left (fun e => hpq e.symm)))
  exact ⟨fun _ h2 => absurd hp h2, fun _ h2 => absurd hp h2, fun _ _ => by rw [vset_same]; exact hx, fun h1 => absurd h1 hq, fun _ => ⟨(hL c).2 (.inr hc), (hL b).2 (.inr hb)⟩, fun h1 => absurd h1 hq⟩
theorem Ins.tail (h : Ins base t s na nb xs ya zs c b p q L V w) (hp : L p) (_ : q ≠ p) (hL : ∀ j, L' j ↔ (j = q ∨ L j)) {x : Value} (hx : w'.ownsRow base t s x (na + 1 + nb) (xs ++ ya ++ zs)) : Ins base t s na nb xs ya zs c b p q L' (vset V q x) w' := by
  have hp' : L' p := (hL p).2 (.inr hp)
  have hq : L' q := (hL q).2 (.inl rfl)
  exact ⟨fun _ h2 => absurd hp' h2, fun _ h2 => absurd hp' h2, fun _ h2 => absurd hq h2, fun _ => by rw [vset_same]; exact hx, fun _ => ⟨(hL c).2 (.inr (h.op hp).1), (hL b).2 (.inr (h.op hp).2)⟩, fun _ => hp'⟩
end
/-- a copy, and an append of others to it: c the copy, q the append -/
structure Cpy (base : Nat) (t : TypeId) (s na nb : Nat) (xs zs : List Value) (c q : Nat) (L : Nat → Prop) (V : Nat → Value) (w : World) : Prop where
  c1 : L c → ¬ L q → w.ownsRow base t s (V c) na xs
  q1 : L q → w.ownsRow base t s (V q) (na + nb) (xs ++ zs)
  oq : L q → L c
section
variable {base : Nat} {t : TypeId} {s na nb : Nat} {xs zs : List Value} {c q : Nat} {L L' : Nat → Prop} {V : Nat → Value} {w w' : World}
theorem Cpy.start (hc : ¬ L c) (hq : ¬ L q) : Cpy base t s na nb xs zs c q L V w := ⟨fun h => absurd h hc, fun h => absurd h hq, fun h => absurd h hq⟩
theorem Cpy.keep {i : Nat} (h : Cpy base t s na nb xs zs c q L V w) (hc : i ≠ c) (hq : i ≠ q) (hL : ∀ j, L' j ↔ (j = i ∨ L j)) (hk : Kept w w') {x : Value} : Cpy base t s na nb xs zs c q L' (vset V i x) w' := by
  have e : ∀ j, i ≠ j → (L' j ↔ L j) := fun j hj => ⟨fun q => ((hL j).1 q).resolve_left (fun e => hj e.symm), fun q => (hL j).2 (.inr q)⟩
  refine ⟨fun h1 h2 => ?_, fun h1 => ?_, fun h1 => (e c hc).2 (h.oq ((e q hq).1 h1))⟩
  · rw [vset_other _ _ (fun e => hc e.symm)]; exact own_kept (h.c1 ((e c hc).1 h1) (fun r => h2 ((e q hq).2 r))) hk
  · rw [vset_other _ _ (fun e => hq e.symm)]; exact own_kept (h.q1 ((e q hq).1 h1)) hk
theorem Cpy.copied (h : Cpy base t s na nb xs zs c q L V w) (ho : ¬ L c) (hcq : c ≠ q) (hL : ∀ j, L' j ↔ (j = c ∨ L j)) {x : Value} (hx : w'.ownsRow base t s x na xs) : Cpy base t s na nb xs zs c q L' (vset V c x) w' := by
  have hq : ¬ L' q := fun h1 => ho (h.oq (((hL q).1 h1).resolve_left (fun e => hcq e.symm)))
  exact ⟨fun _ _ => by rw [vset_same]; exact hx, fun h1 => absurd h1 hq, fun h1 => absurd h1 hq⟩
theorem Cpy.tail (hc : L c) (hL : ∀ j, L' j ↔ (j = q ∨ L j)) {x : Value} (hx : w'.ownsRow base t s x (na + nb) (xs ++ zs)) : Cpy base t s na nb xs zs c q L' (vset V q x) w' :=
  ⟨fun _ h2 => absurd ((hL q).2 (.inl rfl)) h2, fun _ => by rw [vset_same]; exact hx, fun _ => (hL c).2 (.inr hc)⟩
end
theorem block_cells {w : World} {g : Nat} {ya : List Value} {t : TypeId} (h : BlockAt w g ya.toArray t) : ∀ j u, ya[j]? = some u → w.cell? ((⟨g, 0, none⟩ : Addr).add j) = some u := fun j u hj => by
  have e : (⟨g, 0, none⟩ : Addr).add j = ⟨g, j, none⟩ := by unfold Addr.add; split <;> simp_all
  rw [e, h.cell]
  simpa using hj
theorem own_takes_none {P : Program} {w : World} (base : Nat) (t ty e : TypeId) (i : TypeInfo) (size : Nat) (ht : P.underlying t = some (.slice e)) (hi : P.info? e = some i) (c : Nat)
    (v : Value) (n : Nat) (xs : List Value) (hown : w.ownsRow base e size v n xs) : (Builtin.append_ #[t, t] ty #[v, .slice none 0 c]).run P w = .ok v w := by
  rcases hown.2 with ⟨rfl, rfl⟩ | ⟨g, cap, cur, rfl, _, _, hnc, _⟩
  · simp [Builtin.append_, run_underlying ht, sizeOf, typeInfo, hi, Builtin.lenOf, Builtin.firstCells]
  · simp [Builtin.append_, run_underlying ht, sizeOf, typeInfo, hi, Builtin.lenOf, Builtin.firstCells, hnc, storeCells]
/-- some elements more, appended to a row of one's own -/
theorem oper_takes {P : Program} {o : Oper} {a : Act} {w : World} {K : Act → World → Prop} {Q : Exit → Act → World → Prop} (s x : Operand) (t : TypeId)
    (ho : o.op = .call { callee := .builtin .append, args := #[s, x], argTypes := #[t, t] })
    (base : Nat) (e : TypeId) (i : TypeInfo) (z : Value) (size bytes : Nat) (ht : P.underlying t = some (.slice e)) (hi : P.info? e = some i) (hz : i.zero = some z)
    (hsize : i.size = size) (hby : i.bytes = bytes) (hzs : z.cells.size = size) (hsz : 0 < size)
    (v : Value) (n : Nat) (xs : List Value) (hs : a.eval s = v) (hown : w.ownsRow base e size v n xs)
    (ao : Option Addr) (m c : Nat) (news : List Value) (hx : a.eval x = .slice ao m c) (hno : ao = none → m = 0) (hl : news.length = m * size) (hc : ∀ ad, ao = some ad → ∀ j u, news[j]? = some u → w.cell? (ad.add j) = some u) (h1 : ∀ u ∈ news, u.oneCell' = true)
    (hn : n + m ≤ 1000000) (hb : bytes ≤ 1000) (hbase : base ≤ w.heap.size)
    (h : ∀ v' w', w'.ownsRow base e size v' (n + m) (xs ++ news) → w.grownBy w' v.ownBlock → K (a.put o.dst v') w') : Oper.wp P o a w K Q := by
  cases ao with
  | none =>
    obtain rfl := hno rfl
    have hnil : news = [] := List.length_eq_zero_iff.1 (by omega)
    subst hnil
    have hr := own_takes_none (P := P) (w := w) base t o.type e i size ht hi c v n xs hown
    unfold Oper.wp execOp
    simp only [ho, resolve, invoke, builtin, Sem.run_bind, Sem.run_pure, Result.andThen_ok, List.map_toArray, List.map_cons, List.map_nil, hs, hx, hr]
    exact h v w (by simpa using hown) ⟨rfl, rfl, rfl, Nat.le_refl _, fun _ _ _ => rfl⟩
  | some ad =>
    obtain ⟨v', w', hr, h2, h3, h4, h5⟩ := run_append_own_at (P := P) w base t o.type e i z size bytes ht hi hz hsize hby hzs hsz v n xs hown ad m c news hl (hc ad rfl) h1 (by unfold maxLen; omega) (Nat.le_trans (Nat.mul_le_mul hn hb) (by decide)) hbase
    unfold Oper.wp execOp
    simp only [ho, resolve, invoke, builtin, Sem.run_bind, Sem.run_pure, Result.andThen_ok, List.map_toArray, List.map_cons, List.map_nil, hs, hx, hr]
    exact h v' w' h2 h3
end Go.Proofs.Ytdllenoclnmmdaa.Pj
