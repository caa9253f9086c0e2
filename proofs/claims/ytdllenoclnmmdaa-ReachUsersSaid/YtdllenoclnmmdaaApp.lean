/- Appends to rows of one's own within a region that draws its order: what one row's append knows, whatever else is done in between (no conditions). -/
import Derived.Test.YtdllenoclnmmdaaSt
import Derived.Test.YtdllenoclnmmdaaHp
import Derived.ArgAppend
namespace Go.Proofs.Ytdllenoclnmmdaa.Pj
open Go.RowKit

/-- one row's append: the row ahead of it, the row behind it, the one cell that is appended -/
structure Hlf (base : Nat) (t : TypeId) (va : Value) (na : Nat) (xs : List Value) (ua : Value) (ba aa : Nat) (L : Nat → Prop) (V : Nat → Value) (w : World) : Prop where
  a0 : ¬ L aa → w.ownsRow base t 1 va na xs
  a1 : L aa → w.ownsRow base t 1 (V aa) (na + 1) (xs ++ [ua])
  c : L ba → ¬ L aa → ∃ g, V ba = .slice (some ⟨g, 0, none⟩) 1 1 ∧ BlockAt w g #[ua] t
section
variable {base : Nat} {t : TypeId} {va : Value} {na : Nat} {xs : List Value} {ua : Value} {ba aa : Nat} {L L' : Nat → Prop} {V : Nat → Value} {w w' : World}
theorem Hlf.start (h : w.ownsRow base t 1 va na xs) (ha : ¬ L aa) (hb : ¬ L ba) : Hlf base t va na xs ua ba aa L V w := ⟨fun _ => h, fun q => absurd q ha, fun q => absurd q hb⟩
theorem Hlf.same {i : Nat} (h : Hlf base t va na xs ua ba aa L V w) (h1 : i ≠ ba) (h2 : i ≠ aa) (hL : ∀ j, L' j ↔ (j = i ∨ L j)) (hk : Kept w w') {x : Value} : Hlf base t va na xs ua ba aa L' (vset V i x) w' := by
  have e1 : L' ba ↔ L ba := ⟨fun q => ((hL ba).1 q).resolve_left (fun e => h1 e.symm), fun q => (hL ba).2 (.inr q)⟩
  have e2 : L' aa ↔ L aa := ⟨fun q => ((hL aa).1 q).resolve_left (fun e => h2 e.symm), fun q => (hL aa).2 (.inr q)⟩
  refine ⟨fun q => own_kept (h.a0 (fun r => q (e2.2 r))) hk, fun q => ?_, fun q r => ?_⟩
  · rw [vset_other _ _ (fun e => h2 e.symm)]; exact own_kept (h.a1 (e2.1 q)) hk
  · obtain ⟨g, e, hb⟩ := h.c (e1.1 q) (fun s => r (e2.2 s))
    exact ⟨g, (vset_other _ _ (fun e => h1 e.symm)).trans e, hb.kept hk⟩
theorem Hlf.made (h : Hlf base t va na xs ua ba aa L V w) (hne : ba ≠ aa) (hL : ∀ j, L' j ↔ (j = ba ∨ L j)) : Hlf base t va na xs ua ba aa L' (vset V ba (.slice (some ⟨w.heap.size, 0, none⟩) 1 1)) (w.alloc (.cells #[ua] t)) := by
  have e2 : L' aa ↔ L aa := ⟨fun q => ((hL aa).1 q).resolve_left (fun e => hne e.symm), fun q => (hL aa).2 (.inr q)⟩
  have hk : Kept w (w.alloc (.cells #[ua] t)) := (Kept.refl w).alloc _
  refine ⟨fun q => own_kept (h.a0 (fun r => q (e2.2 r))) hk, fun q => ?_, fun _ _ => ⟨_, vset_same _ _ _, BlockAt.new _ _ _⟩⟩
  rw [vset_other _ _ (fun e => hne e.symm)]; exact own_kept (h.a1 (e2.1 q)) hk
theorem Hlf.app {v' : Value} (h : w'.ownsRow base t 1 v' (na + 1) (xs ++ [ua])) (hL : ∀ j, L' j ↔ (j = aa ∨ L j)) : Hlf base t va na xs ua ba aa L' (vset V aa v') w' :=
  ⟨fun q => absurd ((hL aa).2 (.inl rfl)) q, fun _ => by rw [vset_same]; exact h, fun _ q => absurd ((hL aa).2 (.inl rfl)) q⟩
theorem own_row {A B : World} {n : Nat} {v : Value} {ys : List Value} {row : Option Nat} (h : A.ownsRow base t 1 v n ys) (g : A.grownBy B row) (hr : ∀ q C, BlockAt A q C t → some q ≠ row) : B.ownsRow base t 1 v n ys := by
  obtain ⟨h1, h2 | ⟨q, cap, cur, hv, hb, hg, h3⟩⟩ := h
  · exact ⟨h1, .inl h2⟩
  · exact ⟨h1, .inr ⟨q, cap, cur, hv, hb, block_grown (show BlockAt A q cur t from hg) g (hr q cur hg), h3⟩⟩
theorem Hlf.other {i : Nat} {row : Option Nat} (h : Hlf base t va na xs ua ba aa L V w) (h1 : i ≠ ba) (h2 : i ≠ aa) (hL : ∀ j, L' j ↔ (j = i ∨ L j)) (hg : w.grownBy w' row) (hr : ∀ q C, BlockAt w q C t → some q ≠ row) {x : Value} : Hlf base t va na xs ua ba aa L' (vset V i x) w' := by
  have e1 : L' ba ↔ L ba := ⟨fun q => ((hL ba).1 q).resolve_left (fun e => h1 e.symm), fun q => (hL ba).2 (.inr q)⟩
  have e2 : L' aa ↔ L aa := ⟨fun q => ((hL aa).1 q).resolve_left (fun e => h2 e.symm), fun q => (hL aa).2 (.inr q)⟩
  refine ⟨fun q => own_row (h.a0 (fun r => q (e2.2 r))) hg hr, fun q => ?_, fun q r => ?_⟩
  · rw [vset_other _ _ (fun e => h2 e.symm)]; exact own_row (h.a1 (e2.1 q)) hg hr
  · obtain ⟨g, e, hb⟩ := h.c (e1.1 q) (fun s => r (e2.2 s))
    exact ⟨g, (vset_other _ _ (fun e => h1 e.symm)).trans e, block_grown hb hg (hr g _ hb)⟩
/-- a struct's block of which one cell is stored anew: by what operation src yields, at operation so -/
structure Fld (pb : Nat) (T : TypeId) (C : Array Value) (c src so : Nat) (L : Nat → Prop) (V : Nat → Value) (w : World) : Prop where
  ord : L so → L src
  b0 : ¬ L so → BlockAt w pb C T
  b1 : L so → BlockAt w pb (C.setIfInBounds c (V src)) T
section
variable {pb : Nat} {T : TypeId} {C : Array Value} {c src so : Nat}
theorem Fld.start (h : BlockAt w pb C T) (hs : ¬ L so) : Fld pb T C c src so L V w := ⟨fun q => absurd q hs, fun _ => h, fun q => absurd q hs⟩
theorem Fld.keep {i : Nat} (h : Fld pb T C c src so L V w) (h1 : i ≠ so) (ho : ¬ L i) (hL : ∀ j, L' j ↔ (j = i ∨ L j)) (hw : ∀ D, BlockAt w pb D T → BlockAt w' pb D T) {x : Value} : Fld pb T C c src so L' (vset V i x) w' := by
  have e1 : L' so ↔ L so := ⟨fun q => ((hL so).1 q).resolve_left (fun e => h1 e.symm), fun q => (hL so).2 (.inr q)⟩
  refine ⟨fun q => (hL src).2 (.inr (h.ord (e1.1 q))), fun q => hw _ (h.b0 (fun r => q (e1.2 r))), fun q => ?_⟩
  have hs := h.ord (e1.1 q)
  have hne : src ≠ i := fun e => ho (by rw [← e]; exact hs)
  rw [vset_other _ _ hne]
  exact hw _ (h.b1 (e1.1 q))
theorem Fld.same {i : Nat} (h : Fld pb T C c src so L V w) (h1 : i ≠ so) (ho : ¬ L i) (hL : ∀ j, L' j ↔ (j = i ∨ L j)) (hk : Kept w w') {x : Value} : Fld pb T C c src so L' (vset V i x) w' := h.keep h1 ho hL (fun _ hb => hb.kept hk)
theorem Fld.other {i : Nat} {row : Option Nat} (h : Fld pb T C c src so L V w) (h1 : i ≠ so) (ho : ¬ L i) (hL : ∀ j, L' j ↔ (j = i ∨ L j)) (hg : w.grownBy w' row) (hr : ∀ q C, BlockAt w q C T → some q ≠ row) {x : Value} : Fld pb T C c src so L' (vset V i x) w' :=
  h.keep h1 ho hL (fun D hb => block_grown hb hg (hr pb D hb))
theorem Fld.stored (h : Fld pb T C c src so L V w) (ho : ¬ L so) (hs : L src) (hL : ∀ j, L' j ↔ (j = so ∨ L j)) {x y : Value} (hy : V src = y) : Fld pb T C c src so L' (vset V so x) (w.setCell ⟨pb, c, none⟩ y) := by
  subst hy
  refine ⟨fun _ => (hL src).2 (.inr hs), fun q => absurd ((hL so).2 (.inl rfl)) q, fun _ => ?_⟩
  have hne : src ≠ so := fun e => ho (by rw [← e]; exact hs)
  rw [vset_other _ _ hne]
  exact (h.b0 ho).set _
end
theorem block_types {s t : TypeId} {b : Nat} {C : Array Value} (h : BlockAt w b C s) (hne : t ≠ s) : ∀ q D, BlockAt w q D t → some q ≠ some b := by
  intro q D hq e
  cases e
  have h2 := Eq.trans (Eq.symm hq) h
  cases h2
  exact hne rfl
theorem J.flat {W : World} {l : List (World → Value → Prop)} {i : Nat} (h : J W l L V w) (hP : AllFlat l) (hL : ∀ j, L' j ↔ (j = i ∨ L j)) (hk : Kept W w') (hs : w.heap.size ≤ w'.heap.size) {x : Value} (hx : of l i w' x) : J W l L' (vset V i x) w' :=
  ⟨hk, fun j hj => by
    by_cases e : j = i
    · subst e; rw [vset_same]; exact hx
    · rw [vset_other _ _ e]; exact hP.at j w w' _ (h.h j (((hL j).1 hj).resolve_left e)) hs⟩
end
/-- rows of unlike kinds do not meet -/
theorem row_types {w : World} {base n : Nat} {s t : TypeId} {v : Value} {ys : List Value} (h : w.ownsRow base s 1 v n ys) (hne : t ≠ s) : ∀ q C, BlockAt w q C t → some q ≠ v.ownBlock := by
  intro q C hq e
  obtain ⟨_, h2 | ⟨g, cap, cur, hv, hb, hg, _⟩⟩ := h
  · rw [h2.1] at e
    cases e
  · rw [hv] at e
    cases e
    have h2 := Eq.trans (Eq.symm hq) hg
    cases h2
    exact hne rfl
/-- one cell more, appended to a row of one's own -/
theorem oper_app {P : Program} {o : Oper} {a : Act} {w : World} {K : Act → World → Prop} {Q : Exit → Act → World → Prop} (s x : Operand) (t : TypeId)
    (ho : o.op = .call { callee := .builtin .append, args := #[s, x], argTypes := #[t, t] })
    (base : Nat) (e : TypeId) (i : TypeInfo) (z : Value) (bytes : Nat) (ht : P.underlying t = some (.slice e)) (hi : P.info? e = some i) (hz : i.zero = some z)
    (hsize : i.size = 1) (hby : i.bytes = bytes) (hzs : z.cells.size = 1)
    (v : Value) (n : Nat) (xs : List Value) (hs : a.eval s = v) (hown : w.ownsRow base e 1 v n xs)
    (g : Nat) (u : Value) (hx : a.eval x = .slice (some ⟨g, 0, none⟩) 1 1) (hg : BlockAt w g #[u] e) (h1 : u.oneCell' = true)
    (hn : n + 1 ≤ 1000000) (hb : bytes ≤ 1000) (hbase : base ≤ w.heap.size)
    (h : ∀ v' w', w'.ownsRow base e 1 v' (n + 1) (xs ++ [u]) → w.grownBy w' v.ownBlock → K (a.put o.dst v') w') : Oper.wp P o a w K Q := by
  obtain ⟨v', w', hr, h2, h3, h4, h5⟩ := run_append_own_at (P := P) w base t o.type e i z 1 bytes ht hi hz hsize hby hzs (by omega) v n xs hown ⟨g, 0, none⟩ 1 1 [u] rfl (fun j y hj => by
    match j, hj with
    | 0, hj => simp at hj; subst hj; simpa [Addr.add] using hg.cell 0) (fun y hy => by simp at hy; subst hy; exact h1) (by unfold maxLen; omega) (Nat.le_trans (Nat.mul_le_mul hn hb) (by decide)) hbase
  unfold Oper.wp execOp
  simp only [ho, resolve, invoke, builtin, Sem.run_bind, Sem.run_pure, Result.andThen_ok, List.map_toArray, List.map_cons, List.map_nil, hs, hx, hr]
  exact h v' w' h2 h3
/-- an append that has no room makes memory of its own -/
theorem oper_grow {P : Program} {o : Oper} {a : Act} {w : World} {K : Act → World → Prop} {Q : Exit → Act → World → Prop} (s x : Operand) (t : TypeId)
    (ho : o.op = .call { callee := .builtin .append, args := #[s, x], argTypes := #[t, t] })
    (e : TypeId) (i : TypeInfo) (z : Value) (bytes : Nat) (ht : P.underlying t = some (.slice e)) (hi : P.info? e = some i) (hz : i.zero = some z)
    (hsize : i.size = 1) (hby : i.bytes = bytes) (hzs : z.cells.size = 1)
    (b : Addr) (n cap : Nat) (olds : List Value) (hs : a.eval s = .slice (some b) n cap) (hlo : olds.length = n) (holds : ∀ j u, olds[j]? = some u → w.cell? (b.add j) = some u)
    (ad : Addr) (m c : Nat) (news : List Value) (hx : a.eval x = .slice (some ad) m c) (hl : news.length = m) (hnews : ∀ j u, news[j]? = some u → w.cell? (ad.add j) = some u)
    (hg : cap < n + m) (hn : n + m ≤ 1000000) (hb : bytes ≤ 1000)
    (h : ∀ v' w', w'.ownsRow w.heap.size e 1 v' (n + m) (olds ++ news) → Kept w w' → K (a.put o.dst v') w') : Oper.wp P o a w K Q := by
  obtain ⟨v', w', hr, h2, h3⟩ := run_append_arg_grows (P := P) (w := w) t o.type e i z 1 bytes ht hi hz hsize hby hzs (by omega) b n cap olds (by omega) holds ad m c news (by omega) hnews hg (by unfold maxLen; omega) (Nat.le_trans (Nat.mul_le_mul hn hb) (by decide))
  unfold Oper.wp execOp
  simp only [ho, resolve, invoke, builtin, Sem.run_bind, Sem.run_pure, Result.andThen_ok, List.map_toArray, List.map_cons, List.map_nil, hs, hx, hr]
  exact h v' w' h2 ⟨h3.os, h3.tape, h3.output, h3.size, fun k hk => h3.block k hk (fun e => by cases e)⟩
end Go.Proofs.Ytdllenoclnmmdaa.Pj
