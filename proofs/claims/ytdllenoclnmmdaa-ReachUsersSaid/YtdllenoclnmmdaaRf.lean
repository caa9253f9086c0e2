/- A range over an iterator that writes cells of its own between two rounds: of the element types T; rounds that go on to the end (no conditions but those that the law names). -/
import Derived.Test.YtdllenoclnmmdaaOwn
import Derived.Test.YtdllenoclnmmdaaRound
namespace Go.Proofs.Ytdllenoclnmmdaa
open Go.RowKit Go.Shelf

/-- abides the writing of blocks from B on whose elements are T's, and new blocks -/
def AbidesT (B : Nat) (T : TypeId → Prop) (J : World → Prop) : Prop :=
  ∀ A A' row, J A → A.grownBy A' row → (∀ r, row = some r → B ≤ r ∧ ∃ cs t fr, A.heap[r]? = some (Obj.cells cs t fr) ∧ T t) → J A'
/-- the caller's word abides that, and what the loop itself lays and turns -/
def OwnT (B : Nat) (T : TypeId → Prop) (J : World → Prop) : Prop :=
  ∀ A A' row, J A → A.grownBy A' row → (∀ r, row = some r → B ≤ r ∧ ∃ o : Obj, A.heap[r]? = some o ∧ ∀ cs t fr, o = Obj.cells cs t fr → T t) → J A'
/-- the iterator's contract: it tells xs with S xs, one by one; between two rounds it writes T's alone -/
def SeqT {α : Type} (F : Fence) (n : Nat) (P : Program) (g : Nat) (lb : Array Value) (encs : α → Array Value) (Kp : World → World → Prop) (T : TypeId → Prop) (S : List α → Prop) (N : Nat) (w : World) : Prop :=
  ∀ (l : Nat) (J : List α → World → Prop) (W : World), Below w.heap.size w W → (∀ pre, AbidesT W.heap.size T (J pre)) →
    (∀ pre x W1, J pre W1 → pre.length < N → YieldAt F (n - 1) P l (encs x) W1 fun e W' => e = .returned (.bool true) ∧ J (pre ++ [x]) W' ∧ Kp W1 W') → J [] W →
    CallsIn F n P g (#[.func (.yield l) #[] #[]] ++ lb) W fun e W' => (∃ v, e = .returned v) ∧ ∃ xs, S xs ∧ J xs W'
/-- a round of the body that goes on -/
def goesOn (Kp : World → World → Prop) (I : World → Prop) (W : World) : Exit → Act → World → Prop
  | .normal, _, W' => KeepsOthers W W' ∧ Kp W W' ∧ I W'
  | _, _, _ => False
theorem wpIn_range_T {F : Fence} {n : Nat} {P : Program} {α : Type} {g : Operand} {ps : Array Tmp} {assign body : Code} {Q : Exit → Act → World → Prop} {a : Act} {w : World}
    (hro : F.round = none) (h1 : 1 ≤ n) {gf : Nat} {lb : Array Value} (hg : a.eval g = .func (.func gf) #[] lb) (hFg : F.fn gf) (eg : ∀ args w, (callFunc gf args).run P w = .ok (.enter gf args) w)
    {encs : α → Array Value} {Kp : World → World → Prop} {T : TypeId → Prop} {S : List α → Prop} {N : Nat} {w0 : World} (hseq : SeqT F (n - 1) P gf lb encs Kp T S N w0)
    (hKt : ∀ {A B C : World}, Kp A B → Kp B C → Kp A C) (hKb : ∀ (W : World) (l : Nat) (o o' : Obj), w.heap.size ≤ l → W.heap[l]? = some o → o.isCells = false → o.isWalk = false → Kp W (W.putObj l o')) (hb0 : Below w0.heap.size w0 w) (hps : ∀ x, (encs x).size = ps.size)
    (I : List α → World → Prop) (hI : ∀ pre, OwnT w.heap.size T (I pre)) (h0 : I [] w)
    (hround : ∀ (l : Nat) (pre : List α) (x : α) (W : World) (K : Act → World → Prop), pre.length < N →
      (∀ a', (∀ W', I pre W' → body.wpIn (F.inRound l) (n - 1 - 1) P (goesOn Kp (I (pre ++ [x])) W') a' W') → K a' W) →
      assign.wpIn (F.inRound l) (n - 1 - 1) P (Exit.then K (fun _ _ _ => False)) { tmps := (ps.zip (encs x)).foldl (fun t (p, v) => t.setIfInBounds p v) a.tmps, defers := [] } W)
    (hdone : ∀ (D : Nat) (xs : List α) (W : World), w.heap.size ≤ D → S xs → I xs W → W.heap[D]? = some (.deferred (some [])) → Q .normal { a with defers := { target := .collected D, args := #[] } :: a.defers } W) :
    (Code.rangeFunc g ps assign body).wpIn F n P Q a w := by
  refine wpIn_rangeFunc fun fn hfn => ?_
  rw [hro]
  -- the loop's record, by its state; the block of deferred calls lies ahead of it
  let rc : LoopState → Loop := fun st => { state := st, pending := none, fn := fn, tmps := a.tmps, params := ps, assign := assign, body := body, defers := w.heap.size }
  have hz1 : (w.alloc (.deferred (some []))).heap.size = w.heap.size + 1 := World.size_alloc _ _
  generalize hwb : (w.alloc (.deferred (some []))).alloc (.loop (rc .ready)) = wb
  have hzb : wb.heap.size = w.heap.size + 2 := by rw [← hwb, World.size_alloc, hz1]
  have hrec0 : wb.heap[w.heap.size + 1]? = some (.loop (rc .ready)) := by
    have := World.alloc_heap_new (w.alloc (.deferred (some []))) (.loop (rc .ready))
    rwa [hz1, hwb] at this
  have hdef0 : wb.heap[w.heap.size]? = some (.deferred (some [])) := by
    have h2 := World.alloc_heap_new w (.deferred (some []))
    have h3 := Below.heap_alloc (w.alloc (.deferred (some []))) (.loop (rc .ready)) w.heap.size (by omega)
    rw [hwb] at h3
    exact h3.trans h2
  have hkb : Kept w wb := by rw [← hwb]; exact ((Kept.refl w).alloc _).alloc _
  have hib : I [] wb := hI [] w wb none h0 (gr_kept hkb none) (fun r e => by cases e)
  -- what the loop says beside the caller's word
  let J : List α → World → Prop := fun pre W => I pre W ∧ W.heap[w.heap.size + 1]? = some (.loop (rc .ready)) ∧ W.heap[w.heap.size]? = some (.deferred (some []))
  have hJ : ∀ pre, AbidesT wb.heap.size T (J pre) := by
    rintro pre A A' row ⟨i1, i2, i3⟩ hgr hrow
    have hne : ∀ k, k < w.heap.size + 2 → some k ≠ row := fun k hk e => by
      have := (hrow k e.symm).1
      omega
    refine ⟨hI pre A A' row i1 hgr (fun r e => ?_), (hgr.block _ (Array.getElem?_eq_some_iff.1 i2).1 (hne _ (by omega))).trans i2, (hgr.block _ (Array.getElem?_eq_some_iff.1 i3).1 (hne _ (by omega))).trans i3⟩
    obtain ⟨hb, cs, t, fr, ho, ht⟩ := hrow r e
    exact ⟨by omega, _, ho, fun cs' t' fr' h => by cases h; exact ht⟩
  -- the record turned: the caller's word abides
  have hturn : ∀ pre W st st', I pre W → W.heap[w.heap.size + 1]? = some (.loop (rc st)) → I pre (W.putObj (w.heap.size + 1) (.loop (rc st'))) := fun pre W st st' hi hl =>
    hI pre W _ (some (w.heap.size + 1)) hi (grownBy_putObj' W _ _) (fun r e => by cases e; exact ⟨by omega, _, hl, fun cs t fr h => by cases h⟩)
  refine ⟨w.heap.size + 1, [{ target := .collected w.heap.size, args := #[] }], wb, { target := .fn (.func gf) lb, args := #[.func (.yield (w.heap.size + 1)) #[] #[]] }, wb, gf, #[.func (.yield (w.heap.size + 1)) #[] #[]] ++ lb, wb, ?_, ?_, ?_, ?_, fun _ => h1, ?_⟩
  · rw [← hwb]; exact run_enterLoop_outer _ _ _ _ _
  · simp only [resolve, hg]
    simp [go_sem]
  · intro f' hf'
    simp [Target.leads] at hf'
    subst hf'
    exact hFg
  · simp [invoke, go_sem, eg]
  · refine (hseq (w.heap.size + 1) J wb (hb0.trans (hkb.below.mono hb0.size)) hJ ?_ ⟨hib, hrec0, hdef0⟩).mono ?_
    · rintro pre x W ⟨i1, i2, i3⟩ hlen
      have hyield := run_yield (P := P) (args := encs x) i2 (hps x)
      refine ⟨fn, _, assign, body, hyield, roundIn_of_wpIn hfn (hround _ pre x W _ hlen fun a' hbody => ?_)⟩
      refine ⟨_, run_beginRound i2 rfl, ?_⟩
      have hL : w.heap.size + 1 < W.heap.size := (Array.getElem?_eq_some_iff.1 i2).1
      have b2 : (W.putObj (w.heap.size + 1) (.loop (rc .busy))).heap[w.heap.size + 1]? = some (.loop (rc .busy)) := World.putObj_heap_same hL
      have b3 : (W.putObj (w.heap.size + 1) (.loop (rc .busy))).heap[w.heap.size]? = some (.deferred (some [])) := (World.putObj_heap_other (by omega)).trans i3
      refine wpIn_mono (hbody _ (hturn pre W _ .busy i1 i2)) ?_
      rintro e a3 W3 hp
      cases e with
      | normal =>
        obtain ⟨hk, hkp, hi3⟩ := hp
        have c2 := hk.same _ _ b2 rfl
        have c3 := hk.same _ _ b3 rfl
        refine ⟨_, _, run_endRound none c2, rfl, ⟨hturn (pre ++ [x]) W3 _ .ready hi3 c2, World.putObj_heap_same (Array.getElem?_eq_some_iff.1 c2).1, (World.putObj_heap_other (by omega)).trans c3⟩, ?_⟩
        exact hKt (hKt (hKb W _ _ _ (by omega) i2 rfl rfl) hkp) (hKb W3 _ _ _ (by omega) c2 rfl rfl)
      | ret => exact hp.elim
      | exit id => exact hp.elim
      | goto t => exact hp.elim
      | panic ch => exact hp.elim
      | outgrown => exact hp.elim
    · rintro e W2 ⟨⟨v, rfl⟩, xs, hS, i1, i2, i3⟩
      exact ⟨none, _, run_endLoop i2 (by simp [rc]), hdone _ xs _ (Nat.le_refl _) hS (hturn xs W2 _ .exhausted i1 i2) ((World.putObj_heap_other (by omega)).trans i3)⟩
end Go.Proofs.Ytdllenoclnmmdaa
