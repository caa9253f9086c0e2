
/- A range over an iterator that writes nothing and goes through places 0 .. N - 1, of which it tells some (a law), and package array's cached (no conditions but those that are named). -/
import Derived.Test.YtkfomaoillnehaaAr16
import Derived.Test.YtkfomaoillnehaaRound
namespace Go.Proofs.Ytkfomaoillnehaa
open Go.RowKit Go.Shelf
attribute [local go_sem] Oper.semAt_some

/-- the iterator's contract: at each place i of which there is something to tell it tells it; J i is what stands ahead of place i, and says what the iterator reads -/
def SeqN (F : Fence) (n : Nat) (P : Program) (g : Nat) (la lb : Array Value) (x : Nat → Option (Array Value)) (N : Nat) (M : Nat → World → Prop) : Prop :=
  ∀ (l : Nat) (J : Nat → World → Prop) (W : World), (∀ i W1, J i W1 → M i W1) → (∀ i W1, i < N → x i = none → J i W1 → J (i + 1) W1) →
    (∀ i v W1, i < N → x i = some v → J i W1 → YieldAt F (n - 1) P l v W1 fun e W' => e = .returned (.bool true) ∧ J (i + 1) W') → J 0 W →
    CallsIn F n P g (la ++ #[.func (.yield l) #[] #[]] ++ lb) W fun e W' => (∃ v, e = .returned v) ∧ J N W'
/-- a round of the body that goes on -/
def goesN (I : World → Prop) (W : World) : Exit → Act → World → Prop
  | .normal, _, W' => KeepsOthers W W' ∧ I W'
  | _, _, _ => False
/-- what abides that the loop's own records are laid and turned -/
def OwnN (B : Nat) (I : World → Prop) : Prop :=
  ∀ A A' row, I A → A.grownBy A' row → (∀ r, row = some r → B ≤ r ∧ ∃ o : Obj, A.heap[r]? = some o ∧ o.isCells = false) → I A'
theorem wpIn_range_N {F : Fence} {n : Nat} {P : Program} {g : Operand} {ps : Array Tmp} {assign body : Code} {Q : Exit → Act → World → Prop} {a : Act} {w : World}
    (hro : F.round = none) (h1 : 1 ≤ n) {gf : Nat} {la lb : Array Value} (hg : a.eval g = .func (.func gf) la lb) (hFg : F.fn gf) (eg : ∀ args w, (callFunc gf args).run P w = .ok (.enter gf args) w)
    {x : Nat → Option (Array Value)} {N : Nat} {M : Nat → World → Prop} (hseq : SeqN F (n - 1) P gf la lb x N M) (hps : ∀ i v, x i = some v → v.size = ps.size)
    (I : Nat → World → Prop) (hI : ∀ i, OwnN w.heap.size (I i)) (hM : ∀ i W, I i W → M i W) (hskip : ∀ i W, i < N → x i = none → I i W → I (i + 1) W) (h0 : I 0 w)
    (hround : ∀ (l i : Nat) (v : Array Value) (W : World) (K : Act → World → Prop), i < N → x i = some v →
      (∀ a', (∀ W', I i W' → body.wpIn (F.inRound l) (n - 1 - 1) P (goesN (I (i + 1)) W') a' W') → K a' W) →
      assign.wpIn (F.inRound l) (n - 1 - 1) P (Exit.then K (fun _ _ _ => False)) { tmps := (ps.zip v).foldl (fun t (p, v) => t.setIfInBounds p v) a.tmps, defers := [] } W)
    (hdone : ∀ (D : Nat) (W : World), w.heap.size ≤ D → I N W → W.heap[D]? = some (.deferred (some [])) → Q .normal { a with defers := { target := .collected D, args := #[] } :: a.defers } W) :
    (Code.rangeFunc g ps assign body).wpIn F n P Q a w := by
  refine wpIn_rangeFunc fun fn hfn => ?_
  rw [hro]
  let rc : LoopState → Loop := fun st => { state := st, pending := none, fn := fn, tmps := a.tmps, params := ps, assign := assign, body := body, defers := w.heap.size }
  have hz1 : (w.alloc (.deferred (some []))).heap.size = w.heap.size + 1 := World.size_alloc _ _
  generalize hwb : (w.alloc (.deferred (some []))).alloc (.loop (rc .ready)) = wb
  have hzb : wb.heap.size = w.heap.size + 2 := by rw [← hwb, World.size_alloc, hz1]
  have hrec0 : wb.heap[w.heap.size + 1]? = some (.loop (rc .ready)) := by
    have := World.alloc_heap_new (w.alloc (.deferred (some []))) (.loop (rc .ready))
    rwa [hz1, hwb] at this
  have hdef0 : wb.heap[w.heap.size]? = some (.deferred (some [])) := by
    have h2 := World.alloc_heap_new w (.deferred (some []))
    have h3 := Below.heap_alloc (w.alloc (.deferred (some []))) (.loop (rc .ready)) w.heap.size (by omega)
    rw [hwb] at h3
    exact h3.trans h2
  have hkb : Kept w wb := by rw [← hwb]; exact ((Kept.refl w).alloc _).alloc _
  have hib : I 0 wb := hI 0 w wb none h0 (gr_kept hkb none) (fun r e => by cases e)
  let J : Nat → World → Prop := fun i W => I i W ∧ W.heap[w.heap.size + 1]? = some (.loop (rc .ready)) ∧ W.heap[w.heap.size]? = some (.deferred (some []))
  have hturn : ∀ i W st st', I i W → W.heap[w.heap.size + 1]? = some (.loop (rc st)) → I i (W.putObj (w.heap.size + 1) (.loop (rc st'))) := fun i W st st' hi hl =>
    hI i W _ (some (w.heap.size + 1)) hi (grownBy_putObj' W _ _) (fun r e => by cases e; exact ⟨by omega, _, hl, rfl⟩)
  refine ⟨w.heap.size + 1, [{ target := .collected w.heap.size, args := #[] }], wb, { target := .fn (.func gf) lb, args := la ++ #[.func (.yield (w.heap.size + 1)) #[] #[]] }, wb, gf, la ++ #[.func (.yield (w.heap.size + 1)) #[] #[]] ++ lb, wb, ?_, ?_, ?_, ?_, fun _ => h1, ?_⟩
  · rw [← hwb]; exact run_enterLoop_outer _ _ _ _ _
  · simp only [resolve, hg]
    simp [go_sem]
  · intro f' hf'
    simp [Target.leads] at hf'
    subst hf'
    exact hFg
  · simp [invoke, go_sem, eg]
  · refine (hseq (w.heap.size + 1) J wb (fun i W1 h => hM i W1 h.1) (fun i W1 hi hx h => ⟨hskip i W1 hi hx h.1, h.2⟩) ?_ ⟨hib, hrec0, hdef0⟩).mono ?_
    · rintro i v W hi hx ⟨i1, i2, i3⟩
      have hyield := run_yield (P := P) (args := v) i2 (hps i v hx)
      refine ⟨fn, _, assign, body, hyield, roundIn_of_wpIn hfn (hround _ i v W _ hi hx fun a' hbody => ?_)⟩
      refine ⟨_, run_beginRound i2 rfl, ?_⟩
      have hL : w.heap.size + 1 < W.heap.size := (Array.getElem?_eq_some_iff.1 i2).1
      have b2 : (W.putObj (w.heap.size + 1) (.loop (rc .busy))).heap[w.heap.size + 1]? = some (.loop (rc .busy)) := World.putObj_heap_same hL
      have b3 : (W.putObj (w.heap.size + 1) (.loop (rc .busy))).heap[w.heap.size]? = some (.deferred (some [])) := (World.putObj_heap_other (by omega)).trans i3
      refine wpIn_mono (hbody _ (hturn i W _ .busy i1 i2)) ?_
      rintro e a3 W3 hp
      cases e with
      | normal =>
        obtain ⟨hk, hi3⟩ := hp
        have c2 := hk.same _ _ b2 rfl
        have c3 := hk.same _ _ b3 rfl
        exact ⟨_, _, run_endRound none c2, rfl, hturn (i + 1) W3 _ .ready hi3 c2, World.putObj_heap_same (Array.getElem?_eq_some_iff.1 c2).1, (World.putObj_heap_other (by omega)).trans c3⟩
      | ret => exact hp.elim
      | exit id => exact hp.elim
      | goto t => exact hp.elim
      | panic ch => exact hp.elim
      | outgrown => exact hp.elim
    · rintro e W2 ⟨⟨v, rfl⟩, i1, i2, i3⟩
      exact ⟨none, _, run_endLoop i2 (by simp [rc]), hdone _ _ (Nat.le_refl _) (hturn N W2 _ .exhausted i1 i2) ((World.putObj_heap_other (by omega)).trans i3)⟩
/-- what cached tells of a sector -/
def cacheX (c : Nat → ByteArray) (i : Nat) : Option (Array Value) := if (c i).size = 0 then none else some #[.int .i64 ((i : Nat) : Int), .string (c i)]
/-- what cached reads: the disk's cell of its cache, the texts from place i on -/
def CachM (D o : Nat) (ad : Option Addr) (n : Nat) (c : Nat → ByteArray) (i : Nat) (W : World) : Prop := W.cell? ⟨D, o + 2, none⟩ = some (.slice ad n n) ∧ ∀ j, i ≤ j → j < n → ∃ cb, ad = some ⟨cb, 0, none⟩ ∧ W.cell? ⟨cb, j, none⟩ = some (.string (c j))
theorem isEmpty_none {t : ByteArray} (h : t.size = 0) : t.toList.isEmpty = true := by rw [isEmpty_toList]; simpa using h
theorem isEmpty_some {t : ByteArray} (h : t.size ≠ 0) : t.toList.isEmpty = false := by rw [isEmpty_toList]; simpa using h
set_option maxRecDepth 100000 in
set_option maxHeartbeats 4000000 in
theorem cached_stops (m : Nat) (hm : 1 ≤ m) (D o : Nat) (ad : Option Addr) (n : Nat) (c : Nat → ByteArray) (hn : n ≤ 2048) : SeqN Fence.wide m Try.prog 46 #[.pointer (some ⟨D, o, none⟩)] #[] (cacheX c) n (CachM D o ad n c) := fun l J W hM hskip hY h0 => by
  refine callsIn_of_wp Try.func46 rfl trivial ?_ rfl
  simp only [Try.ntmps46, List.size_toArray, List.length_nil, List.length_cons, Nat.reduceAdd, Nat.reduceSub, Array.replicate_succ, Array.replicate_zero, List.push_toArray, List.append_toArray, List.nil_append, List.cons_append]
  refine wpIn_wide.2 ?_
  have HM := Lib.hid hM
  have HSK := Lib.hid hskip
  have HY := Lib.hid hY
  have HJ0 := Lib.hid h0
  obtain ⟨a2, _⟩ := hM 0 W h0
  clear hM hskip hY h0
  refine wp_scope_straight ?_
  go_wp2_with fail
  refine wp_label ?_
  go_wp2_with fail
  refine wp_of_in m ?_
  gi_loopw [11] (fun iv wx => ∃ k : Nat, k ≤ n ∧ iv = .int .i64 k ∧ Hid (J k wx)) (fun iv _ => n - (intOf iv).toNat)
  case atStart => exact ⟨0, by omega, rfl, HJ0⟩
  case round =>
    rename World => wx
    obtain ⟨k, hk, rfl, HJ⟩ := hrel
    by_cases hlt : k < n
    · have hd1 : decide ((k : Int) < n) = true := decide_eq_true (by omega)
      obtain ⟨cb, rfl, c1⟩ := (HM.out k wx HJ.out).2 k (Nat.le_refl _) hlt
      have HSI := Lib.hid (HSK.out k wx hlt)
      have HYI := Lib.hid (HY.out k #[.int .i64 ((k : Nat) : Int), .string (c k)] wx hlt)
      have hxs : (c k).size = 0 → cacheX c k = none := fun h => if_pos h
      have hxn : (c k).size ≠ 0 → cacheX c k = some #[.int .i64 ((k : Nat) : Int), .string (c k)] := fun h => if_neg h
      generalize c k = t at *
      by_cases ht : t.size = 0
      · have hte := isEmpty_none ht
        have HJ2 := Lib.hid (HSI.out (hxs ht) HJ.out)
        clear hxs hxn ht HSI HYI
        gi_wp2_with fail
        go_roundw
        case rel => exact ⟨k + 1, by omega, by go_num, HJ2⟩
        case measure => simp [intOf]; omega
      · have hte := isEmpty_some ht
        obtain ⟨f9, t9, s9, b9, hy1, hR1⟩ := HYI.out (hxn ht) HJ.out
        have HR1 := Lib.hid hR1
        clear hxs hxn ht HSI HYI hR1
        gi_wp2_with fail
        refine HR1.out.mono ?_
        rintro e W3 ⟨rfl, hj3⟩
        have HJ2 := Lib.hid hj3
        clear hj3 c1
        gi_wp2_with fail
        go_roundw
        case rel => exact ⟨k + 1, by omega, by go_num, HJ2⟩
        case measure => simp [intOf]; omega
    · obtain rfl : k = n := by omega
      have hd1 : decide ((k : Int) < k) = false := decide_eq_false (by omega)
      gi_wp2_with fail
      rw [Exit.noGoto_normal]
      go_end0
      exact ⟨⟨_, rfl⟩, HJ.out⟩
end Go.Proofs.Ytkfomaoillnehaa
