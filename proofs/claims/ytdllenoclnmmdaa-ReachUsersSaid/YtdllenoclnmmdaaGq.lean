/- Contracts laid together: what each says stands at its head (no conditions). -/
import Derived.Test.YtdllenoclnmmdaaRq2
import Derived.Test.YtdllenoclnmmdaaRf
import Derived.Test.YtdllenoclnmmdaaGs
import Derived.Test.YtdllenoclnmmdaaApp
import Derived.Test.YtdllenoclnmmdaaPjR
namespace Go.Proofs.Ytdllenoclnmmdaa
open Go.RowKit Go.Shelf
attribute [local go_sem] Oper.semAt_some

/-- what the walk writes of its own: truths, who is next, its box -/
def Tw (t : TypeId) : Prop := t = 4 ∨ t = 95 ∨ t = 3
/-- whatever abides the writing of such blocks from B on abides this -/
def Abid (B : Nat) (w w' : World) : Prop := ∀ J : World → Prop, AbidesT B Tw J → J w → J w'
theorem Abid.refl (B : Nat) (w : World) : Abid B w w := fun _ _ h => h
theorem Abid.trans {B : Nat} {a b c : World} (h : Abid B a b) (k : Abid B b c) : Abid B a c := fun J hJ hj => k J hJ (h J hJ hj)
theorem Abid.step {B b : Nat} {w w' : World} {C : Array Value} {t : TypeId} (g : w.grownBy w' (some b)) (hb : BlockAt w b C t) (ht : Tw t) (hB : B ≤ b) : Abid B w w' :=
  fun _ hJ hj => hJ w w' _ hj g (fun r e => by cases e; exact ⟨hB, C, t, (0, 0), hb, ht⟩)
theorem Abid.row {B n : Nat} {w w' : World} {e : TypeId} {v : Value} {xs : List Value} (g : w.grownBy w' v.ownBlock) (h : TailOwn w B e v n xs) (ht : Tw e) : Abid B w w' :=
  fun _ hJ hj => hJ w w' _ hj g (fun r er => by
    obtain ⟨h1, ⟨rfl, rfl⟩ | ⟨q, off, cap, cur, rfl, hb, hg, _⟩⟩ := h
    · cases er
    · cases er
      exact ⟨hb, cur, e, (0, 0), hg, ht⟩)
theorem Abid.kept {B : Nat} {w w' : World} (k : Kept w w') : Abid B w w' := fun _ hJ hj => hJ w w' none hj (gr_kept k none) (fun r e => by cases e)
theorem Abid.keeps {B : Nat} {W w w' : World} (h : Abid B w w') (k : Kept W w) (hb : W.heap.size ≤ B) : Kept W w' :=
  h (fun A => Kept W A) (fun _ _ _ hA g hr => kept_gr hA g (fun r e => Nat.le_trans hb (hr r e).1)) k
theorem Abid.size {B : Nat} {w w' : World} (h : Abid B w w') : w.heap.size ≤ w'.heap.size :=
  h (fun A => w.heap.size ≤ A.heap.size) (fun _ _ _ hA g _ => Nat.le_trans hA g.size) (Nat.le_refl _)
theorem TailOwn.ne {w : World} {base b n : Nat} {e t : TypeId} {v : Value} {xs : List Value} {C : Array Value} (h : TailOwn w base e v n xs) (hb : BlockAt w b C t) (hne : t ≠ e) : some b ≠ v.ownBlock := by
  obtain ⟨h1, ⟨rfl, rfl⟩ | ⟨g, off, cap, cur, rfl, _, hg, _⟩⟩ := h
  · intro e; cases e
  · intro q
    obtain rfl : b = g := by cases q; rfl
    have h2 := Eq.trans (Eq.symm (show w.heap[b]? = _ from hg)) hb
    cases h2
    exact hne rfl
/-- the walk's own: the box of who was seen, the truths, the box of who is next, the row -/
structure Wk (w : World) (B p4 sb p5 l : Nat) (v : Value) (s : Sq) : Prop where
  box4 : BlockAt w p4 #[.slice (some ⟨sb, 0, none⟩) l l] 82
  seen : BlockAt w sb (blV s.1) 4
  box5 : BlockAt w p5 #[v] 95
  next : TailOwn w B 3 v s.2.length (s.2.map natV)
theorem Wk.kept {w w' : World} {B p4 sb p5 l : Nat} {v : Value} {s : Sq} (h : Wk w B p4 sb p5 l v s) (k : Kept w w') : Wk w' B p4 sb p5 l v s := ⟨h.box4.kept k, h.seen.kept k, h.box5.kept k, h.next.kept k⟩
def MarkP (w : World) (B p4 sb p5 l : Nat) (v : Value) (s : Sq) (n : Nat) (e : Ending) (w' : World) : Prop :=
  (∃ u, e = .returned u) ∧ ∃ v', Wk w' B p4 sb p5 l v' (mark1 s n) ∧ (∀ q, v'.ownBlock = some q → v.ownBlock = some q ∨ w.heap.size ≤ q) ∧ Abid B w w' ∧ ∀ q, q < w.heap.size → q ≠ sb → q ≠ p5 → v.ownBlock ≠ some q → w'.heap[q]? = w.heap[q]?
set_option maxRecDepth 100000 in
set_option maxHeartbeats 2000000 in
theorem mark_any (B p4 sb p5 l : Nat) (v : Value) (s : Sq) (n : Nat) (w : World) (h : Wk w B p4 sb p5 l v s) (hl : s.1.length = l) (hn : n < l) (hB : B ≤ sb ∧ B ≤ p5) (hs : s.2.length ≤ 100000) :
    Calls Try.prog 68 #[.int .i64 n, .pointer (some ⟨p4, 0, none⟩), .pointer (some ⟨p5, 0, none⟩)] w (MarkP w B p4 sb p5 l v s n) := by
  obtain ⟨i0, hi, hz0, hz1, hz2⟩ := info_parts Try.infoI
  have HI := Lib.hid (And.intro hi (And.intro hz0 (And.intro hz1 hz2)))
  clear hi hz0 hz1 hz2
  have HW := Lib.hid h
  have hB1 := hB.1
  have hB2 := hB.2
  have hsb := h.seen.lt
  have a4 := box1 h.box4
  have b0 : w.cell? ⟨sb, n, none⟩ = some (.bool (s.1.getD n false)) := by rw [h.seen.cell, blV_at _ _ (by omega)]
  clear h hB
  cases hsn : s.1.getD n false with
  | true =>
    rw [hsn] at b0
    have HM := Lib.hid (mark1_true hsn)
    clear hsn
    go_enter Try.func68, Try.ntmps68
    go_wp2_with fail
    go_end0
    refine ⟨⟨_, rfl⟩, v, ?_, fun q e => .inl e, Abid.refl _ _, fun _ _ _ _ _ => rfl⟩
    rw [HM.out]
    exact HW.out
  | false =>
    rw [hsn] at b0
    have HM := Lib.hid (mark1_false hsn)
    have f0 := HW.out.seen.free n
    clear hsn
    go_enter Try.func68, Try.ntmps68
    go_upto_region 2 with (fail)
    have hg1 := gr_set w sb n (.bool true)
    have HB1 := Lib.hid (show BlockAt (w.setCell ⟨sb, n, none⟩ (.bool true)) sb (blV (s.1.set n true)) 4 by
      have := HW.out.seen.set (i := n) (.bool true)
      rwa [blV_set] at this)
    have H41 := Lib.hid (HW.out.box4.gr hg1 (Pj.block_types HW.out.seen (by decide) _ _ HW.out.box4))
    have H51 := Lib.hid (HW.out.box5.gr hg1 (Pj.block_types HW.out.seen (by decide) _ _ HW.out.box5))
    have HN1 := Lib.hid (HW.out.next.gr hg1 (fun q C hq _ => Pj.block_types HW.out.seen (by decide) q C hq))
    have HA1 := Lib.hid (Abid.step (B := B) hg1 HW.out.seen (.inl rfl) hB1)
    have HO1 := Lib.hid (show ∀ q, q < w.heap.size → q ≠ sb → (w.setCell ⟨sb, n, none⟩ (.bool true)).heap[q]? = w.heap[q]? from fun q hq hne => hg1.block q hq (fun e => hne (by cases e; rfl)))
    have hz1 : (w.setCell ⟨sb, n, none⟩ (.bool true)).heap.size = w.heap.size := by simp
    have HZ1 := Lib.hid hz1
    clear hg1 b0 f0 a4 hz1
    generalize w.setCell ⟨sb, n, none⟩ (.bool true) = w1 at *
    have a5 := box1 H51.out
    have hp5 := H51.out.lt
    obtain ⟨av, cv, rfl, _⟩ := HN1.out.slice
    go_wp2_with (at_builtin; refine wpList_append_tail rfl _ _ 95 rfl B 3 i0 (.int .i64 0) 8 Try.underlying95 HI.out.1 HI.out.2.1 HI.out.2.2.1 HI.out.2.2.2 rfl _ _ _ rfl (HN1.out.kept ((Kept.refl w1).alloc _)) (some ⟨w1.heap.size, 0, none⟩) 1 1 [.int .i64 (n : Int)] rfl (held_one w1 _ _ rfl) ?c1 ?c2 ?c3 ?_)
    case c1 => unfold maxLen; omega
    case c2 => omega
    case c3 => rw [World.size_alloc]; omega
    intro v' w2 hown hgr hwh
    have ka := (Kept.refl w1).alloc (.cells #[.int .i64 (n : Int)] 3)
    have hn1 := HN1.out.kept ka
    have H42 := Lib.hid ((H41.out.kept ka).gr hgr (hn1.ne (H41.out.kept ka) (by decide)))
    have HB2 := Lib.hid ((HB1.out.kept ka).gr hgr (hn1.ne (HB1.out.kept ka) (by decide)))
    have H52 := Lib.hid ((H51.out.kept ka).gr hgr (hn1.ne (H51.out.kept ka) (by decide)))
    have HA2 := Lib.hid (HA1.out.trans ((Abid.kept ka).trans (Abid.row hgr hn1 (.inr (.inr rfl)))))
    have HV2 := Lib.hid (show ∀ q, v'.ownBlock = some q → (Value.slice av s.2.length cv).ownBlock = some q ∨ w.heap.size ≤ q from fun q e => (hwh q e).imp id (fun h => by
      have := HZ1.out
      omega))
    have HO2 := Lib.hid (show ∀ q, q < w.heap.size → q ≠ sb → (Value.slice av s.2.length cv).ownBlock ≠ some q → w2.heap[q]? = w.heap[q]? from fun q hq h1 h2 => by
      have hq1 : q < w1.heap.size := by rw [HZ1.out]; exact hq
      exact (hgr.block q (by rw [World.size_alloc]; omega) (fun e => h2 e.symm)).trans ((Below.block ka q hq1).trans (HO1.out q hq h1)))
    have hT2 : TailOwn w2 B 3 v' (s.2 ++ [n]).length ((s.2 ++ [n]).map natV) := by
      rw [List.length_append, List.map_append]; exact hown
    obtain ⟨a2, c2, rfl, _⟩ := hown.slice
    have HT2 := Lib.hid hT2
    clear ka hn1 hown hgr hwh hT2
    have a5 := box1 H52.out
    have f5 := H52.out.free 0
    go_wp2_with fail
    go_end0
    have hg3 := gr_set w2 p5 0 (.slice a2 (s.2.length + 1) c2)
    have hne5 : ∀ q C, BlockAt w2 q C 3 → some q ≠ some p5 := Pj.block_types H52.out (by decide)
    refine ⟨⟨_, rfl⟩, .slice a2 (s.2.length + 1) c2, ?_, HV2.out, HA2.out.trans (Abid.step hg3 H52.out (.inr (.inl rfl)) hB2), fun q h1 h2 h3 h4 => (hg3.block q ?_ (fun e => h3 (by cases e; rfl))).trans (HO2.out q h1 h2 h4)⟩
    · rw [HM.out]
      exact ⟨H42.out.gr hg3 (Pj.block_types H52.out (by decide) _ _ H42.out), HB2.out.gr hg3 (Pj.block_types H52.out (by decide) _ _ HB2.out), H52.out.set (i := 0) _, HT2.out.gr hg3 (fun q C hq _ => hne5 q C hq)⟩
    · have := HA2.out.size
      omega
end Go.Proofs.Ytdllenoclnmmdaa

namespace Go.Proofs.Ytdllenoclnmmdaa
open Go.RowKit Go.Shelf
attribute [local go_sem] Oper.semAt_some

/-- rows of numbers whose blocks are Z's -/
def LinksZ (W : World) (g l : Nat) (ll : List (List Nat)) (Z : Nat → Prop) : Prop :=
  ∃ C : Array Value, BlockAt W g C 95 ∧ C.size = l ∧ Z g ∧ ∀ j, j < l → ∃ v, C[j]? = some v ∧ W.ownsRow (g + 1) 3 1 v (ll.getD j []).length ((ll.getD j []).map natV) ∧ ∀ q, v.ownBlock = some q → Z q
theorem own_heap {W W' : World} {base : Nat} {e : TypeId} {s n : Nat} {v : Value} {xs : List Value} (h : W.ownsRow base e s v n xs) (hq : ∀ q, v.ownBlock = some q → W'.heap[q]? = W.heap[q]?) : W'.ownsRow base e s v n xs := by
  obtain ⟨h1, h2 | ⟨g, cap, cur, rfl, hb, hg, h3⟩⟩ := h
  · exact ⟨h1, .inl h2⟩
  · exact ⟨h1, .inr ⟨g, cap, cur, rfl, hb, (hq g rfl).trans hg, h3⟩⟩
theorem LinksZ.heap {W W' : World} {g l : Nat} {ll : List (List Nat)} {Z : Nat → Prop} (h : LinksZ W g l ll Z) (hq : ∀ q, Z q → W'.heap[q]? = W.heap[q]?) : LinksZ W' g l ll Z := by
  obtain ⟨C, h1, h2, h3, h4⟩ := h
  refine ⟨C, (hq g h3).trans h1, h2, h3, fun j hj => ?_⟩
  obtain ⟨v, k1, k2, k3⟩ := h4 j hj
  exact ⟨v, k1, own_heap k2 (fun q e => hq q (k3 q e)), k3⟩
theorem LinksIn.toZ {W : World} {g l : Nat} {ll : List (List Nat)} (h : LinksIn W (some ⟨g, 0, none⟩) l ll) : ∃ Z : Nat → Prop, LinksZ W g l ll Z ∧ ∀ q, Z q → g ≤ q ∧ q < W.heap.size := by
  obtain ⟨g', C, e, hb, hs, hl, hr⟩ := h
  cases e
  refine ⟨fun q => q = g ∨ ∃ j v, j < l ∧ C[j]? = some v ∧ v.ownBlock = some q, ⟨C, hb, hs, .inl rfl, fun j hj => ?_⟩, fun q hq => ?_⟩
  · obtain ⟨v, hv, ho⟩ := hr j hj
    exact ⟨v, hv, ho, fun q e => .inr ⟨j, v, hj, hv, e⟩⟩
  · rcases hq with rfl | ⟨j, v, hj, hv, e⟩
    · exact ⟨Nat.le_refl _, hb.lt⟩
    · obtain ⟨v', hv', ho⟩ := hr j hj
      rw [hv] at hv'
      cases hv'
      have := ho.lt q e
      omega
theorem LinksZ.row {W : World} {g l : Nat} {ll : List (List Nat)} {Z : Nat → Prop} (h : LinksZ W g l ll Z) (i : Nat) (hi : i < l) : ∃ b cap, W.cell? ⟨g, i, none⟩ = some (.slice b (ll.getD i []).length cap) ∧
    ∀ k, k < (ll.getD i []).length → ∃ q, b = some ⟨q, 0, none⟩ ∧ Z q ∧ W.cell? ⟨q, k, none⟩ = some (.int .i64 (((ll.getD i []).getD k 0 : Nat) : Int)) := by
  obtain ⟨C, h1, h2, h3, h4⟩ := h
  obtain ⟨v, hv, ho, hz⟩ := h4 i hi
  obtain ⟨b, cap, rfl⟩ := slice_of_own1 ho
  refine ⟨b, cap, by rw [h1.cell, hv], fun k hk => ?_⟩
  rcases ho.2 with ⟨e, e2⟩ | ⟨q, cap', cur, e, hb, hg, hn, hm, _⟩
  · omega
  · cases e
    refine ⟨q, rfl, hz q rfl, ?_⟩
    rw [ho.cellAt k (by omega)]
    generalize ll.getD i [] = L at hk
    rw [List.getElem?_map, List.getElem?_eq_getElem hk]
    simp [natV, List.getD, hk]
/-- what the body of a range over the walk leaves as it was: all cells but those of texts and of lists of texts -/
structure CellsTy (A B : World) : Prop where
  size : A.heap.size ≤ B.heap.size
  block : ∀ (k : Nat) (cs : Array Value) (t : TypeId) (fr : Nat × Nat), t ≠ 9 → t ≠ 23 → A.heap[k]? = some (Obj.cells cs t fr) → B.heap[k]? = some (Obj.cells cs t fr)
theorem CellsTy.refl (A : World) : CellsTy A A := ⟨Nat.le_refl _, fun _ _ _ _ _ _ h => h⟩
theorem CellsTy.trans {A B C : World} (h : CellsTy A B) (k : CellsTy B C) : CellsTy A C := ⟨Nat.le_trans h.size k.size, fun i cs t fr h1 h2 hi => k.block i cs t fr h1 h2 (h.block i cs t fr h1 h2 hi)⟩
theorem CellsTy.putObj {w : World} (W : World) (l : Nat) (o o' : Obj) (_ : w.heap.size ≤ l) (h : W.heap[l]? = some o) (hc : o.isCells = false) (_ : o.isWalk = false) : CellsTy W (W.putObj l o') := by
  refine ⟨by simp, fun k cs t fr _ _ hk => ?_⟩
  have hne : k ≠ l := fun e => by
    subst e
    rw [h] at hk
    cases hk
    cases hc
  rw [World.putObj_heap_other hne]
  exact hk
theorem BlockAt.ty {A B : World} {b : Nat} {C : Array Value} {t : TypeId} (h : BlockAt A b C t) (k : CellsTy A B) (h1 : t ≠ 9) (h2 : t ≠ 23) : BlockAt B b C t := k.block b C t (0, 0) h1 h2 h
theorem TailOwn.heap {W W' : World} {base : Nat} {e : TypeId} {n : Nat} {v : Value} {xs : List Value} (h : TailOwn W base e v n xs) (hq : ∀ q C, v.ownBlock = some q → BlockAt W q C e → BlockAt W' q C e) : TailOwn W' base e v n xs := by
  obtain ⟨h1, h2 | ⟨g, off, cap, cur, rfl, hb, hg, h3⟩⟩ := h
  · exact ⟨h1, .inl h2⟩
  · exact ⟨h1, .inr ⟨g, off, cap, cur, rfl, hb, hq g cur rfl hg, h3⟩⟩
theorem Wk.ty {A B : World} {b0 p4 sb p5 l : Nat} {v : Value} {s : Sq} (h : Wk A b0 p4 sb p5 l v s) (k : CellsTy A B) : Wk B b0 p4 sb p5 l v s :=
  ⟨h.box4.ty k (by decide) (by decide), h.seen.ty k (by decide) (by decide), h.box5.ty k (by decide) (by decide), h.next.heap (fun _ _ _ hb => hb.ty k (by decide) (by decide))⟩
theorem LinksZ.ty {A B : World} {g l : Nat} {ll : List (List Nat)} {Z : Nat → Prop} (h : LinksZ A g l ll Z) (k : CellsTy A B) : LinksZ B g l ll Z := by
  obtain ⟨C, h1, h2, h3, h4⟩ := h
  refine ⟨C, h1.ty k (by decide) (by decide), h2, h3, fun j hj => ?_⟩
  obtain ⟨v, k1, k2, k3⟩ := h4 j hj
  refine ⟨v, k1, ?_, k3⟩
  obtain ⟨m1, m2 | ⟨q, cap, cur, rfl, hb, hg, m3⟩⟩ := k2
  · exact ⟨m1, .inl m2⟩
  · exact ⟨m1, .inr ⟨q, cap, cur, rfl, hb, BlockAt.ty (show BlockAt A q cur 3 from hg) k (by decide) (by decide), m3⟩⟩
/-- how far the walk is: so many were not seen, so many are next -/
def wkMu (w : World) (sb p5 l : Nat) : Nat := unseenW w sb l + lenV ((w.cell? ⟨p5, 0, none⟩).getD undef)
theorem Wk.mu {w : World} {b0 p4 sb p5 l : Nat} {v : Value} {s : Sq} (h : Wk w b0 p4 sb p5 l v s) (hl : s.1.length = l) : wkMu w sb p5 l = s.1.count false + s.2.length := by
  unfold wkMu
  rw [unseenW_eq h.seen hl, box1 h.box5]
  obtain ⟨a, c, rfl, _⟩ := h.next.slice
  rfl
theorem marks_mu : ∀ (ms : List Nat) (s : Sq), (∀ m ∈ ms, m < s.1.length) → (marks s ms).1.count false + (marks s ms).2.length = s.1.count false + s.2.length ∧ (marks s ms).1.length = s.1.length
  | [], s, _ => ⟨rfl, rfl⟩
  | m :: r, s, h => by
    have hm := h m List.mem_cons_self
    have hl : (mark1 s m).1.length = s.1.length := by
      unfold mark1
      split
      · rfl
      · simp
    obtain ⟨i1, i2⟩ := marks_mu r (mark1 s m) (fun q hq => by rw [hl]; exact h q (List.mem_cons_of_mem _ hq))
    show (marks (mark1 s m) r).1.count false + (marks (mark1 s m) r).2.length = _ ∧ (marks (mark1 s m) r).1.length = _
    rw [i1, i2, hl]
    refine ⟨?_, rfl⟩
    cases e : s.1.getD m false with
    | true => rw [mark1_true e]
    | false =>
      rw [mark1_false e]
      have := count_set hm e
      simp only [List.length_append, List.length_cons, List.length_nil]
      omega
theorem cell_heap {A B : World} {q : Nat} (h : A.heap[q]? = B.heap[q]?) (o : Nat) : A.cell? ⟨q, o, none⟩ = B.cell? ⟨q, o, none⟩ := by
  unfold World.cell?
  rw [h]
/-- these are told, in this order -/
def WalkS (ts : List Th) (rs : List ByteArray) (l : Nat) (xs : List { k : Nat // k < l }) : Prop := ixs xs = walkB (lkF ts) (start0 l (lkD ts rs))
set_option maxRecDepth 100000 in
set_option maxHeartbeats 4000000 in
theorem walkq_stops (n : Nat) (hn : 1 ≤ n) (ax : Option Addr) (l cap : Nat) (ts : List Th) (ar : Option Addr) (lr cr : Nat) (rs : List ByteArray) (pl pr : Nat) (w : World) (hpl : BlockAt w pl #[.slice ax l cap] 46) (hpr : BlockAt w pr #[.slice ar lr cr] 23)
    (hT : ThsIn w ax l ts) (hR : StrsIn w ar lr rs) (hB : thsB ts = true) (hlr : lr ≤ 1000000) :
    SeqT Fence.wide n Try.prog 67 #[.pointer (some ⟨pl, 0, none⟩), .pointer (some ⟨pr, 0, none⟩)]
      (fun k : { k : Nat // k < l } => #[Value.int .i64 ((k.1 : Nat) : Int)]) CellsTy Tw
      (WalkS ts rs l) l w := fun lq J W hW hJ hY h0 => by
  have hplW := hpl.kept hW
  have hprW := hpr.kept hW
  have HT := Lib.hid (hT.kept hW)
  have HR := Lib.hid (hR.kept hW)
  have HL := Lib.hid hT.len_eq
  have h60 : l ≤ 60 := by rw [← hT.len_eq]; exact thsB_few hB
  have HRI := Lib.hid (thsB_ri hB)
  clear hT hR hB hpl hpr hW
  have hmk : ∀ u : World, (Instr.makeSlice 82 (.int .i64 l) (.int .i64 l)).run Try.prog u = .ok (.slice (some ⟨u.heap.size, 0, none⟩) l l) (u.alloc (.cells (blV (List.replicate l false)) 4)) := mkBls l (by omega)
  refine callsIn_of_wp Try.func67 rfl trivial ?_ rfl
  simp only [Try.ntmps67, List.size_toArray, List.length_nil, List.length_cons, Nat.reduceAdd, Nat.reduceSub, Array.replicate_succ, Array.replicate_zero, List.push_toArray, List.append_toArray, List.nil_append, List.cons_append]
  refine wpIn_wide.2 ?_
  have HJ0 := Lib.hid h0
  have HAB := Lib.hid hJ
  have HY := Lib.hid hY
  have HPL := Lib.hid hplW
  have HPR := Lib.hid hprW
  have a1 := box1 hplW
  clear h0 hplW hprW hJ hY
  refine wp_scope_straight ?_
  go_upto_region 3 with (fail)
  obtain ⟨o1, ho1⟩ : ∃ o1, o1 = (Obj.cells (blV (List.replicate l false)) 4) := ⟨_, rfl⟩
  obtain ⟨o2, ho2⟩ : ∃ o2, o2 = (Obj.cells #[Value.slice (some ⟨W.heap.size, 0, none⟩) l l] 82) := ⟨_, rfl⟩
  obtain ⟨o3, ho3⟩ : ∃ o3, o3 = (Obj.cells #[] 3) := ⟨_, rfl⟩
  obtain ⟨o4, ho4⟩ : ∃ o4, o4 = (Obj.cells #[Value.slice (some ⟨W.heap.size + 1 + 1, 0, none⟩) 0 0] 95) := ⟨_, rfl⟩
  have k34 : Kept ((W.alloc o1).alloc o2) ((((W.alloc o1).alloc o2).alloc o3).alloc o4) := ((Kept.refl _).alloc o3).alloc o4
  have k24 : Kept (W.alloc o1) ((((W.alloc o1).alloc o2).alloc o3).alloc o4) := ((Kept.refl _).alloc o2).trans k34
  have k14 : Kept W ((((W.alloc o1).alloc o2).alloc o3).alloc o4) := ((Kept.refl _).alloc o1).trans k24
  have k44 : Kept (((W.alloc o1).alloc o2).alloc o3) ((((W.alloc o1).alloc o2).alloc o3).alloc o4) := (Kept.refl _).alloc o4
  have hk0 : Wk ((((W.alloc o1).alloc o2).alloc o3).alloc o4) W.heap.size (W.heap.size + 1) W.heap.size (W.heap.size + 1 + 1 + 1) l (.slice (some ⟨W.heap.size + 1 + 1, 0, none⟩) 0 0) (List.replicate l false, []) := by
    refine ⟨?_, ?_, ?_, ?_⟩
    · rw [ho2]; exact (BlockAt.new1 W _ _ o1).kept (by rw [← ho2]; exact k34)
    · rw [ho1]; exact (BlockAt.new W _ _).kept (by rw [← ho1]; exact k24)
    · rw [ho4]; exact BlockAt.new3 W _ _ o1 o2 o3
    · have h := own_empty ((W.alloc o1).alloc o2) 3
      have hz : ((W.alloc o1).alloc o2).heap.size = W.heap.size + 1 + 1 := by simp
      rw [hz, ← ho3] at h
      exact (TailOwn.of_own (own_base h (by omega))).kept k44
  rw [← ho1, ← ho2, ← ho3, ← ho4]
  have HKW := Lib.hid k14
  have HW0 := Lib.hid hk0
  have HJ4 := Lib.hid (HAB.out [] W _ none HJ0.out (gr_kept k14 none) (fun r e => by cases e))
  clear k34 k24 k14 k44 hk0 ho1 ho2 ho3 ho4 a1 hmk HJ0
  generalize (((W.alloc o1).alloc o2).alloc o3).alloc o4 = w4 at *
  obtain ⟨sb, hsb⟩ : ∃ sb, sb = W.heap.size := ⟨_, rfl⟩
  obtain ⟨p4, hp4⟩ : ∃ p4, p4 = W.heap.size + 1 := ⟨_, rfl⟩
  obtain ⟨p5, hp5⟩ : ∃ p5, p5 = W.heap.size + 1 + 1 + 1 := ⟨_, rfl⟩
  obtain ⟨B, hBB⟩ : ∃ B, B = W.heap.size := ⟨_, rfl⟩
  have HWB := Lib.hid hBB
  rw [← hp5, ← hp4] at HW0 ⊢
  have hW1 := HW0.out
  rw [← hBB] at hW1
  have HW1 := Lib.hid (show Wk w4 B p4 sb p5 l _ (List.replicate l false, []) by rw [hsb, ← hBB]; exact hW1)
  have hB1 : B ≤ sb := by omega
  have hB2 : B ≤ p5 := by omega
  clear HW0 hW1 hsb hp4 hp5 hBB
  have a2 := box1 (HPR.out.kept HKW.out)
  have HWS := Lib.hid (show ∀ xs : List { k : Nat // k < l }, ixs xs = walkB (lkF ts) (start0 l (lkD ts rs)) → WalkS ts rs l xs from fun _ h => h)
  have HS0 := Lib.hid (show ∀ k, SqOk l [] (start0 l (lkD ts (rs.take k))) from fun k => start0_ok (fun r hr => by have := lkD_lt ts _ r hr; rwa [HL.out] at this))
  have HLR := Lib.hid HR.out.len_eq
  go_wp2_with fail
  go_loopw [22] (fun iv wx => ∃ (k : Nat) (v : Value), k ≤ lr ∧ iv = .int .i64 k ∧ Hid (Wk wx B p4 sb p5 l v (start0 l (lkD ts (rs.take k)))) ∧ Hid (J [] wx) ∧ Kept W wx) (fun iv _ => lr - (intOf iv).toNat)
  case atStart => exact ⟨0, _, by omega, rfl, HW1, HJ4, HKW.out⟩
  case round =>
    rename World => wr
    obtain ⟨k, v, hk, rfl, HWK, HJK, hkr⟩ := hrel
    have HK := Lib.hid hkr
    clear hkr
    by_cases hlt : k < lr
    · have hd1 : decide (k < lr) = true := decide_eq_true hlt
      obtain ⟨br, or, rfl, hcr⟩ := HR.out.at (by omega)
      have r0 := hcr k hlt _ HK.out
      have HSN := Lib.hid (lkD_snoc ts rs k (by rw [HLR.out]; exact hlt))
      obtain ⟨d, hd⟩ : ∃ d, d = rs.getD k ByteArray.empty := ⟨_, rfl⟩
      rw [← hd] at r0 HSN
      have a1 := box1 (HPL.out.kept HK.out)
      have HAT := Lib.hid (at_any ax l cap ts d wr (HT.out.kept HK.out) HRI.out)
      have HFL := Lib.hid (show fdF ts d = true → lbF ts d < l from fun h => by unfold fdF at h; have := (of_decide_eq_true h).1; rwa [HL.out] at this)
      generalize lbF ts d = nn at *
      clear hcr hd
      cases hf : fdF ts d with
      | false =>
        rw [hf] at HAT HSN
        have HE := Lib.hid (show lkD ts (rs.take (k + 1)) = lkD ts (rs.take k) by rw [HSN.out]; simp)
        clear hf HFL
        go_wp2_with fail
        refine HAT.out.mono ?_
        rintro e w5 ⟨rfl, hk5⟩
        have HK5 := Lib.hid (HK.out.trans hk5)
        have HW5 := Lib.hid (HWK.out.kept hk5)
        have HJ5 := Lib.hid (HAB.out [] wr w5 none HJK.out (gr_kept hk5 none) (fun r e => by cases e))
        clear hk5 r0 a1
        go_wp2_with fail
        go_roundw
        case rel => exact ⟨k + 1, v, by omega, by go_num, by rw [HE.out]; exact HW5, HJ5, HK5.out⟩
        case measure => simp [intOf]; omega
      | true =>
        rw [hf] at HAT HSN
        have hnl : nn < l := HFL.out hf
        have HE := Lib.hid (show start0 l (lkD ts (rs.take (k + 1))) = mark1 (start0 l (lkD ts (rs.take k))) nn by rw [HSN.out]; simp [start0, marks_snoc])
        have HSK := Lib.hid (HS0.out k)
        clear hf HFL
        generalize start0 l (lkD ts (rs.take k)) = sk at *
        have hs2 : sk.2.length ≤ 100000 := by have := HSK.out.bound; omega
        have HMK := Lib.hid (fun w h => mark_any B p4 sb p5 l v sk nn w h HSK.out.len hnl ⟨hB1, hB2⟩ hs2)
        go_wp2_with fail
        refine HAT.out.mono ?_
        rintro e w5 ⟨rfl, hk5⟩
        have HK5 := Lib.hid (HK.out.trans hk5)
        have HW5 := Lib.hid (HWK.out.kept hk5)
        have HJ5 := Lib.hid (HAB.out [] wr w5 none HJK.out (gr_kept hk5 none) (fun r e => by cases e))
        clear hk5 r0 a1
        go_wp2_with fail
        refine (HMK.out _ HW5.out).mono ?_
        rintro e w6 ⟨⟨u6, rfl⟩, v6, hw6, _, ha6, _⟩
        have HW6 := Lib.hid hw6
        have HK6 := Lib.hid (ha6.keeps HK5.out (by rw [HWB.out]; exact Nat.le_refl _))
        have HJ6 := Lib.hid (ha6 (J []) (by rw [HWB.out]; exact HAB.out []) HJ5.out)
        clear hw6 ha6
        go_wp2_with fail
        go_roundw
        case rel => exact ⟨k + 1, v6, by omega, by go_num, by rw [HE.out]; exact HW6, HJ6, HK6.out⟩
        case measure => simp [intOf]; omega
    · obtain rfl : lr = k := by omega
      have hd1 : decide (lr < lr) = false := decide_eq_false (by omega)
      have HSF := Lib.hid (show start0 l (lkD ts (rs.take lr)) = start0 l (lkD ts rs) by rw [List.take_of_length_le (by rw [HLR.out]; exact Nat.le_refl _)])
      have HSO := Lib.hid (HS0.out lr)
      rw [HSF.out] at HWK HSO
      generalize start0 l (lkD ts rs) = S0 at *
      have a1 := box1 (HPL.out.kept HK.out)
      have HLK := Lib.hid (links_at ax l cap ts wr (HT.out.kept HK.out) HRI.out h60)
      have HLE := Lib.hid (show (lkF ts).length = l by rw [lkF_len]; exact HL.out)
      have hRL0 := Lib.hid (show ∀ i, i < l → ((lkF ts).getD i []).length ≤ 40 from fun i hi => lkF_few ts i (by rw [HL.out]; exact hi))
      have HOK := Lib.hid (lkF_ok ts)
      generalize lkF ts = LL at *
      clear HS0 HSF
      go_wp2_with fail
      refine HLK.out.mono ?_
      rintro e w5 ⟨c5, rfl, hli, hk5⟩
      have hgw : wr.heap.size = wr.heap.size := rfl
      have HZX := Lib.hid hli.toZ
      have hz5 : wr.heap.size ≤ w5.heap.size := hk5.size
      have HK5 := Lib.hid (HK.out.trans hk5)
      have HW5 := Lib.hid (HWK.out.kept hk5)
      have HJ5 := Lib.hid (HAB.out [] wr w5 none HJK.out (gr_kept hk5 none) (fun r e => by cases e))
      have hsbl : sb < wr.heap.size := HWK.out.seen.lt
      have hp5l : p5 < wr.heap.size := HWK.out.box5.lt
      have hvl := HWK.out.next.lt
      obtain ⟨gl, hgl⟩ : ∃ gl, gl = wr.heap.size := ⟨_, rfl⟩
      obtain ⟨zb, hzb⟩ : ∃ zb, zb = w5.heap.size := ⟨_, rfl⟩
      rw [← hgl] at HZX ⊢
      obtain ⟨Z, hLZ, hZb⟩ := HZX.out
      have HLZ := Lib.hid hLZ
      have HZB := Lib.hid (show ∀ q, Z q → q < zb ∧ q ≠ sb ∧ q ≠ p5 from fun q h => by have := hZb q h; omega)
      have HZV := Lib.hid (show ∀ q, v.ownBlock = some q → ¬ Z q from fun q e h => by have := hZb q h; have := hvl q e; omega)
      have HZN := Lib.hid (show ∀ q, Z q → q < zb from fun q h => (HZB.out q h).1)
      have hzb5 : zb ≤ w5.heap.size := by omega
      clear hli hk5 HLK hvl hZb hLZ HZX hgw hgl hzb a1 HWK HJK hsbl hp5l hz5
      have HSL := Lib.hid (show ∀ k, SqOk l (runB LL S0 k).1 (runB LL S0 k).2 from fun k => by
        have := runB_ok HOK.out (by rw [HLE.out]; exact HSO.out) k
        rwa [HLE.out] at this)
      have HWL := Lib.hid (show ∀ k, k ≤ l → (runB LL S0 k).2.2 = [] → walkB LL S0 = (runB LL S0 k).1 from fun k hk h => walkB_of (by rw [HLE.out]; exact hk) h)
      have HRS := Lib.hid (show ∀ k y sn m r, runB LL S0 k = (y, sn, m :: r) → runB LL S0 (k + 1) = (y ++ [m], marks (sn, r) (LL.getD m [])) from fun k y sn m r h => by
        show (match (runB LL S0 k).2.2 with | [] => runB LL S0 k | n :: r => _) = _
        rw [h])
      have HOM := Lib.hid (show ∀ i, i < l → ∀ m ∈ LL.getD i [], m < l from fun i hi m hm => by
        have := HOK.out i (by rw [HLE.out]; exact hi) m hm
        rwa [HLE.out] at this)
      have HR0 := Lib.hid (show runB LL S0 0 = ([], S0) from rfl)
      clear HOK HSO HLE
      generalize walkB LL S0 = WL at *
      generalize runB LL S0 = RB at *
      go_wp2_with fail
      refine wp_label ?_
      go_wp2_with fail
      refine wp_of_in n ?_
      gi_loopw [12] (fun _ wx => ∃ (k : Nat) (pre : List { k : Nat // k < l }) (y : List Nat) (sq : Sq) (v : Value), Hid (RB k = (y, sq)) ∧ Hid (ixs pre = y) ∧ Hid (y.length = k) ∧ Hid (Wk wx B p4 sb p5 l v sq) ∧ Hid (LinksZ wx gl l LL Z) ∧ Hid (∀ q, v.ownBlock = some q → ¬ Z q) ∧ Hid (J pre wx) ∧ zb ≤ wx.heap.size) (fun _ wx => wkMu wx sb p5 l)
      case atStart => exact ⟨0, [], [], S0, v, HR0, Lib.hid rfl, Lib.hid rfl, HW5, HLZ, HZV, HJ5, hzb5⟩
      case round =>
        rename World => wx
        clear HW5 HLZ HZV HJ5 hzb5 HK5
        obtain ⟨k, pre, y, ⟨sn, nx⟩, v2, HRB, HPR2, HYL, HWX, HLX, HVX, HJX, hzx⟩ := hrel
        have HSK := Lib.hid (show SqOk l y (sn, nx) by have := HSL.out k; rwa [HRB.out] at this)
        have hbd := HSK.out.bound
        rw [HYL.out] at hbd
        dsimp only at hbd
        have HMU := Lib.hid (HWX.out.mu HSK.out.len)
        have a5 := box1 HWX.out.box5
        have f5 := HWX.out.box5.free 0
        cases nx with
        | nil =>
          obtain ⟨av, cv, rfl, _⟩ := HWX.out.next.slice
          have HE := Lib.hid (show ixs pre = WL by
            rw [HPR2.out, HWL.out k (by omega) (by rw [HRB.out]), HRB.out])
          clear hbd f5
          gi_wp2_with fail
          go_end0
          exact ⟨⟨_, rfl⟩, pre, HWS.out pre HE.out, HJX.out⟩
        | cons m r =>
          have hml : m < l := HSK.out.lt m (by simp)
          obtain ⟨gg, off, cp, rfl, hbg, hnc, hcells⟩ := HWX.out.next.cells (by simp)
          have c0 := hcells 0 (by simp) _ (Kept.refl _)
          simp only [List.map_cons, List.getElem?_cons_zero, Nat.add_zero, natV] at c0
          have htl : TailOwn wx B 3 (.slice (if cp = 1 then some ⟨gg, off, none⟩ else some ⟨gg, off + 1, none⟩) r.length (cp - 1)) r.length (r.map natV) := HWX.out.next.tail
          obtain ⟨az, haz⟩ : ∃ az : Addr, (if cp = 1 then some (⟨gg, off, none⟩ : Addr) else some ⟨gg, off + 1, none⟩) = some az := by split <;> exact ⟨_, rfl⟩
          obtain ⟨cq, hcq⟩ : ∃ cq, cp - 1 = cq := ⟨_, rfl⟩
          rw [haz, hcq] at htl
          have hazb : az.block = gg := by
            split at haz <;> (cases haz; rfl)
          have HTL := Lib.hid htl
          have hg1 := gr_set wx p5 0 (.slice (some az) r.length cq)
          have HW1 := Lib.hid (show Wk (wx.setCell ⟨p5, 0, none⟩ (.slice (some az) r.length cq)) B p4 sb p5 l (.slice (some az) r.length cq) (sn, r) from
            ⟨HWX.out.box4.gr hg1 (Pj.block_types HWX.out.box5 (by decide) _ _ HWX.out.box4), HWX.out.seen.gr hg1 (Pj.block_types HWX.out.box5 (by decide) _ _ HWX.out.seen), HWX.out.box5.set (i := 0) _, htl.gr hg1 (fun q C hq _ => Pj.block_types HWX.out.box5 (by decide) q C hq)⟩)
          have HL1 := Lib.hid (HLX.out.heap (fun q hq => hg1.block q (by have := HZN.out q hq; omega) (fun e => (HZB.out q hq).2.2 (by cases e; rfl))))
          have HV1 := Lib.hid (show ∀ q, (Value.slice (some az) r.length cq).ownBlock = some q → ¬ Z q from fun q e => HVX.out q (by
            cases e
            show some gg = some az.block
            rw [hazb]))
          have HA1 := Lib.hid (Abid.step (B := B) hg1 HWX.out.box5 (.inr (.inl rfl)) hB2)
          have HJ1 := Lib.hid (HA1.out (J pre) (by rw [HWB.out]; exact HAB.out pre) HJX.out)
          have hz1 : zb ≤ (wx.setCell ⟨p5, 0, none⟩ (.slice (some az) r.length cq)).heap.size := by simpa using hzx
          have hyy := HY.out pre ⟨m, hml⟩ _ HJ1.out (by have := congrArg List.length HPR2.out; rw [ixs_length, HYL.out] at this; simp at hbd; omega)
          obtain ⟨f9, t9, s9, b9, hy1, hR1⟩ := hyy
          have HR1 := Lib.hid hR1
          clear hcells htl hg1 hbg hR1 hbd
          gi_wp2_with fail
          refine HR1.out.mono ?_
          rintro e W3 ⟨rfl, hj3, hcy⟩
          have HW3 := Lib.hid (HW1.out.ty hcy)
          have HL3 := Lib.hid (HL1.out.ty hcy)
          have HJ3 := Lib.hid hj3
          have hz3 : zb ≤ W3.heap.size := Nat.le_trans hz1 hcy.size
          have hcnt := hRL0.out m hml
          obtain ⟨rb, rc, hr0, hrk⟩ := HL3.out.row m hml
          have HLZ3 := Lib.hid hrk
          have HOMM := Lib.hid (HOM.out m hml)
          have HNX := Lib.hid (HRS.out k y sn m r HRB.out)
          have HSKP := Lib.hid HSK.out.pop
          have HPX := Lib.hid (show ixs (pre ++ [⟨m, hml⟩]) = y ++ [m] by rw [ixs_snoc, HPR2.out])
          have HJP := Lib.hid (show ∀ A A', Abid B A A' → J (pre ++ [⟨m, hml⟩]) A → J (pre ++ [⟨m, hml⟩]) A' from fun A A' h hj => h (J (pre ++ [⟨m, hml⟩])) (by rw [HWB.out]; exact HAB.out _) hj)
          have HMM2 := Lib.hid (show ∀ w, unseenW w sb l = unseenW w sb l from fun _ => rfl)
          generalize pre ++ [⟨m, hml⟩] = pre2 at *
          generalize LL.getD m [] = LM at *
          clear hj3 hcy HW1 HL1 HJ1 HR1 hz1 a5 f5 c0 haz hcq HTL HA1 hrk HMM2
          gi_wp2_with fail
          gi_loopw [56] (fun iv wy => ∃ (j : Nat) (v3 : Value), j ≤ LM.length ∧ iv = .int .i64 j ∧ Hid (Wk wy B p4 sb p5 l v3 (marks (sn, r) (LM.take j))) ∧ Hid (∀ q, Z q → wy.heap[q]? = W3.heap[q]?) ∧ Hid (∀ q, v3.ownBlock = some q → ¬ Z q) ∧ Hid (J pre2 wy) ∧ zb ≤ wy.heap.size) (fun iv _ => LM.length - (intOf iv).toNat)
          case atStart => exact ⟨0, _, by omega, rfl, HW3, Lib.hid (fun _ _ => rfl), HV1, HJ3, hz3⟩
          case round =>
            rename World => wy
            obtain ⟨j, v3, hj, rfl, HWY, HLY, HVY, HJY, hzy⟩ := hrel
            by_cases hjl : j < LM.length
            · have hd2 : decide (j < LM.length) = true := decide_eq_true hjl
              obtain ⟨qb, rfl, hzq, hcq⟩ := HLZ3.out j hjl
              have hcy : wy.cell? ⟨qb, j, none⟩ = some (.int .i64 ((LM.getD j 0 : Nat) : Int)) := by rw [cell_heap (HLY.out qb hzq), hcq]
              have hmem : LM.getD j 0 ∈ LM := by simp [List.getD, hjl]
              have hql := HOMM.out _ hmem
              have HTK := Lib.hid (show marks (sn, r) (LM.take (j + 1)) = mark1 (marks (sn, r) (LM.take j)) (LM.getD j 0) by
                rw [List.take_succ_eq_append_getElem hjl, marks_snoc]
                simp [List.getD, hjl])
              have HSJ := Lib.hid (SqOk.marks (LM.take j) HSKP.out (fun q hq => HOMM.out q (List.mem_of_mem_take hq)))
              generalize LM.getD j 0 = mj at *
              generalize marks (sn, r) (LM.take j) = sj at *
              have hs2 : sj.2.length ≤ 100000 := by have := HSJ.out.bound; omega
              have HMK := Lib.hid (mark_any B p4 sb p5 l v3 sj mj wy HWY.out HSJ.out.len hql ⟨hB1, hB2⟩ hs2)
              clear hmem hzq hcq
              gi_wp2_with fail
              refine ⟨trivial, callsIn_wide.2 (HMK.out.mono ?_)⟩
              rintro e w6 ⟨⟨u6, rfl⟩, v6, hw6, hv6, ha6, ho6⟩
              have HW6 := Lib.hid hw6
              have HV6 := Lib.hid (show ∀ q, v6.ownBlock = some q → ¬ Z q from fun q e hq => by
                rcases hv6 q e with h | h
                · exact HVY.out q h hq
                · have := HZN.out q hq
                  omega)
              have HH6 := Lib.hid (show ∀ q, Z q → w6.heap[q]? = W3.heap[q]? from fun q hq => by
                have := HZB.out q hq
                rw [ho6 q (by omega) this.2.1 this.2.2 (fun e => HVY.out q e hq), HLY.out q hq])
              have HJ6 := Lib.hid (HJP.out _ _ ha6 HJY.out)
              have hz6 : zb ≤ w6.heap.size := Nat.le_trans hzy ha6.size
              clear hw6 hv6 ha6 ho6 hcy
              gi_wp2_with fail
              go_roundw
              case rel => exact ⟨j + 1, v6, by omega, by go_num, by rw [HTK.out]; exact HW6, HH6, HV6, HJ6, hz6⟩
              case measure => simp [intOf]; omega
            · have hje : LM.length = j := by omega
              have hd2 : decide (j < LM.length) = false := decide_eq_false hjl
              have HTK := Lib.hid (show LM.take j = LM by rw [List.take_of_length_le (by omega)])
              rw [HTK.out] at HWY
              have HLF := Lib.hid (HL3.out.heap HLY.out)
              have HYL2 := Lib.hid (show (y ++ [m]).length = k + 1 by rw [List.length_append, HYL.out]; rfl)
              have HMF := Lib.hid (HWY.out.mu (by have := (marks_mu LM (sn, r) (fun q hq => by rw [HSK.out.len]; exact HOMM.out q hq)).2; rw [this]; exact HSK.out.len))
              have HM1 := Lib.hid (marks_mu LM (sn, r) (fun q hq => by rw [HSK.out.len]; exact HOMM.out q hq)).1
              clear hje HTK
              gi_wp2_with fail
              go_roundw
              case rel => exact ⟨k + 1, pre2, y ++ [m], marks (sn, r) LM, v3, HNX, HPX, HYL2, HWY, HLF, HVY, HJY, hzy⟩
              case measure =>
                rw [HMU.out, HMF.out, HM1.out]
                simp
end Go.Proofs.Ytdllenoclnmmdaa

namespace Go.Proofs.Ytdllenoclnmmdaa
open Go.RowKit Go.Shelf
attribute [local go_sem] Oper.semAt_some

theorem CellsTy.of_kept {A B : World} (h : Kept A B) : CellsTy A B := ⟨h.size, fun k cs t fr _ _ hk => by
  have hlt : k < A.heap.size := (Array.getElem?_eq_some_iff.1 hk).1
  exact (Below.block h k hlt).trans hk⟩
theorem CellsTy.of_row {w w' : World} {base s n : Nat} {v : Value} {xs : List Value} (h : w.ownsRow base 9 s v n xs) (g : w.grownBy w' v.ownBlock) : CellsTy w w' := ⟨g.size, fun k cs t fr h1 _ hk => by
  have hlt : k < w.heap.size := (Array.getElem?_eq_some_iff.1 hk).1
  refine (g.block k hlt (fun e => ?_)).trans hk
  obtain ⟨_, ⟨rfl, _⟩ | ⟨q, cap, cur, rfl, _, hg, _⟩⟩ := h
  · cases e
  · cases e
    rw [hk] at hg
    cases hg
    exact h1 rfl⟩
theorem CellsTy.of_set {w : World} {b : Nat} {C : Array Value} (h : BlockAt w b C 23) (i : Nat) (v : Value) : CellsTy w (w.setCell ⟨b, i, none⟩ v) := ⟨by simp, fun k cs t fr _ h2 hk => by
  have hne : k ≠ b := fun e => by
    subst e
    have := Eq.trans (Eq.symm hk) h
    cases this
    exact h2 rfl
  exact (Below.heap_setCell w ⟨b, i, none⟩ v k hne).trans hk⟩
theorem ownT_block {B b : Nat} {C : Array Value} {t : TypeId} (ht : ¬ Tw t) : OwnT B Tw (fun W => BlockAt W b C t) := fun A A' row h g hr => by
  refine h.gr g (fun e => ?_)
  obtain ⟨_, o, ho, hT⟩ := hr b e.symm
  rw [show A.heap[b]? = some (.cells C t (0, 0)) from h] at ho
  cases ho
  exact ht (hT C t (0, 0) rfl)
theorem ownT_row {B base s n : Nat} {e : TypeId} {v : Value} {xs : List Value} (ht : ¬ Tw e) : OwnT B Tw (fun W => W.ownsRow base e s v n xs) := fun A A' row h g hr =>
  h.kept g (by
    cases hv : v.ownBlock with
    | none => exact .inl rfl
    | some k =>
      refine .inr fun e2 => ?_
      have er : row = some k := by first | exact e2 | exact e2.symm
      obtain ⟨_, ⟨rfl, _⟩ | ⟨q, cap, cur, rfl, _, hg, _⟩⟩ := h
      · cases hv
      · cases hv
        obtain ⟨_, o, ho, hT⟩ := hr q er
        rw [hg] at ho
        cases ho
        exact ht (hT cur e (0, 0) rfl))
theorem grown_set (w : World) (b i : Nat) (v : Value) : w.grownBy (w.setCell ⟨b, i, none⟩ v) (some b) := gr_set w b i v
theorem own_form {w : World} {base s n : Nat} {e : TypeId} {v : Value} {xs : List Value} (h : w.ownsRow base e s v n xs) (hn : 0 < n) : ∃ g cap, v = .slice (some ⟨g, 0, none⟩) n cap := by
  obtain ⟨_, ⟨_, h0⟩ | ⟨g, cap, cur, hv, _⟩⟩ := h
  · omega
  · exact ⟨g, cap, hv⟩
theorem tw_st : ¬ Tw 9 := by unfold Tw; decide
theorem tw_ls : ¬ Tw 23 := by unfold Tw; decide
theorem tw_th : ¬ Tw 46 := by unfold Tw; decide
/-- the walk's digests, sorted, are what is reached in its order -/
theorem from_sort {ts : List Th} (hr : riB (digs ts) = true) (rs : List ByteArray) :
    ((walkB (lkF ts) (start0 ts.length (lkD ts rs))).map fun n => (dOf ts n).data.toList).mergeSort (fun x y => decide (x ≤ y)) = ((List.range ts.length).filter (rchB ts rs)).map fun n => (dOf ts n).data.toList := by
  have hok := lkF_ok ts
  have hrs : ∀ r ∈ lkD ts rs, r < (lkF ts).length := fun r h => by rw [lkF_len]; exact lkD_lt ts rs r h
  obtain ⟨hn, hlt⟩ := walkB_nodup hok hrs
  rw [lkF_len] at hn hlt
  have hperm : (walkB (lkF ts) (start0 ts.length (lkD ts rs))).Perm ((List.range ts.length).filter (rchB ts rs)) := by
    refine (List.perm_ext_iff_of_nodup hn (List.Pairwise.filter _ List.nodup_range)).2 (fun i => ?_)
    rw [List.mem_filter, List.mem_range]
    unfold rchB
    rw [decide_eq_true_iff]
    exact ⟨fun h => ⟨hlt i h, h⟩, fun h => h.2⟩
  refine List.Perm.eq_of_pairwise (le := fun x y : List UInt8 => decide (x ≤ y) = true) (fun a b _ _ h1 h2 => List.le_antisymm (by simpa using h1) (by simpa using h2)) ?_ ?_ ((List.mergeSort_perm _ _).trans (hperm.map _))
  · exact List.pairwise_mergeSort (le := fun (x y : List UInt8) => decide (x ≤ y)) (fun a b c h1 h2 => by simp at h1 h2 ⊢; exact List.le_trans h1 h2) (fun a b => by simp; exact List.le_total a b) _
  · rw [List.pairwise_map]
    have h1 : ((List.range ts.length).filter (rchB ts rs)).Pairwise (fun i j => i < j ∧ j < ts.length) := by
      have h0 : (List.range ts.length).Pairwise (· < ·) := List.pairwise_lt_range
      refine List.Pairwise.imp_of_mem (R := fun i j => i < j) (fun {a b} _ hb h => ⟨h, List.mem_range.1 (List.mem_filter.1 hb).1⟩) (h0.filter _)
    refine h1.imp (fun {i j} h => ?_)
    have h3 := th_lt hr h.1 h.2
    rw [ltB_list] at h3
    exact decide_eq_true (List.le_of_lt (of_decide_eq_true h3))
theorem walkq_any (ax : Option Addr) (l cap : Nat) (ar : Option Addr) (lr cr : Nat) (w : World) :
    Calls Try.prog 52 #[.slice ax l cap, .slice ar lr cr] w fun e w' => e = .returned (.func (.func 67) #[] #[.pointer (some ⟨w.heap.size, 0, none⟩), .pointer (some ⟨w.heap.size + 1, 0, none⟩)]) ∧
      w' = (w.alloc (.cells #[.slice ax l cap] 46)).alloc (.cells #[.slice ar lr cr] 23) := by
  go_enter Try.func52, Try.ntmps52
  go_wp2
  go_ret
  exact ⟨rfl, rfl⟩
set_option maxRecDepth 100000 in
theorem from_bad (ax : Option Addr) (l cap : Nat) (ts : List Th) (ar : Option Addr) (lr cr : Nat) (wo : World) (h : ThsIn wo ax l ts) (hB : thsB ts = false) :
    Calls Try.prog 29 #[.slice ax l cap, .slice ar lr cr] wo (TextsE wo [] 1) := by
  have HB0 := Lib.hid (BlockAt.new wo #[.slice ax l cap] 46)
  have HK0 := Lib.hid ((Kept.refl wo).alloc (.cells #[.slice ax l cap] 46))
  have HCK := Lib.hid (rcheck_any ax l cap ts _ (h.kept HK0.out))
  have HNE := Lib.hid (show (if thsB ts = true then (0 : Int) else 1) = 1 by rw [hB]; rfl)
  rw [HNE.out] at HCK
  clear h hB HNE
  go_enter Try.func29, Try.ntmps29
  go_upto_region 1 with (fail)
  generalize wo.alloc (.cells #[.slice ax l cap] 46) = w1 at *
  have a0 := box1 HB0.out
  go_wp2_with fail
  refine HCK.out.mono ?_
  rintro e w2 ⟨rfl, hk2⟩
  have HK2 := Lib.hid (HK0.out.trans hk2)
  clear hk2 a0
  go_wp2_with fail
  go_ret2
  exact ⟨none, 0, rfl, nil_strs _ _, HK2.out⟩
/-- texts in a block of their own, and an error -/
def TextsO (w : World) (ss : List ByteArray) (E : Int) (e : Ending) (w' : World) : Prop := ∃ g c, e = .returned (.tuple #[.slice (some ⟨g, 0, none⟩) ss.length c, .int .i64 E]) ∧ StrsIn w' (some ⟨g, 0, none⟩) ss.length ss ∧ Kept w w' ∧ w.heap.size ≤ g ∧ ∃ cs, BlockAt w' g cs 9
theorem TextsO.toE {w : World} {ss : List ByteArray} {E : Int} {e : Ending} {w' : World} (h : TextsO w ss E e w') : TextsE w ss E e w' := by
  obtain ⟨g, c, h1, h2, h3, _⟩ := h
  exact ⟨_, c, h1, h2, h3⟩
set_option maxRecDepth 100000 in
set_option maxHeartbeats 8000000 in
theorem from_good (ax : Option Addr) (l cap : Nat) (ts : List Th) (ar : Option Addr) (lr cr : Nat) (rs : List ByteArray) (wo : World) (h : ThsIn wo ax l ts) (hr : StrsIn wo ar lr rs) (hlr : lr ≤ 1000000) (hB : thsB ts = true) :
    Calls Try.prog 29 #[.slice ax l cap, .slice ar lr cr] wo (TextsO wo (fromL ts rs) 0) := by
  have HS := Lib.hid h
  have HRS := Lib.hid hr
  have HL := Lib.hid h.len_eq
  have HSZ := Lib.hid (show ∀ n, (dOf ts n).size ≤ 9223372036854775807 from fun n => by have := (ths_small h.sizes n).1; unfold dOf; omega)
  have HB0 := Lib.hid (BlockAt.new wo #[.slice ax l cap] 46)
  have HK0 := Lib.hid ((Kept.refl wo).alloc (.cells #[.slice ax l cap] 46))
  obtain ⟨pL, hpL⟩ : ∃ pL, pL = wo.heap.size := ⟨_, rfl⟩
  clear h hr
  refine callsIn_wide.1 (callsIn_of_wp_marks (n := 8) Try.func29 rfl trivial ?_ rfl)
  simp only [Try.ntmps29, List.size_toArray, List.length_nil, List.length_cons, Nat.reduceAdd, Nat.reduceSub, Array.replicate_succ, Array.replicate_zero, List.push_toArray, List.append_toArray, List.nil_append, List.cons_append]
  refine wpIn_wide.2 ?_
  go_upto_region 1 with (fail)
  generalize wo.alloc (.cells #[.slice ax l cap] 46) = w1 at *
  rw [← hpL] at HB0 ⊢
  have HPLE := Lib.hid hpL
  clear hpL
  have a0 := box1 HB0.out
  have hck := rcheck_any ax l cap ts w1 (HS.out.kept HK0.out)
  rw [if_pos hB] at hck
  have HCK := Lib.hid hck
  have h60 : l ≤ 60 := by rw [← HL.out]; exact thsB_few hB
  have HTB := Lib.hid hB
  have HRI := Lib.hid (thsB_ri hB)
  clear hB hck
  go_wp2_with fail
  refine HCK.out.mono ?_
  rintro e w2 ⟨rfl, hk2⟩
  have HK2 := Lib.hid (HK0.out.trans hk2)
  have HB2 := Lib.hid (HB0.out.kept hk2)
  clear hk2 a0 HCK HK0 HB0
  go_upto_region 4 with (fail)
  obtain ⟨o1, ho1⟩ : ∃ o1, o1 = (Obj.cells #[] 9) := ⟨_, rfl⟩
  obtain ⟨o2, ho2⟩ : ∃ o2, o2 = (Obj.cells #[Value.slice (some ⟨w2.heap.size, 0, none⟩) 0 0] 23) := ⟨_, rfl⟩
  have k12 : Kept w2 ((w2.alloc o1).alloc o2) := ((Kept.refl w2).alloc o1).alloc o2
  have hd0 : ((w2.alloc o1).alloc o2).ownsRow wo.heap.size 9 1 (.slice (some ⟨w2.heap.size, 0, none⟩) 0 0) 0 [] := by
    have h := own_empty w2 9
    rw [← ho1] at h
    exact own_kept (own_base h HK2.out.size) ((Kept.refl _).alloc o2)
  have hp0 : BlockAt ((w2.alloc o1).alloc o2) (w2.heap.size + 1) #[.slice (some ⟨w2.heap.size, 0, none⟩) 0 0] 23 := by
    rw [ho2]; exact BlockAt.new1 w2 _ _ o1
  have HD3 := Lib.hid hd0
  have HP3 := Lib.hid hp0
  have HB3 := Lib.hid (HB2.out.kept k12)
  have HK3 := Lib.hid (HK2.out.trans k12)
  obtain ⟨pd, hpd⟩ : ∃ pd, pd = w2.heap.size + 1 := ⟨_, rfl⟩
  obtain ⟨db, hdb⟩ : ∃ db, db = w2.heap.size := ⟨_, rfl⟩
  rw [← ho1, ← ho2]
  have hpdl : wo.heap.size ≤ pd := by have := HK2.out.size; omega
  rw [← hpd] at HP3 ⊢
  rw [← hdb] at HP3 HD3 ⊢
  clear k12 hd0 hp0 ho1 ho2 hpd hdb HB2 HK2
  generalize (w2.alloc o1).alloc o2 = w3 at *
  have a0 := box1 HB3.out
  go_wp2_with fail
  refine (walkq_any ax l cap ar lr cr w3).mono ?_
  rintro e w4 ⟨rfl, hw4⟩
  have k34 : Kept w3 w4 := by rw [hw4]; exact ((Kept.refl w3).alloc _).alloc _
  have HPL4 := Lib.hid (show BlockAt w4 w3.heap.size #[.slice ax l cap] 46 by rw [hw4]; exact (BlockAt.new w3 _ _).kept ((Kept.refl _).alloc _))
  have HPR4 := Lib.hid (show BlockAt w4 (w3.heap.size + 1) #[.slice ar lr cr] 23 by rw [hw4]; exact BlockAt.new1 w3 _ _ _)
  have HB4 := Lib.hid (HB3.out.kept k34)
  have HD4 := Lib.hid (own_kept HD3.out k34)
  have HP4 := Lib.hid (HP3.out.kept k34)
  have HK4 := Lib.hid (HK3.out.trans k34)
  clear k34 hw4 a0 HB3 HD3 HP3 HK3
  obtain ⟨iA, hi1, hz0, hz1, hz2⟩ := info_parts Try.infoSt
  have HIA := Lib.hid (And.intro hi1 (And.intro hz0 (And.intro hz1 hz2)))
  clear hi1 hz0 hz1 hz2
  go_wp2_with fail
  refine wp_of_in 8 ?_
  refine wpIn_range_T rfl (by omega) (gf := 67) (lb := #[.pointer (some ⟨w3.heap.size, 0, none⟩), .pointer (some ⟨w3.heap.size + 1, 0, none⟩)]) rfl trivial (enters_of Try.func67 (by kernel_rfl) rfl)
    (walkq_stops 7 (by omega) ax l cap ts ar lr cr rs w3.heap.size (w3.heap.size + 1) w4 HPL4.out HPR4.out (HS.out.kept HK4.out) (HRS.out.kept HK4.out) HTB.out hlr)
    CellsTy.trans CellsTy.putObj (Below.refl _ _) (fun _ => rfl)
    (fun pre W => ∃ g cd, BlockAt W pd #[.slice (some ⟨g, 0, none⟩) pre.length cd] 23 ∧ W.ownsRow wo.heap.size 9 1 (.slice (some ⟨g, 0, none⟩) pre.length cd) pre.length (pre.map fun i => Value.string (dOf ts i.1)) ∧ BlockAt W pL #[.slice ax l cap] 46 ∧ Kept wo W)
    ?hI ?h0 ?round ?done
  case hI =>
    rintro pre A A' row ⟨g, cd, h1, h2, h3, h4⟩ hg hr
    exact ⟨g, cd, ownT_block tw_ls A A' row h1 hg hr, ownT_row tw_st A A' row h2 hg hr, ownT_block tw_th A A' row h3 hg hr, kept_gr h4 hg (fun r e => Nat.le_trans HK4.out.size (hr r e).1)⟩
  case h0 => exact ⟨db, 0, HP4.out, HD4.out, HB4.out, HK4.out⟩
  case round =>
    rintro lq pre ⟨i, hi⟩ W K hlen hK
    have HKK := Lib.hid hK
    clear hK
    gi_wp2
    refine HKK.out _ ?_
    clear HKK
    rintro WR ⟨g, cd, hp, ho, hl, hk⟩
    have HPD := Lib.hid hp
    have HOD := Lib.hid ho
    have HPL := Lib.hid hl
    have HKX := Lib.hid hk
    have HPM := Lib.hid (show (pre ++ [(⟨i, hi⟩ : { k : Nat // k < l })]).map (fun i => Value.string (dOf ts i.1)) = pre.map (fun i => Value.string (dOf ts i.1)) ++ [Value.string (dOf ts i)] by simp)
    have HPN := Lib.hid (show (pre ++ [(⟨i, hi⟩ : { k : Nat // k < l })]).length = pre.length + 1 by simp)
    obtain ⟨ad, had⟩ : ∃ ad, ad = some (⟨g, 0, none⟩ : Addr) := ⟨_, rfl⟩
    rw [← had] at HPD HOD
    obtain ⟨bx, ox, rfl, hcx⟩ := HS.out.at (by omega)
    have hcy := fun w k => (hcx i hi w k).1
    rw [show (ts.getD i th00).d = dOf ts i from rfl] at hcy
    generalize pre ++ [(⟨i, hi⟩ : { k : Nat // k < l })] = pre2 at *
    generalize pre.map (fun i => Value.string (dOf ts i.1)) = xsd at *
    obtain ⟨nd, hnd⟩ : ∃ nd, nd = pre.length := ⟨_, rfl⟩
    rw [← hnd] at HPD HOD HPN hlen
    have HSS := Lib.hid (HSZ.out i)
    obtain ⟨s9, hs9⟩ : ∃ s9, s9 = dOf ts i := ⟨_, rfl⟩
    rw [← hs9] at hcy HPM
    have HCX := Lib.hid hcy
    have hle := hpdl
    have hn60 : nd ≤ 60 := by omega
    clear hp ho hl hk had hcx hcy hnd hs9
    gi_wp2_with fail
    refine Pj.wpIn_round_step (by as_aux_lemma => kernel_rfl) (fun az0 L az w => ∃ V : Nat → Value, az = Pj.puts [(16, 0), (17, 1), (18, 2), (19, 3), (20, 4), (21, 5), (22, 6), (23, 7)] V az0 ∧ Pj.J wo [Pj.Is (.slice ad nd cd), Pj.Is (.slice (some ⟨bx, ox, none⟩) l cap), Pj.Is (.int .i64 i), Pj.Is (.pointer (some ⟨bx, ox + i * 3, none⟩)), Pj.Is (.pointer (some ⟨bx, ox + i * 3, none⟩)), Pj.Is (.string s9), (fun _ _ => True), (fun _ _ => True), (fun _ _ => True)] L V w ∧ Pj.Hlf wo.heap.size 9 (.slice ad nd cd) nd xsd (.string s9) 6 7 L V w ∧ Pj.Fld pd 23 #[.slice ad nd cd] 0 7 8 L V w ∧ (KeepsOthers WR w ∧ CellsTy WR w) ∧ BlockAt w pL #[.slice (some ⟨bx, ox, none⟩) l cap] 46 ∧ (L 7 → L 0)) (by as_aux_lemma => kernel_rfl) (by as_aux_lemma => kernel_rfl) ?eh0 ?ehs ?ehe
    case eh0 =>
      intro L hL
      exact ⟨_, Pj.puts_self _ (fun j => ([16, 17, 18, 19, 20, 21, 22, 23, 0] : List Nat).getD j 0) [0, 1, 2, 3, 4, 5, 6, 7], Pj.J.none (n := 9) (Nat.le_refl _) hL (HKX.out.drew), Pj.Hlf.start (own_kept HOD.out (Kept.refl _).drew) (hL 7 (by decide)) (hL 6 (by decide)), Pj.Fld.start (HPD.out.kept (Kept.refl _).drew) (hL 8 (by decide)), ⟨others_kept (Kept.refl _).drew, CellsTy.of_kept (Kept.refl _).drew⟩, (HPL.out.kept (Kept.refl _).drew), fun h => absurd h (hL 7 (by decide))⟩
    case ehs =>
      rintro L L' az w iz opz Kq ⟨V, rfl, hJ, hHA, hFF, hX, hKL, hm7_0⟩ ho hopen hdep hL hKq
      have hP : Pj.AllFlat [Pj.Is (.slice ad nd cd), Pj.Is (.slice (some ⟨bx, ox, none⟩) l cap), Pj.Is (.int .i64 i), Pj.Is (.pointer (some ⟨bx, ox + i * 3, none⟩)), Pj.Is (.pointer (some ⟨bx, ox + i * 3, none⟩)), Pj.Is (.string s9), (fun _ _ => True), (fun _ _ => True), (fun _ _ => True)] := ⟨Pj.Is.flat _, Pj.Is.flat _, Pj.Is.flat _, Pj.Is.flat _, Pj.Is.flat _, Pj.Is.flat _, (fun _ _ _ _ _ => trivial), (fun _ _ _ _ _ => trivial), (fun _ _ _ _ _ => trivial), trivial⟩
      have HP := Lib.hid hP
      clear hP
      match iz, ho with
      | 0, ho =>
        simp only [List.getElem?_toArray, List.getElem?_cons_zero, Option.some.injEq] at ho
        have hcu := (hFF.b0 (fun h => hopen (hm7_0 (hFF.ord h)))).cell 0
        have HJ := Lib.hid hJ
        clear hJ
        have HHA := Lib.hid hHA
        clear hHA
        have HFF := Lib.hid hFF
        clear hFF
        have HXhX := Lib.hid hX
        clear hX
        have HBL := Lib.hid hKL
        clear hKL
        subst ho
        refine Pj.Step.free rfl ?_
        simp only [Pj.puts, List.foldl_cons, List.foldl_nil, Act.put, List.setIfInBounds_toArray, List.set_cons_zero, List.set_cons_succ]
        go_simp
        exact hKq _ _ ⟨Pj.vset V 0 (.slice ad nd cd), by simp only [Pj.puts, List.foldl_cons, List.foldl_nil, Act.put, List.setIfInBounds_toArray, List.set_cons_zero, List.set_cons_succ, Pj.vset, Nat.reduceEqDiff, if_true, if_false], HJ.out.flat HP.out hL (HJ.out.kp.trans (Kept.refl _)) (Kept.size (Kept.refl _)) (rfl), HHA.out.same (by decide) (by decide) hL (Kept.refl _), HFF.out.same (by decide) hopen hL (Kept.refl _), HXhX.out, HBL.out.kept (Kept.refl _), fun h => (hL 0).2 (((hL 7).1 h).elim (fun e => absurd e (by decide)) (fun q => .inr (hm7_0 q)))⟩
      | 1, ho =>
        simp only [List.getElem?_toArray, List.getElem?_cons_zero, List.getElem?_cons_succ, Option.some.injEq] at ho
        have hcl := hKL.cell 0
        have HJ := Lib.hid hJ
        clear hJ
        have HHA := Lib.hid hHA
        clear hHA
        have HFF := Lib.hid hFF
        clear hFF
        have HXhX := Lib.hid hX
        clear hX
        have HBL := Lib.hid hKL
        clear hKL
        subst ho
        refine Pj.Step.free rfl ?_
        simp only [Pj.puts, List.foldl_cons, List.foldl_nil, Act.put, List.setIfInBounds_toArray, List.set_cons_zero, List.set_cons_succ]
        go_simp
        exact hKq _ _ ⟨Pj.vset V 1 (.slice (some ⟨bx, ox, none⟩) l cap), by simp only [Pj.puts, List.foldl_cons, List.foldl_nil, Act.put, List.setIfInBounds_toArray, List.set_cons_zero, List.set_cons_succ, Pj.vset, Nat.reduceEqDiff, if_true, if_false], HJ.out.flat HP.out hL (HJ.out.kp.trans (Kept.refl _)) (Kept.size (Kept.refl _)) (rfl), HHA.out.same (by decide) (by decide) hL (Kept.refl _), HFF.out.same (by decide) hopen hL (Kept.refl _), HXhX.out, HBL.out.kept (Kept.refl _), fun h => (hL 0).2 (((hL 7).1 h).elim (fun e => absurd e (by decide)) (fun q => .inr (hm7_0 q)))⟩
      | 2, ho =>
        simp only [List.getElem?_toArray, List.getElem?_cons_zero, List.getElem?_cons_succ, Option.some.injEq] at ho
        have HJ := Lib.hid hJ
        clear hJ
        have HHA := Lib.hid hHA
        clear hHA
        have HFF := Lib.hid hFF
        clear hFF
        have HXhX := Lib.hid hX
        clear hX
        have HBL := Lib.hid hKL
        clear hKL
        subst ho
        refine Pj.Step.free rfl ?_
        simp only [Pj.puts, List.foldl_cons, List.foldl_nil, Act.put, List.setIfInBounds_toArray, List.set_cons_zero, List.set_cons_succ]
        go_simp
        exact hKq _ _ ⟨Pj.vset V 2 (.int .i64 i), by simp only [Pj.puts, List.foldl_cons, List.foldl_nil, Act.put, List.setIfInBounds_toArray, List.set_cons_zero, List.set_cons_succ, Pj.vset, Nat.reduceEqDiff, if_true, if_false], HJ.out.flat HP.out hL (HJ.out.kp.trans (Kept.refl _)) (Kept.size (Kept.refl _)) (rfl), HHA.out.same (by decide) (by decide) hL (Kept.refl _), HFF.out.same (by decide) hopen hL (Kept.refl _), HXhX.out, HBL.out.kept (Kept.refl _), fun h => (hL 0).2 (((hL 7).1 h).elim (fun e => absurd e (by decide)) (fun q => .inr (hm7_0 q)))⟩
      | 3, ho =>
        simp only [List.getElem?_toArray, List.getElem?_cons_zero, List.getElem?_cons_succ, Option.some.injEq] at ho
        have e1 : V 1 = .slice (some ⟨bx, ox, none⟩) l cap := hJ.h 1 (hdep 1 (by rw [← ho]; kernel_rfl))
        have e2 : V 2 = .int .i64 i := hJ.h 2 (hdep 2 (by rw [← ho]; kernel_rfl))
        have HJ := Lib.hid hJ
        clear hJ
        have HHA := Lib.hid hHA
        clear hHA
        have HFF := Lib.hid hFF
        clear hFF
        have HXhX := Lib.hid hX
        clear hX
        have HBL := Lib.hid hKL
        clear hKL
        subst ho
        refine Pj.Step.free rfl ?_
        simp only [Pj.puts, List.foldl_cons, List.foldl_nil, Act.put, List.setIfInBounds_toArray, List.set_cons_zero, List.set_cons_succ, e1, e2]
        go_simp
        exact hKq _ _ ⟨Pj.vset V 3 (.pointer (some ⟨bx, ox + i * 3, none⟩)), by simp only [Pj.puts, List.foldl_cons, List.foldl_nil, Act.put, List.setIfInBounds_toArray, List.set_cons_zero, List.set_cons_succ, Pj.vset, Nat.reduceEqDiff, if_true, if_false, e1, e2], HJ.out.flat HP.out hL (HJ.out.kp.trans (Kept.refl _)) (Kept.size (Kept.refl _)) (rfl), HHA.out.same (by decide) (by decide) hL (Kept.refl _), HFF.out.same (by decide) hopen hL (Kept.refl _), HXhX.out, HBL.out.kept (Kept.refl _), fun h => (hL 0).2 (((hL 7).1 h).elim (fun e => absurd e (by decide)) (fun q => .inr (hm7_0 q)))⟩
      | 4, ho =>
        simp only [List.getElem?_toArray, List.getElem?_cons_zero, List.getElem?_cons_succ, Option.some.injEq] at ho
        have e3 : V 3 = .pointer (some ⟨bx, ox + i * 3, none⟩) := hJ.h 3 (hdep 3 (by rw [← ho]; kernel_rfl))
        have HJ := Lib.hid hJ
        clear hJ
        have HHA := Lib.hid hHA
        clear hHA
        have HFF := Lib.hid hFF
        clear hFF
        have HXhX := Lib.hid hX
        clear hX
        have HBL := Lib.hid hKL
        clear hKL
        subst ho
        refine Pj.Step.free rfl ?_
        simp only [Pj.puts, List.foldl_cons, List.foldl_nil, Act.put, List.setIfInBounds_toArray, List.set_cons_zero, List.set_cons_succ, e3]
        go_simp
        exact hKq _ _ ⟨Pj.vset V 4 (.pointer (some ⟨bx, ox + i * 3, none⟩)), by simp only [Pj.puts, List.foldl_cons, List.foldl_nil, Act.put, List.setIfInBounds_toArray, List.set_cons_zero, List.set_cons_succ, Pj.vset, Nat.reduceEqDiff, if_true, if_false, e3], HJ.out.flat HP.out hL (HJ.out.kp.trans (Kept.refl _)) (Kept.size (Kept.refl _)) (rfl), HHA.out.same (by decide) (by decide) hL (Kept.refl _), HFF.out.same (by decide) hopen hL (Kept.refl _), HXhX.out, HBL.out.kept (Kept.refl _), fun h => (hL 0).2 (((hL 7).1 h).elim (fun e => absurd e (by decide)) (fun q => .inr (hm7_0 q)))⟩
      | 5, ho =>
        simp only [List.getElem?_toArray, List.getElem?_cons_zero, List.getElem?_cons_succ, Option.some.injEq] at ho
        have e4 : V 4 = .pointer (some ⟨bx, ox + i * 3, none⟩) := hJ.h 4 (hdep 4 (by rw [← ho]; kernel_rfl))
        obtain hc0 := HCX.out _ hJ.kp
        have HJ := Lib.hid hJ
        clear hJ
        have HHA := Lib.hid hHA
        clear hHA
        have HFF := Lib.hid hFF
        clear hFF
        have HXhX := Lib.hid hX
        clear hX
        have HBL := Lib.hid hKL
        clear hKL
        subst ho
        refine Pj.Step.free rfl ?_
        simp only [Pj.puts, List.foldl_cons, List.foldl_nil, Act.put, List.setIfInBounds_toArray, List.set_cons_zero, List.set_cons_succ, e4]
        go_simp
        exact hKq _ _ ⟨Pj.vset V 5 (.string s9), by simp only [Pj.puts, List.foldl_cons, List.foldl_nil, Act.put, List.setIfInBounds_toArray, List.set_cons_zero, List.set_cons_succ, Pj.vset, Nat.reduceEqDiff, if_true, if_false, e4], HJ.out.flat HP.out hL (HJ.out.kp.trans (Kept.refl _)) (Kept.size (Kept.refl _)) (rfl), HHA.out.same (by decide) (by decide) hL (Kept.refl _), HFF.out.same (by decide) hopen hL (Kept.refl _), HXhX.out, HBL.out.kept (Kept.refl _), fun h => (hL 0).2 (((hL 7).1 h).elim (fun e => absurd e (by decide)) (fun q => .inr (hm7_0 q)))⟩
      | 6, ho =>
        simp only [List.getElem?_toArray, List.getElem?_cons_zero, List.getElem?_cons_succ, Option.some.injEq] at ho
        have e5 : V 5 = .string s9 := hJ.h 5 (hdep 5 (by rw [← ho]; kernel_rfl))
        have HJ := Lib.hid hJ
        clear hJ
        have HHA := Lib.hid hHA
        clear hHA
        have HFF := Lib.hid hFF
        clear hFF
        have HXhX := Lib.hid hX
        clear hX
        have HBL := Lib.hid hKL
        clear hKL
        subst ho
        refine Pj.Step.free rfl ?_
        simp only [Pj.puts, List.foldl_cons, List.foldl_nil, Act.put, List.setIfInBounds_toArray, List.set_cons_zero, List.set_cons_succ, e5]
        go_simp
        exact hKq _ _ ⟨Pj.vset V 6 (.slice (some ⟨w.heap.size, 0, none⟩) 1 1), by simp only [Pj.puts, List.foldl_cons, List.foldl_nil, Act.put, List.setIfInBounds_toArray, List.set_cons_zero, List.set_cons_succ, Pj.vset, Nat.reduceEqDiff, if_true, if_false, e5], HJ.out.flat HP.out hL (HJ.out.kp.trans ((Kept.refl _).alloc _)) (Kept.size ((Kept.refl _).alloc _)) (trivial), HHA.out.made (by decide) hL, HFF.out.same (by decide) hopen hL ((Kept.refl _).alloc _), ⟨HXhX.out.1.trans (others_kept ((Kept.refl _).alloc _)), HXhX.out.2.trans (CellsTy.of_kept ((Kept.refl _).alloc _))⟩, HBL.out.kept ((Kept.refl _).alloc _), fun h => (hL 0).2 (((hL 7).1 h).elim (fun e => absurd e (by decide)) (fun q => .inr (hm7_0 q)))⟩
      | 7, ho =>
        simp only [List.getElem?_toArray, List.getElem?_cons_zero, List.getElem?_cons_succ, Option.some.injEq] at ho
        have e0 : V 0 = .slice ad nd cd := hJ.h 0 (hdep 0 (by rw [← ho]; kernel_rfl))
        have l6 := hdep 6 (by rw [← ho]; kernel_rfl)
        obtain ⟨g, e6, hgb⟩ := hHA.c l6 hopen
        have hown := hHA.a0 hopen
        have l0 := hdep 0 (by rw [← ho]; kernel_rfl)
        have HJ := Lib.hid hJ
        clear hJ
        have HHA := Lib.hid hHA
        clear hHA
        have HFF := Lib.hid hFF
        clear hFF
        have HXhX := Lib.hid hX
        clear hX
        have HBL := Lib.hid hKL
        clear hKL
        subst ho
        refine Pj.Step.free rfl ?_
        simp only [Pj.puts, List.foldl_cons, List.foldl_nil, Act.put, List.setIfInBounds_toArray, List.set_cons_zero, List.set_cons_succ, e0, e6]
        refine Pj.oper_app _ _ 23 rfl wo.heap.size 9 iA (.string ByteArray.empty) 16 Try.underlying23 HIA.out.1 HIA.out.2.1 HIA.out.2.2.1 HIA.out.2.2.2 rfl (.slice ad nd cd) nd xsd rfl hown g (.string s9) rfl hgb rfl (by omega) (by decide) (HJ.out.kp.size) ?_
        intro v' w' hown' hgrow
        simp only [Act.put, List.setIfInBounds_toArray, List.set_cons_zero, List.set_cons_succ]
        exact hKq _ _ ⟨Pj.vset V 7 (v'), by simp only [Pj.puts, List.foldl_cons, List.foldl_nil, Act.put, List.setIfInBounds_toArray, List.set_cons_zero, List.set_cons_succ, Pj.vset, Nat.reduceEqDiff, if_true, if_false, e0, e6], HJ.out.flat HP.out hL (kept_gr1 HJ.out.kp hgrow (fun q e => (hown.lt q e).1) (Nat.le_refl _)) (hgrow.size) (trivial), Pj.Hlf.app hown' hL, HFF.out.other (by decide) hopen hL hgrow (Pj.row_types hown (by decide)), ⟨HXhX.out.1.trans (others_own hown hgrow), HXhX.out.2.trans (CellsTy.of_row hown hgrow)⟩, block_grown HBL.out hgrow (Pj.row_types hown (by decide) _ _ HBL.out), fun _ => (hL 0).2 (.inr l0)⟩
      | 8, ho =>
        simp only [List.getElem?_toArray, List.getElem?_cons_zero, List.getElem?_cons_succ, Option.some.injEq] at ho
        have l7 := hdep 7 (by rw [← ho]; kernel_rfl)
        obtain ⟨sx, sc, e7⟩ := slice_of_own1 (hHA.a1 l7)
        have hbF := hFF.b0 hopen
        have hcF : w.cell? ⟨pd, 0, none⟩ = some (.slice ad nd cd) := hbF.cell 0
        have hfF := hbF.free 0
        have HJ := Lib.hid hJ
        clear hJ
        have HHA := Lib.hid hHA
        clear hHA
        have HFF := Lib.hid hFF
        clear hFF
        have HXhX := Lib.hid hX
        clear hX
        have HBL := Lib.hid hKL
        clear hKL
        subst ho
        refine Pj.Step.free rfl ?_
        simp only [Pj.puts, List.foldl_cons, List.foldl_nil, Act.put, List.setIfInBounds_toArray, List.set_cons_zero, List.set_cons_succ, e7]
        go_simp
        exact hKq _ _ ⟨Pj.vset V 8 (undef), by simp only [Pj.puts, List.foldl_cons, List.foldl_nil, Act.put, List.setIfInBounds_toArray, List.set_cons_zero, List.set_cons_succ, Pj.vset, Nat.reduceEqDiff, if_false, e7], HJ.out.flat HP.out hL (HJ.out.kp.setCell (hle) _) (by simp) (trivial), HHA.out.other (by decide) (by decide) hL (grown_set _ _ _ _) (Pj.block_types hbF (by decide)), HFF.out.stored hopen l7 hL e7, ⟨HXhX.out.1.trans (KeepsOthers.setCell _ _ _), HXhX.out.2.trans (CellsTy.of_set hbF _ _)⟩, block_grown HBL.out (grown_set _ _ _ _) (Pj.block_types hbF (by decide) _ _ HBL.out), fun h => (hL 0).2 (((hL 7).1 h).elim (fun e => absurd e (by decide)) (fun q => .inr (hm7_0 q)))⟩
      | n + 9, ho => simp at ho
    case ehe =>
      rintro L az w ⟨V, rfl, hJ, hHA, hFF, hX, hKL, hm7_0⟩ hall
      have hBF := hFF.b1 (hall 8 (by decide))
      have hOA := hHA.a1 (hall 7 (by decide))
      have HBL := Lib.hid hKL
      have HXE := Lib.hid hX
      have HKj := Lib.hid hJ.kp
      clear hJ hall hHA hFF hX hKL hm7_0
      simp only [Pj.puts, List.foldl_cons, List.foldl_nil, Act.put, List.setIfInBounds_toArray, List.set_cons_zero, List.set_cons_succ]
      generalize V 7 = vA at *
      have HBF := Lib.hid hBF
      clear hBF
      have HOA := Lib.hid hOA
      clear hOA
      obtain ⟨g2, c2, rfl⟩ := own_form HOA.out (by omega)
      have HKN := Lib.hid HKj.out
      gi_wp2
      refine ⟨HXE.out.1, HXE.out.2, g2, c2, ?_, ?_, HBL.out, HKN.out⟩
      · rw [HPN.out]
        have := HBF.out
        simpa using this
      · rw [HPN.out, HPM.out]; exact HOA.out
  case done =>
    rintro D xs W hD hS ⟨g, cd, hp, ho, hl, hk⟩ hdef
    obtain ⟨L, hL⟩ : ∃ L, L = (ixs xs).map fun n => (dOf ts n).data.toList := ⟨_, rfl⟩
    have hxl : xs.length = L.length := by rw [hL, List.length_map, ixs_length]
    have hmap : (xs.map fun i => Value.string (dOf ts i.1)) = L.map encStr := by
      rw [hL, List.map_map]
      unfold ixs
      rw [List.map_map]
      rfl
    have hM : L.mergeSort (fun x y => decide (x ≤ y)) = ((List.range l).filter (rchB ts rs)).map fun n => (dOf ts n).data.toList := by
      have h := from_sort HRI.out rs
      rw [HL.out] at h
      rw [hL, show ixs xs = walkB (lkF ts) (start0 l (lkD ts rs)) from hS]
      exact h
    obtain ⟨M, hMM⟩ : ∃ M, M = L.mergeSort (fun x y => decide (x ≤ y)) := ⟨_, rfl⟩
    have hMl : M.length = L.length := by rw [hMM, List.length_mergeSort]
    have HFM := Lib.hid (show M.map encStr = (fromL ts rs).map Value.string by
      rw [hMM, hM]
      unfold fromL
      rw [HL.out, List.map_map, List.map_map]
      rfl)
    have HFL := Lib.hid (show (fromL ts rs).length = L.length by
      rw [← hMl, hMM, hM]
      unfold fromL
      rw [HL.out, List.length_map, List.length_map])
    have HFZ := Lib.hid (show ∀ s ∈ fromL ts rs, s.size ≤ 9223372036854775807 from fun s hs => by
      unfold fromL at hs
      obtain ⟨n, _, rfl⟩ := List.mem_map.1 hs
      exact HSZ.out n)
    have hLl : L.length ≤ 60 := by
      rw [← hMl, hMM, hM, List.length_map]
      have := List.length_filter_le (rchB ts rs) (List.range l)
      rw [List.length_range] at this
      omega
    rw [hxl, hmap] at ho
    rw [hxl] at hp
    obtain ⟨hln, ⟨e0, _⟩ | ⟨g', c', cur, e1, hbg, hcur, hn, hm, hsz, htk⟩⟩ := ho
    · cases e0
    cases e1
    have hg1 : g < W.heap.size := BlockAt.lt (show BlockAt W g cur 9 from hcur)
    have HHO := Lib.hid (holds_of_block (ss := L) hcur (by simpa using htk))
    have HSO := Lib.hid (fun n os => ownsRow_sorted (n := n) (os := os) (ss := L) (ts := M) hMl hbg hcur hn hm (by omega))
    have HPW := Lib.hid hp
    have HKW := Lib.hid hk
    have HDW := Lib.hid hdef
    have HMM := Lib.hid hMM
    have hgd : some pd ≠ some g := Pj.block_types (show BlockAt W g cur 9 from hcur) (by decide) pd _ hp
    have hgD : some D ≠ some g := fun e => by
      cases e
      rw [hcur] at hdef
      cases hdef
    have hDl : D < W.heap.size := (Array.getElem?_eq_some_iff.1 hdef).1
    have HBG := Lib.hid hbg
    have a0 := box1 hp
    generalize fromL ts rs = FF at *
    clear hL hxl hmap hM hMM hMl hln hcur hn hm hsz htk hp hl hk hdef hS hbg
    go_wp2_with fail
    refine (Try.slices_Sort_string g 0 cd L _ HHO.out hg1 (by omega)).mono ?_
    rintro e w6 ⟨rfl, n6, os6, hw6⟩
    rw [← HMM.out] at hw6
    have hown6 := HSO.out n6 os6
    have hg6 : W.grownBy w6 (some g) := by rw [hw6]; exact grownBy_sorted _
    rw [← hw6] at hown6
    clear hw6 HSO
    have HK6 := Lib.hid (kept_gr HKW.out hg6 (fun r e => by cases e; exact HBG.out))
    have HP6 := Lib.hid (HPW.out.gr hg6 hgd)
    have HD6 := Lib.hid ((hg6.block D hDl hgD).trans HDW.out)
    rw [HFM.out] at hown6
    obtain ⟨a6, c6, e6, _, hst⟩ := strs_own hown6 HFL.out HFZ.out
    cases e6
    have HST := Lib.hid hst
    have HBK := Lib.hid (show ∃ cs, BlockAt w6 g cs 9 from by
      rcases hown6.2 with ⟨e, _⟩ | ⟨q, cap, cur, e, _, hq, _⟩
      · cases e
      · cases e; exact ⟨_, hq⟩)
    have a6 := box1 HP6.out
    clear hown6 hg6 hst a0
    go_wp2
    refine ⟨by simp, .inl ⟨_, _, rfl, run_takeDeferred HD6.out, ?_⟩⟩
    have k2 : Kept wo (w6.putObj D (.deferred none)) := Below.grown HK6.out (grown_put w6 D (.deferred none)) (by have := HK6.out.size; simp; omega) (fun k e => by cases e; have := HK4.out.size; omega)
    refine ⟨.tuple #[.slice (some ⟨g, 0, none⟩) L.length cd, .int .i64 0], ?_, g, cd, by rw [HFL.out], by rw [HFL.out]; exact strs_put HST.out HD6.out rfl, k2, HBG.out, ?_⟩
    rotate_left
    · obtain ⟨cs, hb⟩ := HBK.out
      exact ⟨cs, ((grown_put w6 D (.deferred none)).block g (BlockAt.lt hb) (fun e => hgD e.symm)).trans hb⟩
    simp [results, Try.f29, go_sem]
end Go.Proofs.Ytdllenoclnmmdaa

namespace Go.Proofs.Ytdllenoclnmmdaa
open Go.RowKit Go.Shelf
attribute [local go_sem] Oper.semAt_some

theorem contains_any (a : Option Addr) (l cap : Nat) (ss : List ByteArray) (x : ByteArray) (w : World) (h : StrsIn w a l ss) :
    Calls Try.prog 54 #[.slice a l cap, .string x] w fun e w' => e = .returned (.bool (hasB x ss)) ∧ w = w' := by
  have hle := h.le
  by_cases h0 : l = 0
  · subst h0
    obtain rfl : ss = [] := List.length_eq_zero_iff.1 h.len_eq
    exact (Try.slices_Contains_string_empty a cap x w).mono fun _ _ q => ⟨q.1, q.2.symm⟩
  · obtain ⟨b, off, rfl, hc⟩ := h.at (by omega)
    have hb : Lib.containsS ss x = hasB x ss := by rw [Bool.eq_iff_iff, Lib.containsS_iff, hasB_iff]
    refine (Try.slices_Contains_string b off l cap ss x w (by rw [h.len_eq]; exact Nat.le_refl _) hle (fun j hj => hc j (by rw [← h.len_eq]; exact hj) w (Kept.refl _))).mono fun _ _ q => ⟨?_, q.2.symm⟩
    rw [q.1, List.take_of_length_le (by rw [h.len_eq]; exact Nat.le_refl _), hb]
def usB (d : ByteArray) (x : Th) : Bool := hasB d (nmF x)
/-- the digests of those that name it -/
def usersL (ts : List Th) (d : ByteArray) : List ByteArray := (ts.filter (usB d)).map (·.d)
theorem us_snoc (ts : List Th) (d : ByteArray) (k : Nat) (h : k < ts.length) : (ts.take (k + 1)).filter (usB d) = (ts.take k).filter (usB d) ++ (if usB d (ts.getD k th00) = true then [ts.getD k th00] else []) := by
  rw [List.take_succ_eq_append_getElem h, List.filter_append]
  have : ts.getD k th00 = ts[k] := by simp [List.getD, h]
  rw [this]
  congr 1
  cases hh : usB d ts[k] <;> simp [hh]
set_option maxRecDepth 100000 in
set_option maxHeartbeats 4000000 in
theorem rusers_any (ax : Option Addr) (l cap : Nat) (ts : List Th) (d : ByteArray) (wo : World) (h : ThsIn wo ax l ts) (hB : thsB ts = true) :
    Calls Try.prog 33 #[.slice ax l cap, .string d] wo (TextsP wo (usersL ts d)) := by
  have HS := Lib.hid h
  have HL := Lib.hid h.len_eq
  have h60 : l ≤ 60 := by rw [← h.len_eq]; exact thsB_few hB
  have HSZ := Lib.hid (show ∀ s ∈ usersL ts d, s.size ≤ 9223372036854775807 from fun s hs => by
    unfold usersL at hs
    obtain ⟨x, hx, rfl⟩ := List.mem_map.1 hs
    have := (h.sizes x (List.mem_filter.1 hx).1).1
    omega)
  have HU := Lib.hid (show usersL ts d = (ts.filter (usB d)).map (·.d) from rfl)
  obtain ⟨i0, hi1, hz0, hz1, hz2⟩ := info_parts Try.infoSt
  have HI := Lib.hid (And.intro hi1 (And.intro hz0 (And.intro hz1 hz2)))
  generalize usersL ts d = UL at *
  clear hi1 hz0 hz1 hz2 h hB
  go_enter Try.func33, Try.ntmps33
  go_wp2_with fail
  go_loopw [5, 6] (fun xv iv wr => ∃ k : Nat, k ≤ l ∧ iv = .int .i64 k ∧ wr.ownsRow wo.heap.size 9 1 xv ((ts.take k).filter (usB d)).length (((ts.take k).filter (usB d)).map fun x => Value.string x.d) ∧ Kept wo wr) (fun _ iv _ => l - (intOf iv).toNat)
  case atStart => exact ⟨0, by omega, rfl, World.ownsRow_nil _ _ _ _, Kept.refl _⟩
  case round =>
    rename Value => xv
    obtain ⟨k, hk, rfl, hox, hkx⟩ := hrel
    have HK := Lib.hid hkx
    have HO := Lib.hid hox
    clear hkx
    by_cases hlt : k < l
    · have hd1 : decide (k < l) = true := decide_eq_true hlt
      obtain ⟨b, off, rfl, hc⟩ := HS.out.at (by omega)
      obtain ⟨c0, c1, c2⟩ := hc k hlt _ HK.out
      have HC := Lib.hid (hc k hlt)
      have HSN := Lib.hid (us_snoc ts d k (by rw [HL.out]; exact hlt))
      have hfl : ((ts.take k).filter (usB d)).length ≤ 60 := by have := List.length_filter_le (usB d) (ts.take k); rw [List.length_take] at this; omega
      obtain ⟨x, hx⟩ : ∃ x, x = ts.getD k th00 := ⟨_, rfl⟩
      rw [← hx] at c0 c1 c2 HSN HC
      clear hc hx
      obtain ⟨av, cv, rfl⟩ := slice_of_own1 hox
      generalize (ts.take k).filter (usB d) = FK at *
      clear hox
      have HNA := Lib.hid (rnamed_any x)
      have HUB := Lib.hid (show usB d x = hasB d (nmF x) from rfl)
      generalize usB d x = ub at *
      generalize nmF x = ns at *
      go_wp2_with fail
      refine (HNA.out _).mono ?_
      rintro e w4 ⟨an, cn, rfl, hst, hk4⟩
      have HK4 := Lib.hid (HK.out.trans hk4)
      have HO4 := Lib.hid (own_kept HO.out hk4)
      have HH := Lib.hid (has_any an ns.length cn ns d w4 hst)
      rw [← HUB.out] at HH
      clear hst hk4 c0 c1 c2
      go_wp2_with fail
      refine HH.out.mono ?_
      rintro e w5 ⟨rfl, hk5⟩
      have HK5 := Lib.hid (HK4.out.trans hk5)
      have HO5 := Lib.hid (own_kept HO4.out hk5)
      clear hk5 HH HNA
      obtain ⟨c0, c1, c2⟩ := HC.out _ HK5.out
      clear HC
      cases ub with
      | false =>
        have HE := Lib.hid (show (ts.take (k + 1)).filter (usB d) = FK by rw [HSN.out]; simp)
        clear HSN c0 c1 c2
        go_wp2_with fail
        go_roundw
        case rel => exact ⟨k + 1, by omega, by go_num, by rw [HE.out]; exact HO5.out, HK5.out⟩
        case measure => simp [intOf]; omega
      | true =>
        have HE := Lib.hid (show (ts.take (k + 1)).filter (usB d) = FK ++ [x] by rw [HSN.out]; simp)
        have hz5 := HK5.out.size
        obtain ⟨xd, xt, xm⟩ := x
        dsimp only at c0 c1 c2
        clear HSN
        go_wp2_with (at_builtin; refine wpList_append_held rfl _ _ 23 rfl wo.heap.size 9 i0 (.string ByteArray.empty) 16 Try.underlying23 HI.out.1 HI.out.2.1 HI.out.2.2.1 HI.out.2.2.2 rfl _ _ _ rfl (own_kept HO5.out ((Kept.refl w5).alloc _)) (some ⟨w5.heap.size, 0, none⟩) 1 1 [.string xd] rfl (held_one w5 _ _ rfl) ?c1 ?c2 ?c3 ?_)
        case c1 => unfold maxLen; omega
        case c2 => omega
        case c3 => rw [World.size_alloc]; omega
        intro v' w6 hown hgr _
        have ka := (Kept.refl w5).alloc (.cells #[.string xd] 9)
        have HK6 := Lib.hid (kept_gr (HK5.out.trans ka) hgr (fun r e => ((own_kept HO5.out ka).lt r e).1))
        have HD6 := Lib.hid (show w6.ownsRow wo.heap.size 9 1 v' (FK ++ [(⟨xd, xt, xm⟩ : Th)]).length ((FK ++ [(⟨xd, xt, xm⟩ : Th)]).map fun x : Th => Value.string x.d) by
          rw [List.length_append, List.map_append]; exact hown)
        obtain ⟨av6, cv6, rfl⟩ := slice_of_own1 hown
        clear ka hown hgr c0 c1 c2
        go_wp2_with fail
        go_roundw
        case rel => exact ⟨k + 1, by omega, by go_num, by rw [HE.out]; exact HD6.out, HK6.out⟩
        case measure => simp [intOf]; omega
    · obtain rfl : l = k := by omega
      have hd1 : decide (l < l) = false := decide_eq_false (by omega)
      have HTK := Lib.hid (show ts.take l = ts from List.take_of_length_le (by rw [HL.out]; exact Nat.le_refl _))
      rw [HTK.out] at hox
      have hm : ((ts.filter (usB d)).map fun x => Value.string x.d) = UL.map Value.string := by rw [HU.out, List.map_map]; rfl
      have hl : UL.length = (ts.filter (usB d)).length := by rw [HU.out, List.length_map]
      rw [hm] at hox
      obtain ⟨a', c', rfl, _, hst⟩ := strs_own hox hl HSZ.out
      rw [← hl] at hst ⊢
      have HST := Lib.hid hst
      clear hox hm hl hst HTK HU HO
      go_wp2_with fail
      go_ret
      exact ⟨a', c', rfl, HST.out, HK.out⟩
set_option maxRecDepth 100000 in
set_option maxHeartbeats 4000000 in
theorem users_good (ax : Option Addr) (l cap : Nat) (ts : List Th) (d : ByteArray) (wo : World) (h : ThsIn wo ax l ts) (hB : thsB ts = true) :
    Calls Try.prog 32 #[.slice ax l cap, .string d] wo (TextsE wo (usersL ts d) 0) := by
  have HS := Lib.hid h
  have HL := Lib.hid h.len_eq
  have h60 : l ≤ 60 := by rw [← h.len_eq]; exact thsB_few hB
  have HSZ := Lib.hid (show ∀ s ∈ usersL ts d, s.size ≤ 9223372036854775807 from fun s hs => by
    unfold usersL at hs
    obtain ⟨x, hx, rfl⟩ := List.mem_map.1 hs
    have := (h.sizes x (List.mem_filter.1 hx).1).1
    omega)
  have HU := Lib.hid (show usersL ts d = (ts.filter (usB d)).map (·.d) from rfl)
  obtain ⟨i0, hi1, hz0, hz1, hz2⟩ := info_parts Try.infoSt
  have HI := Lib.hid (And.intro hi1 (And.intro hz0 (And.intro hz1 hz2)))
  have hck := rcheck_any ax l cap ts wo h
  rw [if_pos hB] at hck
  have HCK := Lib.hid hck
  clear hck
  generalize usersL ts d = UL at *
  clear hi1 hz0 hz1 hz2 h hB
  go_enter Try.func32, Try.ntmps32
  go_wp2_with fail
  refine HCK.out.mono ?_
  rintro e w1 ⟨rfl, hk1⟩
  have HK1 := Lib.hid hk1
  clear hk1 HCK
  go_upto_region 4 with (fail)
  have HD2 := Lib.hid (own_base (own_empty w1 9) HK1.out.size)
  have HK2 := Lib.hid (HK1.out.alloc (.cells #[] 9))
  generalize w1.alloc (.cells #[] 9) = w2 at *
  go_wp2_with fail
  go_loopw [6, 15] (fun xv iv wr => ∃ k : Nat, k ≤ l ∧ iv = .int .i64 k ∧ wr.ownsRow wo.heap.size 9 1 xv ((ts.take k).filter (usB d)).length (((ts.take k).filter (usB d)).map fun x => Value.string x.d) ∧ Kept wo wr) (fun _ iv _ => l - (intOf iv).toNat)
  case atStart => exact ⟨0, by omega, rfl, HD2.out, HK2.out⟩
  case round =>
    rename Value => xv
    obtain ⟨k, hk, rfl, hox, hkx⟩ := hrel
    have HK := Lib.hid hkx
    have HO := Lib.hid hox
    clear hkx
    by_cases hlt : k < l
    · have hd1 : decide (k < l) = true := decide_eq_true hlt
      obtain ⟨b, off, rfl, hc⟩ := HS.out.at (by omega)
      obtain ⟨c0, c1, c2⟩ := hc k hlt _ HK.out
      have HC := Lib.hid (hc k hlt)
      have HSN := Lib.hid (us_snoc ts d k (by rw [HL.out]; exact hlt))
      have hfl : ((ts.take k).filter (usB d)).length ≤ 60 := by have := List.length_filter_le (usB d) (ts.take k); rw [List.length_take] at this; omega
      obtain ⟨x, hx⟩ : ∃ x, x = ts.getD k th00 := ⟨_, rfl⟩
      rw [← hx] at c0 c1 c2 HSN HC
      clear hc hx
      obtain ⟨av, cv, rfl⟩ := slice_of_own1 hox
      generalize (ts.take k).filter (usB d) = FK at *
      clear hox
      have HUB := Lib.hid (show usB d x = hasB d (nmF x) from rfl)
      go_upto_region 7 with (fail)
      have HBX := Lib.hid (BlockAt.new wr #[.string x.d, .string x.t, .bool x.m] 65)
      have kx := (Kept.refl wr).alloc (.cells #[.string x.d, .string x.t, .bool x.m] 65)
      have HK3 := Lib.hid (HK.out.trans kx)
      have HO3 := Lib.hid (own_kept HO.out kx)
      clear c0 c1 c2 kx HC
      obtain ⟨px, hpx⟩ : ∃ px, px = wr.heap.size := ⟨_, rfl⟩
      generalize wr.alloc (.cells #[.string x.d, .string x.t, .bool x.m] 65) = w3 at *
      rw [← hpx] at HBX ⊢
      clear hpx
      obtain ⟨a0, a1, a2⟩ := box3 HBX.out
      have HNA := Lib.hid (names_any x w3)
      generalize usB d x = ub at *
      generalize nmF x = ns at *
      go_wp2_with fail
      refine HNA.out.mono ?_
      rintro e w5 ⟨an, cn, rfl, hst, hk4⟩
      have HK5 := Lib.hid (HK3.out.trans hk4)
      have HO5 := Lib.hid (own_kept HO3.out hk4)
      have HB5 := Lib.hid (HBX.out.kept hk4)
      have HH := Lib.hid (contains_any an ns.length cn ns d w5 hst)
      rw [← HUB.out] at HH
      clear hst hk4 a0 a1 a2
      obtain ⟨c0, c1, c2⟩ := box3 HB5.out
      go_wp2_with fail
      refine HH.out.mono ?_
      rintro e w' ⟨rfl, rfl⟩
      clear HH HNA
      cases ub with
      | false =>
        have HE := Lib.hid (show (ts.take (k + 1)).filter (usB d) = FK by rw [HSN.out]; simp)
        clear HSN c0 c1 c2
        go_wp2_with fail
        go_roundw
        case rel => exact ⟨k + 1, by omega, by go_num, by rw [HE.out]; exact HO5.out, HK5.out⟩
        case measure => simp [intOf]; omega
      | true =>
        have HE := Lib.hid (show (ts.take (k + 1)).filter (usB d) = FK ++ [x] by rw [HSN.out]; simp)
        have hz5 := HK5.out.size
        obtain ⟨xd, xt, xm⟩ := x
        dsimp only at c0 c1 c2
        clear HSN
        go_wp2_with (at_builtin; refine wpList_append_held rfl _ _ 23 rfl wo.heap.size 9 i0 (.string ByteArray.empty) 16 Try.underlying23 HI.out.1 HI.out.2.1 HI.out.2.2.1 HI.out.2.2.2 rfl _ _ _ rfl (own_kept HO5.out ((Kept.refl w5).alloc _)) (some ⟨w5.heap.size, 0, none⟩) 1 1 [.string xd] rfl (held_one w5 _ _ rfl) ?c1 ?c2 ?c3 ?_)
        case c1 => unfold maxLen; omega
        case c2 => omega
        case c3 => rw [World.size_alloc]; omega
        intro v' w6 hown hgr _
        have ka := (Kept.refl w5).alloc (.cells #[.string xd] 9)
        have HK6 := Lib.hid (kept_gr (HK5.out.trans ka) hgr (fun r e => ((own_kept HO5.out ka).lt r e).1))
        have HD6 := Lib.hid (show w6.ownsRow wo.heap.size 9 1 v' (FK ++ [(⟨xd, xt, xm⟩ : Th)]).length ((FK ++ [(⟨xd, xt, xm⟩ : Th)]).map fun x : Th => Value.string x.d) by
          rw [List.length_append, List.map_append]; exact hown)
        obtain ⟨av6, cv6, rfl⟩ := slice_of_own1 hown
        clear ka hown hgr c0 c1 c2
        go_wp2_with fail
        go_roundw
        case rel => exact ⟨k + 1, by omega, by go_num, by rw [HE.out]; exact HD6.out, HK6.out⟩
        case measure => simp [intOf]; omega
    · obtain rfl : l = k := by omega
      have hd1 : decide (l < l) = false := decide_eq_false (by omega)
      have HTK := Lib.hid (show ts.take l = ts from List.take_of_length_le (by rw [HL.out]; exact Nat.le_refl _))
      rw [HTK.out] at hox
      have hm : ((ts.filter (usB d)).map fun x => Value.string x.d) = UL.map Value.string := by rw [HU.out, List.map_map]; rfl
      have hl : UL.length = (ts.filter (usB d)).length := by rw [HU.out, List.length_map]
      rw [hm] at hox
      obtain ⟨a', c', rfl, _, hst⟩ := strs_own hox hl HSZ.out
      rw [← hl] at hst ⊢
      have HST := Lib.hid hst
      clear hox hm hl hst HTK HU HO
      go_wp2_with fail
      go_ret2
      exact ⟨a', c', rfl, HST.out, HK.out⟩
set_option maxRecDepth 100000 in
theorem users_bad (ax : Option Addr) (l cap : Nat) (ts : List Th) (d : ByteArray) (wo : World) (h : ThsIn wo ax l ts) (hB : thsB ts = false) :
    Calls Try.prog 32 #[.slice ax l cap, .string d] wo (TextsE wo [] 1) := by
  have hck := rcheck_any ax l cap ts wo h
  rw [hB] at hck
  have HCK := Lib.hid hck
  clear hck h hB
  go_enter Try.func32, Try.ntmps32
  go_wp2_with fail
  refine HCK.out.mono ?_
  rintro e w2 ⟨rfl, hk2⟩
  have HK2 := Lib.hid hk2
  clear hk2
  go_wp2_with fail
  go_ret2
  exact ⟨none, 0, rfl, nil_strs _ _, HK2.out⟩
end Go.Proofs.Ytdllenoclnmmdaa

