
/- Package array's memory: where its disks, their sectors and caches lie, and that a store into one leaves the others (no conditions). -/
import Derived.Test.YtkfomaoillnehaaAr0
import Derived.Test.YtkfomaoillnehaaRange
import Derived.Test.YtkfomaoillnehaaTl
namespace Go.Proofs.Ytkfomaoillnehaa
open Go.RowKit

/-- cells read as texts, in a block that may be written -/
structure Txs (w : World) (b r : Nat) (G : Nat → ByteArray) : Prop where
  blk : ∃ cs, BlockAt w b cs 9
  cell : ∀ i, i < r → w.cell? ⟨b, i, none⟩ = some (.string (G i))
theorem Txs.lt {w : World} {b r : Nat} {G : Nat → ByteArray} (h : Txs w b r G) : b < w.heap.size := by obtain ⟨cs, hb⟩ := h.blk; exact hb.lt
theorem Txs.free {w : World} {b r : Nat} {G : Nat → ByteArray} (h : Txs w b r G) (i : Nat) : w.frozen? ⟨b, i, none⟩ = false := by obtain ⟨cs, hb⟩ := h.blk; exact hb.free i
theorem Txs.kept {w w' : World} {b r : Nat} {G : Nat → ByteArray} (h : Txs w b r G) (k : Kept w w') : Txs w' b r G := by
  obtain ⟨cs, hb⟩ := h.blk
  exact ⟨⟨cs, hb.kept k⟩, fun i hi => k.cell hb.lt (h.cell i hi)⟩
theorem Txs.but {R : Nat → Prop} {w w' : World} {b r : Nat} {G : Nat → ByteArray} (h : Txs w b r G) (k : CellsBut R w w') (hr : ¬ R b) : Txs w' b r G := by
  obtain ⟨cs, hb⟩ := h.blk
  have hb' := hb.but k hr
  exact ⟨⟨cs, hb'⟩, fun i hi => by rw [hb'.cell, ← hb.cell]; exact h.cell i hi⟩
theorem Txs.set {w : World} {b r i : Nat} {G : Nat → ByteArray} (h : Txs w b r G) (s : ByteArray) : Txs (w.setCell ⟨b, i, none⟩ (.string s)) b r (upF G i s) := by
  obtain ⟨cs, hb⟩ := h.blk
  refine ⟨⟨_, hb.set _⟩, fun k hk => ?_⟩
  by_cases e : k = i
  · subst e
    rw [World.cell?_setCell_same _ _ _ (h.cell k hk), upF_same]
  · have hne : (⟨b, i, none⟩ : Addr) ≠ ⟨b, k, none⟩ := fun h => e (Addr.mk.inj h).2.1.symm
    rw [World.cell?_setCell_other (h := hne), h.cell k hk, upF_other _ _ e]
theorem Txs.other {w : World} {b b' i r : Nat} {G : Nat → ByteArray} (h : Txs w b r G) (hne : b ≠ b') (v : Value) : Txs (w.setCell ⟨b', i, none⟩ v) b r G :=
  h.but (R := fun k => k = b') (CellsBut.setCell w v rfl) hne
theorem Txs.ext {w : World} {b r : Nat} {G H : Nat → ByteArray} (h : Txs w b r G) (e : ∀ i, i < r → G i = H i) : Txs w b r H := ⟨h.blk, fun i hi => by rw [← e i hi]; exact h.cell i hi⟩
/-- blocks of unlike types are unlike -/
theorem block_ne {w : World} {a b : Nat} {A B : Array Value} {s t : TypeId} (h : BlockAt w a A s) (k : BlockAt w b B t) (hne : s ≠ t) : a ≠ b := fun e => by
  subst e
  have e2 := Eq.trans (Eq.symm (show w.heap[a]? = _ from h)) (show w.heap[a]? = _ from k)
  cases e2
  exact hne rfl

/-- the cells of a disk: lost, or with its sectors and its cache -/
def diskC (x : Option Dsk) (kb cb n : Nat) : List Value := match x with
  | none => [.bool false, .slice none 0 0, .slice none 0 0]
  | some _ => [.bool true, .slice (some ⟨kb, 0, none⟩) n n, .slice (some ⟨cb, 0, none⟩) n n]
/-- the disks, as they lie -/
structure ArR (w : World) (D : Nat) (K C : Nat → Nat) (S : Arr) : Prop where
  row : ∃ cs, BlockAt w D cs 61
  cell : ∀ d, d < S.m → ∀ j v, (diskC (S.ds d) (K d) (C d) S.n)[j]? = some v → w.cell? ⟨D, d * 3 + j, none⟩ = some v
  ks : ∀ d, d < S.m → ∀ x, S.ds d = some x → Txs w (K d) S.n x.k
  cs : ∀ d, d < S.m → ∀ x, S.ds d = some x → Txs w (C d) S.n x.c
  kk : ∀ d e, d < S.m → e < S.m → d ≠ e → K d ≠ K e
  cc : ∀ d e, d < S.m → e < S.m → d ≠ e → C d ≠ C e
  kc : ∀ d e, d < S.m → e < S.m → K d ≠ C e
  lt : ∀ d, d < S.m → K d < w.heap.size ∧ C d < w.heap.size
/-- the blocks of the disks -/
def ArF (D : Nat) (K C : Nat → Nat) (m : Nat) (b : Nat) : Prop := b = D ∨ ∃ d, d < m ∧ (b = K d ∨ b = C d)
theorem ArR.but {R : Nat → Prop} {w w' : World} {D : Nat} {K C : Nat → Nat} {S : Arr} (h : ArR w D K C S) (k : CellsBut R w w') (hr : ∀ b, ArF D K C S.m b → ¬ R b) : ArR w' D K C S := by
  obtain ⟨cs, hb⟩ := h.row
  have hb' := hb.but k (hr D (.inl rfl))
  exact ⟨⟨cs, hb'⟩, fun d hd j v hj => by rw [hb'.cell, ← hb.cell]; exact h.cell d hd j v hj, fun d hd x hx => (h.ks d hd x hx).but k (hr _ (.inr ⟨d, hd, .inl rfl⟩)), fun d hd x hx => (h.cs d hd x hx).but k (hr _ (.inr ⟨d, hd, .inr rfl⟩)),
    h.kk, h.cc, h.kc, fun d hd => ⟨Nat.lt_of_lt_of_le (h.lt d hd).1 k.size, Nat.lt_of_lt_of_le (h.lt d hd).2 k.size⟩⟩
theorem ArR.kept {w w' : World} {D : Nat} {K C : Nat → Nat} {S : Arr} (h : ArR w D K C S) (k : Kept w w') : ArR w' D K C S :=
  h.but (R := fun _ => False) (CellsBut.of_kept k) (fun _ _ h => h)
/-- only the disks and their number, and that of the sectors, are told -/
theorem ArR.same {w : World} {D : Nat} {K C : Nat → Nat} {S T : Arr} (h : ArR w D K C S) (e1 : T.ds = S.ds) (e2 : T.m = S.m) (e3 : T.n = S.n) : ArR w D K C T := by
  obtain ⟨ds, m, n, g, l⟩ := S
  obtain ⟨ds', m', n', g', l'⟩ := T
  dsimp only at e1 e2 e3
  subst e1 e2 e3
  exact ⟨h.row, h.cell, h.ks, h.cs, h.kk, h.cc, h.kc, h.lt⟩
/-- a store into a disk's cache -/
theorem ArR.setC {w : World} {D : Nat} {K C : Nat → Nat} {S : Arr} {x : Dsk} {d : Nat} (h : ArR w D K C S) (hd : d < S.m) (hx : S.ds d = some x) (s : Nat) (t : ByteArray) : ArR (w.setCell ⟨C d, s, none⟩ (.string t)) D K C (putD S d ⟨x.k, upF x.c s t⟩) := by
  obtain ⟨cs, hb⟩ := h.row
  obtain ⟨c2, hc2⟩ := (h.cs d hd x hx).blk
  have hDC : D ≠ C d := block_ne hb hc2 (by decide)
  have kb := CellsBut.setCell (R := fun k => k = C d) w (.string t) (i := s) rfl
  have hb' := hb.but kb hDC
  refine ⟨⟨cs, hb'⟩, fun e he j v hj => ?_, fun e he y hy => ?_, fun e he y hy => ?_, h.kk, h.cc, h.kc, fun e he => ⟨Nat.lt_of_lt_of_le (h.lt e he).1 kb.size, Nat.lt_of_lt_of_le (h.lt e he).2 kb.size⟩⟩
  · rw [hb'.cell, ← hb.cell]
    refine h.cell e he j v ?_
    by_cases q : e = d
    · subst q
      rw [show (putD S e ⟨x.k, upF x.c s t⟩).ds e = some ⟨x.k, upF x.c s t⟩ from upF_same _ _ _] at hj
      rw [hx]; exact hj
    · rwa [show (putD S d ⟨x.k, upF x.c s t⟩).ds e = S.ds e from upF_other _ _ q] at hj
  · by_cases q : e = d
    · subst q
      rw [show (putD S e ⟨x.k, upF x.c s t⟩).ds e = some ⟨x.k, upF x.c s t⟩ from upF_same _ _ _] at hy
      cases hy
      exact (h.ks e he x hx).but kb (h.kc e e he he)
    · rw [show (putD S d ⟨x.k, upF x.c s t⟩).ds e = S.ds e from upF_other _ _ q] at hy
      exact (h.ks e he y hy).but kb (h.kc e d he hd)
  · by_cases q : e = d
    · subst q
      rw [show (putD S e ⟨x.k, upF x.c s t⟩).ds e = some ⟨x.k, upF x.c s t⟩ from upF_same _ _ _] at hy
      cases hy
      exact (h.cs e he x hx).set t
    · rw [show (putD S d ⟨x.k, upF x.c s t⟩).ds e = S.ds e from upF_other _ _ q] at hy
      exact (h.cs e he y hy).but kb (h.cc e d he hd q)
/-- a store into a disk's sectors -/
theorem ArR.setK {w : World} {D : Nat} {K C : Nat → Nat} {S : Arr} {x : Dsk} {d : Nat} (h : ArR w D K C S) (hd : d < S.m) (hx : S.ds d = some x) (s : Nat) (t : ByteArray) : ArR (w.setCell ⟨K d, s, none⟩ (.string t)) D K C (putD S d ⟨upF x.k s t, x.c⟩) := by
  obtain ⟨cs, hb⟩ := h.row
  obtain ⟨c2, hc2⟩ := (h.ks d hd x hx).blk
  have hDC : D ≠ K d := block_ne hb hc2 (by decide)
  have kb := CellsBut.setCell (R := fun k => k = K d) w (.string t) (i := s) rfl
  have hb' := hb.but kb hDC
  refine ⟨⟨cs, hb'⟩, fun e he j v hj => ?_, fun e he y hy => ?_, fun e he y hy => ?_, h.kk, h.cc, h.kc, fun e he => ⟨Nat.lt_of_lt_of_le (h.lt e he).1 kb.size, Nat.lt_of_lt_of_le (h.lt e he).2 kb.size⟩⟩
  · rw [hb'.cell, ← hb.cell]
    refine h.cell e he j v ?_
    by_cases q : e = d
    · subst q
      rw [show (putD S e ⟨upF x.k s t, x.c⟩).ds e = some ⟨upF x.k s t, x.c⟩ from upF_same _ _ _] at hj
      rw [hx]; exact hj
    · rwa [show (putD S d ⟨upF x.k s t, x.c⟩).ds e = S.ds e from upF_other _ _ q] at hj
  · by_cases q : e = d
    · subst q
      rw [show (putD S e ⟨upF x.k s t, x.c⟩).ds e = some ⟨upF x.k s t, x.c⟩ from upF_same _ _ _] at hy
      cases hy
      exact (h.ks e he x hx).set t
    · rw [show (putD S d ⟨upF x.k s t, x.c⟩).ds e = S.ds e from upF_other _ _ q] at hy
      exact (h.ks e he y hy).but kb (h.kk e d he hd q)
  · by_cases q : e = d
    · subst q
      rw [show (putD S e ⟨upF x.k s t, x.c⟩).ds e = some ⟨upF x.k s t, x.c⟩ from upF_same _ _ _] at hy
      cases hy
      exact (h.cs e he x hx).but kb (fun q => h.kc e e he he q.symm)
    · rw [show (putD S d ⟨upF x.k s t, x.c⟩).ds e = S.ds e from upF_other _ _ q] at hy
      exact (h.cs e he y hy).but kb (fun q2 => h.kc d e hd he q2.symm)
theorem CellsBut.of_grown {R : Nat → Prop} {w w' : World} {g : Nat} (h : w.grownBy w' (some g)) (hR : R g) : CellsBut R w w' :=
  ⟨h.size, fun k cs t fr hr hk => by
    have hlt : k < w.heap.size := (Array.getElem?_eq_some_iff.1 hk).1
    exact (h.block k hlt (fun e => hr (by cases e; exact hR))).trans hk⟩
theorem diskC_len (x : Option Dsk) (kb cb n : Nat) : (diskC x kb cb n).length = 3 := by cases x <;> rfl
/-- a disk is laid anew: lost, or with blocks that no other disk has -/
theorem ArR.put {w : World} {D : Nat} {K C : Nat → Nat} {S : Arr} {d : Nat} (h : ArR w D K C S) (hd : d < S.m) (x : Option Dsk) (kb cb : Nat) (hn : ∀ y, x = some y → Txs w kb S.n y.k ∧ Txs w cb S.n y.c)
    (hlt : kb < w.heap.size ∧ cb < w.heap.size) (hk : kb ≠ cb) (ho : ∀ e, e < S.m → e ≠ d → K e ≠ kb ∧ C e ≠ kb ∧ K e ≠ cb ∧ C e ≠ cb) :
    ArR (w.setCells D (d * 3) (diskC x kb cb S.n)) D (upF K d kb) (upF C d cb) { S with ds := upF S.ds d x } := by
  obtain ⟨cs, hb⟩ := h.row
  obtain ⟨cs', hb', hs', hin, hout⟩ := block_setCells D 61 (diskC x kb cb S.n) (d * 3) w cs hb
  have kb2 := CellsBut.of_grown (R := fun k => k = D) (gr_setCells D (diskC x kb cb S.n) (d * 3) w) rfl
  have hDT : ∀ b G, Txs w b S.n G → ¬ b = D := fun b G ht e => by
    obtain ⟨c2, hc2⟩ := ht.blk
    exact block_ne hb hc2 (by decide) e.symm
  have hroom : ∀ j, j < 3 → d * 3 + j < cs.size := fun j hj => by
    have hc : ∃ v, (diskC (S.ds d) (K d) (C d) S.n)[j]? = some v := ⟨_, List.getElem?_eq_getElem (by rw [diskC_len]; exact hj)⟩
    obtain ⟨v, hv⟩ := hc
    have := h.cell d hd j v hv
    rw [hb.cell] at this
    exact (Array.getElem?_eq_some_iff.1 this).1
  refine ⟨⟨cs', hb'⟩, fun e he j v hj => ?_, fun e he y hy => ?_, fun e he y hy => ?_, fun a e ha he hne => ?_, fun a e ha he hne => ?_, fun a e ha he => ?_, fun e he => ?_⟩
  · have hj3 : j < 3 := by
      have := (List.getElem?_eq_some_iff.1 hj).1
      rwa [diskC_len] at this
    by_cases q : e = d
    · subst q
      rw [hb'.cell, hin j (by rw [diskC_len]; exact hj3) (hroom j hj3)]
      dsimp only at hj
      rwa [upF_same, upF_same, upF_same] at hj
    · rw [hb'.cell, hout _ (by rw [diskC_len]; omega), ← hb.cell]
      dsimp only at hj
      rw [upF_other _ _ q, upF_other _ _ q, upF_other _ _ q] at hj
      exact h.cell e he j v hj
  · dsimp only at hy he ⊢
    by_cases q : e = d
    · subst q
      rw [upF_same] at hy ⊢
      obtain ⟨g1, _⟩ := hn y hy
      exact g1.but kb2 (hDT _ _ g1)
    · rw [upF_other _ _ q] at hy ⊢
      exact (h.ks e he y hy).but kb2 (hDT _ _ (h.ks e he y hy))
  · dsimp only at hy he ⊢
    by_cases q : e = d
    · subst q
      rw [upF_same] at hy ⊢
      obtain ⟨_, g2⟩ := hn y hy
      exact g2.but kb2 (hDT _ _ g2)
    · rw [upF_other _ _ q] at hy ⊢
      exact (h.cs e he y hy).but kb2 (hDT _ _ (h.cs e he y hy))
  · by_cases q : a = d
    · subst q
      rw [upF_same, upF_other _ _ (fun e2 => hne e2.symm)]
      exact fun e2 => (ho e he (fun e3 => hne e3.symm)).1 e2.symm
    · by_cases q2 : e = d
      · subst q2
        rw [upF_same, upF_other _ _ q]
        exact (ho a ha q).1
      · rw [upF_other _ _ q, upF_other _ _ q2]
        exact h.kk a e ha he hne
  · by_cases q : a = d
    · subst q
      rw [upF_same, upF_other _ _ (fun e2 => hne e2.symm)]
      exact fun e2 => (ho e he (fun e3 => hne e3.symm)).2.2.2 e2.symm
    · by_cases q2 : e = d
      · subst q2
        rw [upF_same, upF_other _ _ q]
        exact (ho a ha q).2.2.2
      · rw [upF_other _ _ q, upF_other _ _ q2]
        exact h.cc a e ha he hne
  · by_cases q : a = d
    · by_cases q2 : e = d
      · subst q; subst q2
        rw [upF_same, upF_same]; exact hk
      · subst q
        rw [upF_same, upF_other _ _ q2]
        exact fun e2 => (ho e he q2).2.1 e2.symm
    · by_cases q2 : e = d
      · subst q2
        rw [upF_same, upF_other _ _ q]
        exact (ho a ha q).2.2.1
      · rw [upF_other _ _ q, upF_other _ _ q2]
        exact h.kc a e ha he
  · have hsz := kb2.size
    by_cases q : e = d
    · subst q
      rw [upF_same, upF_same]
      exact ⟨Nat.lt_of_lt_of_le hlt.1 hsz, Nat.lt_of_lt_of_le hlt.2 hsz⟩
    · rw [upF_other _ _ q, upF_other _ _ q]
      exact ⟨Nat.lt_of_lt_of_le (h.lt e he).1 hsz, Nat.lt_of_lt_of_le (h.lt e he).2 hsz⟩
/-- the array itself: its block, its disks -/
structure ArP (w : World) (p D : Nat) (K C : Nat → Nat) (S : Arr) : Prop where
  top : ∃ cap off bound left, BlockAt w p #[.slice (some ⟨D, 0, none⟩) S.m cap, .int .i64 S.n, .int .i64 S.g, .bool off, .bool bound, .int .i64 left] 58 ∧ Pow off bound left S.l ∧ left ≤ 9223372036854775807
  r : ArR w D K C S
  ap : ∀ d, d < S.m → p ≠ K d ∧ p ≠ C d
  m1 : 1 ≤ S.m
  m2 : S.m ≤ 12
  n1 : 1 ≤ S.n
  n2 : S.n ≤ 2048
theorem ArP.kept {w w' : World} {p D : Nat} {K C : Nat → Nat} {S : Arr} (h : ArP w p D K C S) (k : Kept w w') : ArP w' p D K C S := by
  obtain ⟨cap, off, bound, left, ht, hp⟩ := h.top
  exact ⟨⟨cap, off, bound, left, ht.kept k, hp⟩, h.r.kept k, h.ap, h.m1, h.m2, h.n1, h.n2⟩
/-- the disks' blocks are not the array's own -/
theorem ArP.far {w : World} {p D : Nat} {K C : Nat → Nat} {S : Arr} (h : ArP w p D K C S) (b : Nat) (hb : ArF D K C S.m b) : ¬ b = p := by
  obtain ⟨cap, off, bound, left, ht, hp⟩ := h.top
  obtain ⟨cs, hr⟩ := h.r.row
  rcases hb with q | ⟨d, hd, q | q⟩
  · subst q; exact block_ne hr ht (by decide)
  · subst q; exact fun e => (h.ap d hd).1 e.symm
  · subst q; exact fun e => (h.ap d hd).2 e.symm
/-- only the array's own block was stored to -/
theorem ArP.setTop {w w' : World} {p D : Nat} {K C : Nat → Nat} {S T : Arr} (h : ArP w p D K C S) (e1 : T.ds = S.ds) (e2 : T.m = S.m) (e3 : T.n = S.n) (k : CellsBut (fun b => b = p) w w')
    (ht : ∃ cap off bound left, BlockAt w' p #[.slice (some ⟨D, 0, none⟩) T.m cap, .int .i64 T.n, .int .i64 T.g, .bool off, .bool bound, .int .i64 left] 58 ∧ Pow off bound left T.l ∧ left ≤ 9223372036854775807) : ArP w' p D K C T :=
  ⟨ht, (h.r.but k h.far).same e1 e2 e3, fun d hd => h.ap d (by omega), by rw [e2]; exact h.m1, by rw [e2]; exact h.m2, by rw [e3]; exact h.n1, by rw [e3]; exact h.n2⟩
/-- what a call that changes the array leaves: blocks below B, and cells of blocks that are none of the array's, are as they were; a disk's blocks are the old ones or new -/
structure ArN (B : Nat) (w : World) (p D : Nat) (K C : Nat → Nat) (m : Nat) (w' : World) (K' C' : Nat → Nat) : Prop where
  low : Below B w w'
  but : CellsBut (fun b => b = p ∨ ArF D K C m b) w w'
  new : ∀ d, d < m → (K' d = K d ∨ w.heap.size ≤ K' d) ∧ (C' d = C d ∨ w.heap.size ≤ C' d)
  oth : KeepsOthers w w'
theorem kept_oth {A B : World} (k : Kept A B) : KeepsOthers A B := ⟨Below.size k, fun i _ hi _ => (Below.block k i (Array.getElem?_eq_some_iff.1 hi).1).trans hi⟩
theorem ArN.of_kept {B : Nat} {w w' : World} {p D : Nat} {K C : Nat → Nat} {m : Nat} (k : Kept w w') (hB : B ≤ w.heap.size) : ArN B w p D K C m w' K C :=
  ⟨Below.mono k hB, CellsBut.of_kept k, fun _ _ => ⟨.inl rfl, .inl rfl⟩, kept_oth k⟩
theorem ArN.of_top {B : Nat} {w w' : World} {p D : Nat} {K C : Nat → Nat} {m : Nat} (l : Below B w w') (k : CellsBut (fun b => b = p) w w') (o : KeepsOthers w w') : ArN B w p D K C m w' K C :=
  ⟨l, ⟨k.size, fun b cs t fr hr hb => k.block b cs t fr (fun q => hr (.inl q)) hb⟩, fun _ _ => ⟨.inl rfl, .inl rfl⟩, o⟩
theorem CellsBut.trans' {R : Nat → Prop} {a b c : World} (h : CellsBut R a b) (k : CellsBut R b c) : CellsBut R a c := ⟨Nat.le_trans h.size k.size, fun g cs t fr hr hb => k.block g cs t fr hr (h.block g cs t fr hr hb)⟩
theorem ArN.trans {B : Nat} {w1 w2 w3 : World} {p D : Nat} {K1 C1 K2 C2 K3 C3 : Nat → Nat} {m : Nat} (h : ArN B w1 p D K1 C1 m w2 K2 C2) (k : ArN B w2 p D K2 C2 m w3 K3 C3) : ArN B w1 p D K1 C1 m w3 K3 C3 := by
  have hsz := h.but.size
  refine ⟨Below.trans h.low k.low, ⟨Nat.le_trans h.but.size k.but.size, fun b cs t fr hr hb => ?_⟩, fun d hd => ⟨?_, ?_⟩, h.oth.trans k.oth⟩
  · have hlt : b < w1.heap.size := (Array.getElem?_eq_some_iff.1 hb).1
    refine k.but.block b cs t fr (fun q => hr ?_) (h.but.block b cs t fr hr hb)
    rcases q with q | q | ⟨d, hd, q | q⟩
    · exact .inl q
    · exact .inr (.inl q)
    · rcases (h.new d hd).1 with e | e
      · exact .inr (.inr ⟨d, hd, .inl (q.trans e)⟩)
      · omega
    · rcases (h.new d hd).2 with e | e
      · exact .inr (.inr ⟨d, hd, .inr (q.trans e)⟩)
      · omega
  · rcases (k.new d hd).1 with e | e
    · rcases (h.new d hd).1 with e2 | e2
      · exact .inl (e.trans e2)
      · exact .inr (by omega)
    · exact .inr (by omega)
  · rcases (k.new d hd).2 with e | e
    · rcases (h.new d hd).2 with e2 | e2
      · exact .inl (e.trans e2)
      · exact .inr (by omega)
    · exact .inr (by omega)
end Go.Proofs.Ytkfomaoillnehaa
