
/- The reference's array in memory: the same disks, in rows by what they hold (no conditions). -/
import Derived.Test.YtkfomaoillnehaaAr1
namespace Go.Proofs.Ytkfomaoillnehaa
open Go.RowKit

/-- the reference's disks, as they lie: a row of truths, two rows of slices, a block of texts each; a lost disk's texts are any -/
structure RfR (w : World) (A D E : Nat) (K C : Nat → Nat) (S : Arr) : Prop where
  lrow : ∃ cs, BlockAt w A cs 4
  drow : ∃ cs, BlockAt w D cs 59
  erow : ∃ cs, BlockAt w E cs 59
  de : D ≠ E
  live : ∀ d, d < S.m → w.cell? ⟨A, d, none⟩ = some (.bool (S.ds d).isSome)
  disk : ∀ d, d < S.m → ∃ cap, w.cell? ⟨D, d, none⟩ = some (.slice (some ⟨K d, 0, none⟩) S.n cap) ∧ S.n ≤ cap
  cach : ∀ d, d < S.m → ∃ cap, w.cell? ⟨E, d, none⟩ = some (.slice (some ⟨C d, 0, none⟩) S.n cap) ∧ S.n ≤ cap
  ks : ∀ d, d < S.m → ∃ G, Txs w (K d) S.n G ∧ ∀ x, S.ds d = some x → ∀ i, i < S.n → G i = x.k i
  cs : ∀ d, d < S.m → ∃ G, Txs w (C d) S.n G ∧ ∀ x, S.ds d = some x → ∀ i, i < S.n → G i = x.c i
  kk : ∀ d e, d < S.m → e < S.m → d ≠ e → K d ≠ K e
  cc : ∀ d e, d < S.m → e < S.m → d ≠ e → C d ≠ C e
  kc : ∀ d e, d < S.m → e < S.m → K d ≠ C e
theorem RfR.txk {w : World} {A D E : Nat} {K C : Nat → Nat} {S : Arr} {d : Nat} {x : Dsk} (h : RfR w A D E K C S) (hd : d < S.m) (hx : S.ds d = some x) : Txs w (K d) S.n x.k := by
  obtain ⟨G, hG, he⟩ := h.ks d hd
  exact hG.ext (he x hx)
theorem RfR.txc {w : World} {A D E : Nat} {K C : Nat → Nat} {S : Arr} {d : Nat} {x : Dsk} (h : RfR w A D E K C S) (hd : d < S.m) (hx : S.ds d = some x) : Txs w (C d) S.n x.c := by
  obtain ⟨G, hG, he⟩ := h.cs d hd
  exact hG.ext (he x hx)
/-- the blocks of the reference's array -/
def RfF (p A D E : Nat) (K C : Nat → Nat) (m : Nat) (b : Nat) : Prop := b = p ∨ b = A ∨ b = D ∨ b = E ∨ ∃ d, d < m ∧ (b = K d ∨ b = C d)
theorem RfR.but {R : Nat → Prop} {w w' : World} {p A D E : Nat} {K C : Nat → Nat} {S : Arr} (h : RfR w A D E K C S) (k : CellsBut R w w') (hr : ∀ b, RfF p A D E K C S.m b → b = p ∨ ¬ R b) (hp : p ≠ A ∧ p ≠ D ∧ p ≠ E ∧ ∀ d, d < S.m → p ≠ K d ∧ p ≠ C d) : RfR w' A D E K C S := by
  have ha : ¬ R A := (hr A (.inr (.inl rfl))).resolve_left (fun e => hp.1 e.symm)
  have hd' : ¬ R D := (hr D (.inr (.inr (.inl rfl)))).resolve_left (fun e => hp.2.1 e.symm)
  have he' : ¬ R E := (hr E (.inr (.inr (.inr (.inl rfl))))).resolve_left (fun e => hp.2.2.1 e.symm)
  obtain ⟨ca, hA⟩ := h.lrow
  obtain ⟨cd, hD⟩ := h.drow
  obtain ⟨ce, hE⟩ := h.erow
  have hA' := hA.but k ha
  have hD' := hD.but k hd'
  have hE' := hE.but k he'
  refine ⟨⟨_, hA'⟩, ⟨_, hD'⟩, ⟨_, hE'⟩, h.de, fun d q => ?_, fun d q => ?_, fun d q => ?_, fun d q => ?_, fun d q => ?_, h.kk, h.cc, h.kc⟩
  · rw [hA'.cell, ← hA.cell]; exact h.live d q
  · obtain ⟨cap, hc, hl⟩ := h.disk d q
    exact ⟨cap, by rw [hD'.cell, ← hD.cell]; exact hc, hl⟩
  · obtain ⟨cap, hc, hl⟩ := h.cach d q
    exact ⟨cap, by rw [hE'.cell, ← hE.cell]; exact hc, hl⟩
  · obtain ⟨G, hG, e⟩ := h.ks d q
    exact ⟨G, hG.but k ((hr _ (.inr (.inr (.inr (.inr ⟨d, q, .inl rfl⟩))))).resolve_left (fun e => (hp.2.2.2 d q).1 e.symm)), e⟩
  · obtain ⟨G, hG, e⟩ := h.cs d q
    exact ⟨G, hG.but k ((hr _ (.inr (.inr (.inr (.inr ⟨d, q, .inr rfl⟩))))).resolve_left (fun e => (hp.2.2.2 d q).2 e.symm)), e⟩
theorem RfR.kept {w w' : World} {A D E : Nat} {K C : Nat → Nat} {S : Arr} (h : RfR w A D E K C S) (k : Kept w w') : RfR w' A D E K C S := by
  have kb := CellsBut.of_kept (R := fun _ => False) k
  obtain ⟨ca, hA⟩ := h.lrow
  obtain ⟨cd, hD⟩ := h.drow
  obtain ⟨ce, hE⟩ := h.erow
  have hA' := hA.kept k
  have hD' := hD.kept k
  have hE' := hE.kept k
  refine ⟨⟨_, hA'⟩, ⟨_, hD'⟩, ⟨_, hE'⟩, h.de, fun d q => ?_, fun d q => ?_, fun d q => ?_, fun d q => ?_, fun d q => ?_, h.kk, h.cc, h.kc⟩
  · rw [hA'.cell, ← hA.cell]; exact h.live d q
  · obtain ⟨cap, hc, hl⟩ := h.disk d q
    exact ⟨cap, by rw [hD'.cell, ← hD.cell]; exact hc, hl⟩
  · obtain ⟨cap, hc, hl⟩ := h.cach d q
    exact ⟨cap, by rw [hE'.cell, ← hE.cell]; exact hc, hl⟩
  · obtain ⟨G, hG, e⟩ := h.ks d q
    exact ⟨G, hG.kept k, e⟩
  · obtain ⟨G, hG, e⟩ := h.cs d q
    exact ⟨G, hG.kept k, e⟩
/-- a store into a block of texts that is told by where it is -/
theorem RfR.setT {w : World} {A D E : Nat} {K C : Nat → Nat} {S : Arr} {x : Dsk} {d : Nat} (h : RfR w A D E K C S) (hd : d < S.m) (hx : S.ds d = some x) (s : Nat) (t : ByteArray) (inK : Bool) :
    RfR (w.setCell ⟨if inK then K d else C d, s, none⟩ (.string t)) A D E K C (putD S d ⟨if inK then upF x.k s t else x.k, if inK then x.c else upF x.c s t⟩) := by
  obtain ⟨q, hq⟩ : ∃ q, q = if inK then K d else C d := ⟨_, rfl⟩
  rw [← hq]
  have hqt : Txs w q S.n (if inK then x.k else x.c) := by
    rw [hq]
    cases inK
    · exact h.txc hd hx
    · exact h.txk hd hx
  obtain ⟨cq, hcq⟩ := hqt.blk
  have kb := CellsBut.setCell (R := fun k => k = q) w (.string t) (i := s) rfl
  obtain ⟨ca, hA⟩ := h.lrow
  obtain ⟨cd, hD⟩ := h.drow
  obtain ⟨ce, hE⟩ := h.erow
  have hA' := hA.but kb (block_ne hA hcq (by decide))
  have hD' := hD.but kb (block_ne hD hcq (by decide))
  have hE' := hE.but kb (block_ne hE hcq (by decide))
  have hds : ∀ e, e ≠ d → (putD S d ⟨if inK then upF x.k s t else x.k, if inK then x.c else upF x.c s t⟩).ds e = S.ds e := fun e he => upF_other _ _ he
  have hdd : (putD S d ⟨if inK then upF x.k s t else x.k, if inK then x.c else upF x.c s t⟩).ds d = some ⟨if inK then upF x.k s t else x.k, if inK then x.c else upF x.c s t⟩ := upF_same _ _ _
  refine ⟨⟨_, hA'⟩, ⟨_, hD'⟩, ⟨_, hE'⟩, h.de, fun e he => ?_, fun e he => ?_, fun e he => ?_, fun e he => ?_, fun e he => ?_, h.kk, h.cc, h.kc⟩
  · rw [hA'.cell, ← hA.cell, h.live e he]
    by_cases q2 : e = d
    · subst q2; rw [hdd, hx]; rfl
    · rw [hds e q2]
  · obtain ⟨cap, hc, hl⟩ := h.disk e he
    exact ⟨cap, by rw [hD'.cell, ← hD.cell]; exact hc, hl⟩
  · obtain ⟨cap, hc, hl⟩ := h.cach e he
    exact ⟨cap, by rw [hE'.cell, ← hE.cell]; exact hc, hl⟩
  · by_cases q2 : e = d
    · subst q2
      rw [hdd]
      cases inK with
      | true =>
        have hq' : q = K e := hq
        subst hq'
        exact ⟨_, (h.txk hd hx).set t, fun y hy i _ => by cases hy; rfl⟩
      | false =>
        have hq' : q = C e := hq
        subst hq'
        exact ⟨_, (h.txk hd hx).but kb (h.kc e e he he), fun y hy i _ => by cases hy; rfl⟩
    · rw [hds e q2]
      obtain ⟨G, hG, g⟩ := h.ks e he
      refine ⟨G, hG.but kb ?_, g⟩
      rw [hq]
      cases inK with
      | true => exact h.kk e d he hd q2
      | false => exact h.kc e d he hd
  · by_cases q2 : e = d
    · subst q2
      rw [hdd]
      cases inK with
      | true =>
        have hq' : q = K e := hq
        subst hq'
        exact ⟨_, (h.txc hd hx).but kb (fun q => h.kc e e he he q.symm), fun y hy i _ => by cases hy; rfl⟩
      | false =>
        have hq' : q = C e := hq
        subst hq'
        exact ⟨_, (h.txc hd hx).set t, fun y hy i _ => by cases hy; rfl⟩
    · rw [hds e q2]
      obtain ⟨G, hG, g⟩ := h.cs e he
      refine ⟨G, hG.but kb ?_, g⟩
      rw [hq]
      cases inK with
      | true => exact fun q => h.kc d e hd he q.symm
      | false => exact h.cc e d he hd q2
/-- a disk is lost -/
theorem RfR.lose {w : World} {A D E : Nat} {K C : Nat → Nat} {S : Arr} {d : Nat} (h : RfR w A D E K C S) (hd : d < S.m) : RfR (w.setCell ⟨A, d, none⟩ (.bool false)) A D E K C { S with ds := upF S.ds d none } := by
  have kb := CellsBut.setCell (R := fun k => k = A) w (.bool false) (i := d) rfl
  obtain ⟨ca, hA⟩ := h.lrow
  obtain ⟨cd, hD⟩ := h.drow
  obtain ⟨ce, hE⟩ := h.erow
  have hA' := hA.set (i := d) (.bool false)
  have hD' := hD.but kb (fun e => block_ne hD hA (by decide) e)
  have hE' := hE.but kb (fun e => block_ne hE hA (by decide) e)
  have hds : ∀ e, e ≠ d → (upF S.ds d none) e = S.ds e := fun e he => upF_other _ _ he
  refine ⟨⟨_, hA'⟩, ⟨_, hD'⟩, ⟨_, hE'⟩, h.de, fun e he => ?_, fun e he => ?_, fun e he => ?_, fun e he => ?_, fun e he => ?_, h.kk, h.cc, h.kc⟩
  · dsimp only at he ⊢
    by_cases q : e = d
    · subst q
      rw [upF_same, World.cell?_setCell_same _ _ _ (h.live e he)]; rfl
    · rw [hds e q]
      have hne : (⟨A, d, none⟩ : Addr) ≠ ⟨A, e, none⟩ := fun h => q (Addr.mk.inj h).2.1.symm
      rw [World.cell?_setCell_other (h := hne)]
      exact h.live e he
  · obtain ⟨cap, hc, hl⟩ := h.disk e he
    exact ⟨cap, by rw [hD'.cell, ← hD.cell]; exact hc, hl⟩
  · obtain ⟨cap, hc, hl⟩ := h.cach e he
    exact ⟨cap, by rw [hE'.cell, ← hE.cell]; exact hc, hl⟩
  · obtain ⟨G, hG, g⟩ := h.ks e he
    obtain ⟨cg, hcg⟩ := hG.blk
    refine ⟨G, hG.but kb (block_ne hcg hA (by decide)), fun x hx i hi => ?_⟩
    dsimp only at hx
    by_cases q : e = d
    · subst q; rw [upF_same] at hx; cases hx
    · rw [hds e q] at hx; exact g x hx i hi
  · obtain ⟨G, hG, g⟩ := h.cs e he
    obtain ⟨cg, hcg⟩ := hG.blk
    refine ⟨G, hG.but kb (block_ne hcg hA (by decide)), fun x hx i hi => ?_⟩
    dsimp only at hx
    by_cases q : e = d
    · subst q; rw [upF_same] at hx; cases hx
    · rw [hds e q] at hx; exact g x hx i hi
/-- a disk is laid anew, in blocks that no other has: what the stores into the three rows have left -/
theorem RfR.renew {w w' : World} {A D E : Nat} {K C : Nat → Nat} {S : Arr} {d kb cb : Nat} {x : Dsk} (h : RfR w A D E K C S) (hd : d < S.m) (k : CellsBut (fun b => b = A ∨ b = D ∨ b = E) w w') (hA : ∃ cs, BlockAt w' A cs 4) (hD : ∃ cs, BlockAt w' D cs 59) (hE : ∃ cs, BlockAt w' E cs 59)
    (oA : ∀ e, e ≠ d → w'.cell? ⟨A, e, none⟩ = w.cell? ⟨A, e, none⟩) (oD : ∀ e, e ≠ d → w'.cell? ⟨D, e, none⟩ = w.cell? ⟨D, e, none⟩) (oE : ∀ e, e ≠ d → w'.cell? ⟨E, e, none⟩ = w.cell? ⟨E, e, none⟩)
    (nA : w'.cell? ⟨A, d, none⟩ = some (.bool true)) (nD : ∃ cap, w'.cell? ⟨D, d, none⟩ = some (.slice (some ⟨kb, 0, none⟩) S.n cap) ∧ S.n ≤ cap) (nE : ∃ cap, w'.cell? ⟨E, d, none⟩ = some (.slice (some ⟨cb, 0, none⟩) S.n cap) ∧ S.n ≤ cap)
    (tk : Txs w' kb S.n x.k) (tc : Txs w' cb S.n x.c) (hk : kb ≠ cb) (ho : ∀ e, e < S.m → e ≠ d → K e ≠ kb ∧ C e ≠ kb ∧ K e ≠ cb ∧ C e ≠ cb) :
    RfR w' A D E (upF K d kb) (upF C d cb) (putD S d x) := by
  obtain ⟨ca, hA0⟩ := h.lrow
  obtain ⟨cd, hD0⟩ := h.drow
  obtain ⟨ce, hE0⟩ := h.erow
  have tne : ∀ b r G, Txs w b r G → ¬ (b = A ∨ b = D ∨ b = E) := fun b r G ht q => by
    obtain ⟨cg, hcg⟩ := ht.blk
    rcases q with q | q | q
    · exact block_ne hcg hA0 (by decide) q
    · exact block_ne hcg hD0 (by decide) q
    · exact block_ne hcg hE0 (by decide) q
  have hds : ∀ e, e ≠ d → (putD S d x).ds e = S.ds e := fun e he => upF_other _ _ he
  have hdd : (putD S d x).ds d = some x := upF_same _ _ _
  refine ⟨hA, hD, hE, h.de, fun e he => ?_, fun e he => ?_, fun e he => ?_, fun e he => ?_, fun e he => ?_, fun a e ha he hne => ?_, fun a e ha he hne => ?_, fun a e ha he => ?_⟩
  · by_cases q : e = d
    · subst q; rw [nA, hdd]; rfl
    · rw [oA e q, hds e q]; exact h.live e he
  · by_cases q : e = d
    · subst q; rw [upF_same]; exact nD
    · rw [oD e q, upF_other _ _ q]; exact h.disk e he
  · by_cases q : e = d
    · subst q; rw [upF_same]; exact nE
    · rw [oE e q, upF_other _ _ q]; exact h.cach e he
  · by_cases q : e = d
    · subst q; rw [upF_same, hdd]; exact ⟨_, tk, fun y hy i _ => by cases hy; rfl⟩
    · rw [upF_other _ _ q, hds e q]
      obtain ⟨G, hG, g⟩ := h.ks e he
      exact ⟨G, hG.but k (tne _ _ _ hG), g⟩
  · by_cases q : e = d
    · subst q; rw [upF_same, hdd]; exact ⟨_, tc, fun y hy i _ => by cases hy; rfl⟩
    · rw [upF_other _ _ q, hds e q]
      obtain ⟨G, hG, g⟩ := h.cs e he
      exact ⟨G, hG.but k (tne _ _ _ hG), g⟩
  · by_cases q : a = d
    · subst q
      rw [upF_same, upF_other _ _ (fun e2 => hne e2.symm)]
      exact fun e2 => (ho e he (fun e3 => hne e3.symm)).1 e2.symm
    · by_cases q2 : e = d
      · subst q2; rw [upF_same, upF_other _ _ q]; exact (ho a ha q).1
      · rw [upF_other _ _ q, upF_other _ _ q2]; exact h.kk a e ha he hne
  · by_cases q : a = d
    · subst q
      rw [upF_same, upF_other _ _ (fun e2 => hne e2.symm)]
      exact fun e2 => (ho e he (fun e3 => hne e3.symm)).2.2.2 e2.symm
    · by_cases q2 : e = d
      · subst q2; rw [upF_same, upF_other _ _ q]; exact (ho a ha q).2.2.2
      · rw [upF_other _ _ q, upF_other _ _ q2]; exact h.cc a e ha he hne
  · by_cases q : a = d
    · by_cases q2 : e = d
      · subst q; subst q2; rw [upF_same, upF_same]; exact hk
      · subst q; rw [upF_same, upF_other _ _ q2]; exact fun e2 => (ho e he q2).2.1 e2.symm
    · by_cases q2 : e = d
      · subst q2; rw [upF_same, upF_other _ _ q]; exact (ho a ha q).2.2.1
      · rw [upF_other _ _ q, upF_other _ _ q2]; exact h.kc a e ha he
/-- the reference's array itself -/
structure RfP (w : World) (p A D E : Nat) (K C : Nat → Nat) (S : Arr) : Prop where
  top : ∃ c1 c2 c3, BlockAt w p #[.int .i64 S.m, .int .i64 S.n, .slice (some ⟨A, 0, none⟩) S.m c1, .slice (some ⟨D, 0, none⟩) S.m c2, .slice (some ⟨E, 0, none⟩) S.m c3, .int .i64 S.l, .int .i64 S.g] 43
  r : RfR w A D E K C S
  m1 : 1 ≤ S.m
  m2 : S.m ≤ 12
  n1 : 1 ≤ S.n
  n2 : S.n ≤ 2048
theorem RfP.kept {w w' : World} {p A D E : Nat} {K C : Nat → Nat} {S : Arr} (h : RfP w p A D E K C S) (k : Kept w w') : RfP w' p A D E K C S := by
  obtain ⟨c1, c2, c3, ht⟩ := h.top
  exact ⟨⟨c1, c2, c3, ht.kept k⟩, h.r.kept k, h.m1, h.m2, h.n1, h.n2⟩
end Go.Proofs.Ytkfomaoillnehaa
