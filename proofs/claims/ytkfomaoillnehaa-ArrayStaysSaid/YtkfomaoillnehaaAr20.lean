
/- Package array: Crash (conditions: the array lies as it should; the list reads as its numbers, whatever the array does to itself). -/
import Derived.Test.YtkfomaoillnehaaAr19
import Derived.Test.YtkfomaoillnehaaInts
namespace Go.Proofs.Ytkfomaoillnehaa
open Go.RowKit Go.Shelf
attribute [local go_sem] Oper.semAt_some

theorem i64_and1 (n : Int) : bits .and .i64 n 1 = n % 2 := by
  have h1 : (BitVec.ofInt 64 1).toNat = 2 ^ 1 - 1 := by decide
  have key : (BitVec.ofInt 64 n &&& BitVec.ofInt 64 1).toNat = (n % ((2 ^ 64 : Nat) : Int)).toNat % 2 ^ 1 := by
    rw [BitVec.toNat_and, BitVec.toNat_ofInt, h1, Nat.and_two_pow_sub_one_eq_mod]
  show IntKind.i64.wrap ((BitVec.ofInt 64 n &&& BitVec.ofInt 64 1).toNat : Nat) = n % 2
  rw [key, IntKind.wrap_i64]
  omega
/-- the array while its first k disks are through -/
def crS (S : Arr) (l : List Int) (k : Nat) : Arr := { S with ds := (crashD l S.n S.ds k).1, l := -1 }
theorem crash_none {l : List Int} {S : Arr} {k : Nat} (h : S.ds k = none) : crashD l S.n S.ds (k + 1) = crashD l S.n S.ds k := by
  show (match S.ds k with | none => crashD l S.n S.ds k | some x => _) = _
  rw [h]
theorem crash_some {l : List Int} {S : Arr} {k : Nat} {x : Dsk} (h : S.ds k = some x) : crashD l S.n S.ds (k + 1) = (upF (crashD l S.n S.ds k).1 k (some (crashR l x (crashD l S.n S.ds k).2 S.n).1), (crashR l x (crashD l S.n S.ds k).2 S.n).2) := by
  show (match S.ds k with | none => crashD l S.n S.ds k | some x => _) = _
  rw [h]
theorem crashR_le (l : List Int) (x : Dsk) (j : Nat) : ∀ i, (crashR l x j i).2 ≤ j + i
  | 0 => Nat.le_refl _
  | i + 1 => by
    have := crashR_le l x j i
    unfold crashR
    dsimp only
    split
    · omega
    · dsimp only; omega
theorem crashD_le (l : List Int) (n : Nat) (ds : Nat → Option Dsk) : ∀ i, (crashD l n ds i).2 ≤ i * n
  | 0 => Nat.zero_le _
  | i + 1 => by
    have := crashD_le l n ds i
    rw [Nat.succ_mul]
    unfold crashD
    dsimp only
    split
    · omega
    · have := crashR_le l ‹_› (crashD l n ds i).2 n
      dsimp only
      omega
/-- how the crash goes through disk k: the array T i and the count V i ahead of its sector i; N sectors (none, if it is lost) -/
structure CrD (p D : Nat) (K C : Nat → Nat) (S : Arr) (l : List Int) (k N : Nat) (ad : Option Addr) (c : Nat → ByteArray) (T : Nat → Arr) (V : Nat → Nat) : Prop where
  le : N ≤ 2048
  nn : N ≤ S.n
  t0 : T 0 = crS S l k
  v0 : V 0 = (crashD l S.n S.ds k).2
  skip : ∀ i, i < N → (c i).size = 0 → T (i + 1) = T i ∧ V (i + 1) = V i
  step : ∀ i, i < N → (c i).size ≠ 0 → ∃ y, (T i).ds k = some y ∧ T (i + 1) = putD (T i) k ⟨if pickA l (V i) then upF y.k i (c i) else y.k, upF y.c i ByteArray.empty⟩ ∧ V (i + 1) = V i + 1
  tn : T N = crS S l (k + 1)
  vn : V N = (crashD l S.n S.ds (k + 1)).2
  tm : ∀ i, (T i).m = S.m ∧ (T i).n = S.n
  reads : ∀ i W, ArP W p D K C (T i) → CachM D (k * 3) ad N c i W
  bound : ∀ i, i ≤ N → V i ≤ (k + 1) * S.n
  lv : ∀ x, S.ds k = some x → N = S.n ∧ c = x.c
  rd : ∀ i, i < N → ∃ y, (T i).ds k = some y ∧ y.c i = c i
theorem crD_ex (p D : Nat) (K C : Nat → Nat) (S : Arr) (l : List Int) (k : Nat) (hk : k < S.m) (hn : S.n ≤ 2048) : ∃ N ad c T V, CrD p D K C S l k N ad c T V := by
  have hb := crashD_le l S.n S.ds k
  have hbe := crashD_behind l S.n S.ds k k (Nat.le_refl _)
  cases hx : S.ds k with
  | none =>
    refine ⟨0, none, fun _ => ByteArray.empty, fun _ => crS S l k, fun _ => (crashD l S.n S.ds k).2, Nat.zero_le _, Nat.zero_le _, rfl, rfl, fun i hi => absurd hi (Nat.not_lt_zero i), fun i hi => absurd hi (Nat.not_lt_zero i), ?_, ?_, fun _ => ⟨rfl, rfl⟩, fun i W h => ⟨?_, fun j h1 h2 => absurd h2 (Nat.not_lt_zero j)⟩, fun i _ => ?_, fun y hy => by (rw [hx] at hy; cases hy), fun i hi => absurd hi (Nat.not_lt_zero i)⟩
    · unfold crS; rw [crash_none hx]
    · rw [crash_none hx]
    · refine h.r.cell k hk 2 _ ?_
      show (diskC ((crashD l S.n S.ds k).1 k) (K k) (C k) S.n)[2]? = _
      rw [hbe, hx]; rfl
    · rw [Nat.succ_mul]; omega
  | some x =>
    refine ⟨S.n, some ⟨C k, 0, none⟩, x.c, fun i => { S with ds := upF (crashD l S.n S.ds k).1 k (some (crashR l x (crashD l S.n S.ds k).2 i).1), l := -1 }, fun i => (crashR l x (crashD l S.n S.ds k).2 i).2, hn, Nat.le_refl _, ?_, rfl, fun i hi hc => ?_, fun i hi hc => ?_, ?_, ?_, fun _ => ⟨rfl, rfl⟩, fun i W h => ⟨?_, fun j h1 h2 => ⟨_, rfl, ?_⟩⟩, fun i hi => ?_, fun y hy => by (rw [hx] at hy; cases hy; exact ⟨rfl, rfl⟩), fun i hi => ⟨_, upF_same _ _ _, (crashR_behind l x (crashD l S.n S.ds k).2 i i (Nat.le_refl _)).2⟩⟩
    · unfold crS
      have e : upF (crashD l S.n S.ds k).1 k (some (crashR l x (crashD l S.n S.ds k).2 0).1) = (crashD l S.n S.ds k).1 := by
        show upF _ k (some x) = _
        rw [← hx, ← hbe, upF_self]
      rw [e]
    · have e : crashR l x (crashD l S.n S.ds k).2 (i + 1) = crashR l x (crashD l S.n S.ds k).2 i := if_pos hc
      rw [e]
      exact ⟨rfl, rfl⟩
    · have e : crashR l x (crashD l S.n S.ds k).2 (i + 1) = (⟨if pickA l (crashR l x (crashD l S.n S.ds k).2 i).2 then upF (crashR l x (crashD l S.n S.ds k).2 i).1.k i (x.c i) else (crashR l x (crashD l S.n S.ds k).2 i).1.k, upF (crashR l x (crashD l S.n S.ds k).2 i).1.c i ByteArray.empty⟩, (crashR l x (crashD l S.n S.ds k).2 i).2 + 1) := if_neg hc
      refine ⟨_, upF_same _ _ _, ?_, ?_⟩
      · rw [e]
        unfold putD
        congr 1
        funext j
        by_cases q : j = k
        · subst q; rw [upF_same, upF_same]
        · rw [upF_other _ _ q, upF_other _ _ q]; exact (upF_other _ _ q).symm
      · rw [e]
    · unfold crS; rw [crash_some hx]
    · rw [crash_some hx]
    · exact h.r.ccell hk (upF_same _ _ _)
    · have := (h.r.cs k hk _ (upF_same _ _ _)).cell j h2
      rwa [(crashR_behind l x (crashD l S.n S.ds k).2 i j h1).2] at this
    · have := crashR_le l x (crashD l S.n S.ds k).2 i
      rw [Nat.succ_mul]; omega
/-- what one disk's crash leaves, under way -/
structure CrI (B : Nat) (w wr : World) (p D : Nat) (K C : Nat → Nat) (m : Nat) (T : Arr) (pn v pl : Nat) (lv : Value) (pa k : Nat) (W : World) : Prop where
  a : ArP W p D K C T
  w : ArW B w p D K C m W
  box : BlockAt W pn #[.int .i64 ((v : Nat) : Int)] 3
  bl : BlockAt W pl #[lv] 35
  ba : BlockAt W pa #[.pointer (some ⟨D, k * 3, none⟩)] 70
  oth : KeepsOthers wr W
theorem ArP.foot_lt {w : World} {p D : Nat} {K C : Nat → Nat} {S : Arr} (h : ArP w p D K C S) (b : Nat) (hb : b = p ∨ ArF D K C S.m b) : b < w.heap.size := by
  obtain ⟨_, _, _, _, ht, _⟩ := h.top
  obtain ⟨cr, hcr⟩ := h.r.row
  rcases hb with q | q | ⟨d, hd, q | q⟩
  · subst q; exact ht.lt
  · subst q; exact hcr.lt
  · rw [q]; exact (h.r.lt d hd).1
  · rw [q]; exact (h.r.lt d hd).2
theorem CrI.own {B : Nat} {w wr : World} {p D : Nat} {K C : Nat → Nat} {m : Nat} {T : Arr} {pn v pl : Nat} {lv : Value} {pa k B' : Nat} (hB : B ≤ B') (hw : B ≤ w.heap.size) (hw2 : w.heap.size ≤ B') (hw3 : wr.heap.size ≤ B') : OwnN B' (CrI B w wr p D K C m T pn v pl lv pa k) := fun _ _ _ h g hr =>
  ⟨h.a.butA (R := fun _ => False) (but_rec g hr) (fun _ _ h => h), h.w.recs hB g hr hw hw2, h.box.recs g hr, h.bl.recs g hr, h.ba.recs g hr, oth_recs h.oth g hr hw3⟩
/-- a store into a block of texts of disk d -/
theorem CrI.store {B : Nat} {w wr : World} {p D : Nat} {K C : Nat → Nat} {m : Nat} {T T' : Arr} {pn v pl : Nat} {lv : Value} {pa k b : Nat} {W : World} (h : CrI B w wr p D K C m T pn v pl lv pa k W) (s : Nat) (t : ByteArray) {G : Nat → ByteArray} {r : Nat} (hb : Txs W b r G) (hB : B ≤ b) (hf : ArF D K C m b) (ha : ArP (W.setCell ⟨b, s, none⟩ (.string t)) p D K C T') : CrI B w wr p D K C m T' pn v pl lv pa k (W.setCell ⟨b, s, none⟩ (.string t)) := by
  obtain ⟨cs, hc⟩ := hb.blk
  have kb := CellsBut.setCell (R := fun k => k = b) W (.string t) (i := s) rfl
  exact ⟨ha, ⟨Below.setCell h.w.low (p := ⟨b, s, none⟩) hB _, h.w.but.trans' (kb.mono (fun q e => by subst e; exact .inr hf)), h.w.oth.trans (KeepsOthers.setCell _ _ _)⟩, h.box.but kb (block_ne h.box hc (by decide)), h.bl.but kb (block_ne h.bl hc (by decide)), h.ba.but kb (block_ne h.ba hc (by decide)), h.oth.trans (KeepsOthers.setCell _ _ _)⟩
/-- the count goes on -/
theorem CrI.count {B : Nat} {w wr : World} {p D : Nat} {K C : Nat → Nat} {m : Nat} {T : Arr} {pn v pl : Nat} {lv : Value} {pa k : Nat} {W : World} (h : CrI B w wr p D K C m T pn v pl lv pa k W) (hB : B ≤ pn) (hw : w.heap.size ≤ pn) (hne : ∀ b, b = p ∨ ArF D K C T.m b → ¬ b = pn) (x : Nat) : CrI B w wr p D K C m T pn x pl lv pa k (W.setCell ⟨pn, 0, none⟩ (.int .i64 ((x : Nat) : Int))) := by
  have kb := CellsBut.setCell (R := fun k => k = pn) W (.int .i64 ((x : Nat) : Int)) (i := 0) rfl
  have hb' := h.box.set (i := 0) (.int .i64 ((x : Nat) : Int))
  exact ⟨h.a.butA kb hne, ⟨Below.setCell h.w.low (p := ⟨pn, 0, none⟩) hB _, ⟨Nat.le_trans h.w.but.size kb.size, fun b cs t fr hr hb => kb.block b cs t fr (fun e => by
    subst e
    have := (Array.getElem?_eq_some_iff.1 hb).1
    omega) (h.w.but.block b cs t fr hr hb)⟩, h.w.oth.trans (KeepsOthers.setCell _ _ _)⟩, hb', h.bl.but kb (block_ne h.bl h.box (by decide)), h.ba.but kb (block_ne h.ba h.box (by decide)), h.oth.trans (KeepsOthers.setCell _ _ _)⟩
theorem but_turned {R : Nat → Prop} {Ds : List Nat} {W W2 : World} (h : Turned Ds W W2) (hd : ∀ D, D ∈ Ds → W.heap[D]? = some (.deferred (some []))) : CellsBut R W W2 :=
  ⟨Nat.le_of_eq h.size.symm, fun i cs t fr _ hi => (h.block i (fun hm => by
    have := hd i hm
    rw [hi] at this
    cases this)).trans hi⟩
theorem ArW.turned {Ds : List Nat} {B : Nat} {w : World} {p D : Nat} {K C : Nat → Nat} {m : Nat} {W W2 : World} (k : ArW B w p D K C m W) (h : Turned Ds W W2) (hd : ∀ D, D ∈ Ds → w.heap.size ≤ D ∧ W.heap[D]? = some (.deferred (some []))) (hB : B ≤ w.heap.size) : ArW B w p D K C m W2 :=
  ⟨⟨h.os.trans k.low.os, h.tape.trans k.low.tape, h.output.trans k.low.output, by rw [h.size]; exact k.low.size, fun i hi => (h.block i (fun hm => by have := (hd i hm).1; omega)).trans (k.low.block i hi)⟩, k.but.trans' (but_turned h (fun D hD => (hd D hD).2)),
    ⟨by rw [h.size]; exact k.oth.size, fun i o hi ho => (h.block i (fun hm => by have := (hd i hm).1; have := (Array.getElem?_eq_some_iff.1 hi).1; omega)).trans (k.oth.same i o hi ho)⟩⟩
set_option maxRecDepth 100000 in
set_option maxHeartbeats 4000000 in
theorem crash_arr {B : Nat} {w : World} {p D : Nat} {K C : Nat → Nat} {S : Arr} (h : ArP w p D K C S) (hB : B ≤ p) (hBC : ∀ d, d < S.m → B ≤ K d ∧ B ≤ C d) (hBw : B ≤ w.heap.size) (al : Option Addr) (ll cl : Nat) (zs : List Int) (hl : ∀ W, ArW B w p D K C S.m W → IntsIn W .i64 al ll zs) :
    Calls Try.prog 16 #[.pointer (some ⟨p, 0, none⟩), .slice al ll cl] w fun e w' => e = .returned (.tuple #[]) ∧ ArP w' p D K C (crashA S zs) ∧ ArN B w p D K C S.m w' K C := by
  have HP := Lib.hid h
  have hm := h.m2
  have hn2 := h.n2
  have HB := Lib.hid (And.intro hB (And.intro hBC hBw))
  have HLS := Lib.hid hl
  clear h hB hBC hBw hl
  refine callsIn_wide.1 (callsIn_of_wp_marks (n := 8) Try.func16 rfl trivial ?_ rfl)
  simp only [Try.ntmps16, List.size_toArray, List.length_nil, List.length_cons, Nat.reduceAdd, Nat.reduceSub, Array.replicate_succ, Array.replicate_zero, List.push_toArray, List.append_toArray, List.nil_append, List.cons_append]
  refine wpIn_wide.2 ?_
  go_upto_region 1 with (fail)
  have hp1 := HP.out.kept ((Kept.refl w).alloc (.cells #[.slice al ll cl] 35))
  have HL1 := Lib.hid (BlockAt.new w #[.slice al ll cl] 35)
  have HK1 := Lib.hid ((Kept.refl w).alloc (.cells #[.slice al ll cl] 35))
  obtain ⟨pl, hpl⟩ : ∃ pl, pl = w.heap.size := ⟨_, rfl⟩
  have hpl2 : w.heap.size ≤ pl := by omega
  rw [← hpl] at HL1 ⊢
  clear hpl
  generalize w.alloc (.cells #[.slice al ll cl] 35) = w1 at *
  have HP1 := Lib.hid hp1
  obtain ⟨cap, off, bound, left, ht, _⟩ := hp1.top
  obtain ⟨c0, c1, c2, c3, c4, c5⟩ := box6m ht
  have f3 := ht.free 3
  have f4 := ht.free 4
  have f5 := ht.free 5
  have b1 := ((ht.set (i := 3) (.bool false)).set (i := 4) (.bool false)).set (i := 5) (.int .i64 0)
  have k1 := ((CellsBut.setCell (R := fun b => b = p) w1 (.bool false) (i := 3) (b := p) rfl).trans' (CellsBut.setCell (R := fun b => b = p) _ (.bool false) (i := 4) (b := p) rfl)).trans' (CellsBut.setCell (R := fun b => b = p) _ (.int .i64 0) (i := 5) (b := p) rfl)
  have o1 := ((KeepsOthers.setCell w1 ⟨p, 3, none⟩ (.bool false)).trans (KeepsOthers.setCell _ ⟨p, 4, none⟩ (.bool false))).trans (KeepsOthers.setCell _ ⟨p, 5, none⟩ (.int .i64 0))
  have l1 := Below.setCell (Below.setCell (Below.setCell (Below.mono HK1.out HB.out.2.2) (p := ⟨p, 3, none⟩) HB.out.1 (.bool false)) (p := ⟨p, 4, none⟩) HB.out.1 (.bool false)) (p := ⟨p, 5, none⟩) HB.out.1 (.int .i64 0)
  have HP2 := Lib.hid (hp1.setTop (T := crS S zs 0) rfl rfl rfl k1 ⟨cap, false, false, 0, b1, .inr (.inl ⟨rfl, rfl, rfl⟩), by decide⟩)
  have HW2 := Lib.hid (show ArW B w p D K C S.m _ from ⟨l1, (CellsBut.of_kept HK1.out).trans' (k1.mono (fun b e => .inl e)), (kept_oth HK1.out).trans o1⟩)
  have HL2 := Lib.hid (HL1.out.but k1 (block_ne HL1.out ht (by decide)))
  have hp1w : p < w1.heap.size := ht.lt
  go_upto_region 2 with (fail)
  have hz2 : (((w1.setCell ⟨p, 3, none⟩ (.bool false)).setCell ⟨p, 4, none⟩ (.bool false)).setCell ⟨p, 5, none⟩ (.int .i64 0)).heap.size = w1.heap.size := by simp
  have HZ2 := Lib.hid (show w.heap.size ≤ (((w1.setCell ⟨p, 3, none⟩ (.bool false)).setCell ⟨p, 4, none⟩ (.bool false)).setCell ⟨p, 5, none⟩ (.int .i64 0)).heap.size by rw [hz2]; exact Kept.size HK1.out)
  clear c0 c1 c2 c3 c4 c5 f3 f4 f5 b1 k1 o1 l1 ht hz2 hp1 hp1w
  generalize ((w1.setCell ⟨p, 3, none⟩ (.bool false)).setCell ⟨p, 4, none⟩ (.bool false)).setCell ⟨p, 5, none⟩ (.int .i64 0) = w2 at *
  go_upto_region 3 with (fail)
  have k3 := (Kept.refl w2).alloc (.cells #[.int .i64 0] 3)
  have HP3 := Lib.hid (HP2.out.kept k3)
  have HW3 := Lib.hid (show ArW B w p D K C S.m _ from ⟨Below.trans HW2.out.low (Below.mono k3 (Nat.le_trans HB.out.2.2 HZ2.out)), HW2.out.but.trans' (CellsBut.of_kept k3), HW2.out.oth.trans (kept_oth k3)⟩)
  have HL3 := Lib.hid (HL2.out.kept k3)
  have HN3 := Lib.hid (BlockAt.new w2 #[.int .i64 0] 3)
  obtain ⟨pn, hpn⟩ : ∃ pn, pn = w2.heap.size := ⟨_, rfl⟩
  have hpn2 : w.heap.size ≤ pn := by rw [hpn]; exact HZ2.out
  have HNE := Lib.hid (show ∀ b, b = p ∨ ArF D K C S.m b → ¬ b = pn from fun b hb e => by have := HP.out.foot_lt b hb; omega)
  rw [← hpn] at HN3 ⊢
  clear k3 hpn HP2 HW2 HL2 HZ2 HL1 HK1 HP1
  generalize w2.alloc (.cells #[.int .i64 0] 3) = w3 at *
  obtain ⟨cap, off, bound, left, ht, _⟩ := HP3.out.top
  obtain ⟨c0, c1, c2, c3, c4, c5⟩ := box6m ht
  clear ht
  change w3.cell? ⟨p, 0, none⟩ = some (.slice (some ⟨D, 0, none⟩) S.m cap) at c0
  go_wp2_with fail
  refine wp_loop (fun a' W => ∃ Ds : List Nat, ∃ k : Nat, ∃ u5 u6 u7 u8 u23 u24 u25 u26 u27 u28 u29 u30 u31 u32 u33 u34 u35 u36 u37 u38 u39 u40 u41 u42 u43 u44 u45 u46 u47 u48 u49 u50 u51 u52 u53 u54 u55 u56 u57 u58 u59 u60 u61 u62 u63 u64 u65 : Value,
        (((Ds.Nodup ∧ ∀ D9, D9 ∈ Ds → w.heap.size ≤ D9 ∧ W.heap[D9]? = some (.deferred (some []))) ∧ (k ≤ S.m ∧ u23 = .int .i64 ((k : Nat) : Int) ∧ ArP W p D K C (crS S zs k) ∧ ArW B w p D K C S.m W ∧ BlockAt W pn #[.int .i64 (((crashD zs S.n S.ds k).2 : Nat) : Int)] 3 ∧ BlockAt W pl #[.slice al ll cl] 35)) ∧
        a' = { tmps := #[.pointer (some ⟨p, 0, none⟩), .slice al ll cl, undef, .pointer (some ⟨pl, 0, none⟩), .pointer (some ⟨pn, 0, none⟩), u5, u6, u7, u8, .pointer (some ⟨p, 0, none⟩), .pointer (some ⟨p, 0, none⟩), .pointer (some ⟨p, 0, none⟩), .pointer (some ⟨p, 0, none⟩), .pointer (some ⟨p, 3, none⟩), .pointer (some ⟨p, 0, none⟩), .pointer (some ⟨p, 4, none⟩), .pointer (some ⟨p, 0, none⟩), .pointer (some ⟨p, 5, none⟩), .pointer (some ⟨p, 0, none⟩), .pointer (some ⟨p, 0, none⟩), .pointer (some ⟨p, 0, none⟩), .slice (some ⟨D, 0, none⟩) S.m cap, .int .i64 S.m, u23, u24, u25, u26, u27, u28, u29, u30, u31, u32, u33, u34, u35, u36, u37, u38, u39, u40, u41, u42, u43, u44, u45, u46, u47, u48, u49, u50, u51, u52, u53, u54, u55, u56, u57, u58, u59, u60, u61, u62, u63, u64, u65], defers := Ds.map mark }))
      (fun a' _ => S.m - (intOf (a'.tmps.getD 23 undef)).toNat) ?atStart ?round
  case atStart =>
    refine ⟨[], 0, ?_⟩
    (repeat apply Exists.intro)
    refine ⟨?_, rfl⟩
    exact ⟨⟨by simp, fun D9 hD => by cases hD⟩, by omega, rfl, HP3.out, HW3.out, HN3.out, HL3.out⟩
  case round =>
    rintro _ wr ⟨Ds, k, u5, u6, u7, u8, u23, u24, u25, u26, u27, u28, u29, u30, u31, u32, u33, u34, u35, u36, u37, u38, u39, u40, u41, u42, u43, u44, u45, u46, u47, u48, u49, u50, u51, u52, u53, u54, u55, u56, u57, u58, u59, u60, u61, u62, u63, u64, u65, ⟨⟨hnd, hds⟩, hrel⟩, rfl⟩
    have HND := Lib.hid hnd
    have HDS := Lib.hid hds
    clear hnd hds
    obtain ⟨hk, rfl, h1, h2, h3, h4⟩ := hrel
    have HA1 := Lib.hid h1
    have HW1 := Lib.hid h2
    have HB1 := Lib.hid h3
    have HL1 := Lib.hid h4
    clear h1 h2 h3 h4 c0 c1 c2 c3 c4 c5 HP3 HW3 HN3 HL3
    by_cases hlt : k < S.m
    · have hd1 : decide ((k : Int) < S.m) = true := decide_eq_true (by omega)
      obtain ⟨cap2, off, bound, left, hb, _⟩ := HA1.out.top
      obtain ⟨c0, c1, c2, c3, c4, c5⟩ := box6m hb
      change wr.cell? ⟨p, 0, none⟩ = some (.slice (some ⟨D, 0, none⟩) S.m cap2) at c0
      clear hb
      obtain ⟨N, ad, c, T, V, hcr⟩ := crD_ex p D K C S zs k hlt hn2
      have HCR := Lib.hid hcr
      have hN := hcr.le
      clear hcr
      go_upto_region 7 with (fail)
      have k4 := (Kept.refl wr).alloc (.cells #[.pointer (some ⟨D, k * 3, none⟩)] 70)
      have HI := Lib.hid (show CrI B w wr p D K C S.m (T 0) pn (V 0) pl (.slice al ll cl) wr.heap.size k (wr.alloc (.cells #[.pointer (some ⟨D, k * 3, none⟩)] 70)) from by
        rw [HCR.out.t0, HCR.out.v0]
        exact ⟨HA1.out.kept k4, ⟨Below.trans HW1.out.low (Below.mono k4 (Nat.le_trans HB.out.2.2 HW1.out.oth.size)), HW1.out.but.trans' (CellsBut.of_kept k4), HW1.out.oth.trans (kept_oth k4)⟩, HB1.out.kept k4, HL1.out.kept k4, BlockAt.new wr _ _, kept_oth k4⟩)
      have HSZ := Lib.hid (And.intro (Nat.le_trans HW1.out.oth.size (Kept.size k4)) (Kept.size k4))
      obtain ⟨pa, hpa⟩ : ∃ pa, pa = wr.heap.size := ⟨_, rfl⟩
      rw [← hpa] at HI ⊢
      clear hpa k4 c0 c1 c2 c3 c4 c5
      generalize wr.alloc (.cells #[.pointer (some ⟨D, k * 3, none⟩)] 70) = w4 at *
      have a0 := box1 HI.out.ba
      go_wp2_with fail
      refine wp_of_in 8 ?_
      refine wpIn_range_N rfl (by omega) (gf := 46) (la := #[.pointer (some ⟨D, k * 3, none⟩)]) (lb := #[]) rfl trivial (enters_of Try.func46 (by kernel_rfl) rfl)
        (cached_stops 7 (by omega) D (k * 3) ad N c hN) (fun i v h => by unfold cacheX at h; split at h <;> cases h; rfl) (fun i => CrI B w wr p D K C S.m (T i) pn (V i) pl (.slice al ll cl) pa k) (fun i => CrI.own (Nat.le_trans HB.out.2.2 HSZ.out.1) HB.out.2.2 HSZ.out.1 HSZ.out.2) (fun i W h => HCR.out.reads i W h.a)
        (fun i W hi hc h => by
          have hz : (c i).size = 0 := by
            unfold cacheX at hc
            split at hc
            · assumption
            · cases hc
          obtain ⟨e1, e2⟩ := HCR.out.skip i hi hz
          rw [e1, e2]; exact h) HI.out ?round ?done
      case round =>
        rintro l i v W K2 hi hv hK
        have hc : (c i).size ≠ 0 := fun e => by
          rw [show cacheX c i = none from if_pos e] at hv
          cases hv
        rw [show cacheX c i = some #[.int .i64 ((i : Nat) : Int), .string (c i)] from if_neg hc] at hv
        cases hv
        obtain ⟨y, hy, hT, hV⟩ := HCR.out.step i hi hc
        have hmm := HCR.out.tm i
        have hvb := HCR.out.bound i (by omega)
        have hnn := HCR.out.nn
        have HKK := Lib.hid hK
        clear hK a0 HI
        gi_wp2
        refine HKK.out _ ?_
        clear HKK
        intro WR hF
        have hbd2 := Nat.mul_le_mul (show k + 1 ≤ 12 by omega) hn2
        obtain ⟨j, hj⟩ : ∃ j, j = V i := ⟨_, rfl⟩
        have hjb : j ≤ 100000 := by omega
        rw [← hj] at hF hT hV
        have HF := Lib.hid hF
        have HT := Lib.hid hT
        have HV := Lib.hid hV
        have hkT : k < (T i).m := by rw [hmm.1]; exact hlt
        have hiT : i < (T i).n := by rw [hmm.2]; omega
        have HLI := Lib.hid (HLS.out WR hF.w)
        have b0 := box1 hF.bl
        have b1 := box1 hF.box
        have b2 := box1 hF.ba
        have f1 := hF.box.free 0
        have HLE := Lib.hid HLI.out.len_eq
        have hll := HLI.out.le
        clear hF hT hV hvb hbd2 hj
        have HTM := Lib.hid hmm
        by_cases hl0 : 0 < ll
        · by_cases hz : zs.getD (j % ll) 0 % 2 = 1
          · have HPB := Lib.hid (show zs.getD (j % ll) 0 % 2 = 1 ↔ True from ⟨fun _ => trivial, fun _ => hz⟩)
            have hpk : pickA zs j = true := by unfold pickA; rw [HLE.out, decide_eq_true hl0, decide_eq_true hz]; rfl
            have HT2 := Lib.hid (show T (i + 1) = putD (T i) k ⟨upF y.k i (c i), upF y.c i ByteArray.empty⟩ by rw [HT.out, hpk]; rfl)
            clear hz hpk HT
            have hd2 : decide (0 < ll) = true := decide_eq_true hl0
            have hd3 : decide ((0 : Int) < (ll : Int)) = true := decide_eq_true (by omega)
            obtain ⟨zb, zo, hza, hzc⟩ := HLI.out.cells
            obtain rfl := hza hl0
            have hrm : (j : Int).tmod (ll : Int) = ((j % ll : Nat) : Int) := by simp [Int.tmod_eq_emod_of_nonneg]
            have hq := Nat.mod_lt j hl0
            have hz1 := (hzc (j % ll) hq).2
            have hz2 : zs.getD (j % ll) 0 % 2 = 1 ↔ True := HPB.out
            have ha1 := i64_and1 (zs.getD (j % ll) 0)
            have hz3 : (zs.getD (j % ll) 0 % 2 == 1) = true := by rw [hz2.2 trivial]; rfl
            generalize zs.getD (j % ll) 0 = z at *
            generalize j % ll = q at *
            clear hza hzc hz2
            gi_wp2_with fail
            refine wpIn_region_quiet_tail_lit 13 (by kernel_rfl) (by kernel_rfl) (by kernel_rfl) ?_
            simp only [List.take_succ_cons, List.take_zero, List.drop_succ_cons, List.drop_zero]
            repeat (gi_big_quiet_step (fail))
            refine wpQuietIn_nil ?_
            intro _ hw'
            obtain ⟨nq, hw''⟩ := hw'
            subst hw''
            have kq : Kept WR (WR.drewN nq) := (Kept.refl WR).drewN nq
            have HQ := Lib.hid (CrI.own (Nat.le_trans HB.out.2.2 HSZ.out.1) HB.out.2.2 HSZ.out.1 HSZ.out.2 WR (WR.drewN nq) none HF.out (gr_kept kq none) (fun r e => by cases e))
            have HKO := Lib.hid (kept_oth kq)
            clear kq b0 b1 b2 f1 hz1 hrm ha1 hz3 hd2 hd3 hq
            clear HF HLI HPB
            generalize WR.drewN nq = WQ at *
            have tk := HQ.out.a.r.ks k hkT y hy
            have tc := HQ.out.a.r.cs k hkT y hy
            have r0 := box1 HQ.out.ba
            have r1 := HQ.out.a.r.kcell hkT hy
            rw [hmm.2] at r1
            have k0 := tk.cell i hiT
            have k1 := tk.free i
            have H1 := Lib.hid (HQ.out.store i (c i) tk (HB.out.2.1 k hlt).1 (.inr ⟨k, hlt, .inl rfl⟩) (HQ.out.a.setK hkT hy i (c i)))
            have hy1 : (putD (T i) k ⟨upF y.k i (c i), y.c⟩).ds k = some ⟨upF y.k i (c i), y.c⟩ := upF_same _ _ _
            have tc1 := H1.out.a.r.cs k hkT _ hy1
            have s0 := box1 H1.out.ba
            have s1 := H1.out.a.r.ccell (d := k) hkT hy1
            change _ = some (Value.slice (some ⟨C k, 0, none⟩) (T i).n (T i).n) at s1
            rw [hmm.2] at s1
            have s2 := tc1.cell i hiT
            have s3 := tc1.free i
            have ha2 := H1.out.a.setC (d := k) hkT hy1 i ByteArray.empty
            rw [putD_putD] at ha2
            dsimp only at ha2
            rw [← HT2.out] at ha2
            have H2 := Lib.hid (H1.out.store i ByteArray.empty tc1 (HB.out.2.1 k hlt).2 (.inr ⟨k, hlt, .inr rfl⟩) ha2)
            have e0 : ((WQ.setCell ⟨K k, i, none⟩ (.string (c i))).setCell ⟨C k, i, none⟩ (.string ⟨#[]⟩)).cell? ⟨pn, 0, none⟩ = some (.int .i64 ((j : Nat) : Int)) := box1 H2.out.box
            have e1 : ((WQ.setCell ⟨K k, i, none⟩ (.string (c i))).setCell ⟨C k, i, none⟩ (.string ⟨#[]⟩)).frozen? ⟨pn, 0, none⟩ = false := H2.out.box.free 0
            have H3 := Lib.hid (H2.out.count (Nat.le_trans HB.out.2.2 hpn2) hpn2 (fun b hb => HNE.out b (by rwa [(HCR.out.tm (i + 1)).1] at hb)) (j + 1))
            clear ha2 tk tc tc1
            gi_wp2
            rw [HV.out]
            exact ⟨((HKO.out.trans (KeepsOthers.setCell _ _ _)).trans (KeepsOthers.setCell _ _ _)).trans (KeepsOthers.setCell _ _ _), H3.out⟩
          · have HPB := Lib.hid (show zs.getD (j % ll) 0 % 2 = 1 ↔ False from ⟨fun h => hz h, fun h => h.elim⟩)
            have hpk : pickA zs j = false := by unfold pickA; rw [HLE.out, decide_eq_false hz, Bool.and_false]
            have HT2 := Lib.hid (show T (i + 1) = putD (T i) k ⟨y.k, upF y.c i ByteArray.empty⟩ by rw [HT.out, hpk]; rfl)
            clear hz hpk HT
            have hd2 : decide (0 < ll) = true := decide_eq_true hl0
            have hd3 : decide ((0 : Int) < (ll : Int)) = true := decide_eq_true (by omega)
            obtain ⟨zb, zo, hza, hzc⟩ := HLI.out.cells
            obtain rfl := hza hl0
            have hrm : (j : Int).tmod (ll : Int) = ((j % ll : Nat) : Int) := by simp [Int.tmod_eq_emod_of_nonneg]
            have hq := Nat.mod_lt j hl0
            have hz1 := (hzc (j % ll) hq).2
            have hz2 : zs.getD (j % ll) 0 % 2 = 1 ↔ False := HPB.out
            have ha1 := i64_and1 (zs.getD (j % ll) 0)
            have hz3 : (zs.getD (j % ll) 0 % 2 == 1) = false := by rw [beq_eq_false_iff_ne]; exact fun e => hz2.1 e
            generalize zs.getD (j % ll) 0 = z at *
            generalize j % ll = q at *
            clear hza hzc hz2
            gi_wp2_with fail
            refine wpIn_region_quiet_tail_lit 13 (by kernel_rfl) (by kernel_rfl) (by kernel_rfl) ?_
            simp only [List.take_succ_cons, List.take_zero, List.drop_succ_cons, List.drop_zero]
            repeat (gi_big_quiet_step (fail))
            refine wpQuietIn_nil ?_
            intro _ hw'
            obtain ⟨nq, hw''⟩ := hw'
            subst hw''
            have kq : Kept WR (WR.drewN nq) := (Kept.refl WR).drewN nq
            have HQ := Lib.hid (CrI.own (Nat.le_trans HB.out.2.2 HSZ.out.1) HB.out.2.2 HSZ.out.1 HSZ.out.2 WR (WR.drewN nq) none HF.out (gr_kept kq none) (fun r e => by cases e))
            have HKO := Lib.hid (kept_oth kq)
            clear kq b0 b1 b2 f1 hz1 hrm ha1 hz3 hd2 hd3 hq
            clear HF HLI HPB
            generalize WR.drewN nq = WQ at *
            have tk := HQ.out.a.r.ks k hkT y hy
            have tc := HQ.out.a.r.cs k hkT y hy
            have r0 := box1 HQ.out.ba
            have s0 := box1 HQ.out.ba
            have s1 := HQ.out.a.r.ccell (d := k) hkT hy
            rw [hmm.2] at s1
            have s2 := tc.cell i hiT
            have s3 := tc.free i
            have ha2 := HQ.out.a.setC (d := k) hkT hy i ByteArray.empty
            rw [← HT2.out] at ha2
            have H2 := Lib.hid (HQ.out.store i ByteArray.empty tc (HB.out.2.1 k hlt).2 (.inr ⟨k, hlt, .inr rfl⟩) ha2)
            have e0 : (WQ.setCell ⟨C k, i, none⟩ (.string ⟨#[]⟩)).cell? ⟨pn, 0, none⟩ = some (.int .i64 ((j : Nat) : Int)) := box1 H2.out.box
            have e1 : (WQ.setCell ⟨C k, i, none⟩ (.string ⟨#[]⟩)).frozen? ⟨pn, 0, none⟩ = false := H2.out.box.free 0
            have H3 := Lib.hid (H2.out.count (Nat.le_trans HB.out.2.2 hpn2) hpn2 (fun b hb => HNE.out b (by rwa [(HCR.out.tm (i + 1)).1] at hb)) (j + 1))
            clear ha2 tk tc
            gi_wp2
            rw [HV.out]
            exact ⟨(HKO.out.trans (KeepsOthers.setCell _ _ _)).trans (KeepsOthers.setCell _ _ _), H3.out⟩
        · have hpk : pickA zs j = false := by unfold pickA; rw [HLE.out, decide_eq_false hl0, Bool.false_and]
          have HT2 := Lib.hid (show T (i + 1) = putD (T i) k ⟨y.k, upF y.c i ByteArray.empty⟩ by rw [HT.out, hpk]; rfl)
          clear hpk HT
          obtain rfl : ll = 0 := by omega
          have hd2 : decide (0 < 0) = false := rfl
          have hd3 : decide ((0 : Int) < ((0 : Nat) : Int)) = false := rfl
          gi_wp2_with fail
          refine wpIn_region_quiet_tail_lit 13 (by kernel_rfl) (by kernel_rfl) (by kernel_rfl) ?_
          simp only [List.take_succ_cons, List.take_zero, List.drop_succ_cons, List.drop_zero]
          repeat (gi_big_quiet_step (fail))
          refine wpQuietIn_nil ?_
          intro _ hw'
          obtain ⟨nq, hw''⟩ := hw'
          subst hw''
          have kq : Kept WR (WR.drewN nq) := (Kept.refl WR).drewN nq
          have HQ := Lib.hid (CrI.own (Nat.le_trans HB.out.2.2 HSZ.out.1) HB.out.2.2 HSZ.out.1 HSZ.out.2 WR (WR.drewN nq) none HF.out (gr_kept kq none) (fun r e => by cases e))
          have HKO := Lib.hid (kept_oth kq)
          clear kq b0 b1 b2 f1 hd2 hd3
          clear HF HLI
          generalize WR.drewN nq = WQ at *
          have tk := HQ.out.a.r.ks k hkT y hy
          have tc := HQ.out.a.r.cs k hkT y hy
          have r0 := box1 HQ.out.ba
          have s0 := box1 HQ.out.ba
          have s1 := HQ.out.a.r.ccell (d := k) hkT hy
          rw [hmm.2] at s1
          have s2 := tc.cell i hiT
          have s3 := tc.free i
          have ha2 := HQ.out.a.setC (d := k) hkT hy i ByteArray.empty
          rw [← HT2.out] at ha2
          have H2 := Lib.hid (HQ.out.store i ByteArray.empty tc (HB.out.2.1 k hlt).2 (.inr ⟨k, hlt, .inr rfl⟩) ha2)
          have e0 : (WQ.setCell ⟨C k, i, none⟩ (.string ⟨#[]⟩)).cell? ⟨pn, 0, none⟩ = some (.int .i64 ((j : Nat) : Int)) := box1 H2.out.box
          have e1 : (WQ.setCell ⟨C k, i, none⟩ (.string ⟨#[]⟩)).frozen? ⟨pn, 0, none⟩ = false := H2.out.box.free 0
          have H3 := Lib.hid (H2.out.count (Nat.le_trans HB.out.2.2 hpn2) hpn2 (fun b hb => HNE.out b (by rwa [(HCR.out.tm (i + 1)).1] at hb)) (j + 1))
          clear ha2 tk tc
          gi_wp2
          rw [HV.out]
          exact ⟨(HKO.out.trans (KeepsOthers.setCell _ _ _)).trans (KeepsOthers.setCell _ _ _), H3.out⟩
      case done =>
        rintro D9 W hD hS hdef
        rw [HCR.out.tn, HCR.out.vn] at hS
        have HS := Lib.hid hS
        have HD9 := Lib.hid hdef
        clear hS hdef
        dsimp only
        go_wp2
        refine ⟨⟨D9 :: Ds, k + 1, ?_⟩, ?measure2⟩
        (repeat apply Exists.intro)
        refine ⟨?rel2, rfl⟩
        case rel2 =>
          have hlt9 : ∀ E, E ∈ Ds → E < wr.heap.size := fun E hE => (Array.getElem?_eq_some_iff.1 (HDS.out E hE).2).1
          have hw4 := HSZ.out.2
          refine ⟨⟨List.nodup_cons.2 ⟨fun h => by have := hlt9 D9 h; omega, HND.out⟩, fun E hE => ?_⟩, by omega, by go_num, HS.out.a, HS.out.w, HS.out.box, HS.out.bl⟩
          rcases List.mem_cons.1 hE with e | h
          · subst e
            exact ⟨Nat.le_trans HSZ.out.1 hD, HD9.out⟩
          · exact ⟨(HDS.out E h).1, HS.out.oth.same _ _ (HDS.out E h).2 rfl⟩
        case measure2 => simp [intOf]; omega
    · obtain rfl : k = S.m := by omega
      have hd1 : decide ((S.m : Int) < S.m) = false := decide_eq_false (by omega)
      go_wp2
      refine leaves_marks Ds wr HND.out (fun D9 hD => (HDS.out D9 hD).2) (fun W2 hT => ?_)
      exact ⟨_, results_none rfl _ _ _, rfl, HA1.out.butA (R := fun _ => False) (but_turned hT (fun D9 hD => (HDS.out D9 hD).2)) (fun _ _ h => h), (HW1.out.turned hT HDS.out HB.out.2.2).toN⟩
end Go.Proofs.Ytkfomaoillnehaa
