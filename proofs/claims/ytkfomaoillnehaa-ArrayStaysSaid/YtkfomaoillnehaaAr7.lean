
/- Package array: Lose (conditions: the array lies as it should). -/
import Derived.Test.YtkfomaoillnehaaAr6
import Derived.Deep.MidRow
namespace Go.Proofs.Ytkfomaoillnehaa
open Go.RowKit
attribute [local go_sem] Oper.semAt_some

theorem wpList_store_mid {P : Program} {ops : Array Oper} {rest : List Oper} {op : Oper} {a : Act} {w : World} {Q : Exit → Act → World → Prop} (hgd : op.guard = none) (ty : TypeId) (x y : Operand) (ho : op.op = .store ty x y)
    (g o : Nat) (cells : Array Value) (hx : a.eval x = .pointer (some ⟨g, o, none⟩)) (hy : a.eval y = .agg cells) (ht : w.there g o cells.size) (hi : (P.info? ty).map (·.size) = some cells.size) (h1 : cells.all (·.oneCell') = true)
    (h : wpList P ops Q rest (a.put op.dst undef) (w.setCells g o cells.toList)) : wpList P ops Q (op :: rest) a w :=
  wpList_plain hgd fun _ hK => by
    unfold Oper.wp execOp
    simp only [ho, hx, hy, Instr.storeAt, Instr.sureAddr, Sem.run_bind, Sem.run_pure, Result.andThen_ok, run_storeVar_mid w g o ty cells ht hi h1]
    exact hK _ _ h
theorem Try.infoDisk : (Try.prog.info? 61).map (·.size) = some 3 := by kernel_rfl
/-- a disk's three cells may be stored to -/
theorem ArR.there {w : World} {D : Nat} {K C : Nat → Nat} {S : Arr} {d : Nat} (h : ArR w D K C S) (hd : d < S.m) : w.there D (d * 3) 3 := fun j hj => by
  obtain ⟨cs, hb⟩ := h.row
  have hc : ∃ v, (diskC (S.ds d) (K d) (C d) S.n)[j]? = some v := ⟨_, List.getElem?_eq_getElem (by rw [diskC_len]; exact hj)⟩
  obtain ⟨v, hv⟩ := hc
  exact ⟨by rw [h.cell d hd j v hv]; rfl, hb.free _⟩
theorem upF_self {α : Type} (f : Nat → α) (i : Nat) : upF f i (f i) = f := by
  funext j
  by_cases h : j = i
  · subst h; exact upF_same _ _ _
  · exact upF_other _ _ h
/-- a disk is laid anew in the array -/
theorem ArP.put {w : World} {p D : Nat} {K C : Nat → Nat} {S : Arr} {d : Nat} (h : ArP w p D K C S) (hd : d < S.m) (x : Option Dsk) (kb cb : Nat) (hn : ∀ y, x = some y → Txs w kb S.n y.k ∧ Txs w cb S.n y.c)
    (hlt : kb < w.heap.size ∧ cb < w.heap.size) (hk : kb ≠ cb) (ho : ∀ e, e < S.m → e ≠ d → K e ≠ kb ∧ C e ≠ kb ∧ K e ≠ cb ∧ C e ≠ cb) (hp : p ≠ kb ∧ p ≠ cb) :
    ArP (w.setCells D (d * 3) (diskC x kb cb S.n)) p D (upF K d kb) (upF C d cb) { S with ds := upF S.ds d x } := by
  obtain ⟨cap, off, bound, left, ht, hq⟩ := h.top
  have k := CellsBut.of_grown (R := fun b => b = D) (gr_setCells D (diskC x kb cb S.n) (d * 3) w) rfl
  refine ⟨⟨cap, off, bound, left, ht.but k (fun e => h.far D (.inl rfl) e.symm), hq⟩, h.r.put hd x kb cb hn hlt hk ho, fun e he => ?_, h.m1, h.m2, h.n1, h.n2⟩
  by_cases q : e = d
  · subst q; rw [upF_same, upF_same]; exact hp
  · rw [upF_other _ _ q, upF_other _ _ q]; exact h.ap e he
theorem oth_setCells (D : Nat) : ∀ (vs : List Value) (o : Nat) (w : World), KeepsOthers w (w.setCells D o vs)
  | [], _, w => KeepsOthers.refl w
  | v :: r, o, w => (KeepsOthers.setCell w ⟨D, o, none⟩ v).trans (oth_setCells D r (o + 1) _)
theorem Below.setCells {B : Nat} {w : World} (D : Nat) (hD : B ≤ D) : ∀ (vs : List Value) (o : Nat) (w' : World), Below B w w' → Below B w (w'.setCells D o vs)
  | [], _, _, h => h
  | v :: r, o, _, h => Below.setCells D hD r (o + 1) _ (Below.setCell h (p := ⟨D, o, none⟩) hD v)
set_option maxRecDepth 100000 in
set_option maxHeartbeats 4000000 in
theorem lose_arr {B : Nat} {w : World} {p D : Nat} {K C : Nat → Nat} {S : Arr} (h : ArP w p D K C S) (hB : B ≤ D) (hBw : B ≤ w.heap.size) (d : Int) :
    Calls Try.prog 35 #[.pointer (some ⟨p, 0, none⟩), .int .i64 d] w fun e w' => e = .returned (.int .i64 (loseA S d).2) ∧ ArP w' p D K C (loseA S d).1 ∧ ArN B w p D K C S.m w' K C := by
  have HTH := Lib.hid (there_any h d)
  have HP := Lib.hid h
  have HB := Lib.hid (And.intro hB hBw)
  clear hB hBw
  cases hT : isThere S d with
  | false =>
    rw [hT] at HTH
    have hR : loseA S d = (S, 3) := if_pos hT
    rw [hR]
    clear h hT hR
    go_enter Try.func35, Try.ntmps35
    go_wp2_with fail
    refine HTH.out.mono ?_
    rintro e w2 ⟨rfl, hk⟩
    have HK := Lib.hid hk
    clear hk HTH
    go_wp2
    go_ret
    exact ⟨rfl, HP.out.kept HK.out, ArN.of_kept HK.out HB.out.2⟩
  | true =>
    rw [hT] at HTH
    have hR : loseA S d = ({ S with ds := upF S.ds d.toNat none }, 0) := if_neg (by rw [hT]; simp)
    rw [hR]
    obtain ⟨n, rfl, hn⟩ := there_nat hT
    rw [Int.toNat_natCast]
    have hm := h.m2
    clear h hT hR
    go_enter Try.func35, Try.ntmps35
    go_wp2_with fail
    refine HTH.out.mono ?_
    rintro e w2 ⟨rfl, hk⟩
    have HK := Lib.hid hk
    have hp := HP.out.kept hk
    have hth := hp.r.there hn
    have hq := hp.put hn none (K n) (C n) (fun y e => by cases e) (hp.r.lt n hn) (hp.r.kc n n hn hn) (fun e he q => ⟨hp.r.kk e n he hn q, fun e2 => hp.r.kc n e hn he e2.symm, hp.r.kc e n he hn, hp.r.cc e n he hn q⟩) (hp.ap n hn)
    rw [upF_self, upF_self] at hq
    have HQ := Lib.hid hq
    have HN := Lib.hid ((ArN.of_kept (p := p) (D := D) (K := K) (C := C) (m := S.m) hk HB.out.2).trans ⟨Below.setCells D HB.out.1 (diskC none (K n) (C n) S.n) (n * 3) w2 (Below.refl _ _), CellsBut.of_grown (gr_setCells D (diskC none (K n) (C n) S.n) (n * 3) w2) (.inr (.inl rfl)), fun _ _ => ⟨.inl rfl, .inl rfl⟩, oth_setCells D _ _ _⟩)
    obtain ⟨cap, off, bound, left, hb, _⟩ := hp.top
    obtain ⟨c0, c1, c2, c3, c4, c5⟩ := box6m hb
    clear hb hk hp hq HTH
    go_wp2_with (refine wpList_store_mid rfl 61 (.tmp 15) (.tmp 14) rfl D (n * 3) #[.bool false, .slice none 0 0, .slice none 0 0] (by simp [Act.eval]) (by simp [Act.eval]) hth Try.infoDisk (by simp [Value.oneCell']) ?_)
    go_ret
    exact ⟨rfl, HQ.out, HN.out⟩
end Go.Proofs.Ytkfomaoillnehaa
