/- Contracts laid together: what each says stands at its head (no conditions). -/
import Derived.Test.YtkfomaoillnehaaAr26
import Derived.Test.YtkfomaoillnehaaStd
namespace Go.Proofs.Ytkfomaoillnehaa
open Go.RowKit
attribute [local go_sem] Oper.semAt_some

/-- the row of its sectors, when all are laid -/
theorem BlI.full {w W : World} {p A D E d n cb base : Nat} {bx : Array Value} {v : Value} (h : BlI w p A D E d n cb base n bx v W) (hn : 1 ≤ n) : ∃ kb cap, v = .slice (some ⟨kb, 0, none⟩) n cap ∧ n ≤ cap ∧ base ≤ kb ∧ Txs W kb n (fun _ => zeroT) := by
  obtain ⟨hl, ⟨_, e⟩ | ⟨g, cap, cur, rfl, hb, hg, hle, hcap, hsz, htk⟩⟩ := h.own
  · omega
  refine ⟨g, cap, rfl, hle, hb, ⟨cur, hg⟩, fun i hi => ?_⟩
  have h1 : (cur.toList.take (n * 1))[i]? = some (.string zeroT) := by rw [htk]; simp [hi]
  rw [List.getElem?_take, if_pos (by omega), Array.getElem?_toList] at h1
  rw [(show BlockAt W g cur 9 from hg).cell, h1]
theorem RfR.lt {w : World} {A D E : Nat} {K C : Nat → Nat} {S : Arr} (h : RfR w A D E K C S) (e : Nat) (he : e < S.m) : K e < w.heap.size ∧ C e < w.heap.size := by
  obtain ⟨G1, h1, _⟩ := h.ks e he
  obtain ⟨G2, h2, _⟩ := h.cs e he
  exact ⟨h1.lt, h2.lt⟩
theorem RfP.renew {B : Nat} {w W : World} {p A D E : Nat} {K C : Nat → Nat} {S : Arr} {d cb base : Nat} {v : Value} {a1 a2 a3 : Nat} (h : RfP w p A D E K C S) (hd : d < S.m) (hB : B ≤ A ∧ B ≤ D ∧ B ≤ E) (hBw : B ≤ w.heap.size)
    (hi : BlI w p A D E d S.n cb base S.n #[.int .i64 S.m, .int .i64 S.n, .slice (some ⟨A, 0, none⟩) S.m a1, .slice (some ⟨D, 0, none⟩) S.m a2, .slice (some ⟨E, 0, none⟩) S.m a3, .int .i64 S.l, .int .i64 S.g] v W) :
    ∃ K' C', RfP W p A D E K' C' (putD S d freshD) ∧ RfN B w p A D E K C S.m W K' C' := by
  obtain ⟨kb, cap, rfl, hcap, hkb, htk⟩ := hi.full h.n1
  have hlo := hi.lo
  refine ⟨upF K d kb, upF C d cb, ⟨⟨a1, a2, a3, hi.r.box⟩, h.r.renew hd hi.but hi.r.a hi.r.dd hi.r.e hi.oA hi.oD hi.oE hi.va ⟨cap, hi.vd, hcap⟩ ⟨S.n, hi.ve, Nat.le_refl _⟩ htk hi.tc (by omega) (fun e he q => ?_), h.m1, h.m2, h.n1, h.n2⟩, hi.low B hB.1 hB.2.1 hB.2.2 hBw, hi.but.mono (fun b hb => ?_), fun e he => ?_⟩
  · have := h.r.lt e he
    omega
  · rcases hb with q | q | q
    · exact .inr (.inl q)
    · exact .inr (.inr (.inl q))
    · exact .inr (.inr (.inr (.inl q)))
  · by_cases q : e = d
    · subst q
      rw [upF_same, upF_same]
      exact ⟨.inr (by omega), .inr (by omega)⟩
    · rw [upF_other _ _ q, upF_other _ _ q]
      exact ⟨.inl rfl, .inl rfl⟩
set_option maxRecDepth 100000 in
set_option maxHeartbeats 4000000 in
theorem repl_ar {B : Nat} {w : World} {p A D E : Nat} {K C : Nat → Nat} {S : Arr} (h : RfP w p A D E K C S) (hB : B ≤ A ∧ B ≤ D ∧ B ≤ E) (hBw : B ≤ w.heap.size) (d : Int) :
    Calls Try.prog 38 #[.pointer (some ⟨p, 0, none⟩), .int .i64 d] w fun e w' => e = .returned (.int .i64 (replA S d).2) ∧ ∃ K' C', RfP w' p A D E K' C' (replA S d).1 ∧ RfN B w p A D E K C S.m w' K' C' := by
  have HNM := Lib.hid (num_ar d ((S.m : Int) - 1) w)
  rw [there_num] at HNM
  have HP := Lib.hid h
  have HB := Lib.hid (And.intro hB hBw)
  have hm := h.m2
  have hm1 := h.m1
  obtain ⟨a1, a2, a3, ht⟩ := h.top
  obtain ⟨c0, c1, c2, c3, c4, c5, c6⟩ := box7r ht
  clear h ht hB hBw
  cases hT : isThere S d with
  | false =>
    rw [hT] at HNM
    have hR : replA S d = (S, 3) := if_pos hT
    rw [hR]
    clear hT hR
    go_enter Try.func38, Try.ntmps38
    go_wp2_with fail
    refine HNM.out.mono ?_
    rintro e w2 ⟨rfl, hk⟩
    have HK := Lib.hid hk
    clear hk HNM c0 c1 c2 c3 c4 c5 c6
    go_wp2
    go_ret
    exact ⟨rfl, K, C, HP.out.kept HK.out, RfN.of_kept HK.out HB.out.2⟩
  | true =>
    rw [hT] at HNM
    have hR : replA S d = (putD S d.toNat freshD, 0) := if_neg (by rw [hT]; simp)
    rw [hR]
    obtain ⟨n, rfl, hn⟩ := there_nat hT
    rw [Int.toNat_natCast]
    clear hT hR
    go_enter Try.func38, Try.ntmps38
    go_wp2_with fail
    refine HNM.out.mono ?_
    rintro e w2 ⟨rfl, hk⟩
    have HK := Lib.hid hk
    clear c0 c1 c2 c3 c4 c5 c6
    have hp := HP.out.kept hk
    have HP2 := Lib.hid hp
    obtain ⟨a1, a2, a3, ht⟩ := hp.top
    obtain ⟨v1, k1, h1⟩ := hp.r.disk n hn
    obtain ⟨v2, k2, h2⟩ := hp.r.cach n hn
    have HBL := Lib.hid (blank_any w2 p A D E n S.m S.n S.m S.g S.l a1 a2 a3 hp.n1 hp.n2 hn ⟨ht, hp.r.lrow, hp.r.drow, hp.r.erow, ⟨_, hp.r.live n hn⟩, ⟨_, k1⟩, ⟨_, k2⟩, hp.r.de⟩)
    clear hk HNM hp ht k1 k2
    go_wp2_with fail
    refine HBL.out.mono ?_
    rintro e w3 ⟨rfl, cb, base, v, hi, hb⟩
    obtain ⟨K', C', hp3, hn3⟩ := HP2.out.renew hn HB.out.1 (Nat.le_trans HB.out.2 (Kept.size HK.out)) hi
    have HP3 := Lib.hid hp3
    have HN3 := Lib.hid ((RfN.of_kept (p := p) (A := A) (D := D) (E := E) (K := K) (C := C) (m := S.m) HK.out HB.out.2).trans hn3)
    clear hi hb hp3 hn3 HBL
    go_wp2
    go_ret
    exact ⟨rfl, K', C', HP3.out, HN3.out⟩
end Go.Proofs.Ytkfomaoillnehaa

namespace Go.Proofs.Ytkfomaoillnehaa
open Go.RowKit
attribute [local go_sem] Oper.semAt_some

theorem Try.infoBoolR : (Try.prog.info? 4).map (fun i => (i.zero, i.size, i.bytes)) = some (some (.bool false), 1, 1) := by kernel_rfl
theorem Try.infoRowsR : (Try.prog.info? 59).map (fun i => (i.zero, i.size, i.bytes)) = some (some (.slice none 0 0), 1, 24) := by kernel_rfl
/-- the reference's array under way: its box, three rows of its own -/
structure NwR (W0 : World) (p m n : Nat) (vL vD vE : Value) (lL lD lE : Nat) (xL xD xE : List Value) (w : World) : Prop where
  kp : Kept W0 w
  pl : W0.heap.size ≤ p
  box : BlockAt w p #[.int .i64 m, .int .i64 n, vL, vD, vE, .int .i64 (-1), .int .i64 0] 43
  oL : w.ownsRow W0.heap.size 4 1 vL lL xL
  oD : w.ownsRow W0.heap.size 59 1 vD lD xD
  oE : w.ownsRow W0.heap.size 59 1 vE lE xE
  de : ∀ q, vD.ownBlock = some q → vE.ownBlock ≠ some q
theorem own_block {w : World} {base : Nat} {e : TypeId} {n : Nat} {v : Value} {xs : List Value} (h : w.ownsRow base e 1 v n xs) : ∀ q, v.ownBlock = some q → ∃ cs, BlockAt w q cs e := fun q hq => by
  rcases h.2 with ⟨e2, _⟩ | ⟨g, cap, cur, e2, _, hg, _⟩
  · rw [e2] at hq; cases hq
  · rw [e2] at hq; cases hq; exact ⟨cur, hg⟩
/-- a row of one's own stays, when a block of another type, or another block, is written -/
theorem own_stay {w W : World} {base : Nat} {e : TypeId} {n : Nat} {v : Value} {xs : List Value} {row : Option Nat} (h : w.ownsRow base e 1 v n xs) (g : w.grownBy W row) (hne : ∀ q, v.ownBlock = some q → some q ≠ row) : W.ownsRow base e 1 v n xs := by
  refine h.kept g ?_
  cases hv : v.ownBlock with
  | none => exact .inl rfl
  | some q => exact .inr (fun e => hne q hv e)
theorem type_ne {w : World} {base : Nat} {e t : TypeId} {n : Nat} {v : Value} {xs : List Value} {q : Nat} {cs : Array Value} (h : w.ownsRow base e 1 v n xs) (hq : BlockAt w q cs t) (ht : t ≠ e) : some q ≠ v.ownBlock := fun e2 => by
  obtain ⟨c2, h2⟩ := own_block h q e2.symm
  exact block_ne hq h2 ht rfl
section
variable {W0 w wa w9 : World} {p m n : Nat} {vL vD vE v9 : Value} {lL lD lE : Nat} {xL xD xE ys : List Value}
theorem NwR.kept (h : NwR W0 p m n vL vD vE lL lD lE xL xD xE w) (k : Kept w wa) : NwR W0 p m n vL vD vE lL lD lE xL xD xE wa := ⟨h.kp.trans k, h.pl, h.box.kept k, own_kept h.oL k, own_kept h.oD k, own_kept h.oE k, h.de⟩
theorem NwR.appL (h : NwR W0 p m n vL vD vE lL lD lE xL xD xE wa) (ho : w9.ownsRow W0.heap.size 4 1 v9 (lL + 1) ys) (hg : wa.grownBy w9 vL.ownBlock) : NwR W0 p m n v9 vD vE (lL + 1) lD lE ys xD xE (w9.setCell ⟨p, 2, none⟩ v9) := by
  have hb9 := h.box.gr hg (type_ne h.oL h.box (by decide))
  have hD9 := own_stay h.oD hg (fun q hq => by
    obtain ⟨cs, hc⟩ := own_block h.oD q hq
    exact type_ne h.oL hc (by decide))
  have hE9 := own_stay h.oE hg (fun q hq => by
    obtain ⟨cs, hc⟩ := own_block h.oE q hq
    exact type_ne h.oL hc (by decide))
  have st : ∀ {e : TypeId} {l : Nat} {v : Value} {xs : List Value}, e ≠ 43 → w9.ownsRow W0.heap.size e 1 v l xs → (w9.setCell ⟨p, 2, none⟩ v9).ownsRow W0.heap.size e 1 v l xs := fun he hr => own_stay hr (gr_set w9 p 2 v9) (fun q hq e2 => by
    cases e2
    exact type_ne hr hb9 (fun e3 => he e3.symm) hq.symm)
  refine ⟨(kept_gr h.kp hg (fun q e => (h.oL.lt q e).1)).setCell h.pl _, h.pl, ?_, st (by decide) ho, st (by decide) hD9, st (by decide) hE9, h.de⟩
  have := hb9.set (i := 2) v9
  simpa using this
theorem NwR.appD (h : NwR W0 p m n vL vD vE lL lD lE xL xD xE wa) (ho : w9.ownsRow W0.heap.size 59 1 v9 (lD + 1) ys) (hg : wa.grownBy w9 vD.ownBlock) (hw : v9.ownBlock = vD.ownBlock ∨ v9.ownBlock = some wa.heap.size) : NwR W0 p m n vL v9 vE lL (lD + 1) lE xL ys xE (w9.setCell ⟨p, 3, none⟩ v9) := by
  have hb9 := h.box.gr hg (type_ne h.oD h.box (by decide))
  have hL9 := own_stay h.oL hg (fun q hq => by
    obtain ⟨cs, hc⟩ := own_block h.oL q hq
    exact type_ne h.oD hc (by decide))
  have hE9 := own_stay h.oE hg (fun q hq e => h.de q e.symm hq)
  have st : ∀ {e : TypeId} {l : Nat} {v : Value} {xs : List Value}, e ≠ 43 → w9.ownsRow W0.heap.size e 1 v l xs → (w9.setCell ⟨p, 3, none⟩ v9).ownsRow W0.heap.size e 1 v l xs := fun he hr => own_stay hr (gr_set w9 p 3 v9) (fun q hq e2 => by
    cases e2
    exact type_ne hr hb9 (fun e3 => he e3.symm) hq.symm)
  refine ⟨(kept_gr h.kp hg (fun q e => (h.oD.lt q e).1)).setCell h.pl _, h.pl, ?_, st (by decide) hL9, st (by decide) ho, st (by decide) hE9, fun q hq hq2 => ?_⟩
  · have := hb9.set (i := 3) v9
    simpa using this
  · rcases hw with e | e
    · exact h.de q (e.symm.trans hq) hq2
    · rw [e] at hq
      cases hq
      have := (h.oE.lt _ hq2).2
      omega
theorem NwR.appE (h : NwR W0 p m n vL vD vE lL lD lE xL xD xE wa) (ho : w9.ownsRow W0.heap.size 59 1 v9 (lE + 1) ys) (hg : wa.grownBy w9 vE.ownBlock) (hw : v9.ownBlock = vE.ownBlock ∨ v9.ownBlock = some wa.heap.size) : NwR W0 p m n vL vD v9 lL lD (lE + 1) xL xD ys (w9.setCell ⟨p, 4, none⟩ v9) := by
  have hb9 := h.box.gr hg (type_ne h.oE h.box (by decide))
  have hL9 := own_stay h.oL hg (fun q hq => by
    obtain ⟨cs, hc⟩ := own_block h.oL q hq
    exact type_ne h.oE hc (by decide))
  have hD9 := own_stay h.oD hg (fun q hq e => h.de q hq e.symm)
  have st : ∀ {e : TypeId} {l : Nat} {v : Value} {xs : List Value}, e ≠ 43 → w9.ownsRow W0.heap.size e 1 v l xs → (w9.setCell ⟨p, 4, none⟩ v9).ownsRow W0.heap.size e 1 v l xs := fun he hr => own_stay hr (gr_set w9 p 4 v9) (fun q hq e2 => by
    cases e2
    exact type_ne hr hb9 (fun e3 => he e3.symm) hq.symm)
  refine ⟨(kept_gr h.kp hg (fun q e => (h.oE.lt q e).1)).setCell h.pl _, h.pl, ?_, st (by decide) hL9, st (by decide) hD9, st (by decide) ho, fun q hq hq2 => ?_⟩
  · have := hb9.set (i := 4) v9
    simpa using this
  · rcases hw with e | e
    · exact h.de q hq (e.symm.trans hq2)
    · rw [e] at hq2
      cases hq2
      have := (h.oD.lt _ hq).2
      omega
end
/-- texts that lie in w stay, when rows of other types are written -/
theorem Txs.app {w wa w9 : World} {b r p i : Nat} {G : Nat → ByteArray} {v x : Value} {base l : Nat} {e : TypeId} {xs : List Value} {bx : Array Value} (h : Txs w b r G) (k : Kept w wa) (hb : BlockAt wa p bx 43) (ho : wa.ownsRow base e 1 v l xs) (he : 9 ≠ e) (hg : wa.grownBy w9 v.ownBlock) : Txs (w9.setCell ⟨p, i, none⟩ x) b r G := by
  have h1 := h.kept k
  obtain ⟨cs, hc⟩ := h1.blk
  exact (h1.gr hg (type_ne ho hc he)).other (block_ne hc hb (by decide)) x
theorem own_again {w W : World} {base n cap g : Nat} {e : TypeId} {xs ys : List Value} (h : w.ownsRow base e 1 (.slice (some ⟨g, 0, none⟩) n cap) n xs) (hs : ∀ cs, BlockAt w g cs e → ∃ cs', BlockAt W g cs' e ∧ cs'.size = cs.size) (hl : ys.length = n) (hc : ∀ i, i < n → W.cell? ⟨g, i, none⟩ = ys[i]?) : W.ownsRow base e 1 (.slice (some ⟨g, 0, none⟩) n cap) n ys := by
  obtain ⟨_, ⟨e2, _⟩ | ⟨g2, cap2, cur, e2, hb, hg, h1, h2, h3, _⟩⟩ := h
  · cases e2
  · cases e2
    obtain ⟨cs', hB, hz⟩ := hs cur hg
    refine ⟨by omega, .inr ⟨g, cap, cs', rfl, hb, hB, h1, h2, by omega, ?_⟩⟩
    apply List.ext_getElem?
    intro i
    rw [List.getElem?_take]
    by_cases hi : i < n
    · rw [if_pos (by omega), Array.getElem?_toList, ← hc i hi, BlockAt.cell hB]
    · rw [if_neg (by omega), List.getElem?_eq_none (by omega)]
/-- k disks of the reference are made -/
structure NwI (W0 : World) (p m n k : Nat) (vL vD vE : Value) (K C cK : Nat → Nat) (w : World) : Prop where
  r : NwR W0 p m n vL vD vE k k k (List.replicate k (.bool true)) ((List.range k).map fun d => .slice (some ⟨K d, 0, none⟩) n (cK d)) ((List.range k).map fun d => .slice (some ⟨C d, 0, none⟩) n n) w
  tk : ∀ d, d < k → Txs w (K d) n (fun _ => zeroT) ∧ Txs w (C d) n (fun _ => ByteArray.empty)
  cap : ∀ d, d < k → n ≤ cK d
  lo : ∀ d, d < k → W0.heap.size ≤ K d ∧ W0.heap.size ≤ C d
  kk : ∀ d e, d < k → e < k → d ≠ e → K d ≠ K e
  cc : ∀ d e, d < k → e < k → d ≠ e → C d ≠ C e
  kc : ∀ d e, d < k → e < k → K d ≠ C e
theorem own_cell {w : World} {base n cap g : Nat} {e : TypeId} {xs : List Value} (h : w.ownsRow base e 1 (.slice (some ⟨g, 0, none⟩) n cap) n xs) (i : Nat) (hi : i < n) : w.cell? ⟨g, i, none⟩ = xs[i]? := by
  obtain ⟨_, ⟨e2, _⟩ | ⟨g2, cap2, cur, e2, hb, hg, h1, h2, h3, h4⟩⟩ := h
  · cases e2
  · cases e2
    rw [(show BlockAt w g cur e from hg).cell, ← h4, List.getElem?_take, if_pos (by omega), Array.getElem?_toList]
theorem map_upF (k : Nat) (f : Nat → Nat → Nat → Value) (K c : Nat → Nat) (x y : Nat) : ((List.range (k + 1)).map fun d => f (upF K k x d) (upF c k y d) d) = ((List.range k).map fun d => f (K d) (c d) d) ++ [f x y k] := by
  rw [List.range_succ, List.map_append]
  congr 1
  · refine List.map_congr_left fun d hd => ?_
    have : d ≠ k := by have := List.mem_range.1 hd; omega
    rw [upF_other _ _ this, upF_other _ _ this]
  · simp [upF_same]
/-- a disk more: behind the three appends, blank -/
theorem NwI.step {W0 w w5 W : World} {p m n k : Nat} {vL vD vE uL uD uE : Value} {K C cK : Nat → Nat} {A D E aL aD aE cb base : Nat} {v : Value} (h : NwI W0 p m n k vL vD vE K C cK w) (hw : w.heap.size ≤ w5.heap.size) (ht : ∀ b G, Txs w b n G → Txs w5 b n G) (hn : 1 ≤ n)
    (eL : uL = .slice (some ⟨A, 0, none⟩) (k + 1) aL) (eD : uD = .slice (some ⟨D, 0, none⟩) (k + 1) aD) (eE : uE = .slice (some ⟨E, 0, none⟩) (k + 1) aE)
    (h5 : NwR W0 p m n uL uD uE (k + 1) (k + 1) (k + 1) (List.replicate k (.bool true) ++ [.bool true]) (((List.range k).map fun d => .slice (some ⟨K d, 0, none⟩) n (cK d)) ++ [.slice none 0 0]) (((List.range k).map fun d => .slice (some ⟨C d, 0, none⟩) n n) ++ [.slice none 0 0]) w5)
    (hi : BlI w5 p A D E k n cb base n #[.int .i64 m, .int .i64 n, uL, uD, uE, .int .i64 (-1), .int .i64 0] v W) : ∃ K' C' cK', NwI W0 p m n (k + 1) uL uD uE K' C' cK' W := by
  obtain ⟨kb, cap, rfl, hcap, hkb, htk⟩ := hi.full hn
  have hlo := hi.lo
  have hA : W0.heap.size ≤ A ∧ W0.heap.size ≤ D ∧ W0.heap.size ≤ E := ⟨(h5.oL.lt A (by rw [eL]; rfl)).1, (h5.oD.lt D (by rw [eD]; rfl)).1, (h5.oE.lt E (by rw [eE]; rfl)).1⟩
  have hW0 := Kept.size h5.kp
  have lt : ∀ d, d < k → K d < w.heap.size ∧ C d < w.heap.size := fun d hd => ⟨(h.tk d hd).1.lt, (h.tk d hd).2.lt⟩
  have hkp : Kept W0 W := Below.trans h5.kp (hi.low W0.heap.size hA.1 hA.2.1 hA.2.2 hW0)
  have tx : ∀ b G, Txs w5 b n G → Txs W b n G := fun b G hb => by
    obtain ⟨cs, hc⟩ := hb.blk
    have q : ¬ (b = A ∨ b = D ∨ b = E) := fun q => by
      obtain ⟨c1, k1⟩ := own_block h5.oL A (by rw [eL]; rfl)
      obtain ⟨c2, k2⟩ := own_block h5.oD D (by rw [eD]; rfl)
      obtain ⟨c3, k3⟩ := own_block h5.oE E (by rw [eE]; rfl)
      rcases q with q | q | q
      · exact block_ne hc k1 (by decide) q
      · exact block_ne hc k2 (by decide) q
      · exact block_ne hc k3 (by decide) q
    exact hb.but hi.but q
  have oL := h5.oL
  have oD := h5.oD
  have oE := h5.oE
  rw [eL] at oL
  rw [eD] at oD
  rw [eE] at oE
  refine ⟨upF K k kb, upF C k cb, upF cK k cap, ⟨⟨hkp, h5.pl, hi.r.box, ?_, ?_, ?_, h5.de⟩, fun d hd => ?_, fun d hd => ?_, fun d hd => ?_, fun d e hd he hn => ?_, fun d e hd he hn => ?_, fun d e hd he => ?_⟩⟩
  · rw [eL]
    refine own_again oL (fun cs hc => hi.sz A _ cs (.inl rfl) hc) (by simp) (fun i hik => ?_)
    by_cases q : i = k
    · subst q; rw [hi.va]; simp
    · rw [hi.oA i q, own_cell oL i hik, List.getElem?_append_left (by simp; omega)]
      simp [show i < k by omega, show i < k + 1 by omega]
  · rw [eD, map_upF k (fun a b _ => .slice (some ⟨a, 0, none⟩) n b)]
    refine own_again oD (fun cs hc => hi.sz D _ cs (.inr (.inl rfl)) hc) (by simp) (fun i hik => ?_)
    by_cases q : i = k
    · subst q; rw [hi.vd]; simp
    · rw [hi.oD i q, own_cell oD i hik, List.getElem?_append_left (by simp; omega), List.getElem?_append_left (by simp; omega)]
  · rw [eE, map_upF k (fun a _ _ => .slice (some ⟨a, 0, none⟩) n n) C C cb cb]
    refine own_again oE (fun cs hc => hi.sz E _ cs (.inr (.inr rfl)) hc) (by simp) (fun i hik => ?_)
    by_cases q : i = k
    · subst q; rw [hi.ve]; simp
    · rw [hi.oE i q, own_cell oE i hik, List.getElem?_append_left (by simp; omega), List.getElem?_append_left (by simp; omega)]
  · by_cases q : d = k
    · subst q; rw [upF_same, upF_same]; exact ⟨htk, hi.tc⟩
    · rw [upF_other _ _ q, upF_other _ _ q]
      have := h.tk d (by omega)
      exact ⟨tx _ _ (ht _ _ this.1), tx _ _ (ht _ _ this.2)⟩
  · by_cases q : d = k
    · subst q; rw [upF_same]; exact hcap
    · rw [upF_other _ _ q]; exact h.cap d (by omega)
  · by_cases q : d = k
    · subst q; rw [upF_same, upF_same]; exact ⟨by omega, by omega⟩
    · rw [upF_other _ _ q, upF_other _ _ q]; exact h.lo d (by omega)
  · by_cases q : d = k
    · subst q
      have := lt e (by omega)
      rw [upF_same, upF_other _ _ (fun x => hn x.symm)]; omega
    · by_cases q2 : e = k
      · subst q2
        have := lt d (by omega)
        rw [upF_same, upF_other _ _ q]; omega
      · rw [upF_other _ _ q, upF_other _ _ q2]; exact h.kk d e (by omega) (by omega) hn
  · by_cases q : d = k
    · subst q
      have := lt e (by omega)
      rw [upF_same, upF_other _ _ (fun x => hn x.symm)]; omega
    · by_cases q2 : e = k
      · subst q2
        have := lt d (by omega)
        rw [upF_same, upF_other _ _ q]; omega
      · rw [upF_other _ _ q, upF_other _ _ q2]; exact h.cc d e (by omega) (by omega) hn
  · by_cases q : d = k
    · by_cases q2 : e = k
      · subst q; subst q2; rw [upF_same, upF_same]; omega
      · subst q
        have := lt e (by omega)
        rw [upF_same, upF_other _ _ q2]; omega
    · by_cases q2 : e = k
      · subst q2
        have := lt d (by omega)
        rw [upF_same, upF_other _ _ q]; omega
      · rw [upF_other _ _ q, upF_other _ _ q2]; exact h.kc d e (by omega) (by omega)
theorem NwI.done {W0 w : World} {p m n : Nat} {vL vD vE : Value} {K C cK : Nat → Nat} (h : NwI W0 p m n m vL vD vE K C cK w) (hm : 1 ≤ m) (hm2 : m ≤ 12) (hn : 1 ≤ n) (hn2 : n ≤ 2048) : ∃ A D E, RfP w p A D E K C (newA m n) ∧ W0.heap.size ≤ A ∧ W0.heap.size ≤ D ∧ W0.heap.size ≤ E := by
  have oL := h.r.oL
  have oD := h.r.oD
  have oE := h.r.oE
  have hde := h.r.de
  have hbx := h.r.box
  obtain ⟨_, ⟨_, e⟩ | ⟨A, aL, cL, rfl, bL, gL, _⟩⟩ := h.r.oL
  · omega
  obtain ⟨_, ⟨_, e⟩ | ⟨D, aD, cD, rfl, bD, gD, _⟩⟩ := h.r.oD
  · omega
  obtain ⟨_, ⟨_, e⟩ | ⟨E, aE, cE, rfl, bE, gE, _⟩⟩ := h.r.oE
  · omega
  refine ⟨A, D, E, ⟨⟨aL, aD, aE, hbx⟩, ⟨⟨cL, gL⟩, ⟨cD, gD⟩, ⟨cE, gE⟩, fun e => hde D rfl (by rw [e]; rfl), fun d hd => ?_, fun d hd => ⟨cK d, ?_, h.cap d hd⟩, fun d hd => ⟨n, ?_, Nat.le_refl _⟩, fun d hd => ⟨_, (h.tk d hd).1, fun x hx i hi => by cases hx; rfl⟩, fun d hd => ⟨_, (h.tk d hd).2, fun x hx i hi => by cases hx; rfl⟩, h.kk, h.cc, h.kc⟩, hm, hm2, hn, hn2⟩, bL, bD, bE⟩
  · have hd2 : d < m := hd
    rw [own_cell oL d hd2]
    simp [hd2]
    rfl
  · have hd2 : d < m := hd
    rw [own_cell oD d hd2]
    simp [hd2]
    rfl
  · have hd2 : d < m := hd
    rw [own_cell oE d hd2]
    simp [hd2]
    rfl
end Go.Proofs.Ytkfomaoillnehaa

namespace Go.Proofs.Ytkfomaoillnehaa
open Go.RowKit
attribute [local go_sem] Oper.semAt_some

theorem one_new (w : World) (x : Value) (t : TypeId) : ∀ j u, ([x] : List Value)[j]? = some u → (w.alloc (.cells #[x] t)).cell? ((⟨w.heap.size, 0, none⟩ : Addr).add j) = some u := fun j u hu => by
  cases j with
  | zero =>
    simp at hu
    subst hu
    rw [show (⟨w.heap.size, 0, none⟩ : Addr).add 0 = ⟨w.heap.size, 0, none⟩ by unfold Addr.add; split <;> simp_all, cell_new]
    rfl
  | succ j => simp at hu
set_option maxRecDepth 100000 in
set_option maxHeartbeats 4000000 in
theorem new_ar (m n : Nat) (hm : 1 ≤ m) (hm2 : m ≤ 12) (hn : 1 ≤ n) (hn2 : n ≤ 2048) (w : World) : Calls Try.prog 13 #[.int .i64 m, .int .i64 n] w fun e w' => ∃ p A D E K C, e = .returned (.pointer (some ⟨p, 0, none⟩)) ∧ Kept w w' ∧ RfP w' p A D E K C (newA m n) ∧ w.heap.size ≤ p ∧ w.heap.size ≤ A ∧ w.heap.size ≤ D ∧ w.heap.size ≤ E ∧ ∀ d, d < m → w.heap.size ≤ K d ∧ w.heap.size ≤ C d := by
  obtain ⟨iB, hi, hz0, hz1, hz2⟩ := info_parts Try.infoBoolR
  have HIB := Lib.hid (And.intro hi (And.intro hz0 (And.intro hz1 hz2)))
  obtain ⟨iR, hi, hz0, hz1, hz2⟩ := info_parts Try.infoRowsR
  have HIR := Lib.hid (And.intro hi (And.intro hz0 (And.intro hz1 hz2)))
  have HM := Lib.hid (And.intro hm (And.intro hm2 (And.intro hn hn2)))
  clear hi hz0 hz1 hz2
  go_enter Try.func13, Try.ntmps13
  go_upto_region 2 with (fail)
  have HN0 := Lib.hid (show NwI w w.heap.size m n 0 (.slice none 0 0) (.slice none 0 0) (.slice none 0 0) (fun _ => 0) (fun _ => 0) (fun _ => 0) (w.alloc (.cells #[.int .i64 m, .int .i64 n, .slice none 0 0, .slice none 0 0, .slice none 0 0, .int .i64 (-1), .int .i64 0] 43)) from
    ⟨⟨(Kept.refl w).alloc _, Nat.le_refl _, BlockAt.new w _ _, ⟨rfl, .inl ⟨rfl, rfl⟩⟩, ⟨rfl, .inl ⟨rfl, rfl⟩⟩, ⟨rfl, .inl ⟨rfl, rfl⟩⟩, fun q hq => by cases hq⟩, fun d hd => absurd hd (Nat.not_lt_zero d), fun d hd => absurd hd (Nat.not_lt_zero d), fun d hd => absurd hd (Nat.not_lt_zero d), fun d e hd => absurd hd (Nat.not_lt_zero d), fun d e hd => absurd hd (Nat.not_lt_zero d), fun d e hd => absurd hd (Nat.not_lt_zero d)⟩)
  generalize w.alloc (.cells #[.int .i64 m, .int .i64 n, .slice none 0 0, .slice none 0 0, .slice none 0 0, .int .i64 (-1), .int .i64 0] 43) = w1 at *
  obtain ⟨p, hp⟩ : ∃ p, p = w.heap.size := ⟨_, rfl⟩
  have HPW := Lib.hid hp
  rw [← hp] at HN0 ⊢
  clear hp
  go_wp2_with fail
  go_loopw [6] (fun t wr => ∃ (k : Nat) (vL vD vE : Value) (K C cK : Nat → Nat), k ≤ m ∧ t = .int .i64 ((k : Nat) : Int) ∧ NwI w p m n k vL vD vE K C cK wr) (fun t _ => m - (intOf t).toNat)
  case atStart => exact ⟨0, _, _, _, _, _, _, by omega, rfl, HN0.out⟩
  case round =>
    obtain ⟨k, vL, vD, vE, K, C, cK, hk, rfl, hI⟩ := hrel
    have HI := Lib.hid hI
    clear hI HN0
    by_cases hlt : k < m
    · have hd1 : decide ((k : Int) < m) = true := decide_eq_true (by omega)
      obtain ⟨aL, cL, rfl⟩ := slice_own9 HI.out.r.oL
      obtain ⟨aD, cD, rfl⟩ := slice_own9 HI.out.r.oD
      obtain ⟨aE, cE, rfl⟩ := slice_own9 HI.out.r.oE
      have hb := HI.out.r.box
      obtain ⟨b0, b1, b2, b3, b4, b5, b6⟩ := box7r hb
      have f2 := hb.free 2
      have hpl := hb.lt
      have hws := Kept.size HI.out.r.kp
      clear hb
      go_wp2_with (at_builtin; refine wpList_append_own_at _ rfl _ _ 40 rfl w.heap.size 4 iB (.bool false) 1 1 Try.underlying40 HIB.out.1 HIB.out.2.1 HIB.out.2.2.1 HIB.out.2.2.2 rfl (by decide) _ _ _ rfl (own_kept HI.out.r.oL ((Kept.refl wr).alloc _)) ⟨wr.heap.size, 0, none⟩ 1 1 [.bool true] rfl rfl ?c1 ?c2 ?c3 ?c4 ?c5 ?_)
      case c1 => exact one_new wr _ _
      case c2 => intro u hu; simp at hu; subst hu; rfl
      case c3 => unfold maxLen; omega
      case c4 => omega
      case c5 => rw [World.size_alloc]; omega
      intro v9 w9 hown hgr _ hwhich
      obtain ⟨a2, c2, rfl⟩ := slice_own9 hown
      have ka := (Kept.refl wr).alloc (.cells #[.bool true] 4)
      have hr2 := (HI.out.r.kept ka).appL hown hgr
      have HT2 := Lib.hid (fun b G (h : Txs wr b n G) => h.app (i := 2) (x := .slice a2 (k + 1) c2) ka (HI.out.r.kept ka).box (HI.out.r.kept ka).oL (by decide) hgr)
      have HZ2 := Lib.hid (show wr.heap.size ≤ (w9.setCell ⟨p, 2, none⟩ (.slice a2 (k + 1) c2)).heap.size by
        have h1 := Kept.size ka
        have h2 := hgr.size
        have h3 : (w9.setCell ⟨p, 2, none⟩ (.slice a2 (k + 1) c2)).heap.size = w9.heap.size := by simp
        omega)
      have HR2 := Lib.hid hr2
      have hb9 := (HI.out.r.box.kept ka).gr hgr (type_ne (HI.out.r.kept ka).oL (HI.out.r.box.kept ka) (by decide))
      have e2 : w9.cell? ⟨p, 2, none⟩ = _ := hb9.cell 2
      have f9 := hb9.free 2
      simp only [List.getElem?_toArray, List.getElem?_cons_zero, List.getElem?_cons_succ] at e2
      clear hown hgr ka hr2 hb9 b0 b1 b2 b3 b4 b5 b6 f2 hwhich hpl hws
      go_upto_region 6 with (fail)
      clear e2 f9
      generalize w9.setCell ⟨p, 2, none⟩ (.slice a2 (k + 1) c2) = w2 at *
      have hb := HR2.out.box
      obtain ⟨b0, b1, b2, b3, b4, b5, b6⟩ := box7r hb
      have f2 := hb.free 3
      have hpl := hb.lt
      have hws := Kept.size HR2.out.kp
      clear hb
      go_wp2_with (at_builtin; refine wpList_append_own_at _ rfl _ _ 41 rfl w.heap.size 59 iR (.slice none 0 0) 1 24 Try.underlying41 HIR.out.1 HIR.out.2.1 HIR.out.2.2.1 HIR.out.2.2.2 rfl (by decide) _ _ _ rfl (own_kept HR2.out.oD ((Kept.refl w2).alloc _)) ⟨w2.heap.size, 0, none⟩ 1 1 [.slice none 0 0] rfl rfl ?c1 ?c2 ?c3 ?c4 ?c5 ?_)
      case c1 => exact one_new w2 _ _
      case c2 => intro u hu; simp at hu; subst hu; rfl
      case c3 => unfold maxLen; omega
      case c4 => omega
      case c5 => rw [World.size_alloc]; omega
      intro v9 w9 hown hgr _ hwhich
      obtain ⟨a3, c3, rfl⟩ := slice_own9 hown
      have ka := (Kept.refl w2).alloc (.cells #[.slice none 0 0] 59)
      have hr2 := (HR2.out.kept ka).appD hown hgr (by rw [World.size_alloc]; exact hwhich)
      have HT3 := Lib.hid (fun b G (h : Txs w2 b n G) => h.app (i := 3) (x := .slice a3 (k + 1) c3) ka (HR2.out.kept ka).box (HR2.out.kept ka).oD (by decide) hgr)
      have HZ3 := Lib.hid (show w2.heap.size ≤ (w9.setCell ⟨p, 3, none⟩ (.slice a3 (k + 1) c3)).heap.size by
        have h1 := Kept.size ka
        have h2 := hgr.size
        have h3 : (w9.setCell ⟨p, 3, none⟩ (.slice a3 (k + 1) c3)).heap.size = w9.heap.size := by simp
        omega)
      have HR3 := Lib.hid hr2
      have hb9 := (HR2.out.box.kept ka).gr hgr (type_ne (HR2.out.kept ka).oD (HR2.out.box.kept ka) (by decide))
      have e2 : w9.cell? ⟨p, 3, none⟩ = _ := hb9.cell 3
      have f9 := hb9.free 3
      simp only [List.getElem?_toArray, List.getElem?_cons_zero, List.getElem?_cons_succ] at e2
      clear hown hgr ka hr2 hb9 b0 b1 b2 b3 b4 b5 b6 f2 hwhich hpl hws
      go_upto_region 7 with (fail)
      clear e2 f9
      generalize w9.setCell ⟨p, 3, none⟩ (.slice a3 (k + 1) c3) = w3 at *
      have hb := HR3.out.box
      obtain ⟨b0, b1, b2, b3, b4, b5, b6⟩ := box7r hb
      have f2 := hb.free 4
      have hpl := hb.lt
      have hws := Kept.size HR3.out.kp
      clear hb
      go_wp2_with (at_builtin; refine wpList_append_own_at _ rfl _ _ 41 rfl w.heap.size 59 iR (.slice none 0 0) 1 24 Try.underlying41 HIR.out.1 HIR.out.2.1 HIR.out.2.2.1 HIR.out.2.2.2 rfl (by decide) _ _ _ rfl (own_kept HR3.out.oE ((Kept.refl w3).alloc _)) ⟨w3.heap.size, 0, none⟩ 1 1 [.slice none 0 0] rfl rfl ?c1 ?c2 ?c3 ?c4 ?c5 ?_)
      case c1 => exact one_new w3 _ _
      case c2 => intro u hu; simp at hu; subst hu; rfl
      case c3 => unfold maxLen; omega
      case c4 => omega
      case c5 => rw [World.size_alloc]; omega
      intro v9 w9 hown hgr _ hwhich
      obtain ⟨a4, c4, rfl⟩ := slice_own9 hown
      have ka := (Kept.refl w3).alloc (.cells #[.slice none 0 0] 59)
      have hr2 := (HR3.out.kept ka).appE hown hgr (by rw [World.size_alloc]; exact hwhich)
      have HT4 := Lib.hid (fun b G (h : Txs w3 b n G) => h.app (i := 4) (x := .slice a4 (k + 1) c4) ka (HR3.out.kept ka).box (HR3.out.kept ka).oE (by decide) hgr)
      have HZ4 := Lib.hid (show w3.heap.size ≤ (w9.setCell ⟨p, 4, none⟩ (.slice a4 (k + 1) c4)).heap.size by
        have h1 := Kept.size ka
        have h2 := hgr.size
        have h3 : (w9.setCell ⟨p, 4, none⟩ (.slice a4 (k + 1) c4)).heap.size = w9.heap.size := by simp
        omega)
      have HR4 := Lib.hid hr2
      have hb9 := (HR3.out.box.kept ka).gr hgr (type_ne (HR3.out.kept ka).oE (HR3.out.box.kept ka) (by decide))
      have e2 : w9.cell? ⟨p, 4, none⟩ = _ := hb9.cell 4
      have f9 := hb9.free 4
      simp only [List.getElem?_toArray, List.getElem?_cons_zero, List.getElem?_cons_succ] at e2
      clear hown hgr ka hr2 hb9 b0 b1 b2 b3 b4 b5 b6 f2 hwhich hpl hws
      go_upto_region 8 with (fail)
      clear e2 f9
      generalize w9.setCell ⟨p, 4, none⟩ (.slice a4 (k + 1) c4) = w4 at *
      have h4 := HR4.out
      obtain ⟨A, hA⟩ : ∃ A, (a2 : Option Addr) = some ⟨A, 0, none⟩ := by
        obtain ⟨_, ⟨e, _⟩ | ⟨g, cap, cur, e, _⟩⟩ := h4.oL
        · cases e
        · cases e; exact ⟨g, rfl⟩
      obtain ⟨D, hD⟩ : ∃ D, (a3 : Option Addr) = some ⟨D, 0, none⟩ := by
        obtain ⟨_, ⟨e, _⟩ | ⟨g, cap, cur, e, _⟩⟩ := h4.oD
        · cases e
        · cases e; exact ⟨g, rfl⟩
      obtain ⟨E, hE⟩ : ∃ E, (a4 : Option Addr) = some ⟨E, 0, none⟩ := by
        obtain ⟨_, ⟨e, _⟩ | ⟨g, cap, cur, e, _⟩⟩ := h4.oE
        · cases e
        · cases e; exact ⟨g, rfl⟩
      subst hA hD hE
      obtain ⟨qA, gA⟩ := own_block h4.oL A rfl
      obtain ⟨qD, gD⟩ := own_block h4.oD D rfl
      obtain ⟨qE, gE⟩ := own_block h4.oE E rfl
      have HBL := Lib.hid (blank_any w4 p A D E k m n (k + 1) 0 (-1) c2 c3 c4 HM.out.2.2.1 HM.out.2.2.2 (by omega) ⟨h4.box, ⟨qA, gA⟩, ⟨qD, gD⟩, ⟨qE, gE⟩, ⟨_, by rw [own_cell h4.oL k (by omega)]; simp; rfl⟩, ⟨_, by rw [own_cell h4.oD k (by omega)]; simp; rfl⟩, ⟨_, by rw [own_cell h4.oE k (by omega)]; simp; rfl⟩, fun e => h4.de D rfl (by rw [e]; rfl)⟩)
      have HH4 := Lib.hid h4
      clear h4 gA gD gE
      go_wp2_with fail
      refine HBL.out.mono ?_
      rintro e w6 ⟨rfl, cb, base, v, hi, hb⟩
      obtain ⟨K', C', cK', hn'⟩ := HI.out.step (Nat.le_trans HZ2.out (Nat.le_trans HZ3.out HZ4.out)) (fun b G h => HT4.out b G (HT3.out b G (HT2.out b G h))) HM.out.2.2.1 rfl rfl rfl HH4.out hi
      have HN' := Lib.hid hn'
      clear hi hb hn' HBL
      go_wp2
      go_roundw
      case rel => exact ⟨k + 1, _, _, _, K', C', cK', by omega, by go_num, HN'.out⟩
      case measure => simp [intOf]; omega
    · obtain rfl : k = m := by omega
      have hd1 : decide ((k : Int) < k) = false := decide_eq_false (by omega)
      obtain ⟨A, D, E, hp, hA, hD, hE⟩ := HI.out.done HM.out.1 HM.out.2.1 HM.out.2.2.1 HM.out.2.2.2
      go_wp2
      go_ret
      exact ⟨p, A, D, E, K, C, rfl, HI.out.r.kp, hp, HI.out.r.pl, hA, hD, hE, HI.out.lo⟩
end Go.Proofs.Ytkfomaoillnehaa

namespace Go.Proofs.Ytkfomaoillnehaa
open Go.RowKit
/-- a number brought below another one -/
def wthn (x : Int) (n : Nat) : Nat := (IntKind.u64.wrap x % (n : Int)).toNat
theorem wthn_lt (x : Int) {n : Nat} (h : 0 < n) : wthn x n < n := by
  have h1 := Int.emod_nonneg (IntKind.u64.wrap x) (show (n : Int) ≠ 0 by omega)
  have h2 := Int.emod_lt_of_pos (IntKind.u64.wrap x) (show (0 : Int) < (n : Int) by omega)
  unfold wthn
  omega
theorem within_ref (x : Int) (n : Nat) (hn : 1 ≤ n ∧ n ≤ 1099511627776) (w : World) : Calls Try.prog 12 #[.int .i64 x, .int .i64 n] w fun e w' => e = .returned (.int .i64 (wthn x n : Nat)) ∧ w = w' := by
  have hu : IntKind.u64.wrap (n : Int) = (n : Int) := by rw [IntKind.wrap_u64]; omega
  have hne : ((n : Int) == 0) = false := by rw [beq_eq_false_iff_ne]; omega
  have h0 : 0 ≤ IntKind.u64.wrap x := by rw [IntKind.wrap_u64]; omega
  go_enter Try.func12, Try.ntmps12
  go_wp2
  go_ret
  have h1 := Int.emod_nonneg (IntKind.u64.wrap x) (show (n : Int) ≠ 0 by omega)
  have h2 := Int.emod_lt_of_pos (IntKind.u64.wrap x) (show (0 : Int) < (n : Int) by omega)
  have h3 : wrap64 (IntKind.u64.wrap x % (n : Int)) = IntKind.u64.wrap x % (n : Int) := by
    unfold wrap64
    omega
  refine ⟨?_, rfl⟩
  unfold wthn
  rw [Int.toNat_of_nonneg h1]
  show Ending.returned (.int .i64 (wrap64 (IntKind.u64.wrap x % (n : Int)))) = _
  rw [h3]
end Go.Proofs.Ytkfomaoillnehaa

namespace Go.Proofs.Ytkfomaoillnehaa
open Go.RowKit
attribute [local go_sem] Oper.semAt_some

theorem IntsIn.nil (W : World) (k : IntKind) (a : Option Addr) : IntsIn W k a 0 [] := ⟨rfl, by omega, (fun x hx => (by cases hx)), 0, 0, fun h => absurd h (Nat.lt_irrefl 0), fun i hi => absurd hi (Nat.not_lt_zero i)⟩
theorem IntsIn.cell {W : World} {k : IntKind} {a : Option Addr} {l : Nat} {zs : List Int} (h : IntsIn W k a l zs) (hl : 0 < l) : ∃ b off, a = some ⟨b, off, none⟩ ∧ ∀ i, i < l → ∀ w, Kept W w → w.cell? ⟨b, off + i, none⟩ = some (.int k (zs.getD i 0)) := by
  obtain ⟨b, off, ha, hc⟩ := h.cells
  exact ⟨b, off, ha hl, fun i hi w kk => kk.cell (hc i hi).1 (hc i hi).2⟩

theorem ints_own {w : World} {base l : Nat} {e : TypeId} {v : Value} {xs : List Int} (ho : w.ownsRow base e 1 v l (xs.map (Value.int .i64))) (hl : xs.length = l) (wf : ∀ x ∈ xs, (Lit.int .i64 x).wf = true) :
    ∃ a cap, v = .slice a l cap ∧ l ≤ cap ∧ IntsIn w .i64 a l xs := by
  rcases ho.2 with ⟨rfl, rfl⟩ | ⟨g, cap, cur, rfl, hb, hg, hn, hm, _⟩
  · obtain rfl : xs = [] := List.length_eq_zero_iff.1 hl
    exact ⟨none, 0, rfl, Nat.le_refl _, IntsIn.nil _ _ _⟩
  · refine ⟨_, cap, rfl, hn, hl, by unfold maxLen at hm; omega, wf, g, 0, fun _ => rfl, fun i hi => ⟨(ho.lt g rfl).2, ?_⟩⟩
    rw [Nat.zero_add, ho.cellAt i (by omega)]
    have hi' : i < xs.length := by omega
    simp [List.getD, hi']
set_option maxRecDepth 100000 in
set_option maxHeartbeats 4000000 in
theorem copy_numbers (a : Option Addr) (l cap : Nat) (zs : List Int) (w : World) (h : IntsIn w .i64 a l zs) (hl : l ≤ 1000000) :
    Calls Try.prog 33 #[.slice a l cap] w fun e w' => ∃ a' cap', e = .returned (.slice a' l cap') ∧ w'.ownsRow w.heap.size 3 1 (.slice a' l cap') l (zs.map (Value.int .i64)) ∧ Kept w w' := by
  obtain ⟨i0, hi, hz0, hz1, hz2⟩ := info_parts Try.infoI
  have HL := Lib.hid h.len_eq
  have HWF := Lib.hid h.wf
  have HI := Lib.hid (And.intro hi (And.intro hz0 (And.intro hz1 hz2)))
  clear hi hz0 hz1 hz2
  go_enter Try.func33, Try.ntmps33
  go_wp2
  go_loopw [3, 4] (fun v i wr => ∃ k : Nat, k ≤ l ∧ i = .int .i64 k ∧ wr.ownsRow w.heap.size 3 1 v k ((zs.take k).map (Value.int .i64)) ∧ Kept w wr) (fun _ i _ => l - (intOf i).toNat)
  case atStart => exact ⟨0, by omega, rfl, World.ownsRow_nil _ _ _ _, Kept.refl _⟩
  case round =>
    obtain ⟨k, hk, rfl, hown, hK⟩ := hrel
    have HK := Lib.hid hK
    have HO := Lib.hid hown
    by_cases hlt : k < l
    · obtain ⟨b, off, ha, hc⟩ := h.cells
      obtain rfl := ha (by omega)
      have hck := hK.cell (hc k hlt).1 (hc k hlt).2
      have HT := Lib.hid (show zs.take (k + 1) = zs.take k ++ [zs.getD k 0] by rw [List.take_succ_eq_append_getElem (by have := HL.out; omega)]; congr 1; simp [List.getD, show k < zs.length by have := HL.out; omega])
      generalize zs.getD k 0 = t at *
      clear h hc ha hK hown
      go_wp2_with (at_builtin; refine wpList_append_own _ rfl _ _ 35 rfl w.heap.size 3 i0 (.int .i64 0) 1 8 Try.underlying35 HI.out.1 HI.out.2.1 HI.out.2.2.1 HI.out.2.2.2 rfl (by decide) _ _ _ rfl (HO.out.alloc _) ⟨wr.heap.size, 0, none⟩ 1 1 [.int .i64 t] rfl rfl ?c1 ?c2 ?c3 ?c4 ?c5 ?_)
      case c1 =>
        intro j u hj
        match j, hj with
        | 0, hj => simp at hj; subst hj; simp [Addr.add]
      case c2 => intro u hu; simp at hu; subst hu; rfl
      case c3 => unfold maxLen; omega
      case c4 => omega
      case c5 => have := HK.out.size; simp; omega
      intro v' w1 hown' hgrow _
      have HO' := Lib.hid hown'
      have HK' := Lib.hid (kept_grown (HK.out.alloc _) (HO.out.alloc _) hgrow)
      clear hown' hgrow
      go_wp2
      go_roundw
      case rel => exact ⟨k + 1, by omega, by go_num, by rw [HT.out, List.map_append, List.map_take]; exact HO'.out, HK'.out⟩
      case measure => simp [intOf]; omega
    · obtain rfl : k = l := by omega
      rw [List.take_of_length_le (Nat.le_of_eq HL.out)] at hown
      obtain ⟨a', cap', rfl, hcl⟩ := own_len hown
      have HF := Lib.hid hown
      clear h hK hown HO
      go_wp2
      go_ret
      exact ⟨a', cap', rfl, HF.out, HK.out⟩
set_option maxRecDepth 100000 in
set_option maxHeartbeats 4000000 in
theorem eq_numbers (a b : Option Addr) (l m ca cb : Nat) (xs ys : List Int) (w : World) (h : IntsIn w .i64 a l xs) (h2 : IntsIn w .i64 b m ys) :
    Calls Try.prog 34 #[.slice a l ca, .slice b m cb] w fun e w' => e = .returned (.bool (decide (xs = ys))) ∧ Kept w w' := by
  obtain ⟨D, hD⟩ : ∃ D : Bool, D = decide (xs = ys) := ⟨_, rfl⟩
  rw [← hD]
  have HD := Lib.hid hD
  have HL := Lib.hid h.len_eq
  have HM := Lib.hid h2.len_eq
  have hle := h.le
  have hle2 := h2.le
  clear hD
  by_cases hlm : l = m
  · obtain rfl : l = m := hlm
    have hgo : ∀ i : Nat, i < l → ∃ b1 o1 b2 o2, a = some ⟨b1, o1, none⟩ ∧ b = some ⟨b2, o2, none⟩ ∧ ∀ w', Kept w w' → w'.cell? ⟨b1, o1 + i, none⟩ = some (.int .i64 (xs.getD i 0)) ∧ w'.cell? ⟨b2, o2 + i, none⟩ = some (.int .i64 (ys.getD i 0)) := fun i hi => by
      obtain ⟨b1, o1, ha, hc⟩ := h.cell (by omega)
      obtain ⟨b2, o2, hb, hc2⟩ := h2.cell (by omega)
      exact ⟨b1, o1, b2, o2, ha, hb, fun w' k => ⟨hc i hi w' k, hc2 i hi w' k⟩⟩
    have HGO := Lib.hid hgo
    have hne : ((l : Int) != l) = false := by simp
    clear h h2 hgo
    go_enter Try.func34, Try.ntmps34
    go_wp2_with fail
    go_loopw [5] (fun i wr => ∃ k : Nat, k ≤ l ∧ i = .int .i64 k ∧ xs.take k = ys.take k ∧ Kept w wr) (fun i _ => l - (intOf i).toNat)
    case atStart => exact ⟨0, by omega, rfl, rfl, Kept.refl _⟩
    case round =>
      obtain ⟨k, hk, rfl, ht, hK⟩ := hrel
      have HT := Lib.hid ht
      have HK := Lib.hid hK
      clear ht hK
      by_cases hlt : k < l
      · obtain ⟨b1, o1, b2, o2, rfl, rfl, hc⟩ := HGO.out k hlt
        obtain ⟨c1, c2⟩ := hc _ HK.out
        have hki : (k : Int) < (l : Int) := by omega
        have HX := Lib.hid (show xs.take (k + 1) = xs.take k ++ [xs.getD k 0] by rw [List.take_succ_eq_append_getElem (by have := HL.out; omega)]; congr 1; simp [List.getD, show k < xs.length by have := HL.out; omega])
        have HY := Lib.hid (show ys.take (k + 1) = ys.take k ++ [ys.getD k 0] by rw [List.take_succ_eq_append_getElem (by have := HM.out; omega)]; congr 1; simp [List.getD, show k < ys.length by have := HM.out; omega])
        have HNE := Lib.hid (show xs.getD k 0 ≠ ys.getD k 0 → xs ≠ ys from fun h e => h (by rw [e]))
        generalize xs.getD k 0 = x at *
        generalize ys.getD k 0 = y at *
        clear hc
        by_cases hxy : x = y
        · subst hxy
          have hd : (x != x) = false := by simp
          go_wp2_with fail
          go_quiet (fail)
          go_wp2
          go_roundw
          case rel => exact ⟨k + 1, by omega, by go_num, by rw [HX.out, HY.out, HT.out], HK.out.drewN _⟩
          case measure => simp [intOf]; omega
        · have hd : (x != y) = true := by rw [bne_iff_ne]; exact hxy
          have hv : D = false := by rw [HD.out]; exact decide_eq_false (HNE.out hxy)
          have HV := Lib.hid hv
          clear hv hxy
          go_wp2_with fail
          go_quiet (fail)
          go_wp2
          go_ret
          exact ⟨by rw [HV.out]; rfl, HK.out.drewN _⟩
      · obtain rfl : l = k := by omega
        have hv : D = true := by
          have := HT.out
          rw [List.take_of_length_le (by have := HL.out; omega), List.take_of_length_le (by have := HM.out; omega)] at this
          rw [HD.out]; exact decide_eq_true this
        have HV := Lib.hid hv
        clear hv
        go_wp2
        go_ret
        exact ⟨by rw [HV.out]; rfl, HK.out⟩
  · have hv : D = false := by
      rw [HD.out]
      refine decide_eq_false fun e => hlm ?_
      rw [← HL.out, ← HM.out, e]
    have HV := Lib.hid hv
    have hne : ((l : Int) != m) = true := by rw [bne_iff_ne]; omega
    clear hv hlm h h2
    go_enter Try.func34, Try.ntmps34
    go_wp2
    go_ret
    exact ⟨by rw [HV.out]; rfl, Kept.refl _⟩
set_option maxRecDepth 100000 in
set_option maxHeartbeats 4000000 in
theorem between_md (n a b : Int) (w : World) : Calls Try.prog 10 #[.int .i64 n, .int .i64 a, .int .i64 b] w fun e w' => e = .returned (.bool (decide (a ≤ n) && decide (n ≤ b))) ∧ w = w' := by
  go_enter Try.func10, Try.ntmps10
  by_cases h : a ≤ n
  · go_wp2
    go_ret
    exact ⟨by simp [h], rfl⟩
  · have hd : decide (a ≤ n) = false := decide_eq_false h
    go_wp2
    go_ret
    exact ⟨rfl, rfl⟩
set_option maxRecDepth 100000 in
set_option maxHeartbeats 4000000 in
theorem num10_any (n : Int) (w : World) : Calls Try.prog 11 #[.int .i64 n] w fun e w' => e = .returned (.int .i64 n) ∧ w = w' := by
  go_enter Try.func11, Try.ntmps11
  go_wp2
  go_ret
  exact ⟨rfl, rfl⟩
/-- a text of just a sector's bytes -/
def sectorT (t : ByteArray) : ByteArray := (t ++ zeroT).extract 0 64
theorem sectorT_size (t : ByteArray) : (sectorT t).size = 64 := by
  unfold sectorT
  rw [ByteArray.size_extract, ByteArray.size_append, zeroT_size]
  omega
set_option maxRecDepth 100000 in
set_option maxHeartbeats 4000000 in
theorem sector_any (t : ByteArray) (ht : t.size ≤ 1000000) (w : World) : Calls Try.prog 21 #[.string t] w fun e w' => e = .returned (.string (sectorT t)) ∧ Kept w w' := by
  have hmb : ∀ u : World, (Instr.makeSlice 74 (.int .i64 64) (.int .i64 64)).run Try.prog u = .ok (.slice (some ⟨u.heap.size, 0, none⟩) 64 64) (u.alloc (.cells (madeCells #[.int .u8 0] 64) 5)) := makeB 64 (by omega)
  have hst := (madeB w 64).string (P := Try.prog) 74 9 5 Try.underlying74 Try.underlying5 Try.underlying9 64
  rw [List.length_replicate, bytes_zero] at hst
  have HK := Lib.hid ((Kept.refl w).alloc (.cells (madeCells #[.int .u8 0] 64) 5))
  have hA : ∀ w : World, (Op.stringOp .add t zeroT).run Try.prog w = .ok (.string (t ++ zeroT)) w := fun w => run_string_add_sum _ _ _ (by rw [zeroT_size]; omega)
  have hsz : 64 ≤ (t ++ zeroT).size := by rw [ByteArray.size_append, zeroT_size]; omega
  obtain ⟨U, hU⟩ : ∃ U, U = t ++ zeroT := ⟨_, rfl⟩
  have HU := Lib.hid (show sectorT t = U.extract 0 64 by rw [hU]; rfl)
  rw [← hU] at hA hsz
  clear hU
  go_enter Try.func21, Try.ntmps21
  go_wp2
  go_ret
  rw [HU.out]
  exact ⟨rfl, HK.out⟩
end Go.Proofs.Ytkfomaoillnehaa

namespace Go.Proofs.Ytkfomaoillnehaa
open Go.RowKit

/-- sectors are of 64 bytes; so is what lies in a cache -/
def okA (S : Arr) : Prop := ∀ d x, S.ds d = some x → ∀ i, i < S.n → (x.k i).size = 64 ∧ ((x.c i).size = 0 ∨ (x.c i).size = 64)
theorem okA.put {S : Arr} (h : okA S) (d : Nat) (y : Dsk) (hy : ∀ i, i < S.n → (y.k i).size = 64 ∧ ((y.c i).size = 0 ∨ (y.c i).size = 64)) : okA (putD S d y) := fun e x hx i hi => by
  by_cases q : e = d
  · subst q
    rw [show (putD S e y).ds e = some y from upF_same _ _ _] at hx
    cases hx
    exact hy i hi
  · rw [show (putD S d y).ds e = S.ds e from upF_other _ _ q] at hx
    exact h e x hx i hi
theorem okA.same {S T : Arr} (h : okA S) (e1 : T.ds = S.ds) (e2 : T.n = S.n) : okA T := fun d x hx i hi => h d x (by rw [← e1]; exact hx) i (by rw [← e2]; exact hi)
theorem okA.upd {f : Nat → ByteArray} {n j : Nat} {t : ByteArray} {P : ByteArray → Prop} (h : ∀ i, i < n → P (f i)) (ht : P t) : ∀ i, i < n → P (upF f j t i) := fun i hi => by
  by_cases q : i = j
  · subst q; rw [upF_same]; exact ht
  · rw [upF_other _ _ q]; exact h i hi
theorem freshD_ok : ∀ i, (freshD.k i).size = 64 ∧ ((freshD.c i).size = 0 ∨ (freshD.c i).size = 64) := fun _ => ⟨rfl, .inl rfl⟩
theorem newA_ok (m n : Nat) : okA (newA m n) := fun d x hx i hi => by cases hx; exact freshD_ok i
/-- what stays: the sizes; the counts are small -/
structure InvA (m n g : Nat) (S : Arr) : Prop where
  m : S.m = m
  n : S.n = n
  ok : okA S
  g : S.g ≤ g
  l : S.l ≤ 10
theorem InvA.chg {m n g : Nat} {S : Arr} (h : InvA m n g S) : InvA m n (g + 1) (chgA S) := ⟨h.m, h.n, h.ok.same rfl rfl, by show S.g + 1 ≤ g + 1; have := h.g; omega, by
  have := h.l
  show (if 0 < S.l then S.l - 1 else S.l) ≤ 10
  split <;> omega⟩
theorem InvA.more {m n g : Nat} {S : Arr} (h : InvA m n g S) : InvA m n (g + 1) S := ⟨h.m, h.n, h.ok, by have := h.g; omega, h.l⟩
theorem InvA.put {m n g : Nat} {S : Arr} (h : InvA m n g S) (d : Nat) (y : Dsk) (hy : ∀ i, i < S.n → (y.k i).size = 64 ∧ ((y.c i).size = 0 ∨ (y.c i).size = 64)) : InvA m n g (putD S d y) := ⟨h.m, h.n, h.ok.put d y hy, h.g, h.l⟩
theorem InvA.write {m n g : Nat} {S : Arr} (h : InvA m n g S) (d s : Int) (t : ByteArray) : InvA m n (g + 1) (writeA S d s t).1 := by
  unfold writeA
  split
  · exact h.more
  · split
    · exact h.more
    · rename_i ht
      split
      · split
        · exact h.more
        · rename_i x hx
          refine (h.put d.toNat ⟨x.k, upF x.c s.toNat t⟩ (fun i hi => ⟨(h.ok _ x hx i hi).1, ?_⟩)).chg
          exact okA.upd (P := fun b => b.size = 0 ∨ b.size = 64) (fun i hi => (h.ok _ x hx i hi).2) (.inr (by simpa using ht)) i hi
      · exact h.more
theorem InvA.flush {m n g : Nat} {S : Arr} (h : InvA m n g S) (d : Int) : InvA m n (g + 1) (flushA S d).1 := by
  unfold flushA
  split
  · exact h.more
  · split
    · split
      · exact h.more
      · rename_i x hx
        refine (h.put _ _ (fun i hi => ?_)).chg
        have hk := h.ok _ x hx i hi
        refine ⟨?_, ?_⟩
        · show (if i < S.n ∧ (x.c i).size ≠ 0 then x.c i else x.k i).size = 64
          split
          · rename_i q
            exact hk.2.resolve_left q.2
          · exact hk.1
        · show ((if i < S.n then ByteArray.empty else x.c i).size = 0 ∨ _)
          rw [if_pos hi]
          exact .inl rfl
    · exact h.more
theorem InvA.off {m n g : Nat} {S : Arr} (h : InvA m n g S) (z : Int) (hz : z ≤ 10) : InvA m n (g + 1) (offA S z) := by
  unfold offA
  split
  · exact h.more
  · exact ⟨h.m, h.n, h.ok.same rfl rfl, by have := h.g; show S.g ≤ g + 1; omega, by show max (-1) z ≤ 10; omega⟩
theorem crashR_ok (l : List Int) (x : Dsk) (j n : Nat) (hx : ∀ i, i < n → (x.k i).size = 64 ∧ ((x.c i).size = 0 ∨ (x.c i).size = 64)) : ∀ q, q ≤ n → ∀ i, i < n → ((crashR l x j q).1.k i).size = 64 ∧ (((crashR l x j q).1.c i).size = 0 ∨ ((crashR l x j q).1.c i).size = 64)
  | 0, _ => hx
  | q + 1, hq => by
    have ih := crashR_ok l x j n hx q (by omega)
    unfold crashR
    dsimp only
    split
    · exact ih
    · rename_i hz
      have h64 := (hx q (by omega)).2.resolve_left hz
      intro i hi
      dsimp only
      refine ⟨?_, okA.upd (P := fun b => b.size = 0 ∨ b.size = 64) (fun i hi => (ih i hi).2) (.inl rfl) i hi⟩
      split
      · exact okA.upd (P := fun b => b.size = 64) (fun i hi => (ih i hi).1) h64 i hi
      · exact (ih i hi).1
theorem crashD_ok (l : List Int) (n : Nat) (ds : Nat → Option Dsk) (h : ∀ d x, ds d = some x → ∀ i, i < n → (x.k i).size = 64 ∧ ((x.c i).size = 0 ∨ (x.c i).size = 64)) : ∀ k d x, (crashD l n ds k).1 d = some x → ∀ i, i < n → (x.k i).size = 64 ∧ ((x.c i).size = 0 ∨ (x.c i).size = 64)
  | 0 => h
  | k + 1 => by
    have ih := crashD_ok l n ds h k
    unfold crashD
    dsimp only
    split
    · exact ih
    · rename_i x hx
      intro d y hy
      dsimp only at hy
      by_cases q : d = k
      · subst q
        rw [upF_same] at hy
        cases hy
        exact crashR_ok l x _ n (h d x hx) n (Nat.le_refl _)
      · rw [upF_other _ _ q] at hy
        exact ih d y hy
theorem InvA.crash {m n g : Nat} {S : Arr} (h : InvA m n g S) (l : List Int) : InvA m n (g + 1) (crashA S l) := ⟨h.m, h.n, fun d x hx i hi => crashD_ok l S.n S.ds h.ok S.m d x hx i hi, by have := h.g; show S.g ≤ g + 1; omega, by show (-1 : Int) ≤ 10; omega⟩
theorem InvA.lose {m n g : Nat} {S : Arr} (h : InvA m n g S) (d : Int) : InvA m n (g + 1) (loseA S d).1 := by
  unfold loseA
  split
  · exact h.more
  · refine ⟨h.m, h.n, fun e x hx i hi => ?_, by have := h.g; show S.g ≤ g + 1; omega, h.l⟩
    by_cases q : e = d.toNat
    · subst q
      dsimp only at hx
      rw [upF_same] at hx
      cases hx
    · dsimp only at hx
      rw [upF_other _ _ q] at hx
      exact h.ok e x hx i hi
theorem InvA.repl {m n g : Nat} {S : Arr} (h : InvA m n g S) (d : Int) : InvA m n (g + 1) (replA S d).1 := by
  unfold replA
  split
  · exact h.more
  · exact (h.put _ _ (fun i _ => freshD_ok i)).more
theorem turnT_size (t : ByteArray) (b : Nat) : (turnT t b).size = t.size := by
  unfold turnT
  show (Array.size _) = _
  simp
theorem InvA.flip {m n g : Nat} {S : Arr} (h : InvA m n g S) (d b : Int) (hn : 1 ≤ n) : InvA m n (g + 1) (flipA S d b).1 := by
  unfold flipA
  split
  · exact h.more
  · split
    · exact h.more
    · split
      · exact h.more
      · rename_i x hx
        have hlt : b.toNat % (S.n * 512) / 512 < S.n := by
          have h1 := h.n
          have := Nat.mod_lt b.toNat (show 0 < S.n * 512 by omega)
          omega
        refine (h.put d.toNat ⟨upF x.k (b.toNat % (S.n * 512) / 512) (turnT (x.k (b.toNat % (S.n * 512) / 512)) (b.toNat % (S.n * 512) % 512)), x.c⟩ (fun i hi => ⟨okA.upd (P := fun b => b.size = 64) (fun i hi => (h.ok _ x hx i hi).1) (by rw [turnT_size]; exact (h.ok _ x hx _ hlt).1) i hi, (h.ok _ x hx i hi).2⟩)).more
/-- the array of the program, that of the reference; the blocks of the one are none of the other's, and lie from B on -/
structure Two (B : Nat) (W : World) (pa DA : Nat) (KA CA : Nat → Nat) (pr A D E : Nat) (KR CR : Nat → Nat) (S T : Arr) : Prop where
  a : ArP W pa DA KA CA S
  r : RfP W pr A D E KR CR T
  bw : B ≤ W.heap.size
  la : ∀ b, b = pa ∨ ArF DA KA CA S.m b → B ≤ b
  lr : ∀ b, RfF pr A D E KR CR T.m b → B ≤ b
  ap : ∀ b, (b = pa ∨ ArF DA KA CA S.m b) → ¬ RfF pr A D E KR CR T.m b
theorem RfP.foot_lt {w : World} {p A D E : Nat} {K C : Nat → Nat} {S : Arr} (h : RfP w p A D E K C S) (b : Nat) (hb : RfF p A D E K C S.m b) : b < w.heap.size := by
  obtain ⟨_, _, _, ht⟩ := h.top
  obtain ⟨c1, h1⟩ := h.r.lrow
  obtain ⟨c2, h2⟩ := h.r.drow
  obtain ⟨c3, h3⟩ := h.r.erow
  rcases hb with q | q | q | q | ⟨d, hd, q | q⟩
  · subst q; exact ht.lt
  · subst q; exact h1.lt
  · subst q; exact h2.lt
  · subst q; exact h3.lt
  · rw [q]; exact (h.r.lt d hd).1
  · rw [q]; exact (h.r.lt d hd).2
theorem RfP.butA {R : Nat → Prop} {w w' : World} {p A D E : Nat} {K C : Nat → Nat} {S : Arr} (h : RfP w p A D E K C S) (k : CellsBut R w w') (hr : ∀ b, RfF p A D E K C S.m b → ¬ R b) : RfP w' p A D E K C S := by
  obtain ⟨a1, a2, a3, ht⟩ := h.top
  exact ⟨⟨a1, a2, a3, ht.but k (hr p (.inl rfl))⟩, h.r.but k (fun b hb => .inr (hr b hb)) h.apart, h.m1, h.m2, h.n1, h.n2⟩
section
variable {B : Nat} {W W' : World} {pa DA : Nat} {KA CA KA' CA' : Nat → Nat} {pr A D E : Nat} {KR CR KR' CR' : Nat → Nat} {S T S' T' : Arr}
theorem Two.kept (h : Two B W pa DA KA CA pr A D E KR CR S T) (k : Kept W W') : Two B W' pa DA KA CA pr A D E KR CR S T := ⟨h.a.kept k, h.r.kept k, Nat.le_trans h.bw (Kept.size k), h.la, h.lr, h.ap⟩
theorem Two.opA (h : Two B W pa DA KA CA pr A D E KR CR S T) (ha : ArP W' pa DA KA' CA' S') (hn : ArN B W pa DA KA CA S.m W' KA' CA') (hm : S'.m = S.m) : Two B W' pa DA KA' CA' pr A D E KR CR S' T := by
  refine ⟨ha, h.r.butA hn.but (fun b hb q => h.ap b q hb), Nat.le_trans h.bw hn.but.size, fun b hb => ?_, h.lr, fun b hb q => ?_⟩
  · rcases hb with e | e | ⟨d, hd, e | e⟩
    · exact h.la b (.inl e)
    · exact h.la b (.inr (.inl e))
    · rcases (hn.new d (by omega)).1 with x | x
      · exact h.la b (.inr (.inr ⟨d, by omega, .inl (e.trans x)⟩))
      · have := h.bw; omega
    · rcases (hn.new d (by omega)).2 with x | x
      · exact h.la b (.inr (.inr ⟨d, by omega, .inr (e.trans x)⟩))
      · have := h.bw; omega
  · have hlt := h.r.foot_lt b q
    rcases hb with e | e | ⟨d, hd, e | e⟩
    · exact h.ap b (.inl e) q
    · exact h.ap b (.inr (.inl e)) q
    · rcases (hn.new d (by omega)).1 with x | x
      · exact h.ap b (.inr (.inr ⟨d, by omega, .inl (e.trans x)⟩)) q
      · omega
    · rcases (hn.new d (by omega)).2 with x | x
      · exact h.ap b (.inr (.inr ⟨d, by omega, .inr (e.trans x)⟩)) q
      · omega
theorem Two.opR (h : Two B W pa DA KA CA pr A D E KR CR S T) (hr : RfP W' pr A D E KR' CR' T') (hn : RfN B W pr A D E KR CR T.m W' KR' CR') (hm : T'.m = T.m) : Two B W' pa DA KA CA pr A D E KR' CR' S T' := by
  refine ⟨h.a.butA hn.but (fun b hb q => h.ap b hb q), hr, Nat.le_trans h.bw hn.but.size, h.la, fun b hb => ?_, fun b hb q => ?_⟩
  · rcases hb with e | e | e | e | ⟨d, hd, e | e⟩
    · exact h.lr b (.inl e)
    · exact h.lr b (.inr (.inl e))
    · exact h.lr b (.inr (.inr (.inl e)))
    · exact h.lr b (.inr (.inr (.inr (.inl e))))
    · rcases (hn.new d (by omega)).1 with x | x
      · exact h.lr b (.inr (.inr (.inr (.inr ⟨d, by omega, .inl (e.trans x)⟩))))
      · have := h.bw; omega
    · rcases (hn.new d (by omega)).2 with x | x
      · exact h.lr b (.inr (.inr (.inr (.inr ⟨d, by omega, .inr (e.trans x)⟩))))
      · have := h.bw; omega
  · have hlt := h.a.foot_lt b hb
    rcases q with e | e | e | e | ⟨d, hd, e | e⟩
    · exact h.ap b hb (.inl e)
    · exact h.ap b hb (.inr (.inl e))
    · exact h.ap b hb (.inr (.inr (.inl e)))
    · exact h.ap b hb (.inr (.inr (.inr (.inl e))))
    · rcases (hn.new d (by omega)).1 with x | x
      · exact h.ap b hb (.inr (.inr (.inr (.inr ⟨d, by omega, .inl (e.trans x)⟩))))
      · omega
    · rcases (hn.new d (by omega)).2 with x | x
      · exact h.ap b hb (.inr (.inr (.inr (.inr ⟨d, by omega, .inr (e.trans x)⟩))))
      · omega
/-- a block that is none of the array's stays -/
theorem ArN.block {b : Nat} {cs : Array Value} {t : TypeId} (hn : ArN B W pa DA KA CA S.m W' KA' CA') (ha : ArP W pa DA KA CA S) (hb : BlockAt W b cs t) (h2 : t ≠ 61) (h3 : t ≠ 58) (hlo : ∀ d, d < S.m → b ≠ KA d ∧ b ≠ CA d) : BlockAt W' b cs t := by
  obtain ⟨_, _, _, _, ht, _⟩ := ha.top
  obtain ⟨cr, hr⟩ := ha.r.row
  refine hb.but hn.but (fun q => ?_)
  rcases q with e | e | ⟨d, hd, e | e⟩
  · subst e; exact block_ne hb ht h3 rfl
  · subst e; exact block_ne hb hr h2 rfl
  · exact (hlo d hd).1 e
  · exact (hlo d hd).2 e
end
end Go.Proofs.Ytkfomaoillnehaa

namespace Go.Proofs.Ytkfomaoillnehaa
open Go.RowKit
attribute [local go_sem] Oper.semAt_some

/-- an act, as it is asked for -/
structure Ac where
  k : Int
  d : Int
  s : Int
  n : Int
  t : ByteArray
  l : List Int
def acC (x : Ac) (al : Option Addr) (cl : Nat) : Array Value := #[.int .i64 x.k, .int .i64 x.d, .int .i64 x.s, .int .i64 x.n, .string x.t, .slice al x.l.length cl]
theorem box6a {W : World} {b : Nat} {x0 x1 x2 x3 x4 x5 : Value} {t : TypeId} (h : BlockAt W b #[x0, x1, x2, x3, x4, x5] t) : W.cell? ⟨b, 0, none⟩ = some x0 ∧ W.cell? ⟨b, 1, none⟩ = some x1 ∧ W.cell? ⟨b, 2, none⟩ = some x2 ∧ W.cell? ⟨b, 3, none⟩ = some x3 ∧ W.cell? ⟨b, 4, none⟩ = some x4 ∧ W.cell? ⟨b, 5, none⟩ = some x5 :=
  ⟨h.cell 0, h.cell 1, h.cell 2, h.cell 3, h.cell 4, h.cell 5⟩
/-- what an act leaves: both arrays alike, blocks below B as they were -/
def DoesP (B : Nat) (W : World) (pa DA pr A D E m n g : Nat) (e : Ending) (W' : World) : Prop :=
  e = .returned (.bool true) ∧ Below B W W' ∧ ∃ KA CA KR CR S, Two B W' pa DA KA CA pr A D E KR CR S S ∧ InvA m n (g + 1) S
/-- numbers that an act bears -/
structure AcOk (W : World) (B : Nat) (x : Ac) (al : Option Addr) (cl : Nat) : Prop where
  k : -9223372036854775808 ≤ x.k ∧ x.k ≤ 9223372036854775807
  d : -9223372036854775808 ≤ x.d ∧ x.d ≤ 9223372036854775807
  s : -9223372036854775808 ≤ x.s ∧ x.s ≤ 9223372036854775807
  n : -9223372036854775808 ≤ x.n ∧ x.n ≤ 9223372036854775807
  t : x.t.size ≤ 1000000
  ll : x.l.length ≤ 1000000
  l : ∀ W', Below B W W' → IntsIn W' .i64 al x.l.length x.l
/-- ahead of both calls; behind that of the program; behind both -/
def Ph0 (B : Nat) (W : World) (pa DA : Nat) (KA CA : Nat → Nat) (pr A D E : Nat) (KR CR : Nat → Nat) (S : Arr) (px : Nat) (bx : Array Value) (w : World) : Prop := Two B w pa DA KA CA pr A D E KR CR S S ∧ BlockAt w px bx 37 ∧ Below B W w
def Ph1 (B : Nat) (W : World) (pa DA pr A D E : Nat) (KR CR : Nat → Nat) (S' S : Arr) (px : Nat) (bx : Array Value) (w : World) : Prop := (∃ KA' CA', Two B w pa DA KA' CA' pr A D E KR CR S' S) ∧ BlockAt w px bx 37 ∧ Below B W w
def Ph2 (B : Nat) (W : World) (pa DA pr A D E : Nat) (S' : Arr) (px : Nat) (bx : Array Value) (w : World) : Prop := (∃ KA' CA' KR' CR', Two B w pa DA KA' CA' pr A D E KR' CR' S' S') ∧ BlockAt w px bx 37 ∧ Below B W w
section
variable {B : Nat} {W w w' : World} {pa DA : Nat} {KA CA KA' CA' : Nat → Nat} {pr A D E : Nat} {KR CR KR' CR' : Nat → Nat} {S S' : Arr} {px : Nat} {bx : Array Value}
theorem Ph0.next (h : Ph0 B W pa DA KA CA pr A D E KR CR S px bx w) (hne : ∀ b, b = pa ∨ ArF DA KA CA S.m b → ¬ b = px) (ha : ArP w' pa DA KA' CA' S') (hn : ArN B w pa DA KA CA S.m w' KA' CA') (hm : S'.m = S.m) : Ph1 B W pa DA pr A D E KR CR S' S px bx w' :=
  ⟨⟨KA', CA', h.1.opA ha hn hm⟩, h.2.1.but hn.but (fun q => hne px q rfl), Below.trans h.2.2 hn.low⟩
theorem Ph1.next (h : Ph1 B W pa DA pr A D E KR CR S' S px bx w) (hne : ∀ b, RfF pr A D E KR CR S.m b → ¬ b = px) (hr : RfP w' pr A D E KR' CR' S') (hn : RfN B w pr A D E KR CR S.m w' KR' CR') (hm : S'.m = S.m) : Ph2 B W pa DA pr A D E S' px bx w' := by
  obtain ⟨⟨KA', CA', h1⟩, h2, h3⟩ := h
  exact ⟨⟨KA', CA', KR', CR', h1.opR hr hn hm⟩, h2.but hn.but (fun q => hne px q rfl), Below.trans h3 hn.low⟩
end
theorem i64_and3 (n : Int) : bits .and .i64 n 3 = n % 4 := by
  have h1 : (BitVec.ofInt 64 3).toNat = 2 ^ 2 - 1 := by decide
  have key : (BitVec.ofInt 64 n &&& BitVec.ofInt 64 3).toNat = (n % ((2 ^ 64 : Nat) : Int)).toNat % 2 ^ 2 := by
    rw [BitVec.toNat_and, BitVec.toNat_ofInt, h1, Nat.and_two_pow_sub_one_eq_mod]
  show IntKind.i64.wrap ((BitVec.ofInt 64 n &&& BitVec.ofInt 64 3).toNat : Nat) = n % 4
  rw [key, IntKind.wrap_i64]
  omega
set_option maxRecDepth 100000 in
set_option maxHeartbeats 4000000 in
theorem does_read {B : Nat} {W : World} {pa DA : Nat} {KA CA : Nat → Nat} {pr A D E : Nat} {KR CR : Nat → Nat} {S : Arr} {m n g : Nat} (h : Two B W pa DA KA CA pr A D E KR CR S S) (hi : InvA m n g S) (hg : g ≤ 1000) (hn1 : 1 ≤ n) (x : Ac) (al : Option Addr) (cl : Nat) (hx : AcOk W B x al cl) (hc : wthn x.k 15 = 0 ∨ wthn x.k 15 = 1 ∨ wthn x.k 15 = 2) : Calls Try.prog 14 #[.pointer (some ⟨pa, 0, none⟩), .pointer (some ⟨pr, 0, none⟩), .agg (acC x al cl)] W (DoesP B W pa DA pr A D E m n g) := by
  rcases hc with hc | hc | hc
  all_goals
    obtain ⟨xk, xd, xs, xn, xt, xl⟩ := x
    dsimp only at hc
    have HWI := Lib.hid (fun w => within_ref xk 15 (by omega) w)
    rw [hc] at HWI
    have HX := Lib.hid hx
    have HI := Lib.hid hi
    have H0 := Lib.hid h
    have hbw := h.bw
    have HG := Lib.hid (And.intro hg hn1)
    clear hc hx hi h hg hn1
    unfold acC DoesP
    dsimp only at HX ⊢
    go_enter Try.func14, Try.ntmps14
    go_upto_region 1 with (fail)
    have k1 := (Kept.refl W).alloc (.cells #[.int .i64 xk, .int .i64 xd, .int .i64 xs, .int .i64 xn, .string xt, .slice al xl.length cl] 37)
    have HT := Lib.hid (H0.out.kept k1)
    have HB := Lib.hid (BlockAt.new W #[.int .i64 xk, .int .i64 xd, .int .i64 xs, .int .i64 xn, .string xt, .slice al xl.length cl] 37)
    have HK := Lib.hid k1
    obtain ⟨px, hpx⟩ : ∃ px, px = W.heap.size := ⟨_, rfl⟩
    have HPX := Lib.hid hpx
    rw [← hpx] at HB ⊢
    clear k1 hpx
    generalize W.alloc (.cells #[.int .i64 xk, .int .i64 xd, .int .i64 xs, .int .i64 xn, .string xt, .slice al xl.length cl] 37) = w1 at *
    obtain ⟨b0, b1, b2, b3, b4, b5⟩ := box6a HB.out
    go_wp2_with fail
    refine (HWI.out _).mono ?_
    rintro e w2 ⟨rfl, rfl⟩
    clear HWI
    have HRA := Lib.hid (read_arr HT.out.a xd xs)
    go_wp2_with fail
    refine HRA.out.mono ?_
    rintro e w3 ⟨rfl, hk3⟩
    have HK3 := Lib.hid (HK.out.trans hk3)
    have HT3 := Lib.hid (HT.out.kept hk3)
    have HB3 := Lib.hid (HB.out.kept hk3)
    clear b0 b1 b2 b3 b4 b5 hk3 HRA HT HB
    obtain ⟨b0, b1, b2, b3, b4, b5⟩ := box6a HB3.out
    have HRR := Lib.hid (read_ar HT3.out.r xd xs)
    go_wp2_with fail
    refine HRR.out.mono ?_
    rintro e w4 ⟨rfl, hk4⟩
    have HK4 := Lib.hid (HK3.out.trans hk4)
    have HT4 := Lib.hid (HT3.out.kept hk4)
    clear b0 b1 b2 b3 b4 b5 hk4 HRR HT3 HB3
    generalize readA S xd xs = R at *
    obtain ⟨r1, r2⟩ := R
    go_wp2_with fail
    refine (num10_any r2 _).mono ?_
    rintro e w5 ⟨rfl, rfl⟩
    go_wp2
    go_ret
    exact ⟨rfl, Below.mono HK4.out hbw, KA, CA, KR, CR, S, HT4.out, HI.out.more⟩
end Go.Proofs.Ytkfomaoillnehaa

