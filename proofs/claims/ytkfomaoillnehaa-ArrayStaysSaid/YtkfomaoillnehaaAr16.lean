
/- Package array: New (no conditions). -/
import Derived.Test.YtkfomaoillnehaaAr15
import Derived.Maps.AppendAt
namespace Go.Proofs.Ytkfomaoillnehaa
open Go.RowKit
attribute [local go_sem] Oper.semAt_some

theorem step_append_own {P : Program} {ops : Array Oper} {o : Oper} {a : Act} {w : World} {K : Act → World → Prop} {Q : Exit → Act → World → Prop} {E : Prop} (hgd : o.guard = none) (s x : Operand) (t : TypeId)
    (ho : o.op = .call { callee := .builtin .append, args := #[s, x], argTypes := #[t, t] })
    (base : Nat) (e : TypeId) (i : TypeInfo) (z : Value) (size bytes : Nat) (ht : P.underlying t = some (.slice e)) (hi : P.info? e = some i) (hz : i.zero = some z)
    (hsize : i.size = size) (hby : i.bytes = bytes) (hzs : z.cells.size = size) (hsz : 0 < size)
    (v : Value) (n : Nat) (xs : List Value) (hs : a.eval s = v) (hown : w.ownsRow base e size v n xs)
    (ad : Addr) (m c : Nat) (news : List Value) (hx : a.eval x = .slice (some ad) m c) (hl : news.length = m * size) (hnews : ∀ j u, news[j]? = some u → w.cell? (ad.add j) = some u) (h1 : ∀ u ∈ news, u.oneCell' = true)
    (h63 : n + m ≤ maxLen) (hbytes : (n + m) * bytes ≤ 140737488355328) (hbase : base ≤ w.heap.size)
    (h : ∀ v' w', w'.ownsRow base e size v' (n + m) (xs ++ news) → w.grownBy w' v.ownBlock → K (a.put o.dst v') w') :
    if Region.wanted o (yielded ops a.tmps) = true then Oper.wp P o a w K Q else E := by
  have hw : Region.wanted o (yielded ops a.tmps) = true := by simp [Region.wanted, hgd]
  rw [if_pos hw]
  obtain ⟨v', w', hr, h2, h3, h4, h5⟩ := run_append_own_at (P := P) w base t o.type e i z size bytes ht hi hz hsize hby hzs hsz v n xs hown ad m c news hl hnews h1 h63 hbytes hbase
  unfold Oper.wp execOp
  simp only [ho, resolve, invoke, builtin, Sem.run_bind, Sem.run_pure, Result.andThen_ok, List.map_toArray, List.map_cons, List.map_nil, hs, hx, hr]
  exact h v' w' h2 h3
theorem Try.infoDiskZ : (Try.prog.info? 61).map (fun i => (i.zero, i.size, i.bytes)) = some (some (.agg #[.bool false, .slice none 0 0, .slice none 0 0]), 3, 56) := by kernel_rfl
/-- an array under way: k disks are made -/
structure NewI (W : World) (p n k : Nat) (v : Value) (K C : Nat → Nat) (w : World) : Prop where
  kp : Kept W w
  box : BlockAt w p #[v, .int .i64 n, .int .i64 0, .bool false, .bool false, .int .i64 0] 58
  own : w.ownsRow W.heap.size 61 3 v k ((List.range k).flatMap fun d => diskC (some freshD) (K d) (C d) n)
  tk : ∀ d, d < k → Txs w (K d) n (fun _ => zeroT) ∧ Txs w (C d) n (fun _ => ByteArray.empty)
  lo : ∀ d, d < k → W.heap.size ≤ K d ∧ W.heap.size ≤ C d
  kk : ∀ d e, d < k → e < k → d ≠ e → K d ≠ K e
  cc : ∀ d e, d < k → e < k → d ≠ e → C d ≠ C e
  kc : ∀ d e, d < k → e < k → K d ≠ C e
theorem Txs.gr {w w' : World} {b r : Nat} {G : Nat → ByteArray} {row : Option Nat} (h : Txs w b r G) (g : w.grownBy w' row) (hne : some b ≠ row) : Txs w' b r G := by
  obtain ⟨cs, hb⟩ := h.blk
  have hb' := hb.gr g hne
  exact ⟨⟨cs, hb'⟩, fun i hi => by rw [hb'.cell, ← hb.cell]; exact h.cell i hi⟩
theorem flatMap_upF (k n kb cb : Nat) (K C : Nat → Nat) : ((List.range (k + 1)).flatMap fun d => diskC (some freshD) (upF K k kb d) (upF C k cb d) n) = ((List.range k).flatMap fun d => diskC (some freshD) (K d) (C d) n) ++ diskC (some freshD) kb cb n := by
  rw [List.range_succ, List.flatMap_append]
  congr 1
  · refine congrArg List.flatten (List.map_congr_left fun d hd => ?_)
    have : d ≠ k := by have := List.mem_range.1 hd; omega
    rw [upF_other _ _ this, upF_other _ _ this]
  · simp [upF_same]
/-- one disk more: the world behind the call, the append, the store -/
theorem NewI.step {W w w3 w9 : World} {p n k : Nat} {v v9 : Value} {K C : Nat → Nat} {kb cb : Nat} (h : NewI W p n k v K C w) (hk : Kept w w3) (hp : W.heap.size ≤ p) (h1 : w.heap.size ≤ kb) (h2 : w.heap.size ≤ cb) (hne : kb ≠ cb)
    (tk : Txs w3 kb n (fun _ => zeroT)) (tc : Txs w3 cb n (fun _ => ByteArray.empty)) (ho : w9.ownsRow W.heap.size 61 3 v9 (k + 1) (((List.range k).flatMap fun d => diskC (some freshD) (K d) (C d) n) ++ diskC (some freshD) kb cb n)) (hg : w3.grownBy w9 v.ownBlock) :
    NewI W p n (k + 1) v9 (upF K k kb) (upF C k cb) (w9.setCell ⟨p, 0, none⟩ v9) := by
  have hrow : ∀ b cs t, BlockAt w b cs t → t ≠ 61 → some b ≠ v.ownBlock := fun b cs t hb ht => by
    rcases h.own.2 with ⟨e, _⟩ | ⟨q, cap, cur, e, _, hq, _⟩
    · rw [e]; intro x; cases x
    · rw [e]; intro x
      cases x
      exact block_ne hb hq ht rfl
  have hrow3 : ∀ b cs t, BlockAt w3 b cs t → t ≠ 61 → some b ≠ v.ownBlock := fun b cs t hb ht => by
    rcases (own_kept h.own hk).2 with ⟨e, _⟩ | ⟨q, cap, cur, e, _, hq, _⟩
    · rw [e]; intro x; cases x
    · rw [e]; intro x
      cases x
      exact block_ne hb hq ht rfl
  have hbx := (h.box.kept hk).gr hg (hrow3 _ _ _ (h.box.kept hk) (by decide))
  have kst := CellsBut.setCell (R := fun b => b = p) w9 v9 (i := 0) rfl
  have tx : ∀ b G, Txs w3 b n G → Txs (w9.setCell ⟨p, 0, none⟩ v9) b n G := fun b G ht => by
    obtain ⟨cs, hc⟩ := ht.blk
    exact (ht.gr hg (hrow3 _ _ _ hc (by decide))).but kst (block_ne hc (h.box.kept hk) (by decide))
  have lt : ∀ d, d < k → K d < w.heap.size ∧ C d < w.heap.size := fun d hd => ⟨(h.tk d hd).1.lt, (h.tk d hd).2.lt⟩
  have hws := Kept.size h.kp
  refine ⟨(kept_gr (h.kp.trans hk) hg (fun q e => (h.own.lt q e).1)).setCell hp _, ?_, ?_, fun d hd => ?_, fun d hd => ?_, fun d e hd he hn => ?_, fun d e hd he hn => ?_, fun d e hd he => ?_⟩
  · have := hbx.set (i := 0) v9
    simpa using this
  · rw [flatMap_upF]
    refine ho.kept (gr_set w9 p 0 v9) ?_
    rcases ho.2 with ⟨e3, _⟩ | ⟨q, cap, cur, e3, _, hq, _⟩
    · rw [e3]; exact .inl rfl
    · rw [e3]
      refine .inr fun e2 => ?_
      cases e2
      exact block_ne hq hbx (by decide) rfl
  · by_cases q : d = k
    · subst q; rw [upF_same, upF_same]; exact ⟨tx _ _ tk, tx _ _ tc⟩
    · rw [upF_other _ _ q, upF_other _ _ q]
      have := h.tk d (by omega)
      exact ⟨tx _ _ (this.1.kept hk), tx _ _ (this.2.kept hk)⟩
  · by_cases q : d = k
    · subst q; rw [upF_same, upF_same]; exact ⟨by omega, by omega⟩
    · rw [upF_other _ _ q, upF_other _ _ q]; exact h.lo d (by omega)
  · by_cases q : d = k
    · subst q
      have := lt e (by omega)
      rw [upF_same, upF_other _ _ (fun x => hn x.symm)]; omega
    · by_cases q2 : e = k
      · subst q2
        have := lt d (by omega)
        rw [upF_same, upF_other _ _ q]; omega
      · rw [upF_other _ _ q, upF_other _ _ q2]; exact h.kk d e (by omega) (by omega) hn
  · by_cases q : d = k
    · subst q
      have := lt e (by omega)
      rw [upF_same, upF_other _ _ (fun x => hn x.symm)]; omega
    · by_cases q2 : e = k
      · subst q2
        have := lt d (by omega)
        rw [upF_same, upF_other _ _ q]; omega
      · rw [upF_other _ _ q, upF_other _ _ q2]; exact h.cc d e (by omega) (by omega) hn
  · by_cases q : d = k
    · by_cases q2 : e = k
      · subst q; subst q2; rw [upF_same, upF_same]; exact hne
      · subst q
        have := lt e (by omega)
        rw [upF_same, upF_other _ _ q2]; omega
    · by_cases q2 : e = k
      · subst q2
        have := lt d (by omega)
        rw [upF_same, upF_other _ _ q]; omega
      · rw [upF_other _ _ q, upF_other _ _ q2]; exact h.kc d e (by omega) (by omega)
theorem range_flat3_len (f : Nat → List Value) (hf : ∀ d, (f d).length = 3) : ∀ k, ((List.range k).flatMap f).length = k * 3
  | 0 => rfl
  | k + 1 => by
    rw [List.range_succ, List.flatMap_append, List.length_append, range_flat3_len f hf k]
    simp [hf]; omega
theorem range_flat3 (f : Nat → List Value) (hf : ∀ d, (f d).length = 3) (k d j : Nat) (hd : d < k) (hj : j < 3) : ((List.range k).flatMap f)[d * 3 + j]? = (f d)[j]? := by
  induction k with
  | zero => omega
  | succ k ih =>
    have hl := range_flat3_len f hf k
    rw [List.range_succ, List.flatMap_append]
    by_cases q : d = k
    · subst q
      rw [List.getElem?_append_right (by rw [hl]; omega), hl, show d * 3 + j - d * 3 = j by omega]
      simp
    · rw [List.getElem?_append_left (by rw [hl]; omega), ih (by omega)]
/-- all disks are made -/
theorem NewI.done {W w : World} {p n m : Nat} {v : Value} {K C : Nat → Nat} (h : NewI W p n m v K C w) (hm : 1 ≤ m) (hm2 : m ≤ 12) (hn : 1 ≤ n) (hn2 : n ≤ 2048) : ∃ D, ArP w p D K C (newA m n) ∧ W.heap.size ≤ D := by
  obtain ⟨hl, ⟨_, e⟩ | ⟨g, cap, cur, rfl, hb, hg, hle, hcap, hsz, htk⟩⟩ := h.own
  · omega
  have hcl : ∀ d, d < m → ∀ j u, (diskC (some freshD) (K d) (C d) n)[j]? = some u → w.cell? ⟨g, d * 3 + j, none⟩ = some u := fun d hd j u hu => by
    have hj : j < 3 := by
      have := (List.getElem?_eq_some_iff.1 hu).1
      rwa [diskC_len] at this
    have h3 := range_flat3 (fun d => diskC (some freshD) (K d) (C d) n) (fun d => diskC_len _ _ _ _) m d j hd hj
    rw [hu] at h3
    rw [(show BlockAt w g cur 61 from hg).cell, ← h3, ← htk, List.getElem?_take, if_pos (by omega), Array.getElem?_toList]
  exact ⟨g, ⟨⟨cap, false, false, 0, h.box, .inr (.inl ⟨rfl, rfl, rfl⟩), by decide⟩, ⟨⟨_, hg⟩, fun d hd j u hu => hcl d hd j u hu, fun d hd x hx => by cases hx; exact (h.tk d hd).1, fun d hd x hx => by cases hx; exact (h.tk d hd).2, h.kk, h.cc, h.kc, fun d hd => ⟨(h.tk d hd).1.lt, (h.tk d hd).2.lt⟩⟩,
    fun d hd => ⟨by
      obtain ⟨cs, hc⟩ := (h.tk d hd).1.blk
      exact block_ne h.box hc (by decide), by
      obtain ⟨cs, hc⟩ := (h.tk d hd).2.blk
      exact block_ne h.box hc (by decide)⟩, hm, hm2, hn, hn2⟩, hb⟩
theorem slice_own9 {w : World} {base : Nat} {e : TypeId} {s n : Nat} {v : Value} {xs : List Value} (h : w.ownsRow base e s v n xs) : ∃ a cap, v = .slice a n cap := by
  obtain ⟨_, ⟨rfl, rfl⟩ | ⟨g, cap, cur, rfl, _⟩⟩ := h
  · exact ⟨_, _, rfl⟩
  · exact ⟨_, _, rfl⟩
theorem disk_new (w : World) (kb cb n : Nat) (t : TypeId) : ∀ j u, (diskC (some freshD) kb cb n)[j]? = some u → (w.alloc (.cells #[.bool true, .slice (some ⟨kb, 0, none⟩) n n, .slice (some ⟨cb, 0, none⟩) n n] t)).cell? ((⟨w.heap.size, 0, none⟩ : Addr).add j) = some u := fun j u hu => by
  rw [show (⟨w.heap.size, 0, none⟩ : Addr).add j = ⟨w.heap.size, j, none⟩ by unfold Addr.add; split <;> simp_all, cell_new]
  simpa [diskC] using hu
set_option maxRecDepth 100000 in
set_option maxHeartbeats 4000000 in
theorem new_bad (m n : Int) (hb : m < 1 ∨ 12 < m ∨ n < 1 ∨ 2048 < n) (w : World) : Calls Try.prog 9 #[.int .i64 m, .int .i64 n] w fun e w' => e = .returned (.tuple #[.pointer none, .int .i64 1]) ∧ Kept w w' := by
  by_cases h1 : m < 1
  · have d1 : decide (m < 1) = true := decide_eq_true h1
    go_enter Try.func9, Try.ntmps9
    go_wp2
    go_ret2
    exact ⟨rfl, Kept.refl _⟩
  · have d1 : decide (m < 1) = false := decide_eq_false h1
    by_cases h2 : 12 < m
    · have d2 : decide (12 < m) = true := decide_eq_true h2
      go_enter Try.func9, Try.ntmps9
      go_wp2
      go_ret2
      exact ⟨rfl, Kept.refl _⟩
    · have d2 : decide (12 < m) = false := decide_eq_false h2
      by_cases h3 : n < 1
      · have d3 : decide (n < 1) = true := decide_eq_true h3
        go_enter Try.func9, Try.ntmps9
        go_wp2
        go_ret2
        exact ⟨rfl, Kept.refl _⟩
      · have d3 : decide (n < 1) = false := decide_eq_false h3
        have d4 : decide (2048 < n) = true := decide_eq_true (by omega)
        go_enter Try.func9, Try.ntmps9
        go_wp2
        go_ret2
        exact ⟨rfl, Kept.refl _⟩
set_option maxRecDepth 100000 in
set_option maxHeartbeats 4000000 in
theorem new_good (m n : Nat) (hm : 1 ≤ m) (hm2 : m ≤ 12) (hn : 1 ≤ n) (hn2 : n ≤ 2048) (w : World) : Calls Try.prog 9 #[.int .i64 m, .int .i64 n] w fun e w' => ∃ p D K C, e = .returned (.tuple #[.pointer (some ⟨p, 0, none⟩), .int .i64 0]) ∧ Kept w w' ∧ ArP w' p D K C (newA m n) ∧ w.heap.size ≤ p ∧ w.heap.size ≤ D ∧ ∀ d, d < m → w.heap.size ≤ K d ∧ w.heap.size ≤ C d := by
  have d1 : decide ((m : Int) < 1) = false := decide_eq_false (by omega)
  have d2 : decide (12 < (m : Int)) = false := decide_eq_false (by omega)
  have d3 : decide ((n : Int) < 1) = false := decide_eq_false (by omega)
  have d4 : decide (2048 < (n : Int)) = false := decide_eq_false (by omega)
  obtain ⟨i0, hi, hz0, hz1, hz2⟩ := info_parts Try.infoDiskZ
  have HI := Lib.hid (And.intro hi (And.intro hz0 (And.intro hz1 hz2)))
  have HFR := Lib.hid (fun w => fresh_any n hn2 w)
  have HM := Lib.hid (And.intro hm (And.intro hm2 (And.intro hn hn2)))
  clear hi hz0 hz1 hz2 hm hm2 hn hn2
  go_enter Try.func9, Try.ntmps9
  go_upto_region 5 with (fail)
  have HN0 := Lib.hid (show NewI w w.heap.size n 0 (.slice none 0 0) (fun _ => 0) (fun _ => 0) (w.alloc (.cells #[.slice none 0 0, .int .i64 n, .int .i64 0, .bool false, .bool false, .int .i64 0] 58)) from
    ⟨(Kept.refl w).alloc _, BlockAt.new w _ _, ⟨rfl, .inl ⟨rfl, rfl⟩⟩, fun d hd => absurd hd (Nat.not_lt_zero d), fun d hd => absurd hd (Nat.not_lt_zero d), fun d e hd => absurd hd (Nat.not_lt_zero d), fun d e hd => absurd hd (Nat.not_lt_zero d), fun d e hd => absurd hd (Nat.not_lt_zero d)⟩)
  generalize w.alloc (.cells #[.slice none 0 0, .int .i64 n, .int .i64 0, .bool false, .bool false, .int .i64 0] 58) = w1 at *

  go_loopw [25] (fun i wr => ∃ (k : Nat) (v : Value) (K C : Nat → Nat), k ≤ m ∧ i = .int .i64 k ∧ NewI w w.heap.size n k v K C wr) (fun i _ => m - (intOf i).toNat)
  case atStart => exact ⟨0, _, _, _, by omega, rfl, HN0.out⟩
  case round =>
    obtain ⟨k, v, K, C, hk, rfl, hI⟩ := hrel
    have HL := Lib.hid hI
    clear hI HN0
    by_cases hlt : k < m
    · have hd1 : decide ((k : Int) < m) = true := decide_eq_true (by omega)
      have hb := HL.out.box
      obtain ⟨c0, c1, c2, c3, c4, c5⟩ := box6m hb
      have f0 := hb.free 0
      clear hb
      have hk12 := HM.out.2.1
      have HO := Lib.hid (fun w9 (kk : Kept wr w9) => own_kept HL.out.own kk)
      have mixed : Try.prog.follows Departure.mixedOrders = true := by kernel_rfl
      go_upto_region 6 with (fail)
      have hkd := (Kept.refl wr).drew
      go_region_law_o (first | (rw [if_pos (Pj.wanted_free rfl _)]; go_simp; refine (HFR.out _).mono ?_; rintro e w3 ⟨kb, cb, rfl, hk3, hb1, hb2, hne, htk, htc⟩; have hk3' := hkd.trans hk3; obtain ⟨c0, c1, c2, c3, c4, c5⟩ := box6m (HL.out.box.kept hk3'); have hkb := (Kept.refl w3).alloc (.cells #[.bool true, .slice (some ⟨kb, 0, none⟩) n n, .slice (some ⟨cb, 0, none⟩) n n] 61); obtain ⟨d0, d1, d2, d3, d4, d5⟩ := box6m (HL.out.box.kept (hk3'.trans hkb))) | (refine step_append_own rfl (.tmp 31) (.tmp 34) 56 rfl w.heap.size 61 i0 (.agg #[.bool false, .slice none 0 0, .slice none 0 0]) 3 56 Try.underlying56 HI.out.1 HI.out.2.1 HI.out.2.2.1 HI.out.2.2.2 rfl (by decide) v k ((List.range k).flatMap fun d => diskC (some freshD) (K d) (C d) n) rfl (HO.out _ (hk3'.trans hkb)) ⟨w3.heap.size, 0, none⟩ 1 1 (diskC (some freshD) kb cb n) rfl rfl (disk_new w3 kb cb n _) (by intro u hu; simp [diskC] at hu; rcases hu with rfl | rfl | rfl <;> rfl) (by unfold maxLen; omega) (by omega) (Kept.size (HL.out.kp.trans (hk3'.trans hkb))) ?_; intro v9 w9 hown hgr; obtain ⟨a9, c9, rfl⟩ := slice_own9 hown; have hb9 := (HL.out.box.kept (hk3'.trans hkb)).gr hgr (by have h := HO.out _ (hk3'.trans hkb); rcases h.2 with ⟨e, _⟩ | ⟨q, cap, cur, e, _, hq, _⟩ <;> rw [e] <;> intro x <;> cases x; exact block_ne (HL.out.box.kept (hk3'.trans hkb)) hq (by decide) rfl); obtain ⟨e0, e1, e2, e3, e4, e5⟩ := box6m hb9; have f9 := hb9.free 0))
      all_goals
        have HS := Lib.hid (HL.out.step (hk3'.trans hkb) (Nat.le_refl _) hb1 hb2 hne (htk.kept hkb) (htc.kept hkb) hown hgr)
        clear hown hgr hb9 e0 e1 e2 e3 e4 e5 f9 htk htc hkb hk3' hk3 hb1 hb2 hne c0 c1 c2 c3 c4 c5 f0
        generalize w9.setCell ⟨w.heap.size, 0, none⟩ (.slice a9 (k + 1) c9) = w5 at *
        go_wp2
        go_roundw
        case rel => exact ⟨k + 1, _, _, _, by omega, by go_num, HS.out⟩
        case measure => simp [intOf]; omega
    · obtain rfl : k = m := by omega
      have hd1 : decide ((k : Int) < k) = false := decide_eq_false (by omega)
      obtain ⟨D, hA, hD⟩ := HL.out.done HM.out.1 HM.out.2.1 HM.out.2.2.1 HM.out.2.2.2
      go_wp2
      go_ret2
      exact ⟨w.heap.size, D, K, C, rfl, HL.out.kp, hA, Nat.le_refl _, hD, HL.out.lo⟩
end Go.Proofs.Ytkfomaoillnehaa
