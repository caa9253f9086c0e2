/- A text fed to a Hash: (*digest.Hash).Write (of at most 2^48 bytes in all; both tables as they are laid, the Hash no part of them). -/
import Derived.Test.YtdllenoclnmmdaaDoorBl10
namespace Go.Proofs.YtdllenoclnmmdaaDoor
open Go.RowKit Go.Shelf
attribute [local go_sem] Oper.semAt_some
/-! the blocks of what is fed, of the whole text -/
theorem all_list (l : List UInt8) (s : ByteArray) : (restOf l ++ s).data.toList = (l ++ s.data.toList).drop (64 * Bl.ahead l.length) := by
  rw [ByteArray.data_append, Array.toList_append]
  show l.drop _ ++ _ = _
  rw [List.drop_append_of_le_length (by unfold Bl.ahead; omega)]
theorem all_size (l : List UInt8) (s : ByteArray) : 64 * Bl.ahead l.length + (restOf l ++ s).size = (l ++ s.data.toList).length := by
  have h := congrArg List.length (all_list l s)
  rw [Array.length_toList, List.length_drop] at h
  have h2 : (restOf l ++ s).data.size = (restOf l ++ s).size := rfl
  rw [h2] at h
  have h3 : 64 * Bl.ahead l.length ≤ l.length := by unfold Bl.ahead; omega
  rw [List.length_append] at h ⊢
  omega
theorem blk_all (l : List UInt8) (s : ByteArray) (x : Nat) : (blk (restOf l ++ s) x).data.toList = Bl.cut (l ++ s.data.toList) (64 * Bl.ahead l.length + x * 64) (64 * Bl.ahead l.length + min (x * 64 + 64) (restOf l ++ s).size) := by
  rw [blk_list, all_list, cut_drop]
theorem last_blk (l : List UInt8) (s : ByteArray) (x : Nat) (hx : x + 1 = nB (restOf l ++ s).size) : blk (restOf l ++ s) x = restOf (l ++ s.data.toList) := by
  have h := blk_all l s x
  have hz := all_size l s
  have hm : min (x * 64 + 64) (restOf l ++ s).size = (restOf l ++ s).size := by unfold nB at hx; omega
  rw [hm, hz] at h
  have ha : 64 * Bl.ahead l.length + x * 64 = 64 * Bl.ahead (l ++ s.data.toList).length := by
    rw [← hz]
    unfold nB at hx
    unfold Bl.ahead
    omega
  unfold Bl.cut at h
  rw [List.take_length, ha] at h
  apply ByteArray.ext
  apply Array.ext'
  rw [h]
  rfl
theorem next_sum (l : List UInt8) (s : ByteArray) (x : Nat) (hx : x + 1 < nB (restOf l ++ s).size) :
    Bl.block (Bl.sums (l ++ s.data.toList) (Bl.ahead l.length + x)) (blk (restOf l ++ s) x).data.toList (64 * Bl.ahead l.length + min (x * 64 + 64) (restOf l ++ s).size) false = Bl.sums (l ++ s.data.toList) (Bl.ahead l.length + (x + 1)) := by
  have hm : min (x * 64 + 64) (restOf l ++ s).size = x * 64 + 64 := by unfold nB at hx; omega
  rw [blk_all, hm, show 64 * Bl.ahead l.length + x * 64 = 64 * (Bl.ahead l.length + x) by omega, show 64 * Bl.ahead l.length + (x * 64 + 64) = 64 * (Bl.ahead l.length + x) + 64 by omega]
  rfl
theorem hsum_all (l : List UInt8) (s : ByteArray) (hx : nB (restOf l ++ s).size ≠ 0) : Bl.sums (l ++ s.data.toList) (Bl.ahead l.length + (nB (restOf l ++ s).size - 1)) = hsum (l ++ s.data.toList) := by
  unfold hsum
  rw [← all_size]
  congr 1
  unfold nB at hx ⊢
  unfold Bl.ahead
  omega
theorem hsum_start (l : List UInt8) (s : ByteArray) : Bl.sums (l ++ s.data.toList) (Bl.ahead l.length) = hsum l := sums_append _ _ _ (by unfold Bl.ahead; omega)
theorem row_part {w : World} {b : Nat} {C : Array Value} {t : TypeId} (h : BlockAt w b C t) : ∀ j x, C.toList[j]? = some x → w.cell? ((⟨b, 0, none⟩ : Addr).add j) = some x := by
  intro j x hj
  rw [add_none, Nat.zero_add, h.cell, ← Array.getElem?_toList]
  exact hj
theorem eight {v : List Nat} (h : Bl.W 8 v) : ∃ q0 q1 q2 q3 q4 q5 q6 q7, v = [q0, q1, q2, q3, q4, q5, q6, q7] := by
  obtain ⟨h1, _⟩ := h
  match v, h1 with
  | [a, b, c, d, e, f, g, i], _ => exact ⟨_, _, _, _, _, _, _, _, rfl⟩
theorem gr_thenB {w a b : World} {hb : Nat} {row : Option Nat} (h : w.grownBy a (some hb)) (g : a.grownBy b row) (hr : ∀ k, row = some k → w.heap.size ≤ k ∨ k = hb) : w.grownBy b (some hb) :=
  ⟨g.os.trans h.os, g.tape.trans h.tape, g.output.trans h.output, Nat.le_trans h.size g.size, fun k hk hne => (g.block k (Nat.lt_of_lt_of_le hk h.size) (fun e => by
    rcases hr k e.symm with q | q
    · omega
    · exact hne (by rw [q]))).trans (h.block k hk hne)⟩
theorem range_snoc {l : List Nat} {x n : Nat} (h : l ++ [x] = List.range (n + 1)) : l = List.range n ∧ x = n := by
  rw [List.range_succ] at h
  have q := List.append_inj' h rfl
  exact ⟨q.1, by simpa using q.2⟩
/-- what stands behind the blocks pre -/
def WrI (wo : World) (hb p ps : Nat) (all : ByteArray) (ah : Nat) (C : Array Value) (S : Nat → List Nat) (N : Nat) (pre : List Nat) (W : World) : Prop :=
  (BlockAt W p #[.pointer (some ⟨hb, 0, none⟩)] 64 ∧ BlockAt W (p + 1) #[.string all] 9 ∧ BlockAt W (p + 2) #[.int .i64 (ah : Int)] 3 ∧ BlockAt W hb C 56) ∧ wo.grownBy W (some hb) ∧
  (∃ v, Bl.W 8 v ∧ BlockAt W ps (cw v) 54 ∧ (pre = List.range pre.length → v = S pre.length)) ∧ (∀ y ∈ pre, y + 1 ≠ N)
/-- and behind the break -/
def WrX (wo : World) (hb p ps : Nat) (all : ByteArray) (ah : Nat) (C : Array Value) (S : Nat → List Nat) (N : Nat) (pre : List Nat) (W : World) : Prop :=
  (BlockAt W p #[.pointer (some ⟨hb, 0, none⟩)] 64 ∧ BlockAt W (p + 1) #[.string all] 9 ∧ BlockAt W (p + 2) #[.int .i64 (ah : Int)] 3 ∧ BlockAt W hb C 56) ∧ wo.grownBy W (some hb) ∧
  (∃ v, Bl.W 8 v ∧ BlockAt W ps (cw v) 54 ∧ (pre = List.range (pre.length - 1 + 1) → v = S (pre.length - 1))) ∧ (∃ y, pre.getLast? = some y ∧ y + 1 = N)
theorem WrI.own {wo : World} {hb p ps : Nat} {all : ByteArray} {ah : Nat} {C : Array Value} {S : Nat → List Nat} {N : Nat} {α : Type} {b : Nat} (hb' : wo.heap.size ≤ b) (g : List α → List Nat) : OwnFrom b (fun pre W => WrI wo hb p ps all ah C S N (g pre) W) := by
  refine OwnFrom.and (Own.from (fun s A B row hs hg hr => ⟨block_own hs.1 hg hr, block_own hs.2.1 hg hr, block_own hs.2.2.1 hg hr, block_own hs.2.2.2 hg hr⟩) _) (OwnFrom.and (ownFrom_grown hb') (OwnFrom.and (Own.from (fun s A B row hs hg hr => ?_) _) (Own.from (fun s A B row hs hg hr => hs) _)))
  obtain ⟨v, h1, h2, h3⟩ := hs
  exact ⟨v, h1, block_own h2 hg hr, h3⟩
theorem WrX.own {wo : World} {hb p ps : Nat} {all : ByteArray} {ah : Nat} {C : Array Value} {S : Nat → List Nat} {N : Nat} {α : Type} {b : Nat} (hb' : wo.heap.size ≤ b) (g : List α → List Nat) : OwnFrom b (fun pre W => WrX wo hb p ps all ah C S N (g pre) W) := by
  refine OwnFrom.and (Own.from (fun s A B row hs hg hr => ⟨block_own hs.1 hg hr, block_own hs.2.1 hg hr, block_own hs.2.2.1 hg hr, block_own hs.2.2.2 hg hr⟩) _) (OwnFrom.and (ownFrom_grown hb') (OwnFrom.and (Own.from (fun s A B row hs hg hr => ?_) _) (Own.from (fun s A B row hs hg hr => hs) _)))
  obtain ⟨v, h1, h2, h3⟩ := hs
  exact ⟨v, h1, block_own h2 hg hr, h3⟩
set_option maxRecDepth 100000 in
set_option maxHeartbeats 2000000 in
theorem write_any (l : List UInt8) (s : ByteArray) (hb : Nat) (w : World) (hH : HashAt w hb l) (hl : l.length + s.size ≤ 281474976710656) (hB : Begins w) (hO : Orders w) (h1 : hb ≠ 0) (h2 : hb ≠ 1) :
    Calls Tryd.prog 28 #[.pointer (some ⟨hb, 0, none⟩), .string s] w fun e w' => e = .returned (.tuple #[]) ∧ HashAt w' hb (l ++ s.data.toList) ∧ w.grownBy w' (some hb) := by
  obtain ⟨a, ha⟩ : ∃ a, a = Bl.ahead l.length := ⟨_, rfl⟩
  obtain ⟨r, hr⟩ : ∃ r, r = restOf l := ⟨_, rfl⟩
  obtain ⟨v, hv⟩ : ∃ v, v = begun (hsum l) := ⟨_, rfl⟩
  obtain ⟨n, hn⟩ : ∃ n, n = l.length := ⟨_, rfl⟩
  have hvo : Bl.W 8 v := by rw [hv]; exact begun_ok (hsum_ok l)
  have hH2 : BlockAt w hb (hcells v r n) 56 := by rw [hv, hr, hn]; exact hH
  have hrs : r.size + 64 * a = n := by
    rw [hr, ha, hn]
    show (List.drop _ _).toArray.size + _ = _
    rw [List.size_toArray, List.length_drop]
    unfold Bl.ahead
    omega
  have HH := Lib.hid hH2
  have HV := Lib.hid hv
  have HR := Lib.hid hr
  have HA := Lib.hid ha
  have HN := Lib.hid hn
  have HBG := Lib.hid hB
  have HOR := Lib.hid hO
  have HW := Lib.hid hvo
  have HL := Lib.hid hl
  have hbw : hb < w.heap.size := hH2.lt
  have hn48 : n + s.size ≤ 281474976710656 := by rw [hn]; exact hl
  clear hH hH2 hv hr ha hn hB hO hvo hl
  obtain ⟨all, hall⟩ : ∃ all, all = r ++ s := ⟨_, rfl⟩
  have HAL := Lib.hid hall
  have has : all.size = r.size + s.size := by rw [hall, ByteArray.size_append]
  have hadd : ∀ u : World, (Op.stringOp .add r s).run Tryd.prog u = .ok (.string all) u := fun u => by
    rw [hall]
    exact run_string_add_sum _ _ _ (by omega)
  clear hall
  refine callsIn_wide.1 (callsIn_of_wp_marks (n := 8) Tryd.func28 rfl trivial ?_ rfl)
  simp only [Tryd.ntmps28, List.size_toArray, List.length_nil, List.length_cons, Nat.reduceAdd, Nat.reduceSub, Array.replicate_succ, Array.replicate_zero, List.push_toArray, List.append_toArray, List.nil_append, List.cons_append]
  refine wpIn_wide.2 ?_
  go_upto_region 1 with (fail)
  obtain ⟨p, hp⟩ : ∃ p, p = w.heap.size := ⟨_, rfl⟩
  have HP0 := Lib.hid (BlockAt.new w #[.pointer (some ⟨hb, 0, none⟩)] 64)
  have HK1 := Lib.hid ((Kept.refl w).alloc (.cells #[.pointer (some ⟨hb, 0, none⟩)] 64))
  have HZ1 := Lib.hid (show p + 1 = (w.alloc (.cells #[.pointer (some ⟨hb, 0, none⟩)] 64)).heap.size by rw [hp]; simp)
  have HH1 := Lib.hid (HH.out.kept HK1.out)
  rw [← hp] at HP0 hbw ⊢
  have HP := Lib.hid hp
  clear hp HH
  generalize w.alloc (.cells #[.pointer (some ⟨hb, 0, none⟩)] 64) = w1 at *
  have c0 := box1 HP0.out
  have c8 := HH1.out.cell 8
  rw [hcells_8 HW.out] at c8
  go_step3
  go_upto_region 2 with (fail)
  have HT2 := Lib.hid (BlockAt.new w1 #[.string all] 9)
  have HP2 := Lib.hid (HP0.out.kept ((Kept.refl _).alloc (.cells #[.string all] 9)))
  have HH2 := Lib.hid (HH1.out.kept ((Kept.refl _).alloc (.cells #[.string all] 9)))
  have HK2 := Lib.hid (HK1.out.alloc (.cells #[.string all] 9))
  have HZ2 := Lib.hid (show p + 2 = (w1.alloc (.cells #[.string all] 9)).heap.size by have := HZ1.out; simp; omega)
  rw [← HZ1.out] at HT2 ⊢
  clear HP0 HH1 HK1 HZ1 hadd c0 c8
  generalize w1.alloc (.cells #[.string all] 9) = w2 at *
  have c0 := box1 HP2.out
  have c8 := HH2.out.cell 8
  rw [hcells_8 HW.out] at c8
  have c9 := HH2.out.cell 9
  rw [hcells_9 HW.out] at c9
  obtain ⟨ah, hah⟩ : ∃ ah, ah = 64 * a := ⟨_, rfl⟩
  have e1 : (n : Int) - (r.size : Int) = (ah : Int) := by omega
  have HAH := Lib.hid hah
  clear hah
  have k2z : Kept w2 (w2.alloc (.cells #[.int .i64 0] 3)) := (Kept.refl w2).alloc _
  have d0 := box1 (HP2.out.kept k2z)
  have d8 := (HH2.out.kept k2z).cell 8
  rw [hcells_8 HW.out] at d8
  have d9 := (HH2.out.kept k2z).cell 9
  rw [hcells_9 HW.out] at d9
  clear k2z
  go_wp2_with fail
  go_region
  have k3 : Kept w2 (w2.alloc (.cells #[.int .i64 (ah : Int)] 3)).drew := ((Kept.refl w2).alloc _).drew
  have HA3 := Lib.hid (show BlockAt (w2.alloc (.cells #[.int .i64 (ah : Int)] 3)).drew w2.heap.size #[.int .i64 (ah : Int)] 3 from BlockAt.new w2 #[.int .i64 (ah : Int)] 3)
  have HP3 := Lib.hid (HP2.out.kept k3)
  have HT3 := Lib.hid (HT2.out.kept k3)
  have HH3 := Lib.hid (HH2.out.kept k3)
  have HK3 := Lib.hid (HK2.out.trans k3)
  have HZ3 := Lib.hid (show p + 3 = (w2.alloc (.cells #[.int .i64 (ah : Int)] 3)).drew.heap.size by have := HZ2.out; simp; omega)
  rw [← HZ2.out] at HA3 ⊢
  clear HP2 HT2 HH2 HK2 HZ2 k3 c0 c8 c9 e1 d0 d8 d9
  generalize (w2.alloc (.cells #[.int .i64 (ah : Int)] 3)).drew = w3 at *
  have c0 := box1 HP3.out
  go_wp2_with (refine wpList_load_part rfl 54 (.tmp 27) rfl ⟨hb, 0, none⟩ rfl (cw v) _ (hash_part HW.out HH3.out) Tryd.underlying54 rfl (by rw [size8 HW.out]; exact Tryd.info8) ?_)
  refine (begun_any v HW.out w3 (HBG.out.kept HK3.out)).mono ?_
  rintro e w4 ⟨rfl, hk4⟩
  have hv0 : begun v = hsum l := by rw [HV.out]; exact begun_twice (hsum_ok l)
  rw [hv0]
  go_upto_region 4 with (first
    | (with_reducible refine wpList_alloc_block rfl 54 rfl z8 Tryd.zero8 ?_)
    | (refine wpList_store_block rfl 54 (.tmp 6) (.tmp 29) rfl w4.heap.size (cw (hsum l)) z8 54 rfl rfl (BlockAt.new _ _ _) (by rw [size8 (hsum_ok l)]; exact Tryd.info8) (by rw [size8 (hsum_ok l)]; exact z8_size) (cw_one _) ?_))
  obtain ⟨w5, hw5⟩ : ∃ w5, w5 = (w4.alloc (.cells z8 54)).setRow w4.heap.size (cw (hsum l)) := ⟨_, rfl⟩
  rw [← hw5]
  have k35 : Kept w3 w5 := by rw [hw5]; exact (hk4.alloc _).setRow hk4.size _
  have hs5 : BlockAt w5 w4.heap.size (cw (hsum l)) 54 := by rw [hw5]; exact (BlockAt.new w4 _ _).setRow _
  have hz5 : w5.heap.size = w4.heap.size + 1 := by rw [hw5]; simp [World.setRow]
  obtain ⟨ps, hps⟩ : ∃ ps, ps = w4.heap.size := ⟨_, rfl⟩
  have hpp : p + 3 ≤ ps := by rw [hps, HZ3.out]; exact hk4.size
  rw [← hps] at hs5 hz5 ⊢
  have HP5 := Lib.hid (HP3.out.kept k35)
  have HT5 := Lib.hid (HT3.out.kept k35)
  have HA5 := Lib.hid (HA3.out.kept k35)
  have HH5 := Lib.hid (HH3.out.kept k35)
  have HK5 := Lib.hid (HK3.out.trans k35)
  have HS5 := Lib.hid hs5
  have HZ5 := Lib.hid hz5
  clear hw5 k35 hs5 hz5 hps hk4 HP3 HT3 HA3 HH3 HK3 HZ3 c0 hv0
  have c0 := box1 HT5.out
  simp only [Act.put, List.setIfInBounds_toArray, List.set_cons_zero, List.set_cons_succ]
  refine wp_of_in 8 ?_
  refine wpIn_label ?_
  go_wp2_with fail
  refine (blocks_any _ _).mono ?_
  rintro e9 w7 ⟨rfl, hw7⟩
  have hk7 : Kept w5 w7 := by rw [hw7]; exact (Kept.refl _).alloc _
  have HX7 := Lib.hid (show BlockAt w7 (ps + 1) #[.string all] 9 by rw [hw7, ← HZ5.out]; exact BlockAt.new _ _ _)
  have HZ7 := Lib.hid (show ps + 2 = w7.heap.size by have := HZ5.out; rw [hw7]; simp; omega)
  rw [HZ5.out]
  have HP7 := Lib.hid (HP5.out.kept hk7)
  have HT7 := Lib.hid (HT5.out.kept hk7)
  have HA7 := Lib.hid (HA5.out.kept hk7)
  have HH7 := Lib.hid (HH5.out.kept hk7)
  have HK7 := Lib.hid (HK5.out.trans hk7)
  have HS7 := Lib.hid (HS5.out.kept hk7)
  clear hk7 hw7 HP5 HT5 HA5 HH5 HK5 HS5 HZ5 c0
  go_wp2_with fail
  refine wp_of_in 8 ?_
  have hrt : ¬ (ps + 1 = ps) := by omega
  have HAS := Lib.hid has
  have hab : all.size ≤ 281474976710656 := by omega
  clear has
  refine wpIn_rangeFunc_S rfl (by omega) (gf := 41) (lb := #[.pointer (some ⟨ps + 1, 0, none⟩)]) rfl trivial (enters_of Tryd.func41 (by kernel_rfl) rfl)
    (blocks_stops 7 (by omega) (fun g => g = ps) all (by omega) (ps + 1) w7 hrt HX7.out) (CellsBut.refl _) CellsBut.trans CellsBut.putObj (Below.refl _ _) (fun _ => rfl)
    (fun pre W => WrI w hb p ps all ah (hcells v r n) (fun k => Bl.sums (l ++ s.data.toList) (a + k)) (nB all.size) (ixs pre) W)
    (fun c pre W => c = .exit 0 ∧ WrX w hb p ps all ah (hcells v (restOf (l ++ s.data.toList)) n) (fun k => Bl.sums (l ++ s.data.toList) (a + k)) (nB all.size) (ixs pre) W)
    (WrI.own (by rw [← HZ7.out]; have := HP.out; omega) ixs) (fun c => OwnFrom.and (Own.from (fun s A B row hs hg hr => hs) _) (WrX.own (by rw [← HZ7.out]; have := HP.out; omega) ixs)) ?h0 ?round ?done ?stop
  case h0 => exact ⟨⟨HP7.out, HT7.out, HA7.out, HH7.out⟩, gr_kept HK7.out _, ⟨_, hsum_ok l, HS7.out, fun _ => by show hsum l = _; rw [HA.out, ← hsum_start l s]; rfl⟩, fun y hy => by cases hy⟩
  case round =>
    rintro l9 ⟨ii, hi⟩ W K hK
    have HK := Lib.hid hK
    clear hK
    obtain ⟨hi9, hhi⟩ : ∃ hi9, min (ii * 64 + 64) all.size = hi9 := ⟨_, rfl⟩
    obtain ⟨bb, hbb⟩ : ∃ bb, blk all ii = bb := ⟨_, rfl⟩
    have hbz : bb.size ≤ 64 := by rw [← hbb]; exact blk_size _ _
    simp only [hhi, hbb]
    have HHI := Lib.hid hhi
    have HBB := Lib.hid hbb
    have hlo : ii * 64 < all.size := nB_lt.1 hi
    have hhz : hi9 ≤ all.size := by omega
    clear hbb
    gi_wp2
    refine HK.out _ ?_
    clear HK
    rintro l9 pre W ⟨⟨hP, hT, hA, hH⟩, hG, ⟨v9, hv9, hS, hq⟩, hny⟩ hlen
    have HP9 := Lib.hid hP
    have HT9 := Lib.hid hT
    have HA9 := Lib.hid hA
    have HH9 := Lib.hid hH
    have HG9 := Lib.hid hG
    have HV9 := Lib.hid hv9
    have HS9 := Lib.hid hS
    have HQ9 := Lib.hid hq
    have HNY := Lib.hid hny
    have c0 := box1 hP
    have c1 := box1 hT
    have c2 := box1 hA
    clear hP hT hA hH hG hv9 hS hq hny
    by_cases q1 : ii + 1 = nB all.size
    · as_aux_lemma =>
        have hd1 : hi9 = all.size := by unfold nB at q1; omega
        have HBL := Lib.hid (show bb = restOf (l ++ s.data.toList) by rw [← HBB.out, HAL.out, HR.out]; exact last_blk l s ii (by rw [← HR.out, ← HAL.out]; exact q1))
        have HII := Lib.hid q1
        clear hhi q1
        obtain rfl := hd1
        have d0 := later_cell c0
        have d8 := HH9.out.cell 8
        rw [hcells_8 HW.out] at d8
        have d8 := later_cell d8
        have df : ∀ u : Later W, u.1.frozen? ⟨hb, 8, none⟩ = false := fun u => (HH9.out.kept u.2).free 8
        gi_wp2_with fail
        refine wpIn_region_later_tail 5 (by kernel_rfl) (by kernel_rfl) (by kernel_rfl) ?_
        simp only [List.take_succ_cons, List.take_zero, List.drop_succ_cons, List.drop_zero]
        repeat (gi_big_quiet_step ((gi_at_call 34; exact (CallsIn.inRound l9 (callsIn_wide.2 (later_call (clone_any bb _ (by omega))))).mono fun e w' h => h)))
        refine wpQuietIn_nil ?_
        intro _ hw'
        obtain ⟨nq, hw''⟩ := hw'
        subst hw''
        have k9 := nq.2
        obtain ⟨w9, hw9⟩ : ∃ w9, w9 = nq.1 := ⟨_, rfl⟩
        have e8 := d8 nq
        have ef := df nq
        rw [← hw9] at k9 e8 ef ⊢
        clear hw9 d0 d8 df c0 c1 c2
        gi_wp2
        refine ⟨(others_kept k9).trans (KeepsOthers.setCell _ _ _), rfl, ⟨(HP9.out.kept k9).setOther _ (by omega), (HT9.out.kept k9).setOther _ (by omega), (HA9.out.kept k9).setOther _ (by omega), ?_⟩, gr_trans HG9.out (gr_trans (gr_kept k9 _) (gr_set _ _ _ _)), ⟨v9, HV9.out, (HS9.out.kept k9).setOther _ (by omega), ?_⟩, ii, ?_, HII.out⟩
        · have q := (HH9.out.kept k9).set (i := 8) (.string bb)
          rw [hcells_rest HW.out, HBL.out] at q
          rw [← HBL.out] at q ⊢
          exact q
        · intro he
          rw [ixs_snoc, List.length_append] at he ⊢
          obtain ⟨g1, g2⟩ := range_snoc he
          rw [HQ9.out (by simpa using g1)]
          rfl
        · rw [ixs_snoc]; simp
    · as_aux_lemma =>
        have hd1 : ((hi9 : Int) == (all.size : Int)) = false := by rw [beq_eq_false_iff_ne]; unfold nB at q1 hi; omega
        obtain ⟨u, hu⟩ : ∃ u, u = ah + hi9 := ⟨_, rfl⟩
        have e1 : (ah : Int) + (hi9 : Int) = (u : Int) := by omega
        have hub : u < 9223372036854775808 := by have := HAH.out; omega
        have HU := Lib.hid hu
        have HII := Lib.hid q1
        clear hhi hu q1
        gi_wp2_with (refine wpListIn_load_row rfl 54 (.tmp 6) rfl ⟨ps, 0, none⟩ rfl (cw v9) _ (row_part HS9.out) Tryd.underlying54 rfl (by rw [size8 HV9.out]; exact Tryd.info8) ?_)
        have hbeg := HBG.out.gr HG9.out h1
        have hord := HOR.out.gr HG9.out h2
        have HTN := Lib.hid (turn_any v9 bb u false HV9.out hbz hub W hbeg hord)
        obtain ⟨v', hv'⟩ : ∃ v', v' = Bl.block v9 bb.data.toList u false := ⟨_, rfl⟩
        have HV' := Lib.hid hv'
        have HVO := Lib.hid (show Bl.W 8 v' by rw [hv']; exact Bl.block_ok HV9.out _ _ _)
        rw [← hv'] at HTN
        clear hv' hbeg hord c0 c1 c2 hd1 e1
        refine ((CallsIn.inRound l9 (callsIn_wide.2 HTN.out)).mono ?_)
        rintro e w9 ⟨rfl, k9⟩
        gi_wp2_with (refine wpListIn_store_row rfl 54 (.tmp 6) (.tmp 48) rfl ps (cw v') (cw v9) 54 rfl rfl (HS9.out.kept k9) (by rw [size8 HVO.out]; exact Tryd.info8) (by rw [size8 HVO.out, size8 HV9.out]) (cw_one _) ?_)
        refine ⟨(others_kept k9).trans (KeepsOthers.of_grownBy (grown_row _ _ _) (fun j o e ho => ?_)), (CellsBut.of_kept k9).trans (but_own (grown_row _ _ _) (fun k e => by cases e; rfl)), ⟨(HP9.out.kept k9).other _ (by omega), (HT9.out.kept k9).other _ (by omega), (HA9.out.kept k9).other _ (by omega), (HH9.out.kept k9).other _ (by omega)⟩, ?_, ⟨v', HVO.out, (HS9.out.kept k9).setRow _, ?_⟩, ?_⟩
        · cases e
          have hx : w9.heap[ps]? = some _ := HS9.out.kept k9
          rw [hx] at ho
          cases ho
          rfl
        · have kk := k9
          have hwp := HP.out
          have gg := HG9.out
          refine ⟨((grown_row w9 ps (cw v')).os.trans k9.os).trans gg.os, ((grown_row w9 ps (cw v')).tape.trans k9.tape).trans gg.tape, ((grown_row w9 ps (cw v')).output.trans k9.output).trans gg.output, Nat.le_trans gg.size (Nat.le_trans k9.size (grown_row w9 ps (cw v')).size), fun k hk hne => ?_⟩
          rw [(grown_row w9 ps (cw v')).block k (Nat.lt_of_lt_of_le hk (Nat.le_trans gg.size k9.size)) (fun e => by cases e; omega), Below.block k9 k (Nat.lt_of_lt_of_le hk gg.size)]
          exact gg.block k hk hne
        · intro he
          rw [ixs_snoc, List.length_append] at he ⊢
          obtain ⟨g1, g2⟩ := range_snoc he
          have hv9 := HQ9.out (by simpa using g1)
          rw [← g2] at hv9
          have hnx := next_sum l s ii (by rw [← HR.out, ← HAL.out]; have := HII.out; omega)
          rw [← HR.out, ← HAL.out, ← HA.out, HBB.out, HHI.out, ← HAH.out, ← HU.out] at hnx
          rw [HV'.out, hv9]
          show Bl.block (Bl.sums _ (a + ii)) _ _ _ = Bl.sums _ (a + ((ixs pre).length + 1))
          rw [← g2]
          exact hnx
        · intro y hy
          rw [ixs_snoc] at hy
          rcases List.mem_append.1 hy with h | h
          · exact HNY.out y h
          · obtain rfl := List.mem_singleton.1 h
            exact HII.out
  case done =>
    as_aux_lemma =>
      rintro D xs W hD hys ⟨⟨hP, _, _, hH⟩, hG, ⟨v9, hv9, hS, hq⟩, hny⟩ hK
      have hN : nB all.size = 0 := by
        rcases Nat.eq_zero_or_pos (nB all.size) with q | q
        · exact q
        · exact absurd (show nB all.size - 1 + 1 = nB all.size by omega) (hny (nB all.size - 1) (by rw [hys]; exact List.mem_range.2 (by omega)))
      have hz : s.size = 0 := by have := HAS.out; unfold nB at hN; omega
      have hsl : s.data.toList = [] := List.eq_nil_of_length_eq_zero (by rw [Array.length_toList]; exact hz)
      obtain ⟨L, hL⟩ : ∃ L, L = l ++ s.data.toList := ⟨_, rfl⟩
      have hLl : L = l := by rw [hL, hsl, List.append_nil]
      have hvL : v9 = hsum L := by
        rw [hq (by rw [hys, hN]; rfl), hys, hN]
        show Bl.sums (l ++ s.data.toList) (a + 0) = _
        rw [hLl, Nat.add_zero, HA.out]
        exact hsum_start l s
      rw [hvL] at hS
      obtain ⟨rX, hrX⟩ : ∃ rX, rX = r := ⟨_, rfl⟩
      rw [← hrX] at hH
      have HRX := Lib.hid (show rX = restOf L by rw [hrX, HR.out, hLl])
      have HLL := Lib.hid hL
      clear hL hLl hvL hq hny hys hN hz hsl hv9 hrX
      have HPd := Lib.hid hP
      have HHd := Lib.hid hH
      have HGd := Lib.hid hG
      have HSd := Lib.hid hS
      have HKd := Lib.hid hK
      have hDw : w.heap.size ≤ D := by have := HZ7.out; have := HP.out; omega
      have hbD : hb < D := by have := HP.out; omega
      have c0 := box1 hP
      obtain ⟨q0, q1, q2, q3, q4, q5, q6, q7, hq8⟩ := eight (hsum_ok L)
      have HQ8 := Lib.hid hq8
      rw [hq8] at hS
      have g0 : W.cell? ⟨ps, 0, none⟩ = some (.int .u32 (q0 : Nat)) := hS.cell 0
      have g1 : W.cell? ⟨ps, 1, none⟩ = some (.int .u32 (q1 : Nat)) := hS.cell 1
      have g2 : W.cell? ⟨ps, 2, none⟩ = some (.int .u32 (q2 : Nat)) := hS.cell 2
      have g3 : W.cell? ⟨ps, 3, none⟩ = some (.int .u32 (q3 : Nat)) := hS.cell 3
      have g4 : W.cell? ⟨ps, 4, none⟩ = some (.int .u32 (q4 : Nat)) := hS.cell 4
      have g5 : W.cell? ⟨ps, 5, none⟩ = some (.int .u32 (q5 : Nat)) := hS.cell 5
      have g6 : W.cell? ⟨ps, 6, none⟩ = some (.int .u32 (q6 : Nat)) := hS.cell 6
      have g7 : W.cell? ⟨ps, 7, none⟩ = some (.int .u32 (q7 : Nat)) := hS.cell 7
      have d0 := later_cell g0
      have d1 := later_cell g1
      have d2 := later_cell g2
      have d3 := later_cell g3
      have d4 := later_cell g4
      have d5 := later_cell g5
      have d6 := later_cell g6
      have d7 := later_cell g7
      have dp := later_cell c0
      have hbe : ∀ u : Later W, Calls Tryd.prog 35 #[.agg #[.int .u32 (q0 : Nat), .int .u32 (q1 : Nat), .int .u32 (q2 : Nat), .int .u32 (q3 : Nat), .int .u32 (q4 : Nat), .int .u32 (q5 : Nat), .int .u32 (q6 : Nat), .int .u32 (q7 : Nat)]] u.1 fun e w' => e = .returned (.agg (cw (begun (hsum L)))) ∧ Kept u.1 w' := fun u => by
        have q := begun_any (hsum L) (hsum_ok L) u.1 ((HBG.out.gr HGd.out h1).kept u.2)
        rw [HQ8.out] at q ⊢
        exact q
      have HBE := Lib.hid hbe
      clear hP hH hG hS hK hbe hq8 g0 g1 g2 g3 g4 g5 g6 g7
      go_wp2_with fail
      refine (wpIn_wide (n := 0)).1 ?_
      refine wpIn_region_later_tail 5 (by kernel_rfl) (by kernel_rfl) (by kernel_rfl) ?_
      simp only [List.take_succ_cons, List.take_zero, List.drop_succ_cons, List.drop_zero]
      repeat (gi_big_quiet_step ((gi_at_call 35; exact callsIn_wide.2 (later_call (HBE.out _)))))
      refine wpQuietIn_nil ?_
      intro _ hw'
      obtain ⟨nq, hw''⟩ := hw'
      subst hw''
      have k9 := nq.2
      obtain ⟨w9, hw9⟩ : ∃ w9, w9 = nq.1 := ⟨_, rfl⟩
      rw [← hw9] at k9 ⊢
      clear hw9 d0 d1 d2 d3 d4 d5 d6 d7 dp c0
      have hvo := begun_ok (hsum_ok L)
      gi_wp2_with (refine wpListIn_store_part rfl 54 (.tmp 53) (.tmp 51) rfl hb (cw (begun (hsum L))) (hcells v rX n) 56 rfl rfl (HHd.out.kept k9) (by rw [size8 hvo]; exact Tryd.info8) (by rw [size8 hvo, hcells_size HW.out]; omega) (cw_one _) ?_)
      rw [hcells_sums HW.out hvo]
      have hb10 := BlockAt.setRow (HHd.out.kept k9) (hcells (begun (hsum L)) rX n)
      have hp10 := (HPd.out.kept k9).other (g' := hb) (hcells (begun (hsum L)) rX n) (by omega)
      have hg10 : w.grownBy (w9.setRow hb (hcells (begun (hsum L)) rX n)) (some hb) := gr_thenB (gr_thenB HGd.out (gr_kept k9 none) (fun k e => by cases e)) (grown_row _ _ _) (fun k e => by cases e; exact .inr rfl)
      have hd10 : (w9.setRow hb (hcells (begun (hsum L)) rX n)).heap[D]? = some (.deferred (some [])) := ((grown_row w9 hb _).block D (Nat.lt_of_lt_of_le (Array.getElem?_eq_some_iff.1 HKd.out).1 k9.size) (fun e => by cases e; omega)).trans ((Below.block k9 D (Array.getElem?_eq_some_iff.1 HKd.out).1).trans HKd.out)
      have HB10 := Lib.hid hb10
      have HP10 := Lib.hid hp10
      have HG10 := Lib.hid hg10
      have HD10 := Lib.hid hd10
      have HVO := Lib.hid hvo
      clear hb10 hp10 hg10 hd10 k9 HKd HPd HHd HGd HSd hvo
      generalize w9.setRow hb (hcells (begun (hsum L)) rX n) = w10 at *
      have c0 := box1 HP10.out
      have c9 := HB10.out.cell 9
      rw [hcells_9 HVO.out] at c9
      have f9 := HB10.out.free 9
      obtain ⟨n2, hn2⟩ : ∃ n2, n2 = L.length := ⟨_, rfl⟩
      have e1 : (n : Int) + (s.size : Int) = (n2 : Int) := by
        have q := HLL.out
        have q2 := HN.out
        rw [hn2, q, List.length_append, ← q2, Array.length_toList]
        show (n : Int) + (s.data.size : Int) = _
        simp
      have HN2 := Lib.hid hn2
      clear hn2
      simp only [Act.put]
      go_wp2
      refine noGoto_normal ⟨by simp, .inl ⟨_, _, rfl, run_takeDeferred (show (w10.setCell ⟨hb, 9, none⟩ (.int .i64 (n2 : Int))).heap[D]? = some (.deferred (some [])) from ((gr_set w10 hb 9 _).block D (Array.getElem?_eq_some_iff.1 HD10.out).1 (fun e => by cases e; omega)).trans HD10.out), ?_⟩⟩
      refine ⟨.tuple #[], ?_, rfl, ?_, ?_⟩
      · simp [results, Tryd.f28, go_sem]
      · have q := HB10.out.set (i := 9) (.int .i64 (n2 : Int))
        rw [hcells_len HVO.out] at q
        have q2 := block_grown (row := some D) q (grown_put _ D (.deferred none)) (fun e => by cases e; omega)
        have e : hcells (begun (hsum L)) rX n2 = hcells (begun (hsum (l ++ s.data.toList))) (restOf (l ++ s.data.toList)) (l ++ s.data.toList).length := by rw [HN2.out, HRX.out, HLL.out]
        rw [e] at q2
        exact q2
      · exact gr_thenB (gr_thenB HG10.out (gr_set w10 hb 9 _) (fun k e => by cases e; exact .inr rfl)) (grown_put _ D _) (fun k e => by cases e; exact .inl hDw)
  case stop =>
    as_aux_lemma =>
      rintro D c pre W hD ⟨k, hk, hpre⟩ ⟨rfl, ⟨hP, _, _, hH⟩, hG, ⟨v9, hv9, hS, hq⟩, ⟨y, hy, hyN⟩⟩ hK
      obtain ⟨L, hL⟩ : ∃ L, L = l ++ s.data.toList := ⟨_, rfl⟩
      have hky : y = k := by rw [hpre, List.range_succ] at hy; simpa using hy.symm
      have hvL : v9 = hsum L := by
        rw [hq (by rw [hpre, List.length_range]; rfl), hpre, List.length_range]
        show Bl.sums (l ++ s.data.toList) (a + k) = _
        have q := hsum_all l s (by rw [← HR.out, ← HAL.out]; omega)
        rw [← HR.out, ← HAL.out, ← HA.out, show nB all.size - 1 = k by omega] at q
        rw [hL]
        exact q
      rw [hvL] at hS
      obtain ⟨rX, hrX⟩ : ∃ rX, rX = restOf (l ++ s.data.toList) := ⟨_, rfl⟩
      rw [← hrX] at hH
      have HRX := Lib.hid (show rX = restOf L by rw [hrX, hL])
      have HLL := Lib.hid hL
      clear hL hvL hq hy hyN hky hpre hk hv9 hrX
      gi_wp2
      have HPd := Lib.hid hP
      have HHd := Lib.hid hH
      have HGd := Lib.hid hG
      have HSd := Lib.hid hS
      have HKd := Lib.hid hK
      have hDw : w.heap.size ≤ D := by have := HZ7.out; have := HP.out; omega
      have hbD : hb < D := by have := HP.out; omega
      have c0 := box1 hP
      obtain ⟨q0, q1, q2, q3, q4, q5, q6, q7, hq8⟩ := eight (hsum_ok L)
      have HQ8 := Lib.hid hq8
      rw [hq8] at hS
      have g0 : W.cell? ⟨ps, 0, none⟩ = some (.int .u32 (q0 : Nat)) := hS.cell 0
      have g1 : W.cell? ⟨ps, 1, none⟩ = some (.int .u32 (q1 : Nat)) := hS.cell 1
      have g2 : W.cell? ⟨ps, 2, none⟩ = some (.int .u32 (q2 : Nat)) := hS.cell 2
      have g3 : W.cell? ⟨ps, 3, none⟩ = some (.int .u32 (q3 : Nat)) := hS.cell 3
      have g4 : W.cell? ⟨ps, 4, none⟩ = some (.int .u32 (q4 : Nat)) := hS.cell 4
      have g5 : W.cell? ⟨ps, 5, none⟩ = some (.int .u32 (q5 : Nat)) := hS.cell 5
      have g6 : W.cell? ⟨ps, 6, none⟩ = some (.int .u32 (q6 : Nat)) := hS.cell 6
      have g7 : W.cell? ⟨ps, 7, none⟩ = some (.int .u32 (q7 : Nat)) := hS.cell 7
      have d0 := later_cell g0
      have d1 := later_cell g1
      have d2 := later_cell g2
      have d3 := later_cell g3
      have d4 := later_cell g4
      have d5 := later_cell g5
      have d6 := later_cell g6
      have d7 := later_cell g7
      have dp := later_cell c0
      have hbe : ∀ u : Later W, Calls Tryd.prog 35 #[.agg #[.int .u32 (q0 : Nat), .int .u32 (q1 : Nat), .int .u32 (q2 : Nat), .int .u32 (q3 : Nat), .int .u32 (q4 : Nat), .int .u32 (q5 : Nat), .int .u32 (q6 : Nat), .int .u32 (q7 : Nat)]] u.1 fun e w' => e = .returned (.agg (cw (begun (hsum L)))) ∧ Kept u.1 w' := fun u => by
        have q := begun_any (hsum L) (hsum_ok L) u.1 ((HBG.out.gr HGd.out h1).kept u.2)
        rw [HQ8.out] at q ⊢
        exact q
      have HBE := Lib.hid hbe
      clear hP hH hG hS hK hbe hq8 g0 g1 g2 g3 g4 g5 g6 g7
      go_wp2_with fail
      refine (wpIn_wide (n := 0)).1 ?_
      refine wpIn_region_later_tail 5 (by kernel_rfl) (by kernel_rfl) (by kernel_rfl) ?_
      simp only [List.take_succ_cons, List.take_zero, List.drop_succ_cons, List.drop_zero]
      repeat (gi_big_quiet_step ((gi_at_call 35; exact callsIn_wide.2 (later_call (HBE.out _)))))
      refine wpQuietIn_nil ?_
      intro _ hw'
      obtain ⟨nq, hw''⟩ := hw'
      subst hw''
      have k9 := nq.2
      obtain ⟨w9, hw9⟩ : ∃ w9, w9 = nq.1 := ⟨_, rfl⟩
      rw [← hw9] at k9 ⊢
      clear hw9 d0 d1 d2 d3 d4 d5 d6 d7 dp c0
      have hvo := begun_ok (hsum_ok L)
      gi_wp2_with (refine wpListIn_store_part rfl 54 (.tmp 53) (.tmp 51) rfl hb (cw (begun (hsum L))) (hcells v rX n) 56 rfl rfl (HHd.out.kept k9) (by rw [size8 hvo]; exact Tryd.info8) (by rw [size8 hvo, hcells_size HW.out]; omega) (cw_one _) ?_)
      rw [hcells_sums HW.out hvo]
      have hb10 := BlockAt.setRow (HHd.out.kept k9) (hcells (begun (hsum L)) rX n)
      have hp10 := (HPd.out.kept k9).other (g' := hb) (hcells (begun (hsum L)) rX n) (by omega)
      have hg10 : w.grownBy (w9.setRow hb (hcells (begun (hsum L)) rX n)) (some hb) := gr_thenB (gr_thenB HGd.out (gr_kept k9 none) (fun k e => by cases e)) (grown_row _ _ _) (fun k e => by cases e; exact .inr rfl)
      have hd10 : (w9.setRow hb (hcells (begun (hsum L)) rX n)).heap[D]? = some (.deferred (some [])) := ((grown_row w9 hb _).block D (Nat.lt_of_lt_of_le (Array.getElem?_eq_some_iff.1 HKd.out).1 k9.size) (fun e => by cases e; omega)).trans ((Below.block k9 D (Array.getElem?_eq_some_iff.1 HKd.out).1).trans HKd.out)
      have HB10 := Lib.hid hb10
      have HP10 := Lib.hid hp10
      have HG10 := Lib.hid hg10
      have HD10 := Lib.hid hd10
      have HVO := Lib.hid hvo
      clear hb10 hp10 hg10 hd10 k9 HKd HPd HHd HGd HSd hvo
      generalize w9.setRow hb (hcells (begun (hsum L)) rX n) = w10 at *
      have c0 := box1 HP10.out
      have c9 := HB10.out.cell 9
      rw [hcells_9 HVO.out] at c9
      have f9 := HB10.out.free 9
      obtain ⟨n2, hn2⟩ : ∃ n2, n2 = L.length := ⟨_, rfl⟩
      have e1 : (n : Int) + (s.size : Int) = (n2 : Int) := by
        have q := HLL.out
        have q2 := HN.out
        rw [hn2, q, List.length_append, ← q2, Array.length_toList]
        show (n : Int) + (s.data.size : Int) = _
        simp
      have HN2 := Lib.hid hn2
      clear hn2
      simp only [Act.put]
      go_wp2
      refine noGoto_normal ⟨by simp, .inl ⟨_, _, rfl, run_takeDeferred (show (w10.setCell ⟨hb, 9, none⟩ (.int .i64 (n2 : Int))).heap[D]? = some (.deferred (some [])) from ((gr_set w10 hb 9 _).block D (Array.getElem?_eq_some_iff.1 HD10.out).1 (fun e => by cases e; omega)).trans HD10.out), ?_⟩⟩
      refine ⟨.tuple #[], ?_, rfl, ?_, ?_⟩
      · simp [results, Tryd.f28, go_sem]
      · have q := HB10.out.set (i := 9) (.int .i64 (n2 : Int))
        rw [hcells_len HVO.out] at q
        have q2 := block_grown (row := some D) q (grown_put _ D (.deferred none)) (fun e => by cases e; omega)
        have e : hcells (begun (hsum L)) rX n2 = hcells (begun (hsum (l ++ s.data.toList))) (restOf (l ++ s.data.toList)) (l ++ s.data.toList).length := by rw [HN2.out, HRX.out, HLL.out]
        rw [e] at q2
        exact q2
      · exact gr_thenB (gr_thenB HG10.out (gr_set w10 hb 9 _) (fun k e => by cases e; exact .inr rfl)) (grown_put _ D _) (fun k e => by cases e; exact .inl hDw)
end Go.Proofs.YtdllenoclnmmdaaDoor
