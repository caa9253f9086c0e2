
/- Package array: Dirty (conditions: the array lies as it should). -/
import Derived.Test.YtkfomaoillnehaaAr18
import Derived.Test.YtkfomaoillnehaaMarks
namespace Go.Proofs.Ytkfomaoillnehaa
open Go.RowKit Go.Shelf
attribute [local go_sem] Oper.semAt_some

theorem Turned.kept {Ds : List Nat} {w a b : World} (h : Turned Ds a b) (k : Kept w a) (hD : ∀ D, D ∈ Ds → w.heap.size ≤ D) : Kept w b :=
  ⟨h.os.trans (Below.os k), h.tape.trans (Below.tape k), h.output.trans (Below.output k), by rw [h.size]; exact Kept.size k, fun i hi => (h.block i (fun hm => by have := hD i hm; omega)).trans (Below.block k i hi)⟩
/-- what a range's own records leave of what was there -/
theorem oth_recs {w A A' : World} {B' : Nat} {row : Option Nat} (h : KeepsOthers w A) (g : A.grownBy A' row) (hr : ∀ r, row = some r → B' ≤ r ∧ ∃ o : Obj, A.heap[r]? = some o ∧ o.isCells = false) (hw2 : w.heap.size ≤ B') : KeepsOthers w A' :=
  ⟨Nat.le_trans h.size g.size, fun k o hk ho => (g.block k (Array.getElem?_eq_some_iff.1 (h.same k o hk ho)).1 (fun e => by have := (hr k e.symm).1; have := (Array.getElem?_eq_some_iff.1 hk).1; omega)).trans (h.same k o hk ho)⟩
/-- what cached goes through at a disk: the cache's sectors, or nothing, if it is lost -/
structure DskR (D : Nat) (C : Nat → Nat) (n k : Nat) (ds : Nat → Option Dsk) (N : Nat) (ad : Option Addr) (c : Nat → ByteArray) : Prop where
  le : N ≤ 2048
  lost : ds k = none → N = 0 ∧ ad = none
  live : ∀ x, ds k = some x → N = n ∧ ad = some ⟨C k, 0, none⟩ ∧ c = x.c
theorem dskR_ex (D : Nat) (C : Nat → Nat) (n k : Nat) (ds : Nat → Option Dsk) (hn : n ≤ 2048) : ∃ N ad c, DskR D C n k ds N ad c := by
  cases h : ds k with
  | none => exact ⟨0, none, fun _ => ByteArray.empty, Nat.zero_le _, fun _ => ⟨rfl, rfl⟩, fun x hx => by rw [h] at hx; cases hx⟩
  | some x => exact ⟨n, some ⟨C k, 0, none⟩, x.c, hn, fun hx => by (rw [h] at hx; cases hx), fun y hy => by rw [h] at hy; cases hy; exact ⟨rfl, rfl, rfl⟩⟩
/-- counting: the box; what was there is as it was -/
structure DiI (w wr : World) (pn v : Nat) (W : World) : Prop where
  kp : Kept w W
  box : BlockAt W pn #[.int .i64 ((v : Nat) : Int)] 3
  oth : KeepsOthers wr W
theorem DiI.own {w wr : World} {pn v B' : Nat} (hw : w.heap.size ≤ B') (hw2 : wr.heap.size ≤ B') : OwnN B' (DiI w wr pn v) := fun _ _ _ h g hr =>
  ⟨kept_gr h.kp g (fun r e => Nat.le_trans hw (hr r e).1), h.box.recs g hr, oth_recs h.oth g hr hw2⟩
theorem dirtyR_c (x y : Dsk) (h : x.c = y.c) : ∀ i, dirtyR x i = dirtyR y i
  | 0 => rfl
  | i + 1 => by
    show dirtyR x i + (if (x.c i).size = 0 then 0 else 1) = dirtyR y i + (if (y.c i).size = 0 then 0 else 1)
    rw [dirtyR_c x y h i, h]
theorem dirtyR_le (x : Dsk) : ∀ i, dirtyR x i ≤ i
  | 0 => Nat.le_refl _
  | i + 1 => by
    have := dirtyR_le x i
    unfold dirtyR
    split <;> omega
theorem dirtyD_le (n : Nat) (ds : Nat → Option Dsk) : ∀ i, dirtyD n ds i ≤ i * n
  | 0 => by simp [dirtyD]
  | i + 1 => by
    have := dirtyD_le n ds i
    unfold dirtyD
    rw [Nat.succ_mul]
    split
    · omega
    · rename_i x _
      have := dirtyR_le x n
      omega
set_option maxRecDepth 100000 in
set_option maxHeartbeats 4000000 in
theorem dirty_arr {w : World} {p D : Nat} {K C : Nat → Nat} {S : Arr} (h : ArP w p D K C S) :
    Calls Try.prog 24 #[.pointer (some ⟨p, 0, none⟩)] w fun e w' => e = .returned (.int .i64 ((dirtyA S : Nat) : Int)) ∧ Kept w w' := by
  have HP := Lib.hid h
  have hm := h.m2
  have hn2 := h.n2
  clear h
  refine callsIn_wide.1 (callsIn_of_wp_marks (n := 8) Try.func24 rfl trivial ?_ rfl)
  simp only [Try.ntmps24, List.size_toArray, List.length_nil, List.length_cons, Nat.reduceAdd, Nat.reduceSub, Array.replicate_succ, Array.replicate_zero, List.push_toArray, List.append_toArray, List.nil_append, List.cons_append]
  refine wpIn_wide.2 ?_
  go_upto_region 2 with (fail)
  have HK := Lib.hid ((Kept.refl w).alloc (.cells #[.int .i64 0] 3))
  have HB := Lib.hid (BlockAt.new w #[.int .i64 0] 3)
  obtain ⟨pn, hpn⟩ : ∃ pn, pn = w.heap.size := ⟨_, rfl⟩
  have hpn2 : w.heap.size ≤ pn := by omega
  rw [← hpn] at HB ⊢
  clear hpn
  generalize w.alloc (.cells #[.int .i64 0] 3) = w1 at *
  obtain ⟨cap, off, bound, left, hb, _⟩ := (HP.out.kept HK.out).top
  obtain ⟨c0, c1, c2, c3, c4, c5⟩ := box6m hb
  clear hb
  go_wp2_with fail
  refine wp_loop (fun a' W => ∃ Ds : List Nat, ∃ k : Nat, ∃ u4 u10 u11 u12 u13 u14 u15 u16 u17 u18 u19 u20 u21 u22 u23 u24 u25 : Value,
        (((Ds.Nodup ∧ ∀ D9, D9 ∈ Ds → w.heap.size ≤ D9 ∧ W.heap[D9]? = some (.deferred (some []))) ∧ (k ≤ S.m ∧ u10 = .int .i64 ((k : Nat) : Int) ∧ Kept w W ∧ BlockAt W pn #[.int .i64 ((dirtyD S.n S.ds k : Nat) : Int)] 3)) ∧
        a' = { tmps := #[.pointer (some ⟨p, 0, none⟩), undef, .int .i64 0, .pointer (some ⟨pn, 0, none⟩), u4, .pointer (some ⟨p, 0, none⟩), .pointer (some ⟨p, 0, none⟩), .pointer (some ⟨p, 0, none⟩), .slice (some ⟨D, 0, none⟩) S.m cap, .int .i64 S.m, u10, u11, u12, u13, u14, u15, u16, u17, u18, u19, u20, u21, u22, u23, u24, u25], defers := Ds.map mark }))
      (fun a' _ => S.m - (intOf (a'.tmps.getD 10 undef)).toNat) ?atStart ?round
  case atStart =>
    refine ⟨[], 0, ?_⟩
    (repeat apply Exists.intro)
    refine ⟨?_, rfl⟩
    exact ⟨⟨by simp, fun D9 hD => by cases hD⟩, by omega, rfl, HK.out, HB.out⟩
  case round =>
    rintro _ wr ⟨Ds, k, u4, u10, u11, u12, u13, u14, u15, u16, u17, u18, u19, u20, u21, u22, u23, u24, u25, ⟨⟨hnd, hds⟩, hrel⟩, rfl⟩
    have HND := Lib.hid hnd
    have HDS := Lib.hid hds
    clear hnd hds
    obtain ⟨hk, rfl, h1, h2⟩ := hrel
    have HK1 := Lib.hid h1
    have HB1 := Lib.hid h2
    clear h1 h2 c0 c1 c2 c3 c4 c5
    by_cases hlt : k < S.m
    · have hd1 : decide ((k : Int) < S.m) = true := decide_eq_true (by omega)
      have hp := HP.out.kept HK1.out
      obtain ⟨cap2, off, bound, left, hb, _⟩ := hp.top
      obtain ⟨c0, c1, c2, c3, c4, c5⟩ := box6m hb
      clear hb
      have HKR := Lib.hid (dskR_ex D C S.n k S.ds hn2)
      obtain ⟨N, ad, c, hdr⟩ := HKR.out
      have HDR := Lib.hid hdr
      have hN := hdr.le
      have HCM := Lib.hid (show ∀ W, Kept w W → ∀ i, CachM D (k * 3) ad N c i W from fun W kk i => by
        have hq := HP.out.kept kk
        cases hx : S.ds k with
        | none =>
          obtain ⟨e1, e2⟩ := HDR.out.lost hx
          subst e1 e2
          exact ⟨hq.r.cell k hlt 2 _ (by rw [hx]; rfl), fun j h1 h2 => absurd h2 (Nat.not_lt_zero j)⟩
        | some x =>
          obtain ⟨e1, e2, e3⟩ := HDR.out.live x hx
          subst e1 e2 e3
          exact ⟨hq.r.ccell hlt hx, fun j h1 h2 => ⟨_, rfl, (hq.r.cs k hlt x hx).cell j h2⟩⟩)
      have HCN := Lib.hid (show dirtyD S.n S.ds (k + 1) = dirtyD S.n S.ds k + dirtyR ⟨c, c⟩ N by
        show dirtyD S.n S.ds k + (match S.ds k with | none => 0 | some x => dirtyR x S.n) = _
        cases hx : S.ds k with
        | none =>
          obtain ⟨e1, e2⟩ := HDR.out.lost hx
          subst e1
          rfl
        | some x =>
          obtain ⟨e1, e2, e3⟩ := HDR.out.live x hx
          subst e1 e3
          exact congrArg _ (dirtyR_c x ⟨x.c, x.c⟩ rfl S.n))
      have hbd := dirtyD_le S.n S.ds k
      have hbd2 := Nat.mul_le_mul (show k ≤ 12 by omega) hn2
      clear HKR hdr hp
      go_wp2_with fail
      refine wp_of_in 8 ?_
      refine wpIn_range_N rfl (by omega) (gf := 46) (la := #[.pointer (some ⟨D, k * 3, none⟩)]) (lb := #[]) rfl trivial (enters_of Try.func46 (by kernel_rfl) rfl)
        (cached_stops 7 (by omega) D (k * 3) ad N c hN) (fun i v h => by unfold cacheX at h; split at h <;> cases h; rfl) (fun i => DiI w wr pn (dirtyD S.n S.ds k + dirtyR ⟨c, c⟩ i)) (fun i => DiI.own (Kept.size HK1.out) (Nat.le_refl _)) (fun i W h => HCM.out W h.kp i)
        (fun i W hi hc h => by
          have hz : (c i).size = 0 := by
            unfold cacheX at hc
            split at hc
            · assumption
            · cases hc
          have e : dirtyR ⟨c, c⟩ (i + 1) = dirtyR ⟨c, c⟩ i := by
            show dirtyR ⟨c, c⟩ i + (if (c i).size = 0 then 0 else 1) = _
            rw [if_pos hz]; rfl
          rw [e]; exact h) ⟨HK1.out, HB1.out, KeepsOthers.refl _⟩ ?round ?done
      case round =>
        rintro l i v W K2 hi hv hK
        have hc : (c i).size ≠ 0 := fun e => by
          rw [show cacheX c i = none from if_pos e] at hv
          cases hv
        rw [show cacheX c i = some #[.int .i64 ((i : Nat) : Int), .string (c i)] from if_neg hc] at hv
        cases hv
        have e : dirtyR ⟨c, c⟩ (i + 1) = dirtyR ⟨c, c⟩ i + 1 := by
          show dirtyR ⟨c, c⟩ i + (if (c i).size = 0 then 0 else 1) = _
          rw [if_neg hc]
        have hle := dirtyR_le ⟨c, c⟩ i
        obtain ⟨v0, hv0⟩ : ∃ v0, v0 = dirtyD S.n S.ds k + dirtyR ⟨c, c⟩ i := ⟨_, rfl⟩
        have HE := Lib.hid (show dirtyD S.n S.ds k + dirtyR ⟨c, c⟩ (i + 1) = v0 + 1 by omega)
        have hv1 : v0 ≤ 100000 := by omega
        rw [← hv0] at hK
        have HKK := Lib.hid hK
        clear hK hv0 hle e hbd hbd2
        gi_wp2
        refine HKK.out _ ?_
        clear HKK
        intro WR hF
        have HF := Lib.hid hF
        have b0 := box1 hF.box
        have f0 := hF.box.free 0
        clear hF
        gi_wp2
        rw [HE.out]
        exact ⟨KeepsOthers.setCell _ _ _, HF.out.kp.setCell (by omega) _, HF.out.box.set (i := 0) _, HF.out.oth.trans (KeepsOthers.setCell _ _ _)⟩
      case done =>
        rintro D9 W hD hS hdef
        rw [← HCN.out] at hS
        have HS := Lib.hid hS
        have HD9 := Lib.hid hdef
        clear hS hdef
        dsimp only
        go_wp2
        refine ⟨⟨D9 :: Ds, k + 1, ?_⟩, ?measure2⟩
        (repeat apply Exists.intro)
        refine ⟨?rel2, rfl⟩
        case rel2 =>
          have hlt9 : ∀ E, E ∈ Ds → E < wr.heap.size := fun E hE => (Array.getElem?_eq_some_iff.1 (HDS.out E hE).2).1
          refine ⟨⟨List.nodup_cons.2 ⟨fun h => by have := hlt9 D9 h; omega, HND.out⟩, fun E hE => ?_⟩, by omega, by go_num, HS.out.kp, HS.out.box⟩
          rcases List.mem_cons.1 hE with e | h
          · subst e
            exact ⟨Nat.le_trans (Kept.size HK1.out) hD, HD9.out⟩
          · exact ⟨(HDS.out E h).1, HS.out.oth.same _ _ (HDS.out E h).2 rfl⟩
        case measure2 => simp [intOf]; omega
    · obtain rfl : k = S.m := by omega
      have hd1 : decide ((S.m : Int) < S.m) = false := decide_eq_false (by omega)
      have b0 := box1 HB1.out
      go_wp2
      refine leaves_marks Ds wr HND.out (fun D9 hD => (HDS.out D9 hD).2) (fun W2 hT => ?_)
      exact ⟨_, results_tmp rfl _ _ _, rfl, hT.kept HK1.out (fun D9 hD => (HDS.out D9 hD).1)⟩
end Go.Proofs.Ytkfomaoillnehaa
