/- matrix.reduce, by what it answers (sides within bounds, numbers below 256). -/
import Derived.Test.YtlpjpeonejbpjaaMatPv
import Derived.Test.YtlpjpeonejbpjaaMarks
import Derived.Test.YtlpjpeonejbpjaaFieldB
namespace Go.Proofs.Ytlpjpeonejbpjaa
open Go.RowKit Go.Shelf
attribute [local go_sem] Oper.semAt_some

theorem Mat.turned {Ds : List Nat} {w w' : World} {b off r c : Nat} {F : Nat → Nat → Nat} (h : Mat w b off r c F) (g : Turned Ds w w') (hb : b ∉ Ds) : Mat w' b off r c F := by
  obtain ⟨cs, hk⟩ := h.blk
  exact ⟨⟨cs, hk.turned g hb⟩, fun i j hi hj => (World.cell?_of_block (a := ⟨b, off + i * c + j, none⟩) (g.block b hb)).trans (h.cell i j hi hj)⟩
/-- the column's other numbers made 0, row by row in whatever order -/
def eStep (t col : Nat) (G : Nat → Nat → Nat) (n : Nat) : Nat → Nat → Nat := if n = t then G else addF G n t (G n col)
def eAll (F : Nat → Nat → Nat) (t col : Nat) (l : List Nat) : Nat → Nat → Nat := l.foldl (eStep t col) F
theorem eAll_snoc (F : Nat → Nat → Nat) (t col : Nat) (l : List Nat) (n : Nat) : eAll F t col (l ++ [n]) = eStep t col (eAll F t col l) n := by simp [eAll]
theorem eAll_range (F : Nat → Nat → Nat) (t col : Nat) : ∀ n, eAll F t col (List.range n) = elimTo F t col n
  | 0 => (elimTo_zero F t col).symm
  | n + 1 => by
    rw [List.range_succ, eAll_snoc, eAll_range F t col n]
    unfold eStep
    by_cases h : n = t
    · subst h; rw [if_pos rfl, elimTo_top]
    · rw [if_neg h, elimTo_at, elimTo_succ F t col n h]
theorem eAll_bt {F : Nat → Nat → Nat} (hF : Bt F) (t col : Nat) : ∀ l, Bt (eAll F t col l) := by
  have gen : ∀ (l : List Nat) (F : Nat → Nat → Nat), Bt F → Bt (l.foldl (eStep t col) F) := by
    intro l
    induction l with
    | nil => intro F h; exact h
    | cons i l ih =>
      intro F h
      refine ih _ ?_
      unfold eStep; split
      · exact h
      · exact h.add _ _ _
  exact fun l => gen l F hF
theorem addF_zero (G : Nat → Nat → Nat) (a t : Nat) : addF G a t 0 = G := by
  funext i j
  unfold addF
  by_cases h : i = a
  · rw [if_pos h, Gf.mul_zero, Nat.xor_zero, h]
  · rw [if_neg h]

set_option maxRecDepth 100000 in
set_option maxHeartbeats 4000000 in
theorem reduce_any (r c b off cap cols : Nat) (F : Nat → Nat → Nat) (hr : r ≤ 16) (hc : 1 ≤ c ∧ c ≤ 32) (hcap : r * c ≤ cap) (hcol : cols ≤ c) (hF : Bt F) (w : World) (hm : Mat w b off r c F) :
    Calls Try.prog 72 #[.agg #[.int .i64 r, .int .i64 c, .slice (some ⟨b, off, none⟩) (r * c) cap], .int .i64 cols] w fun e w' => e = .returned (.int .i64 ((redTo r F cols).1 : Nat)) ∧ Mat w' b off r c (redTo r F cols).2 ∧ w.grownBy w' (some b) := by
  have HM := Lib.hid hm
  have hbw := hm.lt
  clear hm
  refine callsIn_wide.1 (callsIn_of_wp_marks (n := 8) Try.func72 rfl trivial ?_ rfl)
  simp only [Try.ntmps72, List.size_toArray, List.length_nil, List.length_cons, Nat.reduceAdd, Nat.reduceSub, Array.replicate_succ, Array.replicate_zero, List.push_toArray, List.append_toArray, List.nil_append, List.cons_append]
  refine wpIn_wide.2 ?_
  go_wp2_with fail
  go_step3
  go_wp2_with fail
  go_step3
  go_wp2_with fail
  refine wp_loop (fun a' W => ∃ Ds : List Nat, ∃ k : Nat, ∃ u6 u7 u8 u9 u10 u11 u12 u14 u15 u16 u17 u18 u19 u20 u21 u22 u23 u24 u25 u26 u27 u28 u29 u30 u31 u32 u33 u34 u35 u36 u37 u38 u39 u40 u41 u42 u43 u44 u45 u46 u47 u48 u49 u50 u51 u52 u53 u54 u55 u56 u57 u58 u59 u60 u61 u62 u63 u64 u65 u66 : Value, 
      ((k ≤ cols ∧ u14 = .int .i64 (k : Nat) ∧ (Ds.Nodup ∧ ∀ D, D ∈ Ds → w.heap.size ≤ D ∧ W.heap[D]? = some (.deferred (some []))) ∧ BlockAt W w.heap.size #[.int .i64 r, .int .i64 c, .slice (some ⟨b, off, none⟩) (r * c) cap] 50 ∧
        BlockAt W (w.heap.size + 1) #[.int .i64 ((redTo r F k).1 : Nat)] 3 ∧ Mat W b off r c (redTo r F k).2 ∧ w.grownBy W (some b)) ∧
      a' = { tmps := #[.agg #[.int .i64 r, .int .i64 c, .slice (some ⟨b, off, none⟩) (r * c) cap], .int .i64 cols, .pointer (some ⟨w.heap.size, 0, none⟩), undef, .int .i64 0, .pointer (some ⟨w.heap.size + 1, 0, none⟩), u6, u7, u8, u9, u10, u11, u12, .int .i64 cols, u14, u15, u16, u17, u18, u19, u20, u21, u22, u23, u24, u25, u26, u27, u28, u29, u30, u31, u32, u33, u34, u35, u36, u37, u38, u39, u40, u41, u42, u43, u44, u45, u46, u47, u48, u49, u50, u51, u52, u53, u54, u55, u56, u57, u58, u59, u60, u61, u62, u63, u64, u65, u66], defers := Ds.map mark }))
    (fun a' _ => cols - (intOf (a'.tmps.getD 14 undef)).toNat) ?atStart ?round
  case atStart =>
    refine ⟨[], 0, ?_⟩
    (repeat apply Exists.intro)
    refine ⟨?_, rfl⟩
    have hk : Kept w ((w.alloc (.cells #[.int .i64 r, .int .i64 c, .slice (some ⟨b, off, none⟩) (r * c) cap] 50)).alloc (.cells #[.int .i64 0] 3)) := ((Kept.refl w).alloc _).alloc _
    exact ⟨by omega, rfl, ⟨by simp, fun D hD => by cases hD⟩, (BlockAt.new w _ _).kept ((Kept.refl _).alloc _), BlockAt.new1 w _ _ _, HM.out.kept hk, grown_kept hk _⟩
  case round =>
    rintro _ wr ⟨Ds, k, u6, u7, u8, u9, u10, u11, u12, u14, u15, u16, u17, u18, u19, u20, u21, u22, u23, u24, u25, u26, u27, u28, u29, u30, u31, u32, u33, u34, u35, u36, u37, u38, u39, u40, u41, u42, u43, u44, u45, u46, u47, u48, u49, u50, u51, u52, u53, u54, u55, u56, u57, u58, u59, u60, u61, u62, u63, u64, u65, u66, ⟨hk, rfl, ⟨hnd, hds⟩, h2, h5, hmr, hgr⟩, rfl⟩
    have HND := Lib.hid hnd
    have HDS := Lib.hid hds
    have H2 := Lib.hid h2
    have H5 := Lib.hid h5
    have HMR := Lib.hid hmr
    have HGR := Lib.hid hgr
    have hbt := redTo_bt r F hF k
    have hrk := redTo_le r F k
    clear hnd hds hmr hgr h2 h5
    by_cases hlt : k < cols
    · obtain ⟨a0, a1, a2⟩ := box3 (H2.out.kept ((Kept.refl wr).alloc (.cells #[.int .i64 k] 3)))
      have a5 := box1 (H5.out.kept ((Kept.refl wr).alloc (.cells #[.int .i64 k] 3)))
      go_wp2_with fail
      refine (pivot_any r c b off cap (redTo r F k).1 k (redTo r F k).2 (by omega) ⟨hc.1, by omega⟩ hcap (by omega) hrk.1 hbt _ (HMR.out.cell.kept ((Kept.refl wr).alloc _))).mono ?_
      rintro e w2 ⟨rfl, hk2⟩
      have k12 : Kept wr w2 := ((Kept.refl wr).alloc _).trans hk2
      have h6 := (BlockAt.new wr #[.int .i64 k] 3).kept hk2
      have H22 := Lib.hid (H2.out.kept k12)
      have H52 := Lib.hid (H5.out.kept k12)
      have HM2 := Lib.hid (HMR.out.kept k12)
      have HG2 := Lib.hid (grown_trans HGR.out (grown_kept k12 _))
      have HDS2 : Hid (∀ D, D ∈ Ds → w.heap.size ≤ D ∧ w2.heap[D]? = some (.deferred (some []))) := Lib.hid (fun D hD => ⟨(HDS.out D hD).1, (Below.block k12 D (Array.getElem?_eq_some_iff.1 (HDS.out D hD).2).1).trans (HDS.out D hD).2⟩)
      have hq5 := H5.out.lt
      have hq6 := h6.lt
      have H62 := Lib.hid h6
      have hDl : ∀ D, D ∈ Ds → D < wr.heap.size := fun D hD => (Array.getElem?_eq_some_iff.1 (HDS.out D hD).2).1
      have HDL := Lib.hid hDl
      clear a0 a1 a2 a5 h6 hk2 k12 H2 H5 HMR HGR HDS hDl
      generalize wr.heap.size = q6 at *
      clear wr
      cases hp : pv (redTo r F k).2 k (redTo r F k).1 (r - (redTo r F k).1) with
      | none =>
        have HN := Lib.hid (redTo_none r F k hp)
        clear hp
        rw [show pvV none = (-1 : Int) from rfl]
        go_wp2
        refine ⟨⟨Ds, k + 1, ?_⟩, ?measure1⟩
        (repeat apply Exists.intro)
        refine ⟨?rel1, rfl⟩
        case rel1 => exact ⟨by omega, by go_num, ⟨HND.out, HDS2.out⟩, H22.out, by rw [HN.out]; exact H52.out, by rw [HN.out]; exact HM2.out, HG2.out⟩
        case measure1 => simp [intOf]; omega
      | some a =>
        have HSm := Lib.hid (redTo_some r F k a hp)
        obtain ⟨g1, g2, g3, _⟩ := pv_some hp
        clear hp
        rw [show pvV (some a) = (a : Int) from rfl]
        have hd : decide ((a : Int) < 0) = false := decide_eq_false (by omega)
        obtain ⟨a0, a1, a2⟩ := box3 H22.out
        have a5 := box1 H52.out
        generalize hS : (redTo r F k).2 = S at *
        generalize hrho : (redTo r F k).1 = rho at *
        have hrr : rho < r := by omega
        clear hS hrho
        go_wp2_with fail
        refine (row_any r c b off cap rho (by omega) ⟨hc.1, by omega⟩ hrr hcap _).mono ?_
        rintro e w3 ⟨rfl, hk3⟩
        clear a0 a1 a2 a5
        have hq3 := Below.size hk3
        go_wp2_with fail
        have h8 := BlockAt.new w3 #[.slice (some ⟨b, off + rho * c, none⟩) c (cap - rho * c)] 44
        have k4 : Kept w2 (w3.alloc (.cells #[.slice (some ⟨b, off + rho * c, none⟩) c (cap - rho * c)] 44)) := hk3.trans ((Kept.refl w3).alloc _)
        have hq8 : q6 < w3.heap.size := by omega
        generalize w3.alloc (.cells #[.slice (some ⟨b, off + rho * c, none⟩) c (cap - rho * c)] 44) = w4 at *
        generalize w3.heap.size = q8 at *
        have b2 := H22.out.kept k4
        have b5 := H52.out.kept k4
        have b6 := H62.out.kept k4
        have bM := HM2.out.kept k4
        have e0 := later_cell (box3 b2).1
        have e1 := later_cell (box3 b2).2.1
        have e2 := later_cell (box3 b2).2.2
        have e3 := later_cell (box1 h8)
        have HB2 := Lib.hid b2
        have HB5 := Lib.hid b5
        have HB6 := Lib.hid b6
        have HBM := Lib.hid bM
        have HB8 := Lib.hid h8
        have HK4 := Lib.hid k4
        have hlb8 := h8.lt
        clear b2 b5 b6 bM h8 k4 hk3 w3
        refine (wpIn_wide (n := 0)).1 ?_
        refine wpIn_region_later_tail 4 (by kernel_rfl) (by kernel_rfl) (by kernel_rfl) ?_
        simp only [List.take_succ_cons, List.take_zero, List.drop_succ_cons, List.drop_zero]
        repeat (gi_big_quiet_step ((gi_at_call 74; exact callsIn_wide.2 (later_call (row_any r c b off cap a (by omega) ⟨hc.1, by omega⟩ (by omega) hcap _)))))
        refine wpQuietIn_nil ?_
        intro _ hw'
        obtain ⟨nq, hw''⟩ := hw'
        subst hw''
        clear e0 e1 e2 e3
        have hkq : Kept w4 nq.1 := nq.2
        gi_wp2_with fail
        refine (callsIn_wide.2 (swap_any r c b off _ _ rho a S hbt (by omega) hrr (by omega) _ (HBM.out.kept hkq))).mono ?_
        rintro e w5 ⟨⟨u, rfl⟩, hm5, hg5⟩
        have hg45 := grown_trans (grown_kept hkq (some b)) hg5
        have d2 := HB2.out.grown hg45 (by simp; omega)
        have d5 := HB5.out.grown hg45 (by simp; omega)
        have d6 := HB6.out.grown hg45 (by simp; omega)
        have d8 := HB8.out.grown hg45 (by simp; omega)
        have c8 := box1 d8
        have c6 := box1 d6
        have hcell := hm5.cell rho k hrr (by omega)
        rw [show swapF S rho a rho k = S a k from if_pos rfl] at hcell
        have hx0 : 0 < S a k := Nat.pos_of_ne_zero g3
        have hx := hbt a k
        have HTF := Lib.hid (show topF S rho k a = scaleF (swapF S rho a) rho (Gf.inv (S a k)) from rfl)
        have HG45 := Lib.hid hg45
        have HM5 := Lib.hid hm5
        have HD2 := Lib.hid d2
        have HD5 := Lib.hid d5
        have HD6 := Lib.hid d6
        have HD8 := Lib.hid d8
        generalize S a k = x at hcell hx0 hx HTF
        clear hg5 hm5 hg45 hkq d2 d5 d6 d8 g3
        gi_wp2
        go_wp2_with fail
        refine (inv_any x hx0 hx _).mono ?_
        rintro e w' ⟨rfl, rfl⟩
        go_wp2_with fail
        refine (scale_row r c b off _ rho (Gf.inv x) (swapF S rho a) (hbt.swap _ _) (by omega) hrr (Gf.inv_lt hx) _ HM5.out).mono ?_
        rintro e w6 ⟨⟨u6, rfl⟩, hm6, hg6⟩
        rw [← HTF.out] at hm6
        have hg46 := grown_trans HG45.out hg6
        have d2 := HD2.out.grown hg6 (by simp; omega)
        have d5 := HD5.out.grown hg6 (by simp; omega)
        have d6 := HD6.out.grown hg6 (by simp; omega)
        have d8 := HD8.out.grown hg6 (by simp; omega)
        have HG46 := Lib.hid hg46
        have HM6 := Lib.hid hm6
        have HD26 := Lib.hid d2
        have HD56 := Lib.hid d5
        have HD66 := Lib.hid d6
        have HD86 := Lib.hid d8
        obtain ⟨a0, a1, a2⟩ := box3 d2
        have hbtop : Bt (topF S rho k a) := hbt.top _ _ _
        generalize hT : topF S rho k a = T at HM6 hbtop
        have HT := Lib.hid hT
        clear hT
        clear hg6 hm6 hg46 d2 d5 d6 d8 HD2 HD5 HD6 HD8 HM5 HG45 hcell c8 c6
        go_wp2_with fail
        refine (rows_any r c b off cap _).mono ?_
        rintro e w7 ⟨rfl, hw7⟩
        have k67 : Kept w6 w7 := by rw [hw7]; exact (Kept.refl w6).alloc _
        have h7 : BlockAt w7 w6.heap.size #[.int .i64 r, .int .i64 c, .slice (some ⟨b, off, none⟩) (r * c) cap] 50 := by rw [hw7]; exact BlockAt.new _ _ _
        have hz7 : w7.heap.size = w6.heap.size + 1 := by rw [hw7]; simp
        have hz6 := HD86.out.lt
        have hG := grown_trans (grown_kept HK4.out (some b)) (grown_trans HG46.out (grown_kept k67 _))
        have d2 := HD26.out.kept k67
        have d5 := HD56.out.kept k67
        have d6 := HD66.out.kept k67
        have d8 := HD86.out.kept k67
        have m7 := HM6.out.kept k67
        have HG7 := Lib.hid hG
        have HD2 := Lib.hid d2
        have HD5 := Lib.hid d5
        have HD6 := Lib.hid d6
        have HD8 := Lib.hid d8
        have HM7 := Lib.hid m7
        clear hw7 k67 hG d2 d5 d6 d8 m7 a0 a1 a2 HD26 HD56 HD66 HD86 HM6 HG46 HK4
        generalize w6.heap.size = q7 at *
        go_wp2
        refine wp_of_in 8 ?_
        refine wpIn_rangeFunc_S rfl (by omega) (gf := 90) (lb := #[.pointer (some ⟨q7, 0, none⟩)]) rfl trivial (enters_of Try.func90 (by kernel_rfl) rfl)
          (rows_stops 7 (by omega) (fun q => q = b) r c b off cap q7 (by omega) ⟨hc.1, by omega⟩ hcap w7 (by omega) h7) (CellsBut.refl _) CellsBut.trans CellsBut.putObj (Below.refl _ _) (fun _ => rfl)
          (fun pre W => Mat W b off r c (eAll T rho k (ixs pre)) ∧ w7.grownBy W (some b))
          (fun _ _ _ => False)
          (OwnFrom.and (Own.from (fun s A B row hs hg hr => hs.own hg hr) _) (ownFrom_grown w7 (Nat.le_refl _)))
          (fun _ _ _ _ _ hs _ _ => hs)
          ⟨HM7.out, grown_refl w7 _⟩ ?rround ?rdone ?rstop
        case rround =>
          rintro l ⟨i, hi⟩ W K hK'
          have HK := Lib.hid hK'
          clear hK'
          gi_wp2
          refine HK.out _ ?_
          clear HK
          rintro l pre W ⟨iM, iG⟩ hlen
          have c5 := box1 (HD5.out.grown iG (by simp; omega))
          have c6 := box1 (HD6.out.grown iG (by simp; omega))
          have c8 := box1 (HD8.out.grown iG (by simp; omega))
          have hcell := iM.cell i k hi (by omega)
          have hbe := eAll_bt hbtop rho k (ixs pre)
          have hsn := eAll_snoc T rho k (ixs pre) i
          rw [← ixs_snoc pre i hi] at hsn
          have HSN := Lib.hid hsn
          generalize eAll T rho k (ixs pre) = G at iM hcell hbe HSN
          have hx := hbe i k
          have HM := Lib.hid iM
          have HG := Lib.hid iG
          clear hsn iM iG
          by_cases hir : i = rho
          · have hne : ((i : Int) != (rho : Int)) = false := by rw [hir]; simp
            have hst : eStep rho k G i = G := if_pos hir
            have HST := Lib.hid hst
            clear hst hir
            gi_wp2
            exact ⟨KeepsOthers.refl _, CellsBut.refl _ _, by rw [HSN.out, HST.out]; exact HM.out, HG.out⟩
          · have hne : ((i : Int) != (rho : Int)) = true := by rw [bne_iff_ne]; omega
            have hst : eStep rho k G i = addF G i rho (G i k) := if_neg hir
            have HST := Lib.hid hst
            clear hst
            by_cases h0 : G i k = 0
            · have HAZ := Lib.hid (show addF G i rho (G i k) = G by rw [h0, addF_zero])
              rw [h0] at hcell
              have hb0 : ((0 : Int) != 0) = false := by simp
              clear h0
              gi_wp2
              exact ⟨KeepsOthers.refl _, CellsBut.refl _ _, by rw [HSN.out, HST.out, HAZ.out]; exact HM.out, HG.out⟩
            · have hb0 : (((G i k : Nat) : Int) != 0) = true := by rw [bne_iff_ne]; omega
              clear h0
              gi_wp2
              refine wpIn_region_quiet_tail_lit 6 (by kernel_rfl) (by kernel_rfl) (by kernel_rfl) ?_
              simp only [List.take_succ_cons, List.take_zero, List.drop_succ_cons, List.drop_zero]
              repeat (gi_big_quiet_step (fail))
              refine wpQuietIn_nil ?_
              intro _ hw'
              obtain ⟨nq, hw''⟩ := hw'
              subst hw''
              have hkq : Kept W (W.drewN nq) := (Kept.refl W).drewN nq
              generalize W.drewN nq = W2 at hkq
              clear c5 c6 c8 hcell
              gi_wp2_with fail
              refine (CallsIn.inRound l (callsIn_wide.2 (add_row r c b off _ i (G i k) b (off + rho * c) _ G (G rho) hbe (hbe rho) (by omega) hi hx _ (HM.out.kept hkq)
                (fun wr q _ hm' j hj => by
                  have h := hm'.cell rho j hrr hj
                  rw [show rowTo G (addRowF G i (G rho) (G i k)) i q rho j = G rho j from if_neg (fun e => hir e.1.symm)] at h
                  exact h)))).mono ?_
              rintro e W6 ⟨⟨u9, rfl⟩, hm6, hg6⟩
              have hgt := grown_trans (grown_kept hkq (some b)) hg6
              have hno := HM.out.others hgt
              have HM6 := Lib.hid hm6
              have HGT := Lib.hid hgt
              have HNO := Lib.hid hno
              clear hm6 hgt hno hg6
              gi_wp2
              refine ⟨HNO.out, but_of_grown HGT.out rfl, ?_, grown_trans HG.out HGT.out⟩
              rw [HSN.out, HST.out]
              exact HM6.out
        case rdone =>
          rintro D ys W hD hys ⟨iM, iG⟩ hK
          rw [hys, eAll_range] at iM
          have c5 := box1 (HD5.out.grown iG (by simp; omega))
          have f5 := (HD5.out.grown iG (by simp; omega)).free 0
          have HM := Lib.hid iM
          have HG := Lib.hid iG
          have HKD := Lib.hid hK
          clear iM iG hK
          go_wp2
          refine ⟨⟨D :: Ds, k + 1, ?_⟩, ?measure2⟩
          (repeat apply Exists.intro)
          refine ⟨?rel2, rfl⟩
          case rel2 =>
            have hgW := grown_set W (w.heap.size + 1) 0 (.int .i64 ((rho : Int) + 1))
            have htot : w2.grownBy W (some b) := grown_trans HG7.out HG.out
            have hbD : b ≠ w.heap.size + 1 := by omega
            refine ⟨by omega, by go_num, ⟨List.nodup_cons.2 ⟨fun h => by have := HDL.out D h; omega, HND.out⟩, fun E hE => ?_⟩, ?_, ?_, ?_, ?_⟩
            · rcases List.mem_cons.1 hE with e | h
              · subst e
                exact ⟨by omega, (Below.heap_setCell W ⟨w.heap.size + 1, 0, none⟩ _ E (by show E ≠ w.heap.size + 1; omega)).trans HKD.out⟩
              · obtain ⟨d1, d2⟩ := HDS2.out E h
                have hEl := HDL.out E h
                have hE5 : E ≠ w.heap.size + 1 := fun e => by
                  have h' : w2.heap[w.heap.size + 1]? = some (.cells #[.int .i64 (rho : Nat)] 3 (0, 0)) := H52.out
                  rw [e, h'] at d2; cases d2
                refine ⟨d1, (Below.heap_setCell W ⟨w.heap.size + 1, 0, none⟩ _ E hE5).trans ((htot.block E (by omega) (fun e => by cases e; omega)).trans d2)⟩
            · exact (H22.out.grown htot (by simp; omega)).setOther _ (by omega)
            · rw [HSm.out]
              have h := (HD5.out.grown HG.out (by simp; omega)).set (i := 0) (.int .i64 ((rho : Int) + 1))
              exact h
            · rw [HSm.out]
              show Mat _ b off r c (elimTo (topF S rho k a) rho k r)
              rw [HT.out]
              exact HM.out.grown hgW (by simp; omega)
            · exact grown_new (grown_trans HG2.out htot) hgW (by omega)
          case measure2 => simp [intOf]; omega
        case rstop =>
          rintro D c' pre W _ _ h _
          exact h.elim
    · obtain rfl : k = cols := by omega
      have c5 := box1 H5.out
      go_wp2
      refine noGoto_ret ?_
      refine leaves_marks Ds wr HND.out (fun D hD => (HDS.out D hD).2) (fun W' hT => ?_)
      have hbD : b ∉ Ds := fun h => by have := (HDS.out b h).1; omega
      exact ⟨_, results_tmp rfl _ _ _, rfl, HMR.out.turned hT hbD, hT.grown HGR.out (fun D hD => (HDS.out D hD).1)⟩
end Go.Proofs.Ytlpjpeonejbpjaa
