/- matrix.Invert, by what it answers (numbers below 256). -/
import Derived.Test.YtlpjpeonejbpjaaMatRk
import Derived.Test.YtlpjpeonejbpjaaMatI
import Derived.Deep.RegionWith
import Derived.Deep.CutRange
namespace Go.Proofs.Ytlpjpeonejbpjaa
open Go.RowKit Go.Shelf
attribute [local go_sem] Oper.semAt_some

set_option maxRecDepth 100000 in
set_option maxHeartbeats 1000000 in
theorem invert_bad (r c : Int) (a : Option Addr) (l cap : Nat) (h : matE r c l ≠ 0 ∨ r ≠ c) (w : World) :
    Calls Try.prog 35 #[.agg #[.int .i64 r, .int .i64 c, .slice a l cap]] w fun e w' => e = .returned (.tuple #[.agg #[.int .i64 0, .int .i64 0, .slice none 0 0], .int .i64 1]) ∧ Kept w w' := by
  go_enter Try.func35, Try.ntmps35
  go_wp2_with fail
  refine (check_any r c a l cap _).mono ?_
  rintro e w1 ⟨rfl, hk1⟩
  have HK := Lib.hid ((((Kept.refl w).alloc _).alloc _).trans hk1)
  have h1 := ((BlockAt.new w #[.int .i64 r, .int .i64 c, .slice a l cap] 50).kept ((Kept.refl _).alloc (.cells #[.int .i64 0, .int .i64 0, .slice none 0 0] 50))).kept hk1
  have HR := Lib.hid ((BlockAt.new1 w #[.int .i64 0, .int .i64 0, .slice none 0 0] 50 (.cells #[.int .i64 r, .int .i64 c, .slice a l cap] 50)).kept hk1)
  obtain ⟨a0, a1, a2⟩ := box3 h1
  clear hk1 h1
  by_cases h1 : matE r c l = 0
  · have hne : (r != c) = true := by
      rw [bne_iff_ne]
      rcases h with h | h
      · exact absurd h1 h
      · exact h
    rw [h1]
    clear h h1
    go_wp2_with (refine wpList_store_block rfl 50 (.tmp 2) (.tmp 21) rfl _ #[.int .i64 0, .int .i64 0, .slice none 0 0] #[.int .i64 0, .int .i64 0, .slice none 0 0] 50 rfl rfl HR.out Try.infoMat rfl (one3 _ _ _ _ _) ?_)
    refine bodyPost_ret (v := .tuple #[.agg #[.int .i64 0, .int .i64 0, .slice none 0 0], .int .i64 1]) ?_ rfl ⟨rfl, HK.out.setRow (by omega) _⟩
    exact results_row_tmp rfl _ _ (w.heap.size + 1) 50 #[.int .i64 0, .int .i64 0, .slice none 0 0] _ rfl (HR.out.setRow _) Try.underlying50 rfl Try.infoMat _ rfl
  · have hne : (matE r c l != 0) = true := by rw [bne_iff_ne]; exact h1
    clear h h1
    go_wp2_with (refine wpList_store_block rfl 50 (.tmp 2) (.tmp 21) rfl _ #[.int .i64 0, .int .i64 0, .slice none 0 0] #[.int .i64 0, .int .i64 0, .slice none 0 0] 50 rfl rfl HR.out Try.infoMat rfl (one3 _ _ _ _ _) ?_)
    refine bodyPost_ret (v := .tuple #[.agg #[.int .i64 0, .int .i64 0, .slice none 0 0], .int .i64 1]) ?_ rfl ⟨rfl, HK.out.setRow (by omega) _⟩
    exact results_row_tmp rfl _ _ (w.heap.size + 1) 50 #[.int .i64 0, .int .i64 0, .slice none 0 0] _ rfl (HR.out.setRow _) Try.underlying50 rfl Try.infoMat _ rfl

/-- a matrix beside One as far as these rows -/
def bothTo (n : Nat) (F : Nat → Nat → Nat) (l : List Nat) : Nat → Nat → Nat := fun i j => if i ∈ l then beside n F oneF i j else 0
theorem bothTo_nil (n : Nat) (F : Nat → Nat → Nat) : bothTo n F [] = zeroF := by funext i j; simp [bothTo, zeroF]
theorem bothTo_snoc (n : Nat) (F : Nat → Nat → Nat) (l : List Nat) (k : Nat) : upd (rowOf (bothTo n F l) k n (F k)) k (n + k) 1 = bothTo n F (l ++ [k]) := by
  funext i j
  unfold upd rowOf bothTo
  by_cases h : i = k
  · subst h
    simp only [true_and, List.mem_append, List.mem_singleton, or_true, if_true]
    by_cases e : j = n + i
    · subst e
      rw [if_pos rfl, beside_right]; simp [oneF]
    · rw [if_neg e]
      by_cases e2 : j < n
      · rw [if_pos e2, beside_left F oneF e2]
      · rw [if_neg e2]
        have hb : beside n F oneF i j = 0 := by
          unfold beside oneF
          rw [if_neg e2, if_neg (by omega)]
        rw [hb]; simp
  · simp [h]
theorem bothTo_all (n : Nat) (F : Nat → Nat → Nat) (i j : Nat) (hi : i < n) : bothTo n F (List.range n) i j = beside n F oneF i j := by
  simp [bothTo, hi]
theorem bothTo_bt {n : Nat} {F : Nat → Nat → Nat} (hF : Bt F) (l : List Nat) : Bt (bothTo n F l) := fun i j => by
  unfold bothTo; split
  · exact beside_bt hF oneF_bt n i j
  · omega
/-- the right half as far as these rows -/
def halfTo (G : Nat → Nat → Nat) (l : List Nat) : Nat → Nat → Nat := fun i j => if i ∈ l then G i j else 0
theorem halfTo_nil (G : Nat → Nat → Nat) : halfTo G [] = zeroF := by funext i j; simp [halfTo, zeroF]

def InvP (n : Nat) (F : Nat → Nat → Nat) (w : World) (e : Ending) (w' : World) : Prop :=
  (rankF n n F = n → ∃ b off, e = .returned (.tuple #[.agg #[.int .i64 n, .int .i64 n, .slice (some ⟨b, off, none⟩) (n * n) (n * n)], .int .i64 0]) ∧ w.heap.size ≤ b ∧ Mat w' b off n n (invF n F)) ∧
  (rankF n n F ≠ n → e = .returned (.tuple #[.agg #[.int .i64 0, .int .i64 0, .slice none 0 0], .int .i64 3])) ∧ Kept w w'

set_option maxRecDepth 100000 in
set_option maxHeartbeats 4000000 in
theorem invert_any (n b off cap : Nat) (F : Nat → Nat → Nat) (hn : 1 ≤ n ∧ n ≤ 16) (hcap : n * n ≤ cap) (hF : Bt F) (w : World) (hs : MatR w b off n n F) :
    Calls Try.prog 35 #[.agg #[.int .i64 n, .int .i64 n, .slice (some ⟨b, off, none⟩) (n * n) cap]] w (InvP n F w) := by
  have HE := Lib.hid (matE_ok hn hn)
  have HS := Lib.hid hs
  have hbw := cell_lt (hs 0 0 (by omega) (by omega))
  clear hs
  refine callsIn_wide.1 (callsIn_of_wp_marks (n := 8) Try.func35 rfl trivial ?_ rfl)
  simp only [Try.ntmps35, List.size_toArray, List.length_nil, List.length_cons, Nat.reduceAdd, Nat.reduceSub, Array.replicate_succ, Array.replicate_zero, List.push_toArray, List.append_toArray, List.nil_append, List.cons_append]
  refine wpIn_wide.2 ?_
  go_wp2_with fail
  refine (check_any n n _ _ _ _).mono ?_
  rintro e w1 ⟨rfl, hk1⟩
  rw [HE.out]
  have h1 := ((BlockAt.new w #[.int .i64 n, .int .i64 n, .slice (some ⟨b, off, none⟩) (n * n) cap] 50).kept ((Kept.refl _).alloc (.cells #[.int .i64 0, .int .i64 0, .slice none 0 0] 50))).kept hk1
  have hR := ((BlockAt.new1 w #[.int .i64 0, .int .i64 0, .slice none 0 0] 50 (.cells #[.int .i64 n, .int .i64 n, .slice (some ⟨b, off, none⟩) (n * n) cap] 50)).kept hk1)
  have HK1 := Lib.hid ((((Kept.refl w).alloc _).alloc _).trans hk1)
  have H1 := Lib.hid h1
  have HR := Lib.hid hR
  obtain ⟨a0, a1, a2⟩ := box3 h1
  have hnn : ((n : Int) != (n : Int)) = false := by simp
  obtain ⟨m, hm⟩ : ∃ m, m = 2 * n := ⟨_, rfl⟩
  have h2n : (2 : Int) * (n : Int) = (m : Int) := by rw [hm]; simp
  have hm1 : m ≤ 2 * n := Nat.le_of_eq hm
  have hm2 : 2 * n ≤ m := Nat.le_of_eq hm.symm
  clear hm
  clear hk1 h1 hR
  go_wp2_with fail
  refine (blank_any n m (by omega) (by omega) _).mono ?_
  rintro e w2 ⟨bm, o2, rfl, hbm, hM, hk2⟩
  clear a0 a1 a2 hnn h2n
  rw [World.size_alloc] at hbm
  have hz1 := HR.out.lt
  have kn : Kept w1 w2 := ((Kept.refl w1).alloc _).trans hk2
  have H12 := Lib.hid (H1.out.kept kn)
  have HR2 := Lib.hid (HR.out.kept kn)
  have HN2 := Lib.hid ((BlockAt.new w1 #[.int .i64 n] 3).kept hk2)
  have HK2 := Lib.hid (HK1.out.trans kn)
  have HM2 := Lib.hid hM
  have hlm := hM.lt
  have hzn := HN2.out.lt
  clear kn hk2 hM H1 HR HK1
  generalize w1.heap.size = q4 at *
  go_wp2_with fail
  refine (rows_any n m bm o2 (n * m) _).mono ?_
  rintro e w3 ⟨rfl, hw3⟩
  rw [World.size_alloc]
  have k3 : Kept w2 w3 := by rw [hw3]; exact ((Kept.refl w2).alloc _).alloc _
  have hb5 : BlockAt w3 w2.heap.size #[.int .i64 n, .int .i64 (m : Nat), .slice (some ⟨bm, o2, none⟩) (n * m) (n * m)] 50 := by rw [hw3]; exact (BlockAt.new _ _ _).kept ((Kept.refl _).alloc _)
  have h7 : BlockAt w3 (w2.heap.size + 1) #[.int .i64 n, .int .i64 (m : Nat), .slice (some ⟨bm, o2, none⟩) (n * m) (n * m)] 50 := by rw [hw3]; exact BlockAt.new1 _ _ _ _
  have hz3 : w3.heap.size = w2.heap.size + 2 := by rw [hw3]; simp
  have H13 := Lib.hid (H12.out.kept k3)
  have HR3 := Lib.hid (HR2.out.kept k3)
  have HN3 := Lib.hid (HN2.out.kept k3)
  have HK3 := Lib.hid (HK2.out.trans k3)
  have HM3 := Lib.hid (HM2.out.kept k3)
  have HB5 := Lib.hid hb5
  clear hw3 k3 hb5 H12 HR2 HN2 HK2 HM2
  generalize w2.heap.size = q5 at *
  go_wp2
  refine wp_of_in 8 ?_
  refine wpIn_rangeFunc_S rfl (by omega) (gf := 90) (lb := #[.pointer (some ⟨q5 + 1, 0, none⟩)]) rfl trivial (enters_of Try.func90 (by kernel_rfl) rfl)
    (rows_stops 7 (by omega) (fun q => q = bm) n m bm o2 (n * m) (q5 + 1) (by omega) ⟨by omega, by omega⟩ (Nat.le_refl _) w3 (by omega) h7) (CellsBut.refl _) CellsBut.trans CellsBut.putObj (Below.refl _ _) (fun _ => rfl)
    (fun pre W => Mat W bm o2 n m (bothTo n F (ixs pre)) ∧ w3.grownBy W (some bm))
    (fun _ _ _ => False)
    (OwnFrom.and (Own.from (fun s A B row hs hg hr => hs.own hg hr) _) (ownFrom_grown w3 (Nat.le_refl _)))
    (fun _ _ _ _ _ hs _ _ => hs)
    ⟨by rw [ixs_nil, bothTo_nil]; exact HM3.out, grown_refl w3 _⟩ ?round ?done ?stop
  case round =>
    rintro l ⟨i, hi⟩ W K hK'
    have HK := Lib.hid hK'
    clear hK'
    gi_wp2
    refine HK.out _ ?_
    clear HK
    rintro l pre W ⟨iM, iG⟩ hlen
    obtain ⟨a0, a1, a2⟩ := box3 (H13.out.grown iG (by simp; omega))
    have hsrc : MatR W b off n n F := (HS.out.kept (Kept.grown HK3.out iG (fun k e => by cases e; omega)))
    have HSRC := Lib.hid hsrc
    have HM := Lib.hid iM
    have HG := Lib.hid iG
    clear hsrc iM iG
    gi_wp2_with fail
    refine (CallsIn.inRound l (callsIn_wide.2 (row_any n n b off cap i (by omega) ⟨hn.1, by omega⟩ hi hcap _))).mono ?_
    rintro e W2 ⟨rfl, hk⟩
    obtain ⟨W3, hrun, hg3, hm3⟩ := copy_row (n := n) (dLen := m) (dCap := n * m - i * m) (sLen := n) (sCap := cap - i * n) (b2 := b) (o2 := off + i * n) (F i) (HM.out.kept hk) hi hn.1 (by omega) (by show n = min n m; omega) (fun j hj => HSRC.out.kept hk i j hi hj) 3
    have HRUN := Lib.hid hrun
    have hgt := grown_trans (grown_kept hk (some bm)) hg3
    have c4 := box1 ((HN3.out.grown HG.out (by simp; omega)).grown hgt (by simp; omega))
    have hcell := hm3.cell i (n + i) hi (by omega)
    have hfree := hm3.free (o2 + i * m + (n + i))
    have hst := hm3.set hi (show n + i < m by omega) 1
    rw [bothTo_snoc, ← ixs_snoc pre i hi] at hst
    have HST := Lib.hid hst
    have HGT := Lib.hid (grown_trans hgt (grown_set W3 bm (o2 + i * m + (n + i)) (.int .u8 ((1 : Nat) : Int))))
    generalize rowOf (bothTo n F (ixs pre)) i n (F i) i (n + i) = x at hcell
    have hin : (n : Int) + (i : Int) = ((n + i : Nat) : Int) := by simp
    have hlt : n + i < m := by omega
    clear hm3 hst hg3 hgt hrun hk a0 a1 a2
    generalize hni : n + i = ni at *
    have HNI := Lib.hid hni
    clear hni
    gi_wp2_with (refine wpListIn_copy_run _ rfl _ _ 44 44 rfl _ _ rfl rfl HRUN.out ?_)
    exact ⟨HM.out.others HGT.out, but_of_grown HGT.out rfl, HST.out, grown_trans HG.out HGT.out⟩
  case done =>
    rintro D ys W hD hys ⟨iM, iG⟩ hK
    rw [hys] at iM
    have hmb := iM.congr (G := beside n F oneF) (fun i j hi _ => bothTo_all n F i j hi)
    have hbo := beside_bt hF oneF_bt n
    have h5 := HB5.out.grown iG (by simp; omega)
    have hn4 := HN3.out.grown iG (by simp; omega)
    have H5 := Lib.hid h5
    have H4 := Lib.hid hn4
    have HRW := Lib.hid (HR3.out.grown iG (by simp; omega))
    have HKW := Lib.hid (Kept.grown HK3.out iG (fun k e => by cases e; omega))
    have HMB := Lib.hid hmb
    have HKD := Lib.hid hK
    have hDz := (Array.getElem?_eq_some_iff.1 hK).1
    obtain ⟨a0, a1, a2⟩ := box3 h5
    have c4 := box1 hn4
    clear iM iG hK hmb h5 hn4 H13 HR3 HN3 HK3 HM3 HB5
    go_wp2_with fail
    go_cut [46] from 42 to 47 (fun s wx => s = .bool (decide ((redTo n (beside n F oneF) n).1 < n)) ∧ Mat wx bm o2 n m (redTo n (beside n F oneF) n).2 ∧ W.grownBy wx (some bm))
    case first =>
      refine wp_normal ?_
      go_region_with (go_at_call 72; refine (reduce_any n m bm o2 (n * m) n (beside n F oneF) (by omega) ⟨by omega, by omega⟩ (Nat.le_refl _) (by omega) hbo _ (by exact HMB.out.kept (Kept.refl W).drew)).mono ?_; rintro e w4 ⟨rfl, hm4, hg4⟩; have c4' := box1 ((H4.out.kept (Kept.refl W).drew).grown hg4 (by simp; omega)); have hg4' := grown_trans (grown_kept (Kept.refl W).drew (some bm)) hg4)
      all_goals (go_wp2_with fail; go_meet; exact ⟨rfl, hm4, hg4'⟩)
    case rest =>
      obtain ⟨rfl, hm4, hg4⟩ := hcut
      have hbR := redTo_bt n (beside n F oneF) hbo n
      have hrk := (rankF_le n n F).1
      have hrdef : (redTo n (beside n F oneF) n).1 = rankF n n F := rfl
      rw [hrdef]
      have HM4 := Lib.hid hm4
      have HG4 := Lib.hid hg4
      have c4' := box1 (H4.out.grown hg4 (by simp; omega))
      have HRW4 := Lib.hid (HRW.out.grown hg4 (by simp; omega))
      have hbR0 := HRW4.out.lt
      have hDk : wc.heap[D]? = some (.deferred (some [])) := (hg4.block D hDz (fun e => by cases e; omega)).trans HKD.out
      have HDK := Lib.hid hDk
      have HKW4 := Lib.hid (Kept.grown HKW.out hg4 (fun k e => by cases e; omega))
      clear a0 a1 a2 c4 hm4 hg4 hrdef hDk
      by_cases hfull : rankF n n F = n
      · have HFU := Lib.hid hfull
        have hd : decide (rankF n n F < n) = false := decide_eq_false (by omega)
        rw [hd]
        clear hfull hd hrk
        go_wp2_with fail
        refine (blank_any n n (by omega) (by omega) _).mono ?_
        rintro e w5 ⟨b5, o5, rfl, hb5, hm5, hk5⟩
        have HM5 := Lib.hid hm5
        have HMB5 := Lib.hid (HM4.out.kept hk5)
        have HRW5 := Lib.hid (HRW4.out.kept hk5)
        have HN5 := Lib.hid ((H4.out.grown HG4.out (by simp; omega)).kept hk5)
        have HB55 := Lib.hid ((H5.out.grown HG4.out (by simp; omega)).kept hk5)
        have HKW5 := Lib.hid (HKW4.out.trans hk5)
        have hDl4 := (Array.getElem?_eq_some_iff.1 HDK.out).1
        have HDK5 := Lib.hid ((Below.block hk5 D hDl4).trans HDK.out)
        have hl5 := hm5.lt
        have hlR5 := HRW5.out.lt
        have hln5 := HN5.out.lt
        have hlb5 := HB55.out.lt
        have hbm5 := HMB5.out.lt
        have hbmw := HMB.out.lt
        have hgs := HG4.out.size
        clear hm5 hk5 c4' HM4 HG4 HRW4 HKW4 HDK
        go_wp2_with fail
        refine (rows_any n n b5 o5 (n * n) _).mono ?_
        rintro e w6 ⟨rfl, hw6⟩
        rw [World.size_alloc]
        have k6 : Kept w5 w6 := by rw [hw6]; exact ((Kept.refl w5).alloc _).alloc _
        have hb8 : BlockAt w6 w5.heap.size #[.int .i64 n, .int .i64 n, .slice (some ⟨b5, o5, none⟩) (n * n) (n * n)] 50 := by rw [hw6]; exact (BlockAt.new _ _ _).kept ((Kept.refl _).alloc _)
        have h9 : BlockAt w6 (w5.heap.size + 1) #[.int .i64 n, .int .i64 n, .slice (some ⟨b5, o5, none⟩) (n * n) (n * n)] 50 := by rw [hw6]; exact BlockAt.new1 _ _ _ _
        have hz6 : w6.heap.size = w5.heap.size + 2 := by rw [hw6]; simp
        have HM6 := Lib.hid (HM5.out.kept k6)
        have HMB6 := Lib.hid (HMB5.out.kept k6)
        have HRW6 := Lib.hid (HRW5.out.kept k6)
        have HN6 := Lib.hid (HN5.out.kept k6)
        have HB56 := Lib.hid (HB55.out.kept k6)
        have HKW6 := Lib.hid (HKW5.out.trans k6)
        have HDK6 := Lib.hid ((Below.block k6 D (by omega)).trans HDK5.out)
        have HB8 := Lib.hid hb8
        clear hw6 k6 hb8 HM5 HMB5 HRW5 HN5 HB55 HKW5 HDK5
        generalize w5.heap.size = q8 at *
        go_wp2
        refine wp_of_in 8 ?_
        refine wpIn_rangeFunc_S rfl (by omega) (gf := 90) (lb := #[.pointer (some ⟨q8 + 1, 0, none⟩)]) rfl trivial (enters_of Try.func90 (by kernel_rfl) rfl)
          (rows_stops 7 (by omega) (fun q => q = b5) n n b5 o5 (n * n) (q8 + 1) (by omega) ⟨by omega, by omega⟩ (Nat.le_refl _) w6 (by omega) h9) (CellsBut.refl _) CellsBut.trans CellsBut.putObj (Below.refl _ _) (fun _ => rfl)
          (fun pre V => Mat V b5 o5 n n (halfTo (invF n F) (ixs pre)) ∧ w6.grownBy V (some b5))
          (fun _ _ _ => False)
          (OwnFrom.and (Own.from (fun s A B row hs hg hr => hs.own hg hr) _) (ownFrom_grown w6 (Nat.le_refl _)))
          (fun _ _ _ _ _ hs _ _ => hs)
          ⟨by rw [ixs_nil, halfTo_nil]; exact HM6.out, grown_refl w6 _⟩ ?round2 ?done2 ?stop2
        case round2 =>
          rintro l ⟨i, hi⟩ V K hK'
          have HK := Lib.hid hK'
          clear hK'
          gi_wp2
          refine HK.out _ ?_
          clear HK
          rintro l pre V ⟨iM, iG⟩ hlen
          have e0 := later_cell (box3 (HB56.out.grown iG (by simp; omega))).1
          have e1 := later_cell (box3 (HB56.out.grown iG (by simp; omega))).2.1
          have e2 := later_cell (box3 (HB56.out.grown iG (by simp; omega))).2.2
          have e3 := later_cell (box1 (HN6.out.grown iG (by simp; omega)))
          have HMBV := Lib.hid (HMB6.out.grown iG (by simp; omega))
          have HM := Lib.hid iM
          have HG := Lib.hid iG
          have hge := Nat.mul_le_mul_right m (Nat.succ_le_of_lt hi)
          rw [Nat.succ_mul] at hge
          have hcp : n < n * m - i * m := by omega
          have hmn : m - n = n := by omega
          have HMN := Lib.hid hmn
          have hnm : n ≤ m := by omega
          have hrow := row_any n m bm o2 (n * m) i (by omega) ⟨by omega, by omega⟩ hi (Nat.le_refl _)
          have HROW := Lib.hid hrow
          clear iM iG hge hmn hrow
          generalize hcq : n * m - i * m = cp at *
          have hne : ¬ cp = n := by omega
          gi_wp2
          refine wpIn_region_later_tail 6 (by kernel_rfl) (by kernel_rfl) (by kernel_rfl) ?_
          simp only [List.take_succ_cons, List.take_zero, List.drop_succ_cons, List.drop_zero]
          repeat (gi_big_quiet_step ((gi_at_call 74; exact (CallsIn.inRound l (callsIn_wide.2 (later_call (HROW.out _)))).mono fun e w' h => h)))
          refine wpQuietIn_nil ?_
          intro _ hw'
          obtain ⟨nq, hw''⟩ := hw'
          subst hw''
          clear e0 e1 e2 e3
          have hkq : Kept V nq.1 := nq.2
          obtain ⟨W3, hrun, hg3, hm3⟩ := copy_row (n := n) (dLen := n) (dCap := n * n - i * n) (sLen := m - n) (sCap := cp - n) (b2 := bm) (o2 := o2 + i * m + n) (invF n F i) (HM.out.kept hkq) hi hn.1 (Nat.le_refl n) (by show n = min (m - n) n; omega)
            (fun j hj => by
              have h := (HMBV.out.kept hkq).cell i (n + j) hi (by omega)
              rw [← Nat.add_assoc] at h
              exact h) 3
          have HRUN := Lib.hid hrun
          have hgt := grown_trans (grown_kept hkq (some b5)) hg3
          have hst := hm3.congr (G := halfTo (invF n F) (ixs (pre ++ [⟨i, hi⟩]))) (fun a j ha hj => by
            rw [ixs_snoc pre i hi]
            unfold rowOf halfTo
            by_cases e : a = i
            · subst e; simp [hj]
            · simp [e])
          have HST := Lib.hid hst
          have HGT := Lib.hid hgt
          clear hm3 hst hg3 hgt hrun hkq
          gi_wp2_with (refine wpListIn_copy_run _ rfl _ _ 44 44 rfl _ _ rfl rfl HRUN.out ?_)
          exact ⟨HM.out.others HGT.out, but_of_grown HGT.out rfl, HST.out, grown_trans HG.out HGT.out⟩
        case done2 =>
          rintro D2 ys V hD2 hys ⟨iM, iG⟩ hK2
          rw [hys] at iM
          have hmf := iM.congr (G := invF n F) (fun i j hi _ => by simp [halfTo, hi])
          have HMF := Lib.hid hmf
          obtain ⟨x0, x1, x2⟩ := box3 (HB8.out.grown iG (by simp; omega))
          have HRV := Lib.hid (HRW6.out.grown iG (by simp; omega))
          have HKV := Lib.hid (Kept.grown HKW6.out iG (fun k e => by cases e; omega))
          have HDV := Lib.hid ((iG.block D (by omega) (fun e => by cases e; omega)).trans HDK6.out)
          have HD2V := Lib.hid hK2
          have hbl2 := iM.lt
          have hDV := (Array.getElem?_eq_some_iff.1 HDV.out).1
          clear iM hmf hK2
          go_wp2_with (refine wpList_store_block rfl 50 (.tmp 2) (.tmp 62) rfl _ #[.int .i64 n, .int .i64 n, .slice (some ⟨b5, o5, none⟩) (n * n) (n * n)] #[.int .i64 0, .int .i64 0, .slice none 0 0] 50 rfl rfl HRV.out Try.infoMat rfl (one3 _ _ _ _ _) ?_)
          have g1 := grown_row V (w.heap.size + 1) #[.int .i64 n, .int .i64 n, .slice (some ⟨b5, o5, none⟩) (n * n) (n * n)]
          refine leaves_marks [D2, D] _ (by simp; omega) (fun E hE => ?_) (fun V' hT => ?_)
          · have hE5 : E ≠ w.heap.size + 1 := by
              rcases List.mem_cons.1 hE with e | h
              · omega
              · simp at h; omega
            rw [setRow_other _ _ _ _ hE5]
            rcases List.mem_cons.1 hE with e | h
            · subst e; exact HD2V.out
            · simp at h; subst h; exact HDV.out
          · have hnb : b5 ∉ [D2, D] := by simp; omega
            have hnr : w.heap.size + 1 ∉ [D2, D] := by simp; omega
            refine ⟨_, results_row_tmp rfl _ _ (w.heap.size + 1) 50 #[.int .i64 n, .int .i64 n, .slice (some ⟨b5, o5, none⟩) (n * n) (n * n)] _ rfl ((HRV.out.setRow _).turned hT hnr) Try.underlying50 rfl Try.infoMat _ rfl, fun _ => ⟨b5, o5, rfl, by omega, (HMF.out.grown g1 (by simp; omega)).turned hT hnb⟩, fun h => absurd HFU.out h, ?_⟩
            have hk' := Kept.grown HKV.out g1 (fun k e => by cases e; omega)
            exact ⟨hT.os.trans (Below.os hk'), hT.tape.trans (Below.tape hk'), hT.output.trans (Below.output hk'), by rw [hT.size]; exact Below.size hk', fun k hk => (hT.block k (by simp; omega)).trans (Below.block hk' k hk)⟩
        case stop2 =>
          rintro D c' pre W _ _ h _
          exact h.elim
      · have HNF := Lib.hid hfull
        have hd : decide (rankF n n F < n) = true := decide_eq_true (by omega)
        rw [hd]
        clear hfull hd hrk
        go_wp2_with (refine wpList_store_block rfl 50 (.tmp 2) (.tmp 47) rfl _ #[.int .i64 0, .int .i64 0, .slice none 0 0] #[.int .i64 0, .int .i64 0, .slice none 0 0] 50 rfl rfl HRW4.out Try.infoMat rfl (one3 _ _ _ _ _) ?_)
        have hKr : (wc.setRow (w.heap.size + 1) #[.int .i64 0, .int .i64 0, .slice none 0 0]).heap[D]? = some (.deferred (some [])) := by rw [setRow_other _ _ _ _ (by omega)]; exact HDK.out
        refine ⟨by simp, .inl ⟨_, _, rfl, run_takeDeferred hKr, ?_⟩⟩
        have g1 := grown_row wc (w.heap.size + 1) #[.int .i64 0, .int .i64 0, .slice none 0 0]
        have g2 := grown_put (wc.setRow (w.heap.size + 1) #[.int .i64 0, .int .i64 0, .slice none 0 0]) D (.deferred none)
        refine ⟨.tuple #[.agg #[.int .i64 0, .int .i64 0, .slice none 0 0], .int .i64 3], ?_, fun h => absurd h HNF.out, fun _ => rfl, (Kept.grown HKW4.out g1 (fun k e => by cases e; omega)).grown g2 (fun k e => by cases e; omega)⟩
        exact results_row_tmp rfl _ _ (w.heap.size + 1) 50 #[.int .i64 0, .int .i64 0, .slice none 0 0] _ rfl ((HRW4.out.setRow _).grown g2 (by simp; omega)) Try.underlying50 rfl Try.infoMat _ rfl
  case stop =>
    rintro D c' pre W _ _ h _
    exact h.elim
end Go.Proofs.Ytlpjpeonejbpjaa
