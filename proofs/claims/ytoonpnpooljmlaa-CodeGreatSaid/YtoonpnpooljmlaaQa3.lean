/- Contracts of the code and of the reference, laid into one file: part 3 (what each says stands at its head). -/
import Derived.Test.YtoonpnpooljmlaaQa2
import Derived.Laws.CopyOwn
import Derived.Lib.SlBuf
import Derived.Deep.RegionWith
import Derived.Deep.CutRange
import Derived.Laws.OwnMore
import Derived.Maps.OwnIn

namespace Go.Proofs.Ytoonpnpooljmlaa
open Go.RowKit Go.Shelf
attribute [local go_sem] Oper.semAt_some

theorem matE_ok {r c : Nat} (hr : 1 ≤ r ∧ r ≤ 16) (hc : 1 ≤ c ∧ c ≤ 16) : matE r c (r * c) = 0 := by
  refine matE_good ?_
  simp [matB, sideB]
  omega
/-- what a row becomes by these rows, each times its number -/
def rowStep (f g F : Nat → Nat → Nat) (i : Nat) (l : List Nat) : Nat → Nat → Nat := l.foldl (fun F j => addRowF F i (g j) (f i j)) F
def allStep (f g : Nat → Nat → Nat) (m : Nat) (l : List Nat) : Nat → Nat → Nat := l.foldl (fun F i => rowStep f g F i (List.range m)) zeroF
theorem rowStep_snoc (f g F : Nat → Nat → Nat) (i : Nat) (l : List Nat) (j : Nat) : rowStep f g F i (l ++ [j]) = addRowF (rowStep f g F i l) i (g j) (f i j) := by simp [rowStep]
theorem allStep_snoc (f g : Nat → Nat → Nat) (m : Nat) (l : List Nat) (i : Nat) : allStep f g m (l ++ [i]) = rowStep f g (allStep f g m l) i (List.range m) := by simp [allStep]
theorem rowStep_at (f g F : Nat → Nat → Nat) (i a k : Nat) : ∀ n, rowStep f g F i (List.range n) a k = if a = i then F a k ^^^ xs (fun j => Gf.mul (g j k) (f i j)) n else F a k
  | 0 => by
    show F a k = _
    by_cases h : a = i
    · rw [if_pos h]; exact (Nat.xor_zero _).symm
    · rw [if_neg h]
  | n + 1 => by
    rw [List.range_succ, rowStep_snoc]
    have ih := rowStep_at f g F i a k n
    unfold addRowF
    by_cases h : a = i
    · subst h
      rw [if_pos rfl] at ih
      rw [if_pos rfl, if_pos rfl, ih, Nat.xor_assoc]
      rfl
    · rw [if_neg h] at ih
      rw [if_neg h, if_neg h, ih]
theorem allStep_at (f g : Nat → Nat → Nat) (m a k : Nat) : ∀ n, allStep f g m (List.range n) a k = if a < n then xs (fun j => Gf.mul (g j k) (f a j)) m else 0
  | 0 => by simp [allStep, zeroF]
  | n + 1 => by
    rw [List.range_succ, allStep_snoc, rowStep_at, allStep_at f g m a k n]
    by_cases h : a = n
    · subst h
      rw [if_pos rfl, if_neg (by omega), if_pos (by omega), Nat.zero_xor]
    · rw [if_neg h]
      by_cases h2 : a < n
      · rw [if_pos h2, if_pos (by omega)]
      · rw [if_neg h2, if_neg (by omega)]
theorem allStep_all {f g : Nat → Nat → Nat} (hf : Bt f) (hg : Bt g) (m r i k : Nat) (hi : i < r) : allStep f g m (List.range r) i k = mulM m f g i k := by
  rw [allStep_at, if_pos hi]
  exact xs_congr (fun j _ => Gf.mul_comm _ _ (hg _ _) (hf _ _))
theorem addRow_bt {F : Nat → Nat → Nat} (h : Bt F) (a : Nat) {H : Nat → Nat} (hH : ∀ j, H j < 256) (v : Nat) : Bt (addRowF F a H v) := fun i j => by
  unfold addRowF; split
  · exact Gf.xor_lt (h _ _) (Gf.mul_lt (hH _) _)
  · exact h _ _
theorem rowStep_bt {f g : Nat → Nat → Nat} (hg : Bt g) (i : Nat) : ∀ (l : List Nat) (F : Nat → Nat → Nat), Bt F → Bt (rowStep f g F i l)
  | [], _, h => h
  | j :: l, _, h => rowStep_bt hg i l _ (addRow_bt h i (hg j) _)
theorem allStep_bt {f g : Nat → Nat → Nat} (hg : Bt g) (m : Nat) (l : List Nat) : Bt (allStep f g m l) := by
  have gen : ∀ (l : List Nat) (F : Nat → Nat → Nat), Bt F → Bt (l.foldl (fun F i => rowStep f g F i (List.range m)) F) := by
    intro l
    induction l with
    | nil => intro F h; exact h
    | cons i l ih => intro F h; exact ih _ (rowStep_bt hg i _ _ h)
  exact gen l zeroF zeroF_bt

set_option maxRecDepth 100000 in
set_option maxHeartbeats 1000000 in
theorem mat_mul_bad (r1 c1 r2 c2 : Int) (a1 a2 : Option Addr) (l1 l2 cap1 cap2 : Nat) (h : matE r1 c1 l1 ≠ 0 ∨ matE r2 c2 l2 ≠ 0 ∨ c1 ≠ r2) (w : World) :
    Calls Try.prog 49 #[.agg #[.int .i64 r1, .int .i64 c1, .slice a1 l1 cap1], .agg #[.int .i64 r2, .int .i64 c2, .slice a2 l2 cap2]] w fun e w' => e = .returned (.tuple #[.agg #[.int .i64 0, .int .i64 0, .slice none 0 0], .int .i64 1]) ∧ Kept w w' := by
  go_enter Try.func49, Try.ntmps49
  go_wp2_with fail
  refine (check_any r1 c1 a1 l1 cap1 _).mono ?_
  rintro e w1 ⟨rfl, hk1⟩
  have hR := (BlockAt.new2 w #[.int .i64 0, .int .i64 0, .slice none 0 0] 33 (.cells #[.int .i64 r1, .int .i64 c1, .slice a1 l1 cap1] 33) (.cells #[.int .i64 r2, .int .i64 c2, .slice a2 l2 cap2] 33)).kept hk1
  have hA := ((BlockAt.new w #[.int .i64 r1, .int .i64 c1, .slice a1 l1 cap1] 33).kept (((Kept.refl _).alloc (.cells #[.int .i64 r2, .int .i64 c2, .slice a2 l2 cap2] 33)).alloc (.cells #[.int .i64 0, .int .i64 0, .slice none 0 0] 33))).kept hk1
  have hB := ((BlockAt.new1 w #[.int .i64 r2, .int .i64 c2, .slice a2 l2 cap2] 33 (.cells #[.int .i64 r1, .int .i64 c1, .slice a1 l1 cap1] 33)).kept ((Kept.refl _).alloc (.cells #[.int .i64 0, .int .i64 0, .slice none 0 0] 33))).kept hk1
  have hK1 := Lib.hid (((((Kept.refl w).alloc _).alloc _).alloc _).trans hk1)
  obtain ⟨b0, b1, b2⟩ := box3 hB
  have HR := Lib.hid hR
  have HA := Lib.hid hA
  clear hR hA hB hk1
  by_cases h1 : matE r1 c1 l1 = 0
  · rw [h1]
    go_wp2_with fail
    refine (check_any r2 c2 a2 l2 cap2 _).mono ?_
    rintro e w2 ⟨rfl, hk2⟩
    have HR2 := Lib.hid (HR.out.kept hk2)
    have HK2 := Lib.hid (hK1.out.trans hk2)
    by_cases h2 : matE r2 c2 l2 = 0
    · rw [h2]
      obtain ⟨a0, a1, a2⟩ := box3 (HA.out.kept hk2)
      have b0' := hk2.cell (cell_lt b0) b0
      have hne : (c1 != r2) = true := by
        rw [bne_iff_ne]
        rcases h with h | h | h
        · exact absurd h1 h
        · exact absurd h2 h
        · exact h
      clear b0 b1 b2 hk2 h h1 h2
      go_wp2_with (refine wpList_store_block rfl 33 (.tmp 4) (.tmp 26) rfl _ #[.int .i64 0, .int .i64 0, .slice none 0 0] #[.int .i64 0, .int .i64 0, .slice none 0 0] 33 rfl rfl HR2.out Try.infoMat rfl (one3 _ _ _ _ _) ?_)
      refine bodyPost_ret (v := .tuple #[.agg #[.int .i64 0, .int .i64 0, .slice none 0 0], .int .i64 1]) ?_ rfl ⟨rfl, HK2.out.setRow (by omega) _⟩
      exact results_row_tmp rfl _ _ (w.heap.size + 1 + 1) 33 #[.int .i64 0, .int .i64 0, .slice none 0 0] _ rfl (HR2.out.setRow _) Try.underlying33 rfl Try.infoMat _ rfl
    · have hne : (matE r2 c2 l2 != 0) = true := by rw [bne_iff_ne]; exact h2
      clear b0 b1 b2 hk2 h h1 h2
      go_wp2_with (refine wpList_store_block rfl 33 (.tmp 4) (.tmp 26) rfl _ #[.int .i64 0, .int .i64 0, .slice none 0 0] #[.int .i64 0, .int .i64 0, .slice none 0 0] 33 rfl rfl HR2.out Try.infoMat rfl (one3 _ _ _ _ _) ?_)
      refine bodyPost_ret (v := .tuple #[.agg #[.int .i64 0, .int .i64 0, .slice none 0 0], .int .i64 1]) ?_ rfl ⟨rfl, HK2.out.setRow (by omega) _⟩
      exact results_row_tmp rfl _ _ (w.heap.size + 1 + 1) 33 #[.int .i64 0, .int .i64 0, .slice none 0 0] _ rfl (HR2.out.setRow _) Try.underlying33 rfl Try.infoMat _ rfl
  · have hne : (matE r1 c1 l1 != 0) = true := by rw [bne_iff_ne]; exact h1
    clear b0 b1 b2 h h1
    go_wp2_with (refine wpList_store_block rfl 33 (.tmp 4) (.tmp 26) rfl _ #[.int .i64 0, .int .i64 0, .slice none 0 0] #[.int .i64 0, .int .i64 0, .slice none 0 0] 33 rfl rfl HR.out Try.infoMat rfl (one3 _ _ _ _ _) ?_)
    refine bodyPost_ret (v := .tuple #[.agg #[.int .i64 0, .int .i64 0, .slice none 0 0], .int .i64 1]) ?_ rfl ⟨rfl, hK1.out.setRow (by omega) _⟩
    exact results_row_tmp rfl _ _ (w.heap.size + 1 + 1) 33 #[.int .i64 0, .int .i64 0, .slice none 0 0] _ rfl (HR.out.setRow _) Try.underlying33 rfl Try.infoMat _ rfl
set_option maxRecDepth 100000 in
set_option maxHeartbeats 4000000 in
theorem mat_mul_any (r m c b1 o1 cap1 b2 o2 cap2 : Nat) (f g : Nat → Nat → Nat) (hr : 1 ≤ r ∧ r ≤ 16) (hm : 1 ≤ m ∧ m ≤ 16) (hc : 1 ≤ c ∧ c ≤ 16) (hc1 : r * m ≤ cap1) (hc2 : m * c ≤ cap2) (hf : Bt f) (hg : Bt g) (w : World)
    (hs1 : MatR w b1 o1 r m f) (hs2 : MatR w b2 o2 m c g) :
    Calls Try.prog 49 #[.agg #[.int .i64 r, .int .i64 m, .slice (some ⟨b1, o1, none⟩) (r * m) cap1], .agg #[.int .i64 m, .int .i64 c, .slice (some ⟨b2, o2, none⟩) (m * c) cap2]] w
      fun e w' => ∃ b off, e = .returned (.tuple #[.agg #[.int .i64 r, .int .i64 c, .slice (some ⟨b, off, none⟩) (r * c) (r * c)], .int .i64 0]) ∧ w.heap.size ≤ b ∧ Mat w' b off r c (mulM m f g) ∧ Kept w w' := by
  have hb1 := cell_lt (hs1 0 0 (by omega) (by omega))
  have hb2 := cell_lt (hs2 0 0 (by omega) (by omega))
  have HE1 := Lib.hid (matE_ok hr hm)
  have HE2 := Lib.hid (matE_ok hm hc)
  have HS1 := Lib.hid hs1
  have HS2 := Lib.hid hs2
  clear hs1 hs2
  refine callsIn_wide.1 (callsIn_of_wp_marks (n := 8) Try.func49 rfl trivial ?_ rfl)
  simp only [Try.ntmps49, List.size_toArray, List.length_nil, List.length_cons, Nat.reduceAdd, Nat.reduceSub, Array.replicate_succ, Array.replicate_zero, List.push_toArray, List.append_toArray, List.nil_append, List.cons_append]
  refine wpIn_wide.2 ?_
  go_wp2_with fail
  refine (check_any r m _ _ _ _).mono ?_
  rintro e w1 ⟨rfl, hk1⟩
  rw [HE1.out]
  have hR := (BlockAt.new2 w #[.int .i64 0, .int .i64 0, .slice none 0 0] 33 (.cells #[.int .i64 r, .int .i64 m, .slice (some ⟨b1, o1, none⟩) (r * m) cap1] 33) (.cells #[.int .i64 m, .int .i64 c, .slice (some ⟨b2, o2, none⟩) (m * c) cap2] 33)).kept hk1
  have hA := ((BlockAt.new w #[.int .i64 r, .int .i64 m, .slice (some ⟨b1, o1, none⟩) (r * m) cap1] 33).kept (((Kept.refl _).alloc (.cells #[.int .i64 m, .int .i64 c, .slice (some ⟨b2, o2, none⟩) (m * c) cap2] 33)).alloc (.cells #[.int .i64 0, .int .i64 0, .slice none 0 0] 33))).kept hk1
  have hB := ((BlockAt.new1 w #[.int .i64 m, .int .i64 c, .slice (some ⟨b2, o2, none⟩) (m * c) cap2] 33 (.cells #[.int .i64 r, .int .i64 m, .slice (some ⟨b1, o1, none⟩) (r * m) cap1] 33)).kept ((Kept.refl _).alloc (.cells #[.int .i64 0, .int .i64 0, .slice none 0 0] 33))).kept hk1
  have hK1 := Lib.hid (((((Kept.refl w).alloc _).alloc _).alloc _).trans hk1)
  have HR := Lib.hid hR
  have HA := Lib.hid hA
  have HB := Lib.hid hB
  obtain ⟨x0, x1, x2⟩ := box3 hB
  clear hR hA hB hk1
  go_wp2_with fail
  refine (check_any m c _ _ _ _).mono ?_
  rintro e w2 ⟨rfl, hk2⟩
  rw [HE2.out]
  clear x0 x1 x2
  have HR2 := Lib.hid (HR.out.kept hk2)
  have HA2 := Lib.hid (HA.out.kept hk2)
  have HB2 := Lib.hid (HB.out.kept hk2)
  have HK2 := Lib.hid (hK1.out.trans hk2)
  obtain ⟨x0, x1, x2⟩ := box3 HA2.out
  obtain ⟨y0, y1, y2⟩ := box3 HB2.out
  clear hk2 HR HA HB hK1
  go_wp2_with fail
  refine (blank_any r c (by omega) (by omega) _).mono ?_
  rintro e w3 ⟨bm, off, rfl, hbm, hM, hk3⟩
  have HR3 := Lib.hid (HR2.out.kept hk3)
  have HA3 := Lib.hid (HA2.out.kept hk3)
  have HB3 := Lib.hid (HB2.out.kept hk3)
  have HK3 := Lib.hid (HK2.out.trans hk3)
  have HM := Lib.hid hM
  have hzR := HR2.out.lt
  clear x0 x1 x2 y0 y1 y2 hM hk3 HR2 HA2 HB2 HK2
  go_wp2_with fail
  refine (rows_any r c bm off (r * c) _).mono ?_
  rintro e w4 ⟨rfl, hw4⟩
  rw [World.size_alloc]
  have k34 : Kept w3 w4 := by rw [hw4]; exact ((Kept.refl w3).alloc _).alloc _
  have h6 : BlockAt w4 w3.heap.size #[.int .i64 r, .int .i64 c, .slice (some ⟨bm, off, none⟩) (r * c) (r * c)] 33 := by rw [hw4]; exact (BlockAt.new _ _ _).kept ((Kept.refl _).alloc _)
  have h7 : BlockAt w4 (w3.heap.size + 1) #[.int .i64 r, .int .i64 c, .slice (some ⟨bm, off, none⟩) (r * c) (r * c)] 33 := by
    rw [hw4]; exact BlockAt.new1 _ _ _ _
  have hA := HA3.out.kept k34
  have hB := HB3.out.kept k34
  have hR := HR3.out.kept k34
  have hM := HM.out.kept k34
  have hK := HK3.out.trans k34
  have hbl := HM.out.lt
  have hRl := HR3.out.lt
  have hz4 : w4.heap.size = w3.heap.size + 2 := by rw [hw4]; simp
  clear hw4 k34 HM HK3 HR3 HA3 HB3
  generalize w3.heap.size = p at *
  go_wp2
  refine wp_of_in 8 ?_
  refine wpIn_rangeFunc_B (β := Nat × Nat) rfl (by omega) (gf := 75) (lb := #[.pointer (some ⟨p + 1, 0, none⟩)]) rfl trivial (enters_of Try.func75 (by kernel_rfl) rfl)
    (rows_stops 7 (by omega) (fun k => k = bm) r c bm off (r * c) (p + 1) (by omega) ⟨hc.1, by omega⟩ (Nat.le_refl _) w4 (by omega) h7) CellsBut.trans CellsBut.putObj (Below.refl _ _) (fun _ => rfl)
    (fun pre W => (BlockAt W w.heap.size #[.int .i64 r, .int .i64 m, .slice (some ⟨b1, o1, none⟩) (r * m) cap1] 33 ∧ BlockAt W (w.heap.size + 1) #[.int .i64 m, .int .i64 c, .slice (some ⟨b2, o2, none⟩) (m * c) cap2] 33 ∧
      BlockAt W (w.heap.size + 1 + 1) #[.int .i64 0, .int .i64 0, .slice none 0 0] 33 ∧ BlockAt W p #[.int .i64 r, .int .i64 c, .slice (some ⟨bm, off, none⟩) (r * c) (r * c)] 33 ∧ Mat W bm off r c (allStep f g m (ixs pre)) ∧ p + 1 < W.heap.size) ∧ Below w.heap.size w W)
    (fun _ _ _ => False)
    (OwnFrom.and (Own.from (fun s A B row hs hg hr => ⟨hs.1.own hg hr, hs.2.1.own hg hr, hs.2.2.1.own hg hr, hs.2.2.2.1.own hg hr, hs.2.2.2.2.1.own hg hr, Nat.lt_of_lt_of_le hs.2.2.2.2.2 hg.size⟩) _) (ownFrom_below (Nat.le_refl _) (by omega)))
    (fun _ _ _ _ _ hs _ _ => hs)
    ⟨⟨hA, hB, hR, h6, hM, by omega⟩, hK⟩
    (fun x q W => (p + 1 < q.1 ∧ p + 1 < q.2) ∧ BlockAt W q.1 #[.int .i64 (x.1 : Nat)] 3 ∧ BlockAt W q.2 #[.slice (some ⟨bm, off + x.1 * c, none⟩) c (r * c - x.1 * c)] 31)
    (fun x q s A B row hs hg hr => ⟨hs.1, hs.2.1.own hg (fun r e => (hr r e).2), hs.2.2.own hg (fun r e => (hr r e).2)⟩)
    ?round ?done ?stop
  case round =>
    rintro l pre ⟨i, hi⟩ W K ⟨⟨iA, iB, iR, i6, iM, iz⟩, iK⟩ hK'
    have HK := Lib.hid hK'
    have HA := Lib.hid iA
    have HB := Lib.hid iB
    have HR := Lib.hid iR
    have H6 := Lib.hid i6
    have HM := Lib.hid iM
    have HKK := Lib.hid iK
    have hpl := i6.lt
    clear iA iB iR i6 iM iK hK' hA hB hR hM h6 h7 hK
    gi_wp2
    refine HK.out _ _ (W.heap.size, W.heap.size + 1) (((KeepsOthers.alloc _ _).trans (KeepsOthers.alloc _ _)).from _) (CellsBut.of_kept (((Kept.refl W).alloc _).alloc _))
      ⟨⟨HA.out.kept (((Kept.refl W).alloc _).alloc _), HB.out.kept (((Kept.refl W).alloc _).alloc _), HR.out.kept (((Kept.refl W).alloc _).alloc _), H6.out.kept (((Kept.refl W).alloc _).alloc _), HM.out.kept (((Kept.refl W).alloc _).alloc _), by simp; omega⟩, Kept.trans HKK.out (((Kept.refl W).alloc _).alloc _)⟩
      ⟨⟨iz, by show p + 1 < W.heap.size + 1; omega⟩, (BlockAt.new W _ _).kept ((Kept.refl _).alloc _), BlockAt.new1 W _ _ _⟩ ?_
    generalize W.heap.size = q1
    clear HK HA HB HR H6 HM HKK iz hpl
    clear pre W
    rintro l pre W hl ⟨rr, hrr⟩ ⟨⟨iA, iB, iR, i6, iM, iz⟩, iK⟩ ⟨⟨hq1, hq2⟩, hbi, hbl2⟩ hlen
    have hq1' : p + 1 < q1 := hq1
    have hbi' : BlockAt W q1 #[.int .i64 (i : Nat)] 3 := hbi
    have hbl' : BlockAt W (q1 + 1) #[.slice (some ⟨bm, off + i * c, none⟩) c (r * c - i * c)] 31 := hbl2
    have HA := Lib.hid iA
    have HB := Lib.hid iB
    have HR := Lib.hid iR
    have H6 := Lib.hid i6
    have HM := Lib.hid iM
    have HKK := Lib.hid iK
    have HBI := Lib.hid hbi'
    have HBL := Lib.hid hbl'
    have HRR := Lib.hid hrr
    obtain ⟨y0, y1, y2⟩ := box3 iB
    clear iA iB iR i6 iM iK hq1 hq2 hbi hbl2 hbi' hbl' hrr
    gi_wp2_with fail
    refine (CallsIn.inRound l (callsIn_wide.2 (rows_any m c b2 o2 cap2 _))).mono ?_
    rintro e W2 ⟨rfl, hW2⟩
    have k2 : Kept W W2 := by rw [hW2]; exact (Kept.refl W).alloc _
    have h8 : BlockAt W2 W.heap.size #[.int .i64 m, .int .i64 c, .slice (some ⟨b2, o2, none⟩) (m * c) cap2] 33 := by rw [hW2]; exact BlockAt.new _ _ _
    have hz2 : W2.heap.size = W.heap.size + 1 := by rw [hW2]; simp
    have hrr2 : W2.heap[l]? = some (.loop rr) := by rw [hW2]; exact (Below.heap_alloc _ _ _ (by have := (Array.getElem?_eq_some_iff.1 HRR.out).1; omega)).trans HRR.out
    clear hW2 y0 y1 y2
    gi_wp2
    have hlz : l < W.heap.size := (Array.getElem?_eq_some_iff.1 HRR.out).1
    have hWz : w4.heap.size ≤ W.heap.size := by omega
    have hbmW := HM.out.lt
    refine wpIn_rangeFunc_SN rfl hrr2 (by omega) (gf := 75) (lb := #[.pointer (some ⟨W.heap.size, 0, none⟩)]) rfl trivial (enters_of Try.func75 (by kernel_rfl) rfl)
      ((rows_stops 5 (by omega) (fun k => k = bm) m c b2 o2 cap2 W.heap.size (by omega) ⟨hc.1, by omega⟩ hc2 W2 (by omega) h8).inRound l) (CellsBut.refl _) CellsBut.trans CellsBut.putObj (Below.refl _ _) (fun _ => rfl)
      (fun pre' W' => ((BlockAt W' w.heap.size #[.int .i64 r, .int .i64 m, .slice (some ⟨b1, o1, none⟩) (r * m) cap1] 33 ∧ BlockAt W' (w.heap.size + 1) #[.int .i64 m, .int .i64 c, .slice (some ⟨b2, o2, none⟩) (m * c) cap2] 33 ∧
        BlockAt W' (w.heap.size + 1 + 1) #[.int .i64 0, .int .i64 0, .slice none 0 0] 33 ∧ BlockAt W' p #[.int .i64 r, .int .i64 c, .slice (some ⟨bm, off, none⟩) (r * c) (r * c)] 33 ∧ Mat W' bm off r c (rowStep f g (allStep f g m (ixs pre)) i (ixs pre')) ∧ p + 1 < W'.heap.size) ∧
        BlockAt W' q1 #[.int .i64 (i : Nat)] 3 ∧ BlockAt W' (q1 + 1) #[.slice (some ⟨bm, off + i * c, none⟩) c (r * c - i * c)] 31 ∧ CellsBut (fun k => k = bm) W W') ∧ KeepsFrom w4.heap.size W W' ∧ Below w.heap.size w W')
      (fun _ _ _ => False)
      (OwnFrom.and (fun s A B row hs hg hr => ⟨⟨hs.1.1.own hg (fun r e => (hr r e).2), hs.1.2.1.own hg (fun r e => (hr r e).2), hs.1.2.2.1.own hg (fun r e => (hr r e).2), hs.1.2.2.2.1.own hg (fun r e => (hr r e).2), hs.1.2.2.2.2.1.own hg (fun r e => (hr r e).2), Nat.lt_of_lt_of_le hs.1.2.2.2.2.2 hg.size⟩, hs.2.1.own hg (fun r e => (hr r e).2), hs.2.2.1.own hg (fun r e => (hr r e).2), ownFrom_but W s A B row hs.2.2.2 hg hr⟩)
        (OwnFrom.and (ownFrom_keepsFrom (by omega)) (ownFrom_below (Nat.le_refl _) (by have := HKK.out.size; omega))))
      (fun _ _ _ _ _ hs _ _ => hs)
      ⟨⟨⟨HA.out.kept k2, HB.out.kept k2, HR.out.kept k2, H6.out.kept k2, HM.out.kept k2, by omega⟩, HBI.out.kept k2, HBL.out.kept k2, CellsBut.of_kept k2⟩, (KeepsOthers.of_grownBy (grown_kept k2 none) (fun j o e => by cases e)).from _, Kept.trans HKK.out k2⟩
      ?round2 ?done2 ?stop2
    case round2 =>
      rintro l2 ⟨j, hj⟩ W5 K hK'
      have HK := Lib.hid hK'
      clear hK'
      gi_wp2
      refine HK.out _ ?_
      clear HK
      rintro l2 pre2 W5 ⟨⟨⟨iA, iB, iR, i6, iM, iz⟩, jI, jL, jB⟩, jK, iK⟩ hlen2
      have hs1 := HS1.out.kept iK
      have hs2 := HS2.out.kept iK
      have hcell := hs1 i j hi hj
      have hfx := hf i j
      have e0 := later_cell (box3 iA).1
      have e1 := later_cell (box3 iA).2.1
      have e2 := later_cell (box3 iA).2.2
      have e3 := later_cell (box1 jI)
      have e4 := later_cell (box1 jL)
      have e5 := later_cell hcell
      have HA5 := Lib.hid iA
      have HB5 := Lib.hid iB
      have HR5 := Lib.hid iR
      have H65 := Lib.hid i6
      have HM5 := Lib.hid iM
      have HI5 := Lib.hid jI
      have HL5 := Lib.hid jL
      have HJB := Lib.hid jB
      have HJK := Lib.hid jK
      have HK5 := Lib.hid iK
      have HX2 := Lib.hid hs2
      clear iA iB iR i6 iM jI jL jB jK iK hs1 hs2 hcell
      gi_wp2
      refine wpIn_region_later_tail 8 (by kernel_rfl) (by kernel_rfl) (by kernel_rfl) ?_
      simp only [List.take_succ_cons, List.take_zero, List.drop_succ_cons, List.drop_zero]
      repeat (gi_big_quiet_step ((gi_at_call 62; exact (CallsIn.inRound l (callsIn_wide.2 (later_call (row_any r m b1 o1 cap1 i (by omega) ⟨hm.1, by omega⟩ hi hc1 _)))).mono fun e w' h => h)))
      refine wpQuietIn_nil ?_
      intro _ hw'
      obtain ⟨nq, hw''⟩ := hw'
      subst hw''
      clear e0 e1 e2 e3 e4 e5
      have hne2 : b2 ≠ bm := by omega
      have hbt : Bt (rowStep f g (allStep f g m (ixs pre)) i (ixs pre2)) := rowStep_bt hg i _ _ (allStep_bt hg m _)
      have hkq : Kept W5 nq.1 := nq.2
      gi_wp2_with fail
      refine (CallsIn.inRound l2 (CallsIn.inRound l (callsIn_wide.2 (add_row r c bm off _ i (f i j) b2 (o2 + j * c) _ (rowStep f g (allStep f g m (ixs pre)) i (ixs pre2)) (g j) hbt (hg j) (by omega) hi hfx _ (HM5.out.kept hkq)
        (fun wr k hg' _ j' hj' => ((HX2.out.kept hkq).grown hg' (fun e => hne2 (by cases e; rfl))) j j' hj hj'))))).mono ?_
      rintro e W6 ⟨⟨u, rfl⟩, hm6, hg6⟩
      have hgt := grown_trans (grown_kept hkq (some bm)) hg6
      have hno := HM5.out.others hgt
      have HM6 := Lib.hid hm6
      have HGT := Lib.hid hgt
      have HNO := Lib.hid hno
      clear hm6 hgt hno hg6 hbt
      gi_wp2
      have hgt := HGT.out
      refine ⟨HNO.out, but_of_grown hgt rfl, ⟨⟨HA5.out.grown hgt (by simp; omega), HB5.out.grown hgt (by simp; omega), HR5.out.grown hgt (by simp; omega), H65.out.grown hgt (by simp; omega), ?_, Nat.lt_of_lt_of_le iz hgt.size⟩,
        HI5.out.grown hgt (by simp; omega), HL5.out.grown hgt (by simp; omega), HJB.out.trans (but_of_grown hgt rfl)⟩, HJK.out.trans (HNO.out.from _), Kept.grown HK5.out hgt (fun k e => by cases e; omega)⟩
      rw [ixs_snoc _ _ hj, rowStep_snoc]
      exact HM6.out
    case done2 =>
      rintro ys W5 hys ⟨⟨⟨iA, iB, iR, i6, iM, iz⟩, jI, jL, jB⟩, jK, iK⟩
      rw [hys] at iM
      have HM5 := Lib.hid iM
      gi_wp2
      refine ⟨jK, jB, ⟨iA, iB, iR, i6, ?_, iz⟩, iK⟩
      rw [ixs_snoc _ _ hi, allStep_snoc]
      exact HM5.out
    case stop2 =>
      rintro c' pre W _ h
      exact h.elim
  case done =>
    rintro D ys W hD hys ⟨⟨iA, iB, iR, i6, iM, iz⟩, iK⟩ hK
    have hm2 := iM.congr (G := mulM m f g) (fun i j hi _ => by rw [hys]; exact allStep_all hf hg m r i j hi)
    have HM := Lib.hid hm2
    have HBB := Lib.hid iK
    have HB := Lib.hid iR
    obtain ⟨c0, c1, c2⟩ := box3 i6
    have hbl2 := iM.lt
    clear iM hm2 iK i6 iA iB iR
    go_wp2_with (refine wpList_store_block rfl 33 (.tmp 4) (.tmp 49) rfl _ #[.int .i64 r, .int .i64 c, .slice (some ⟨bm, off, none⟩) (r * c) (r * c)] #[.int .i64 0, .int .i64 0, .slice none 0 0] 33 rfl rfl HB.out Try.infoMat rfl (one3 _ _ _ _ _) ?_)
    have hKr : (W.setRow (w.heap.size + 1 + 1) #[.int .i64 r, .int .i64 c, .slice (some ⟨bm, off, none⟩) (r * c) (r * c)]).heap[D]? = some (.deferred (some [])) := by rw [setRow_other _ _ _ _ (by omega)]; exact hK
    refine ⟨by simp, .inl ⟨_, _, rfl, run_takeDeferred hKr, ?_⟩⟩
    have g1 := grown_row W (w.heap.size + 1 + 1) #[.int .i64 r, .int .i64 c, .slice (some ⟨bm, off, none⟩) (r * c) (r * c)]
    have g2 := grown_put (W.setRow (w.heap.size + 1 + 1) #[.int .i64 r, .int .i64 c, .slice (some ⟨bm, off, none⟩) (r * c) (r * c)]) D (.deferred none)
    refine ⟨.tuple #[.agg #[.int .i64 r, .int .i64 c, .slice (some ⟨bm, off, none⟩) (r * c) (r * c)], .int .i64 0], ?_, bm, off, rfl, by omega, (HM.out.grown g1 (by simp; omega)).grown g2 (by simp; omega), (Kept.grown HBB.out g1 (fun k e => by cases e; omega)).grown g2 (fun k e => by cases e; omega)⟩
    exact results_row_tmp rfl _ _ (w.heap.size + 1 + 1) 33 #[.int .i64 r, .int .i64 c, .slice (some ⟨bm, off, none⟩) (r * c) (r * c)] _ rfl ((HB.out.setRow _).grown g2 (by simp; omega)) Try.underlying33 rfl Try.infoMat _ rfl
  case stop =>
    rintro D c' pre W _ _ h _
    exact h.elim
end Go.Proofs.Ytoonpnpooljmlaa

namespace Go.Proofs.Ytoonpnpooljmlaa
open Go.RowKit Go.Shelf
attribute [local go_sem] Oper.semAt_some

def pvV (o : Option Nat) : Int := match o with | none => -1 | some a => a
set_option maxRecDepth 100000 in
set_option maxHeartbeats 2000000 in
theorem pivot_any (r c b off cap fr col : Nat) (F : Nat → Nat → Nat) (hr : r ≤ 64) (hc : 1 ≤ c ∧ c ≤ 64) (hcap : r * c ≤ cap) (hcol : col < c) (hfr : fr ≤ r) (hF : Bt F) (w : World) (hs : MatR w b off r c F) :
    Calls Try.prog 77 #[.agg #[.int .i64 r, .int .i64 c, .slice (some ⟨b, off, none⟩) (r * c) cap], .int .i64 fr, .int .i64 col] w fun e w' => e = .returned (.int .i64 (pvV (pv F col fr (r - fr)))) ∧ Kept w w' := by
  have HS := Lib.hid hs
  clear hs
  refine callsIn_wide.1 (callsIn_of_wp_marks (n := 8) Try.func77 rfl trivial ?_ rfl)
  simp only [Try.ntmps77, List.size_toArray, List.length_nil, List.length_cons, Nat.reduceAdd, Nat.reduceSub, Array.replicate_succ, Array.replicate_zero, List.push_toArray, List.append_toArray, List.nil_append, List.cons_append]
  refine wpIn_wide.2 ?_
  go_wp2_with fail
  go_step3
  go_wp2_with fail
  go_step3
  go_wp2_with fail
  refine (rows_any r c b off cap _).mono ?_
  rintro e w1 ⟨rfl, hw1⟩
  simp only [World.size_alloc]
  have hK : Kept w w1 := by rw [hw1]; exact ((((((Kept.refl w).alloc _).alloc _).alloc _).alloc _).alloc _)
  have hbf : BlockAt w1 (w.heap.size + 1) #[.int .i64 fr] 3 := by rw [hw1]; exact (BlockAt.new1 w _ _ _).kept (((Kept.refl _).alloc _ |>.alloc _ |>.alloc _))
  have hbc : BlockAt w1 (w.heap.size + 1 + 1) #[.int .i64 col] 3 := by rw [hw1]; exact (BlockAt.new2 w _ _ _ _).kept (((Kept.refl _).alloc _ |>.alloc _))
  have hbn : BlockAt w1 (w.heap.size + 1 + 1 + 1) #[.int .i64 (-1)] 3 := by rw [hw1]; exact (BlockAt.new3 w _ _ _ _ _).kept (((Kept.refl _).alloc _))
  have hbm : BlockAt w1 (w.heap.size + 1 + 1 + 1 + 1) #[.int .i64 r, .int .i64 c, .slice (some ⟨b, off, none⟩) (r * c) cap] 33 := by
    have h := BlockAt.new3 (w.alloc (.cells #[.int .i64 r, .int .i64 c, .slice (some ⟨b, off, none⟩) (r * c) cap] 33)) #[.int .i64 r, .int .i64 c, .slice (some ⟨b, off, none⟩) (r * c) cap] 33
      (.cells #[.int .i64 fr] 3) (.cells #[.int .i64 col] 3) (.cells #[.int .i64 (-1)] 3)
    rw [World.size_alloc] at h
    rw [hw1]; exact h
  have hz : w1.heap.size = w.heap.size + 5 := by rw [hw1]; simp
  clear hw1
  generalize hp : w.heap.size + 1 = p1 at *
  have hpz := Nat.le_of_eq hp
  clear hp
  go_wp2
  refine wp_of_in 8 ?_
  refine wpIn_rangeFunc_S rfl (by omega) (gf := 75) (lb := #[.pointer (some ⟨p1 + 1 + 1 + 1, 0, none⟩)]) rfl trivial (enters_of Try.func75 (by kernel_rfl) rfl)
    (rows_stops 7 (by omega) (fun k => k = p1 + 1 + 1) r c b off cap (p1 + 1 + 1 + 1) hr hc hcap w1 (by omega) hbm) (CellsBut.refl _) CellsBut.trans CellsBut.putObj (Below.refl _ _) (fun _ => rfl)
    (fun pre W => (BlockAt W p1 #[.int .i64 fr] 3 ∧ BlockAt W (p1 + 1) #[.int .i64 col] 3 ∧ BlockAt W (p1 + 1 + 1) #[.int .i64 (-1)] 3 ∧ ∀ k, k ∈ ixs pre → fr ≤ k → F k col = 0) ∧ Below w.heap.size w W)
    (fun code pre W => (code = .exit 0 ∧ ∃ pre' : List { k : Nat // k < r }, ∃ k : Nat, ixs pre = ixs pre' ++ [k] ∧ k < r ∧ BlockAt W (p1 + 1 + 1) #[.int .i64 k] 3 ∧ fr ≤ k ∧ F k col ≠ 0 ∧ ∀ k, k ∈ ixs pre' → fr ≤ k → F k col = 0) ∧ Below w.heap.size w W)
    (OwnFrom.and (Own.from (fun s A B row hs hg hr => ⟨hs.1.own hg hr, hs.2.1.own hg hr, hs.2.2.1.own hg hr, hs.2.2.2⟩) _) (ownFrom_below (Nat.le_refl _) (by omega)))
    (fun code => OwnFrom.and (Own.from (fun s A B row hs hg hr => ⟨hs.1, by obtain ⟨_, pre', k, e, h1, h2, h3⟩ := hs; exact ⟨pre', k, e, h1, h2.own hg hr, h3⟩⟩) _) (ownFrom_below (Nat.le_refl _) (by omega)))
    ⟨⟨hbf, hbc, hbn, fun k hk => by cases hk⟩, hK⟩ ?round ?done ?stop
  case round =>
    rintro l ⟨k, hk⟩ W K hK'
    have HK := Lib.hid hK'
    clear hK'
    gi_wp2
    refine HK.out _ ?_
    clear HK
    rintro l pre W ⟨⟨iF, iC, iN, iZ⟩, iK⟩ hlen
    have c1 := box1 iF
    have c2 := box1 iC
    have hcell := HS.out.kept iK k col hk hcol
    have hfx := hF k col
    have HF := Lib.hid iF
    have HC := Lib.hid iC
    have HN := Lib.hid iN
    have HZ := Lib.hid iZ
    have HKK := Lib.hid iK
    have c3 := box1 iN
    have c4 := iN.free 0
    have hsn := ixs_snoc pre k hk
    have HSN := Lib.hid hsn
    clear iF iC iN iZ iK hsn
    by_cases hlt : k < fr
    · gi_wp2
      refine ⟨KeepsOthers.refl _, CellsBut.refl _ _, ⟨HF.out, HC.out, HN.out, fun q hq hfq => ?_⟩, HKK.out⟩
      rw [HSN.out] at hq
      rcases List.mem_append.1 hq with h | h
      · exact HZ.out q h hfq
      · simp at h; omega
    · have hd : decide ((k : Int) < (fr : Int)) = false := decide_eq_false (by omega)
      by_cases h0 : F k col = 0
      · have HH0 := Lib.hid h0
        rw [h0] at hcell
        gi_wp2
        refine ⟨KeepsOthers.refl _, CellsBut.refl _ _, ⟨HF.out, HC.out, HN.out, fun q hq hfq => ?_⟩, HKK.out⟩
        rw [HSN.out] at hq
        rcases List.mem_append.1 hq with h | h
        · exact HZ.out q h hfq
        · simp at h; rw [h]; exact HH0.out
      · have hb0 : (((F k col : Nat) : Int) == 0) = false := by rw [beq_eq_false_iff_ne]; omega
        have HH0 := Lib.hid h0
        clear h0
        gi_wp2
        exact ⟨KeepsOthers.setCell _ _ _, ⟨rfl, pre, k, HSN.out, hk, HN.out.set _, by omega, HH0.out, HZ.out⟩, HKK.out.setCell (p := ⟨p1 + 1 + 1, 0, none⟩) (by show w.heap.size ≤ p1 + 1 + 1; omega) _⟩
  case done =>
    rintro D ys W hD hys ⟨⟨iF, iC, iN, iZ⟩, iK⟩ hK
    rw [hys] at iZ
    have hpv := pv_zeros (f := F) (col := col) (n := fr) (k := r - fr) (fun i h1 h2 => iZ i (by simp; omega) h1)
    have HP := Lib.hid hpv
    have c3 := box1 iN
    clear iZ hpv iF iC iN
    go_wp2
    refine noGoto_ret ?_
    refine ⟨by simp, .inl ⟨_, _, rfl, run_takeDeferred hK, ?_⟩⟩
    exact ⟨_, results_tmp rfl _ _ _, by rw [HP.out]; rfl, Kept.grown iK (grown_put W D _) (fun k e => by cases e; omega)⟩
  case stop =>
    rintro D code pre W hD ⟨k1, _, hk1⟩ ⟨⟨rfl, pre', k, hpre, hkr, iN, hfk, h0, iZ⟩, iK⟩ hK
    rw [hk1, List.range_succ] at hpre
    obtain ⟨e1, e2⟩ := List.append_inj' hpre (by simp)
    simp only [List.cons.injEq, and_true] at e2
    subst e2
    rw [← e1] at iZ
    have hpv := pv_first (f := F) (col := col) (n := fr) (a := k1) (k := r - fr) hfk (by omega) h0 (fun i h1 h2 => iZ i (by simp; omega) h1)
    have HP := Lib.hid hpv
    have c3 := box1 iN
    clear iZ hpv iN hpre e1 hk1
    gi_wp2
    go_wp2
    refine noGoto_ret ?_
    refine ⟨by simp, .inl ⟨_, _, rfl, run_takeDeferred hK, ?_⟩⟩
    exact ⟨_, results_tmp rfl _ _ _, by rw [HP.out]; rfl, Kept.grown iK (grown_put W D _) (fun k e => by cases e; omega)⟩
end Go.Proofs.Ytoonpnpooljmlaa

namespace Go.Proofs.Ytoonpnpooljmlaa
open Go.RowKit

def mark (D : Nat) : Deferred := { target := .collected D, args := #[] }
/-- all blocks but these are as they were -/
structure Turned (Ds : List Nat) (w w' : World) : Prop where
  os : w'.os = w.os
  tape : w'.tape = w.tape
  output : w'.output = w.output
  size : w'.heap.size = w.heap.size
  block : ∀ k, k ∉ Ds → w'.heap[k]? = w.heap[k]?
theorem Turned.refl (w : World) (Ds : List Nat) : Turned Ds w w := ⟨rfl, rfl, rfl, rfl, fun _ _ => rfl⟩
theorem leaves_marks {F : Fence} {n : Nat} {P : Program} {fn : Func} {tmps : Array Value} {R : Ending → World → Prop} : ∀ (Ds : List Nat) (W : World), Ds.Nodup → (∀ D, D ∈ Ds → W.heap[D]? = some (.deferred (some []))) →
    (∀ W', Turned Ds W W' → LeavesInM F n P fn tmps R [] .returning W') → LeavesInM F n P fn tmps R (Ds.map mark) .returning W
  | [], W, _, _, h => h W (Turned.refl W [])
  | D :: Ds, W, hn, hd, h => by
    have hD := hd D (by simp)
    obtain ⟨hn1, hn2⟩ := List.nodup_cons.1 hn
    refine ⟨by simp, .inl ⟨D, _, rfl, run_takeDeferred hD, ?_⟩⟩
    have hoth : ∀ k, k ≠ D → (W.putObj D (.deferred none)).heap[k]? = W.heap[k]? := fun k hk => World.putObj_heap_other hk
    have hg := grownBy_putObj' W D (.deferred none)
    refine leaves_marks Ds _ hn2 (fun E hE => ?_) (fun W' hT => h W' ⟨hT.os.trans hg.os, hT.tape.trans hg.tape, hT.output.trans hg.output, by rw [hT.size]; simp, fun k hk => ?_⟩)
    · rw [hoth E (fun e => hn1 (e ▸ hE))]; exact hd E (by simp [hE])
    · rw [hT.block k (fun h => hk (by simp [h])), hoth k (fun h => hk (by simp [h]))]
theorem Turned.grown {Ds : List Nat} {a w w' : World} {row : Option Nat} (h : Turned Ds w w') (g : a.grownBy w row) (hD : ∀ D, D ∈ Ds → a.heap.size ≤ D) : a.grownBy w' row :=
  ⟨h.os.trans g.os, h.tape.trans g.tape, h.output.trans g.output, by rw [h.size]; exact g.size, fun k hk hne => (h.block k (fun hm => by have := hD k hm; omega)).trans (g.block k hk hne)⟩
theorem ownFrom_grown {β : Type} {B : Nat} {row : Option Nat} (w₀ : World) (hB : w₀.heap.size ≤ B) : OwnFrom B (fun (_ : β) W => w₀.grownBy W row) := fun s A C r hs hg hr =>
  ⟨hg.os.trans hs.os, hg.tape.trans hs.tape, hg.output.trans hs.output, Nat.le_trans hs.size hg.size, fun k hk hne => by
    refine (hg.block k (Nat.lt_of_lt_of_le hk hs.size) (fun e => ?_)).trans (hs.block k hk hne)
    have := (hr k e.symm).1
    omega⟩
theorem grown_new {w a c : World} {row : Option Nat} {q : Nat} (h : w.grownBy a row) (g : a.grownBy c (some q)) (hq : w.heap.size ≤ q) : w.grownBy c row :=
  ⟨g.os.trans h.os, g.tape.trans h.tape, g.output.trans h.output, Nat.le_trans h.size g.size, fun k hk hne => (g.block k (Nat.lt_of_lt_of_le hk h.size) (fun e => by cases e; omega)).trans (h.block k hk hne)⟩
theorem BlockAt.turned {Ds : List Nat} {w w' : World} {b : Nat} {C : Array Value} {t : TypeId} (h : BlockAt w b C t) (g : Turned Ds w w') (hb : b ∉ Ds) : BlockAt w' b C t := (g.block b hb).trans h
/-- A piece that ends in no other way than by going on. -/
theorem wp_normal {P : Program} {c : Code} {K : Act → World → Prop} {Q : Exit → Act → World → Prop} {a : Act} {w : World} (h : c.wp P (Exit.then K (fun _ _ _ => False)) a w) : c.wp P (Exit.then K Q) a w :=
  wp_mono h (fun e a w h => by
    cases e with
    | normal => exact h
    | exit id => exact h.elim
    | goto l => exact h.elim
    | ret => exact h.elim
    | panic ch => exact h.elim
    | outgrown => exact h.elim)
end Go.Proofs.Ytoonpnpooljmlaa

namespace Go.Proofs.Ytoonpnpooljmlaa
open Go.RowKit Go.Shelf
attribute [local go_sem] Oper.semAt_some

theorem Mat.turned {Ds : List Nat} {w w' : World} {b off r c : Nat} {F : Nat → Nat → Nat} (h : Mat w b off r c F) (g : Turned Ds w w') (hb : b ∉ Ds) : Mat w' b off r c F := by
  obtain ⟨cs, hk⟩ := h.blk
  exact ⟨⟨cs, hk.turned g hb⟩, fun i j hi hj => (World.cell?_of_block (a := ⟨b, off + i * c + j, none⟩) (g.block b hb)).trans (h.cell i j hi hj)⟩
/-- the column's other numbers made 0, row by row in whatever order -/
def eStep (t col : Nat) (G : Nat → Nat → Nat) (n : Nat) : Nat → Nat → Nat := if n = t then G else addF G n t (G n col)
def eAll (F : Nat → Nat → Nat) (t col : Nat) (l : List Nat) : Nat → Nat → Nat := l.foldl (eStep t col) F
theorem eAll_snoc (F : Nat → Nat → Nat) (t col : Nat) (l : List Nat) (n : Nat) : eAll F t col (l ++ [n]) = eStep t col (eAll F t col l) n := by simp [eAll]
theorem eAll_range (F : Nat → Nat → Nat) (t col : Nat) : ∀ n, eAll F t col (List.range n) = elimTo F t col n
  | 0 => (elimTo_zero F t col).symm
  | n + 1 => by
    rw [List.range_succ, eAll_snoc, eAll_range F t col n]
    unfold eStep
    by_cases h : n = t
    · subst h; rw [if_pos rfl, elimTo_top]
    · rw [if_neg h, elimTo_at, elimTo_succ F t col n h]
theorem eAll_bt {F : Nat → Nat → Nat} (hF : Bt F) (t col : Nat) : ∀ l, Bt (eAll F t col l) := by
  have gen : ∀ (l : List Nat) (F : Nat → Nat → Nat), Bt F → Bt (l.foldl (eStep t col) F) := by
    intro l
    induction l with
    | nil => intro F h; exact h
    | cons i l ih =>
      intro F h
      refine ih _ ?_
      unfold eStep; split
      · exact h
      · exact h.add _ _ _
  exact fun l => gen l F hF
theorem addF_zero (G : Nat → Nat → Nat) (a t : Nat) : addF G a t 0 = G := by
  funext i j
  unfold addF
  by_cases h : i = a
  · rw [if_pos h, Gf.mul_zero, Nat.xor_zero, h]
  · rw [if_neg h]

set_option maxRecDepth 100000 in
set_option maxHeartbeats 4000000 in
theorem reduce_any (r c b off cap cols : Nat) (F : Nat → Nat → Nat) (hr : r ≤ 16) (hc : 1 ≤ c ∧ c ≤ 32) (hcap : r * c ≤ cap) (hcol : cols ≤ c) (hF : Bt F) (w : World) (hm : Mat w b off r c F) :
    Calls Try.prog 63 #[.agg #[.int .i64 r, .int .i64 c, .slice (some ⟨b, off, none⟩) (r * c) cap], .int .i64 cols] w fun e w' => e = .returned (.int .i64 ((redTo r F cols).1 : Nat)) ∧ Mat w' b off r c (redTo r F cols).2 ∧ w.grownBy w' (some b) := by
  have HM := Lib.hid hm
  have hbw := hm.lt
  clear hm
  refine callsIn_wide.1 (callsIn_of_wp_marks (n := 8) Try.func63 rfl trivial ?_ rfl)
  simp only [Try.ntmps63, List.size_toArray, List.length_nil, List.length_cons, Nat.reduceAdd, Nat.reduceSub, Array.replicate_succ, Array.replicate_zero, List.push_toArray, List.append_toArray, List.nil_append, List.cons_append]
  refine wpIn_wide.2 ?_
  go_wp2_with fail
  go_step3
  go_wp2_with fail
  go_step3
  go_wp2_with fail
  refine wp_loop (fun a' W => ∃ Ds : List Nat, ∃ k : Nat, ∃ u6 u7 u8 u9 u10 u11 u12 u14 u15 u16 u17 u18 u19 u20 u21 u22 u23 u24 u25 u26 u27 u28 u29 u30 u31 u32 u33 u34 u35 u36 u37 u38 u39 u40 u41 u42 u43 u44 u45 u46 u47 u48 u49 u50 u51 u52 u53 u54 u55 u56 u57 u58 u59 u60 u61 u62 u63 u64 u65 u66 : Value, 
      ((k ≤ cols ∧ u14 = .int .i64 (k : Nat) ∧ (Ds.Nodup ∧ ∀ D, D ∈ Ds → w.heap.size ≤ D ∧ W.heap[D]? = some (.deferred (some []))) ∧ BlockAt W w.heap.size #[.int .i64 r, .int .i64 c, .slice (some ⟨b, off, none⟩) (r * c) cap] 33 ∧
        BlockAt W (w.heap.size + 1) #[.int .i64 ((redTo r F k).1 : Nat)] 3 ∧ Mat W b off r c (redTo r F k).2 ∧ w.grownBy W (some b)) ∧
      a' = { tmps := #[.agg #[.int .i64 r, .int .i64 c, .slice (some ⟨b, off, none⟩) (r * c) cap], .int .i64 cols, .pointer (some ⟨w.heap.size, 0, none⟩), undef, .int .i64 0, .pointer (some ⟨w.heap.size + 1, 0, none⟩), u6, u7, u8, u9, u10, u11, u12, .int .i64 cols, u14, u15, u16, u17, u18, u19, u20, u21, u22, u23, u24, u25, u26, u27, u28, u29, u30, u31, u32, u33, u34, u35, u36, u37, u38, u39, u40, u41, u42, u43, u44, u45, u46, u47, u48, u49, u50, u51, u52, u53, u54, u55, u56, u57, u58, u59, u60, u61, u62, u63, u64, u65, u66], defers := Ds.map mark }))
    (fun a' _ => cols - (intOf (a'.tmps.getD 14 undef)).toNat) ?atStart ?round
  case atStart =>
    refine ⟨[], 0, ?_⟩
    (repeat apply Exists.intro)
    refine ⟨?_, rfl⟩
    have hk : Kept w ((w.alloc (.cells #[.int .i64 r, .int .i64 c, .slice (some ⟨b, off, none⟩) (r * c) cap] 33)).alloc (.cells #[.int .i64 0] 3)) := ((Kept.refl w).alloc _).alloc _
    exact ⟨by omega, rfl, ⟨by simp, fun D hD => by cases hD⟩, (BlockAt.new w _ _).kept ((Kept.refl _).alloc _), BlockAt.new1 w _ _ _, HM.out.kept hk, grown_kept hk _⟩
  case round =>
    rintro _ wr ⟨Ds, k, u6, u7, u8, u9, u10, u11, u12, u14, u15, u16, u17, u18, u19, u20, u21, u22, u23, u24, u25, u26, u27, u28, u29, u30, u31, u32, u33, u34, u35, u36, u37, u38, u39, u40, u41, u42, u43, u44, u45, u46, u47, u48, u49, u50, u51, u52, u53, u54, u55, u56, u57, u58, u59, u60, u61, u62, u63, u64, u65, u66, ⟨hk, rfl, ⟨hnd, hds⟩, h2, h5, hmr, hgr⟩, rfl⟩
    have HND := Lib.hid hnd
    have HDS := Lib.hid hds
    have H2 := Lib.hid h2
    have H5 := Lib.hid h5
    have HMR := Lib.hid hmr
    have HGR := Lib.hid hgr
    have hbt := redTo_bt r F hF k
    have hrk := redTo_le r F k
    clear hnd hds hmr hgr h2 h5
    by_cases hlt : k < cols
    · obtain ⟨a0, a1, a2⟩ := box3 (H2.out.kept ((Kept.refl wr).alloc (.cells #[.int .i64 k] 3)))
      have a5 := box1 (H5.out.kept ((Kept.refl wr).alloc (.cells #[.int .i64 k] 3)))
      go_wp2_with fail
      refine (pivot_any r c b off cap (redTo r F k).1 k (redTo r F k).2 (by omega) ⟨hc.1, by omega⟩ hcap (by omega) hrk.1 hbt _ (HMR.out.cell.kept ((Kept.refl wr).alloc _))).mono ?_
      rintro e w2 ⟨rfl, hk2⟩
      have k12 : Kept wr w2 := ((Kept.refl wr).alloc _).trans hk2
      have h6 := (BlockAt.new wr #[.int .i64 k] 3).kept hk2
      have H22 := Lib.hid (H2.out.kept k12)
      have H52 := Lib.hid (H5.out.kept k12)
      have HM2 := Lib.hid (HMR.out.kept k12)
      have HG2 := Lib.hid (grown_trans HGR.out (grown_kept k12 _))
      have HDS2 : Hid (∀ D, D ∈ Ds → w.heap.size ≤ D ∧ w2.heap[D]? = some (.deferred (some []))) := Lib.hid (fun D hD => ⟨(HDS.out D hD).1, (Below.block k12 D (Array.getElem?_eq_some_iff.1 (HDS.out D hD).2).1).trans (HDS.out D hD).2⟩)
      have hq5 := H5.out.lt
      have hq6 := h6.lt
      have H62 := Lib.hid h6
      have hDl : ∀ D, D ∈ Ds → D < wr.heap.size := fun D hD => (Array.getElem?_eq_some_iff.1 (HDS.out D hD).2).1
      have HDL := Lib.hid hDl
      clear a0 a1 a2 a5 h6 hk2 k12 H2 H5 HMR HGR HDS hDl
      generalize wr.heap.size = q6 at *
      clear wr
      cases hp : pv (redTo r F k).2 k (redTo r F k).1 (r - (redTo r F k).1) with
      | none =>
        have HN := Lib.hid (redTo_none r F k hp)
        clear hp
        rw [show pvV none = (-1 : Int) from rfl]
        go_wp2
        refine ⟨⟨Ds, k + 1, ?_⟩, ?measure1⟩
        (repeat apply Exists.intro)
        refine ⟨?rel1, rfl⟩
        case rel1 => exact ⟨by omega, by go_num, ⟨HND.out, HDS2.out⟩, H22.out, by rw [HN.out]; exact H52.out, by rw [HN.out]; exact HM2.out, HG2.out⟩
        case measure1 => simp [intOf]; omega
      | some a =>
        have HSm := Lib.hid (redTo_some r F k a hp)
        obtain ⟨g1, g2, g3, _⟩ := pv_some hp
        clear hp
        rw [show pvV (some a) = (a : Int) from rfl]
        have hd : decide ((a : Int) < 0) = false := decide_eq_false (by omega)
        obtain ⟨a0, a1, a2⟩ := box3 H22.out
        have a5 := box1 H52.out
        generalize hS : (redTo r F k).2 = S at *
        generalize hrho : (redTo r F k).1 = rho at *
        have hrr : rho < r := by omega
        clear hS hrho
        go_wp2_with fail
        refine (row_any r c b off cap rho (by omega) ⟨hc.1, by omega⟩ hrr hcap _).mono ?_
        rintro e w3 ⟨rfl, hk3⟩
        clear a0 a1 a2 a5
        have hq3 := Below.size hk3
        go_wp2_with fail
        have h8 := BlockAt.new w3 #[.slice (some ⟨b, off + rho * c, none⟩) c (cap - rho * c)] 31
        have k4 : Kept w2 (w3.alloc (.cells #[.slice (some ⟨b, off + rho * c, none⟩) c (cap - rho * c)] 31)) := hk3.trans ((Kept.refl w3).alloc _)
        have hq8 : q6 < w3.heap.size := by omega
        generalize w3.alloc (.cells #[.slice (some ⟨b, off + rho * c, none⟩) c (cap - rho * c)] 31) = w4 at *
        generalize w3.heap.size = q8 at *
        have b2 := H22.out.kept k4
        have b5 := H52.out.kept k4
        have b6 := H62.out.kept k4
        have bM := HM2.out.kept k4
        have e0 := later_cell (box3 b2).1
        have e1 := later_cell (box3 b2).2.1
        have e2 := later_cell (box3 b2).2.2
        have e3 := later_cell (box1 h8)
        have HB2 := Lib.hid b2
        have HB5 := Lib.hid b5
        have HB6 := Lib.hid b6
        have HBM := Lib.hid bM
        have HB8 := Lib.hid h8
        have HK4 := Lib.hid k4
        have hlb8 := h8.lt
        clear b2 b5 b6 bM h8 k4 hk3 w3
        refine (wpIn_wide (n := 0)).1 ?_
        refine wpIn_region_later_tail 4 (by kernel_rfl) (by kernel_rfl) (by kernel_rfl) ?_
        simp only [List.take_succ_cons, List.take_zero, List.drop_succ_cons, List.drop_zero]
        repeat (gi_big_quiet_step ((gi_at_call 62; exact callsIn_wide.2 (later_call (row_any r c b off cap a (by omega) ⟨hc.1, by omega⟩ (by omega) hcap _)))))
        refine wpQuietIn_nil ?_
        intro _ hw'
        obtain ⟨nq, hw''⟩ := hw'
        subst hw''
        clear e0 e1 e2 e3
        have hkq : Kept w4 nq.1 := nq.2
        gi_wp2_with fail
        refine (callsIn_wide.2 (swap_any r c b off _ _ rho a S hbt (by omega) hrr (by omega) _ (HBM.out.kept hkq))).mono ?_
        rintro e w5 ⟨⟨u, rfl⟩, hm5, hg5⟩
        have hg45 := grown_trans (grown_kept hkq (some b)) hg5
        have d2 := HB2.out.grown hg45 (by simp; omega)
        have d5 := HB5.out.grown hg45 (by simp; omega)
        have d6 := HB6.out.grown hg45 (by simp; omega)
        have d8 := HB8.out.grown hg45 (by simp; omega)
        have c8 := box1 d8
        have c6 := box1 d6
        have hcell := hm5.cell rho k hrr (by omega)
        rw [show swapF S rho a rho k = S a k from if_pos rfl] at hcell
        have hx0 : 0 < S a k := Nat.pos_of_ne_zero g3
        have hx := hbt a k
        have HTF := Lib.hid (show topF S rho k a = scaleF (swapF S rho a) rho (Gf.inv (S a k)) from rfl)
        have HG45 := Lib.hid hg45
        have HM5 := Lib.hid hm5
        have HD2 := Lib.hid d2
        have HD5 := Lib.hid d5
        have HD6 := Lib.hid d6
        have HD8 := Lib.hid d8
        generalize S a k = x at hcell hx0 hx HTF
        clear hg5 hm5 hg45 hkq d2 d5 d6 d8 g3
        gi_wp2
        go_wp2_with fail
        refine (inv_any x hx0 hx _).mono ?_
        rintro e w' ⟨rfl, rfl⟩
        go_wp2_with fail
        refine (scale_row r c b off _ rho (Gf.inv x) (swapF S rho a) (hbt.swap _ _) (by omega) hrr (Gf.inv_lt hx) _ HM5.out).mono ?_
        rintro e w6 ⟨⟨u6, rfl⟩, hm6, hg6⟩
        rw [← HTF.out] at hm6
        have hg46 := grown_trans HG45.out hg6
        have d2 := HD2.out.grown hg6 (by simp; omega)
        have d5 := HD5.out.grown hg6 (by simp; omega)
        have d6 := HD6.out.grown hg6 (by simp; omega)
        have d8 := HD8.out.grown hg6 (by simp; omega)
        have HG46 := Lib.hid hg46
        have HM6 := Lib.hid hm6
        have HD26 := Lib.hid d2
        have HD56 := Lib.hid d5
        have HD66 := Lib.hid d6
        have HD86 := Lib.hid d8
        obtain ⟨a0, a1, a2⟩ := box3 d2
        have hbtop : Bt (topF S rho k a) := hbt.top _ _ _
        generalize hT : topF S rho k a = T at HM6 hbtop
        have HT := Lib.hid hT
        clear hT
        clear hg6 hm6 hg46 d2 d5 d6 d8 HD2 HD5 HD6 HD8 HM5 HG45 hcell c8 c6
        go_wp2_with fail
        refine (rows_any r c b off cap _).mono ?_
        rintro e w7 ⟨rfl, hw7⟩
        have k67 : Kept w6 w7 := by rw [hw7]; exact (Kept.refl w6).alloc _
        have h7 : BlockAt w7 w6.heap.size #[.int .i64 r, .int .i64 c, .slice (some ⟨b, off, none⟩) (r * c) cap] 33 := by rw [hw7]; exact BlockAt.new _ _ _
        have hz7 : w7.heap.size = w6.heap.size + 1 := by rw [hw7]; simp
        have hz6 := HD86.out.lt
        have hG := grown_trans (grown_kept HK4.out (some b)) (grown_trans HG46.out (grown_kept k67 _))
        have d2 := HD26.out.kept k67
        have d5 := HD56.out.kept k67
        have d6 := HD66.out.kept k67
        have d8 := HD86.out.kept k67
        have m7 := HM6.out.kept k67
        have HG7 := Lib.hid hG
        have HD2 := Lib.hid d2
        have HD5 := Lib.hid d5
        have HD6 := Lib.hid d6
        have HD8 := Lib.hid d8
        have HM7 := Lib.hid m7
        clear hw7 k67 hG d2 d5 d6 d8 m7 a0 a1 a2 HD26 HD56 HD66 HD86 HM6 HG46 HK4
        generalize w6.heap.size = q7 at *
        go_wp2
        refine wp_of_in 8 ?_
        refine wpIn_rangeFunc_S rfl (by omega) (gf := 75) (lb := #[.pointer (some ⟨q7, 0, none⟩)]) rfl trivial (enters_of Try.func75 (by kernel_rfl) rfl)
          (rows_stops 7 (by omega) (fun q => q = b) r c b off cap q7 (by omega) ⟨hc.1, by omega⟩ hcap w7 (by omega) h7) (CellsBut.refl _) CellsBut.trans CellsBut.putObj (Below.refl _ _) (fun _ => rfl)
          (fun pre W => Mat W b off r c (eAll T rho k (ixs pre)) ∧ w7.grownBy W (some b))
          (fun _ _ _ => False)
          (OwnFrom.and (Own.from (fun s A B row hs hg hr => hs.own hg hr) _) (ownFrom_grown w7 (Nat.le_refl _)))
          (fun _ _ _ _ _ hs _ _ => hs)
          ⟨HM7.out, grown_refl w7 _⟩ ?rround ?rdone ?rstop
        case rround =>
          rintro l ⟨i, hi⟩ W K hK'
          have HK := Lib.hid hK'
          clear hK'
          gi_wp2
          refine HK.out _ ?_
          clear HK
          rintro l pre W ⟨iM, iG⟩ hlen
          have c5 := box1 (HD5.out.grown iG (by simp; omega))
          have c6 := box1 (HD6.out.grown iG (by simp; omega))
          have c8 := box1 (HD8.out.grown iG (by simp; omega))
          have hcell := iM.cell i k hi (by omega)
          have hbe := eAll_bt hbtop rho k (ixs pre)
          have hsn := eAll_snoc T rho k (ixs pre) i
          rw [← ixs_snoc pre i hi] at hsn
          have HSN := Lib.hid hsn
          generalize eAll T rho k (ixs pre) = G at iM hcell hbe HSN
          have hx := hbe i k
          have HM := Lib.hid iM
          have HG := Lib.hid iG
          clear hsn iM iG
          by_cases hir : i = rho
          · have hne : ((i : Int) != (rho : Int)) = false := by rw [hir]; simp
            have hst : eStep rho k G i = G := if_pos hir
            have HST := Lib.hid hst
            clear hst hir
            gi_wp2
            exact ⟨KeepsOthers.refl _, CellsBut.refl _ _, by rw [HSN.out, HST.out]; exact HM.out, HG.out⟩
          · have hne : ((i : Int) != (rho : Int)) = true := by rw [bne_iff_ne]; omega
            have hst : eStep rho k G i = addF G i rho (G i k) := if_neg hir
            have HST := Lib.hid hst
            clear hst
            by_cases h0 : G i k = 0
            · have HAZ := Lib.hid (show addF G i rho (G i k) = G by rw [h0, addF_zero])
              rw [h0] at hcell
              have hb0 : ((0 : Int) != 0) = false := by simp
              clear h0
              gi_wp2
              exact ⟨KeepsOthers.refl _, CellsBut.refl _ _, by rw [HSN.out, HST.out, HAZ.out]; exact HM.out, HG.out⟩
            · have hb0 : (((G i k : Nat) : Int) != 0) = true := by rw [bne_iff_ne]; omega
              clear h0
              gi_wp2
              refine wpIn_region_quiet_tail_lit 6 (by kernel_rfl) (by kernel_rfl) (by kernel_rfl) ?_
              simp only [List.take_succ_cons, List.take_zero, List.drop_succ_cons, List.drop_zero]
              repeat (gi_big_quiet_step (fail))
              refine wpQuietIn_nil ?_
              intro _ hw'
              obtain ⟨nq, hw''⟩ := hw'
              subst hw''
              have hkq : Kept W (W.drewN nq) := (Kept.refl W).drewN nq
              generalize W.drewN nq = W2 at hkq
              clear c5 c6 c8 hcell
              gi_wp2_with fail
              refine (CallsIn.inRound l (callsIn_wide.2 (add_row r c b off _ i (G i k) b (off + rho * c) _ G (G rho) hbe (hbe rho) (by omega) hi hx _ (HM.out.kept hkq)
                (fun wr q _ hm' j hj => by
                  have h := hm'.cell rho j hrr hj
                  rw [show rowTo G (addRowF G i (G rho) (G i k)) i q rho j = G rho j from if_neg (fun e => hir e.1.symm)] at h
                  exact h)))).mono ?_
              rintro e W6 ⟨⟨u9, rfl⟩, hm6, hg6⟩
              have hgt := grown_trans (grown_kept hkq (some b)) hg6
              have hno := HM.out.others hgt
              have HM6 := Lib.hid hm6
              have HGT := Lib.hid hgt
              have HNO := Lib.hid hno
              clear hm6 hgt hno hg6
              gi_wp2
              refine ⟨HNO.out, but_of_grown HGT.out rfl, ?_, grown_trans HG.out HGT.out⟩
              rw [HSN.out, HST.out]
              exact HM6.out
        case rdone =>
          rintro D ys W hD hys ⟨iM, iG⟩ hK
          rw [hys, eAll_range] at iM
          have c5 := box1 (HD5.out.grown iG (by simp; omega))
          have f5 := (HD5.out.grown iG (by simp; omega)).free 0
          have HM := Lib.hid iM
          have HG := Lib.hid iG
          have HKD := Lib.hid hK
          clear iM iG hK
          go_wp2
          refine ⟨⟨D :: Ds, k + 1, ?_⟩, ?measure2⟩
          (repeat apply Exists.intro)
          refine ⟨?rel2, rfl⟩
          case rel2 =>
            have hgW := grown_set W (w.heap.size + 1) 0 (.int .i64 ((rho : Int) + 1))
            have htot : w2.grownBy W (some b) := grown_trans HG7.out HG.out
            have hbD : b ≠ w.heap.size + 1 := by omega
            refine ⟨by omega, by go_num, ⟨List.nodup_cons.2 ⟨fun h => by have := HDL.out D h; omega, HND.out⟩, fun E hE => ?_⟩, ?_, ?_, ?_, ?_⟩
            · rcases List.mem_cons.1 hE with e | h
              · subst e
                exact ⟨by omega, (Below.heap_setCell W ⟨w.heap.size + 1, 0, none⟩ _ E (by show E ≠ w.heap.size + 1; omega)).trans HKD.out⟩
              · obtain ⟨d1, d2⟩ := HDS2.out E h
                have hEl := HDL.out E h
                have hE5 : E ≠ w.heap.size + 1 := fun e => by
                  have h' : w2.heap[w.heap.size + 1]? = some (.cells #[.int .i64 (rho : Nat)] 3 (0, 0)) := H52.out
                  rw [e, h'] at d2; cases d2
                refine ⟨d1, (Below.heap_setCell W ⟨w.heap.size + 1, 0, none⟩ _ E hE5).trans ((htot.block E (by omega) (fun e => by cases e; omega)).trans d2)⟩
            · exact (H22.out.grown htot (by simp; omega)).setOther _ (by omega)
            · rw [HSm.out]
              have h := (HD5.out.grown HG.out (by simp; omega)).set (i := 0) (.int .i64 ((rho : Int) + 1))
              exact h
            · rw [HSm.out]
              show Mat _ b off r c (elimTo (topF S rho k a) rho k r)
              rw [HT.out]
              exact HM.out.grown hgW (by simp; omega)
            · exact grown_new (grown_trans HG2.out htot) hgW (by omega)
          case measure2 => simp [intOf]; omega
        case rstop =>
          rintro D c' pre W _ _ h _
          exact h.elim
    · obtain rfl : k = cols := by omega
      have c5 := box1 H5.out
      go_wp2
      refine noGoto_ret ?_
      refine leaves_marks Ds wr HND.out (fun D hD => (HDS.out D hD).2) (fun W' hT => ?_)
      have hbD : b ∉ Ds := fun h => by have := (HDS.out b h).1; omega
      exact ⟨_, results_tmp rfl _ _ _, rfl, HMR.out.turned hT hbD, hT.grown HGR.out (fun D hD => (HDS.out D hD).1)⟩
end Go.Proofs.Ytoonpnpooljmlaa

namespace Go.Proofs.Ytoonpnpooljmlaa
open Go.RowKit

theorem run_copy_block {P : Program} (w : World) (dT sT ty elem : TypeId) (hu : P.underlying dT = some (.slice elem)) (hs : (P.info? elem).map (·.size) = some 1)
    {b o n dLen dCap sLen sCap : Nat} {ad : Addr} {cur : Array Value} {t : TypeId} (vs : Nat → Value) (hb : BlockAt w b cur t) (hn : n = Nat.min sLen dLen) (hsrc : ∀ j, j < n → w.cell? (ad.add j) = some (vs j)) (hfit : o + n ≤ cur.size) (h1 : ∀ j, (vs j).oneCell' = true) :
    ∃ w', (Builtin.copy_ #[dT, sT] ty #[.slice (some ⟨b, o, none⟩) dLen dCap, .slice (some ad) sLen sCap]).run P w = .ok (goInt n) w' ∧ w.grownBy w' (some b) ∧ (∃ cur', BlockAt w' b cur' t) ∧
      (∀ j, j < n → w'.cell? ⟨b, o + j, none⟩ = some (vs j)) ∧ (∀ k, k < o ∨ o + n ≤ k → w'.cell? ⟨b, k, none⟩ = w.cell? ⟨b, k, none⟩) := by
  have hl : ((List.range n).map vs).length = n := by simp
  have hr := run_copy_row (P := P) w dT sT ty elem b o dLen dCap ad sLen sCap cur t ((List.range n).map vs) hu hs hb (by rw [hl]; exact hn) (fun j v hv => by
      by_cases hj : j < n
      · simp [hj] at hv
        rw [hsrc j hj, hv]
      · simp [hj] at hv) (by rw [hl]; exact hfit) (fun v hv => by
      simp at hv
      obtain ⟨j, _, rfl⟩ := hv
      exact h1 j)
  rw [hl] at hr
  refine ⟨_, hr, ⟨rfl, rfl, rfl, by simp [World.setRow], fun k _ hne => setRow_other w b k _ (fun e => hne (by rw [e]))⟩, ⟨_, hb.setRow _⟩, fun j hj => ?_, fun k hk => ?_⟩
  · rw [(hb.setRow _).cell (o + j)]
    simp only [List.getElem?_toArray]
    have hlen : (cur.toList.take o).length = o := by simp; omega
    rw [List.append_assoc, List.getElem?_append_right (by omega), hlen, show o + j - o = j by omega, List.getElem?_append_left (by simpa using hj)]
    simp [hj]
  · rw [(hb.setRow _).cell k, hb.cell k]
    simp only [List.getElem?_toArray]
    have hlen : (cur.toList.take o).length = o := by simp; omega
    rcases hk with hk | hk
    · rw [List.append_assoc, List.getElem?_append_left (by omega), List.getElem?_take_of_lt hk]
      simp
    · rw [List.getElem?_append_right (by simp; omega), List.getElem?_drop]
      have e : o + n + (k - (cur.toList.take o ++ (List.range n).map vs).length) = k := by
        rw [List.length_append, hlen, hl]; omega
      rw [e]
      simp
theorem wpListIn_copy_run {F : Fence} {n : Nat} {P : Program} (w : World) {ops : Array Oper} {rest : List Oper} {o : Oper} {a : Act} {Q : Exit → Act → World → Prop} (hgd : o.guard = none) (d s : Operand) (t t' : TypeId)
    (ho : o.op = .call { callee := .builtin .copy, args := #[d, s], argTypes := #[t, t'] }) (v u : Value) (hd : a.eval d = v) (hs : a.eval s = u) {v' : Value} {w' : World}
    (hr : (Builtin.copy_ #[t, t'] o.type #[v, u]).run P w = .ok v' w') (h : wpListIn F n P ops Q rest (a.put o.dst v') w') : wpListIn F n P ops Q (o :: rest) a w := by
  refine wpListIn_plain hgd fun K hK' => ?_
  unfold Oper.wpIn
  refine ⟨?_, ?_⟩
  · simp [Oper.about, ho, resolve, Target.leads, Sem.run_pure]
  · rw [Oper.semAt_plain F _ _ (by rw [ho]; intro c hc'; cases hc')]
    simp [execOp, ho, resolve, invoke, builtin, hd, hs, hr, Result.andThen]
    exact hK' _ _ h

theorem Try.sizeU8 : (Try.prog.info? 5).map (·.size) = some 1 := by kernel_rfl
/-- the numbers of a row as far as n, from elsewhere -/
def rowOf (F : Nat → Nat → Nat) (a n : Nat) (H : Nat → Nat) : Nat → Nat → Nat := fun i j => if i = a ∧ j < n then H j else F i j
theorem BlockAt.size_of {w : World} {b i : Nat} {cur : Array Value} {t : TypeId} {v : Value} (h : BlockAt w b cur t) (hc : w.cell? ⟨b, i, none⟩ = some v) : i < cur.size := by
  rw [h.cell i] at hc
  exact (Array.getElem?_eq_some_iff.1 hc).1
theorem copy_row {w : World} {b off r c a n dLen dCap sLen sCap b2 o2 : Nat} {F : Nat → Nat → Nat} (H : Nat → Nat) (hm : Mat w b off r c F) (ha : a < r) (hn0 : 0 < n) (hnc : n ≤ c) (hn : n = Nat.min sLen dLen)
    (hsrc : ∀ j, j < n → w.cell? ⟨b2, o2 + j, none⟩ = some (.int .u8 ((H j : Nat) : Int))) (ty : TypeId) :
    ∃ w', (Builtin.copy_ #[31, 31] ty #[.slice (some ⟨b, off + a * c, none⟩) dLen dCap, .slice (some ⟨b2, o2, none⟩) sLen sCap]).run Try.prog w = .ok (goInt n) w' ∧ w.grownBy w' (some b) ∧ Mat w' b off r c (rowOf F a n H) := by
  obtain ⟨cur, hb⟩ := hm.blk
  have hlast := hb.size_of (hm.cell a (n - 1) ha (by omega))
  obtain ⟨w', hr, hg, ⟨cur', hb'⟩, hin, hout⟩ := run_copy_block (P := Try.prog) w 31 31 ty 5 Try.underlying31 Try.sizeU8 (b := b) (o := off + a * c) (n := n) (dLen := dLen) (dCap := dCap) (sLen := sLen) (sCap := sCap) (ad := ⟨b2, o2, none⟩)
    (fun j => .int .u8 ((H j : Nat) : Int)) hb hn (fun j hj => by
      have e : (⟨b2, o2, none⟩ : Addr).add j = ⟨b2, o2 + j, none⟩ := by unfold Addr.add; split <;> simp_all
      rw [e]; exact hsrc j hj) (by omega) (fun j => rfl)
  refine ⟨w', hr, hg, ⟨cur', hb'⟩, fun i j hi hj => ?_⟩
  unfold rowOf
  by_cases e : i = a ∧ j < n
  · obtain ⟨rfl, hj2⟩ := e
    rw [if_pos ⟨rfl, hj2⟩, hin j hj2]
  · rw [if_neg e, hout, hm.cell i j hi hj]
    apply Classical.byContradiction
    intro hno
    have h1 : off + a * c ≤ off + i * c + j := by omega
    have h2 : off + i * c + j < off + a * c + n := by omega
    -- the place lies in the row
    have hia : i = a := by
      obtain ⟨q, hq⟩ : ∃ q, i * c + j = a * c + q := ⟨i * c + j - a * c, by omega⟩
      exact (idx_inj (c := c) hj (show q < c by omega) hq).1
    subst hia
    exact e ⟨rfl, by omega⟩
/-- a whole matrix copied -/
theorem copy_all {w : World} {b off r c dCap sCap b2 o2 : Nat} {F G : Nat → Nat → Nat} (hr : 0 < r) (hc : 0 < c) (hm : Mat w b off r c F) (hsrc : MatR w b2 o2 r c G) (ty : TypeId) :
    ∃ w', (Builtin.copy_ #[31, 31] ty #[.slice (some ⟨b, off, none⟩) (r * c) dCap, .slice (some ⟨b2, o2, none⟩) (r * c) sCap]).run Try.prog w = .ok (goInt (r * c)) w' ∧ w.grownBy w' (some b) ∧ Mat w' b off r c G := by
  obtain ⟨cur, hb⟩ := hm.blk
  have hrc : (r - 1) * c + c = r * c := by
    obtain ⟨q, rfl⟩ : ∃ q, r = q + 1 := ⟨r - 1, by omega⟩
    rw [Nat.succ_mul]; rfl
  have hlast := hb.size_of (hm.cell (r - 1) (c - 1) (by omega) (by omega))
  have hdm : ∀ k, k < r * c → k / c < r ∧ k % c < c ∧ k / c * c + k % c = k := fun k hk => ⟨(Nat.div_lt_iff_lt_mul hc).2 hk, Nat.mod_lt k hc, Nat.div_add_mod' k c⟩
  obtain ⟨w', hrun, hg, ⟨cur', hb'⟩, hin, _⟩ := run_copy_block (P := Try.prog) w 31 31 ty 5 Try.underlying31 Try.sizeU8 (b := b) (o := off) (n := r * c) (dLen := r * c) (dCap := dCap) (sLen := r * c) (sCap := sCap) (ad := ⟨b2, o2, none⟩)
    (fun k => .int .u8 ((G (k / c) (k % c) : Nat) : Int)) hb (by simp) (fun k hk => by
      have e : (⟨b2, o2, none⟩ : Addr).add k = ⟨b2, o2 + k, none⟩ := by unfold Addr.add; split <;> simp_all
      obtain ⟨h1, h2, h3⟩ := hdm k hk
      have h := hsrc (k / c) (k % c) h1 h2
      rw [Nat.add_assoc, h3] at h
      rw [e]; exact h) (by omega) (fun j => rfl)
  refine ⟨w', hrun, hg, ⟨cur', hb'⟩, fun i j hi hj => ?_⟩
  have h := hin (i * c + j) (idx_lt hi hj)
  have e1 : (i * c + j) / c = i := by rw [Nat.mul_comm, Nat.mul_add_div hc, Nat.div_eq_of_lt hj]; omega
  have e2 : (i * c + j) % c = j := by rw [Nat.mul_comm, Nat.mul_add_mod, Nat.mod_eq_of_lt hj]
  rw [e1, e2, ← Nat.add_assoc] at h
  exact h
end Go.Proofs.Ytoonpnpooljmlaa

namespace Go.Proofs.Ytoonpnpooljmlaa
open Go.ChangeShapes Go.WideShapes Go.ChangeAt Go.RowKit Go.Joins

/-- A slice value that reads as these integers: nil or not in one word. -/
structure IntsIn (W : World) (k : IntKind) (a : Option Addr) (len : Nat) (zs : List Int) : Prop where
  len_eq : zs.length = len
  le : len ≤ 9223372036854775807
  wf : ∀ x ∈ zs, (Lit.int k x).wf = true
  cells : ∃ b off, (0 < len → a = some ⟨b, off, none⟩) ∧ ∀ i, i < len → b < W.heap.size ∧ W.cell? ⟨b, off + i, none⟩ = some (.int k (zs.getD i 0))

theorem ints_in {H : Type} {enc : TypeId × Value → H} {P : Program} {t e : TypeId} {k : IntKind} (ht : P.underlying t = some (.slice e)) (he : P.underlying e = some (.int k)) (hc : P.cellsOf e = 1) {W : World} {fuel : Nat} {v : Value} {y : DataW H × List MemPlace}
    (h0 : DataW.trod enc P W 0 (fun _ => true) true fuel t [v] = some y) :
    ∃ a len cap zs, v = .slice a len cap ∧ len ≤ cap ∧ IntsIn W k a len zs := by
  rcases open_ints ht he hc h0 with ⟨hcs, hx⟩ | ⟨a, len', cap', zs, hcs, _, hl, hm, hz, hx, hcell, hwz⟩
  · simp only [List.cons.injEq, and_true] at hcs
    exact ⟨none, 0, 0, [], hcs, Nat.le_refl _, rfl, by omega, (fun x hx => (by cases hx)), 0, 0, fun h => absurd h (Nat.lt_irrefl 0), fun i hi => absurd hi (Nat.not_lt_zero i)⟩
  · simp only [List.cons.injEq, and_true] at hcs
    simp only [if_true] at hz
    unfold maxLen at hm
    by_cases hp : 0 < zs.length
    · obtain ⟨b, off, rfl, hcell'⟩ := ints_at hcell hp
      refine ⟨_, len', cap', zs.take len', hcs, hl, by rw [List.length_take]; omega, by omega, fun x hx => hwz x (List.mem_of_mem_take hx), b, off, fun _ => rfl, fun i hi => ?_⟩
      have h1 := hcell' i (by omega)
      refine ⟨World.block_lt_of_cell? _ _ h1, ?_⟩
      rw [h1]
      simp [List.getD, hi]
    · exact ⟨_, len', cap', [], hcs, hl, by simp; omega, by omega, (fun x hx => (by cases hx)), 0, 0, fun h => by omega, fun i hi => by omega⟩
theorem IntsIn.kept {W W' : World} {k : IntKind} {a : Option Addr} {len : Nat} {zs : List Int} (h : IntsIn W k a len zs) (hk : Kept W W') : IntsIn W' k a len zs := by
  obtain ⟨b, off, ha, hc⟩ := h.cells
  exact ⟨h.len_eq, h.le, h.wf, b, off, ha, fun i hi => ⟨Nat.lt_of_lt_of_le (hc i hi).1 hk.size, hk.cell (hc i hi).1 (hc i hi).2⟩⟩
theorem IntsIn.i64 {W : World} {a : Option Addr} {len : Nat} {zs : List Int} (h : IntsIn W .i64 a len zs) (i : Nat) (hi : i < len) : -9223372036854775808 ≤ zs.getD i 0 ∧ zs.getD i 0 ≤ 9223372036854775807 := by
  have hl : i < zs.length := by rw [h.len_eq]; exact hi
  exact bounds_i64 (h.wf (zs.getD i 0) (by simp [List.getD, hl]))
theorem IntsIn.u8 {W : World} {a : Option Addr} {len : Nat} {zs : List Int} (h : IntsIn W .u8 a len zs) (i : Nat) (hi : i < len) : 0 ≤ zs.getD i 0 ∧ zs.getD i 0 ≤ 255 := by
  have hl : i < zs.length := by rw [h.len_eq]; exact hi
  exact bounds_u8 (h.wf (zs.getD i 0) (by simp [List.getD, hl]))
end Go.Proofs.Ytoonpnpooljmlaa

namespace Go.Proofs.Ytoonpnpooljmlaa
open Go.RowKit Go.Shelf
attribute [local go_sem] Oper.semAt_some

/-- may these rows be picked? as far as k -/
def pickOk (r : Nat) (zs : List Int) : Prop := ∀ i, i < zs.length → 0 ≤ zs.getD i 0 ∧ zs.getD i 0 < r
def pickF (F : Nat → Nat → Nat) (zs : List Int) : Nat → Nat → Nat := fun i j => F (zs.getD i 0).toNat j
def pickTo (F : Nat → Nat → Nat) (zs : List Int) (k : Nat) : Nat → Nat → Nat := fun i j => if i < k then pickF F zs i j else 0
def PickP (r c : Nat) (F : Nat → Nat → Nat) (zs : List Int) (w : World) (e : Ending) (w' : World) : Prop :=
  (pickOk r zs → ∃ b off, e = .returned (.tuple #[.agg #[.int .i64 zs.length, .int .i64 c, .slice (some ⟨b, off, none⟩) (zs.length * c) (zs.length * c)], .int .i64 0]) ∧ w.heap.size ≤ b ∧ Mat w' b off zs.length c (pickF F zs)) ∧
  (¬ pickOk r zs → e = .returned (.tuple #[.agg #[.int .i64 0, .int .i64 0, .slice none 0 0], .int .i64 1])) ∧ Kept w w'

set_option maxRecDepth 100000 in
set_option maxHeartbeats 1000000 in
theorem pick_bad (r c : Int) (a al : Option Addr) (l cap ll lcap : Nat) (h : matE r c l ≠ 0 ∨ sideB (ll : Int) = false) (w : World) :
    Calls Try.prog 47 #[.agg #[.int .i64 r, .int .i64 c, .slice a l cap], .slice al ll lcap] w fun e w' => e = .returned (.tuple #[.agg #[.int .i64 0, .int .i64 0, .slice none 0 0], .int .i64 1]) ∧ Kept w w' := by
  go_enter Try.func47, Try.ntmps47
  go_wp2_with fail
  refine (check_any r c a l cap _).mono ?_
  rintro e w1 ⟨rfl, hk1⟩
  have HK := Lib.hid ((((Kept.refl w).alloc _).alloc _).trans hk1)
  have HR := Lib.hid ((BlockAt.new1 w #[.int .i64 0, .int .i64 0, .slice none 0 0] 33 (.cells #[.int .i64 r, .int .i64 c, .slice a l cap] 33)).kept hk1)
  clear hk1
  by_cases h1 : matE r c l = 0
  · have hs : sideB (ll : Int) = false := by
      rcases h with h | h
      · exact absurd h1 h
      · exact h
    have HS := Lib.hid hs
    rw [h1]
    clear h h1 hs
    go_wp2_with fail
    refine (side_any _ _).mono ?_
    rintro e w' ⟨rfl, rfl⟩
    rw [HS.out]
    go_wp2_with (refine wpList_store_block rfl 33 (.tmp 4) (.tmp 18) rfl _ #[.int .i64 0, .int .i64 0, .slice none 0 0] #[.int .i64 0, .int .i64 0, .slice none 0 0] 33 rfl rfl HR.out Try.infoMat rfl (one3 _ _ _ _ _) ?_)
    refine bodyPost_ret (v := .tuple #[.agg #[.int .i64 0, .int .i64 0, .slice none 0 0], .int .i64 1]) ?_ rfl ⟨rfl, HK.out.setRow (by omega) _⟩
    exact results_row_tmp rfl _ _ (w.heap.size + 1) 33 #[.int .i64 0, .int .i64 0, .slice none 0 0] _ rfl (HR.out.setRow _) Try.underlying33 rfl Try.infoMat _ rfl
  · have hne : (matE r c l != 0) = true := by rw [bne_iff_ne]; exact h1
    clear h h1
    go_wp2_with (refine wpList_store_block rfl 33 (.tmp 4) (.tmp 18) rfl _ #[.int .i64 0, .int .i64 0, .slice none 0 0] #[.int .i64 0, .int .i64 0, .slice none 0 0] 33 rfl rfl HR.out Try.infoMat rfl (one3 _ _ _ _ _) ?_)
    refine bodyPost_ret (v := .tuple #[.agg #[.int .i64 0, .int .i64 0, .slice none 0 0], .int .i64 1]) ?_ rfl ⟨rfl, HK.out.setRow (by omega) _⟩
    exact results_row_tmp rfl _ _ (w.heap.size + 1) 33 #[.int .i64 0, .int .i64 0, .slice none 0 0] _ rfl (HR.out.setRow _) Try.underlying33 rfl Try.infoMat _ rfl

set_option maxRecDepth 100000 in
set_option maxHeartbeats 4000000 in
theorem pick_any (r c b off cap : Nat) (al : Option Addr) (ll lcap : Nat) (zs : List Int) (F : Nat → Nat → Nat) (hr : 1 ≤ r ∧ r ≤ 16) (hc : 1 ≤ c ∧ c ≤ 16) (hl : 1 ≤ ll ∧ ll ≤ 16) (hcap : r * c ≤ cap) (w : World) (hs : MatR w b off r c F) (hz : IntsIn w .i64 al ll zs) :
    Calls Try.prog 47 #[.agg #[.int .i64 r, .int .i64 c, .slice (some ⟨b, off, none⟩) (r * c) cap], .slice al ll lcap] w (PickP r c F zs w) := by
  have HE := Lib.hid (matE_ok hr hc)
  have HS := Lib.hid hs
  have HZ := Lib.hid hz
  have hsd : sideB (ll : Int) = true := by simp [sideB]; omega
  have HSD := Lib.hid hsd
  have HLEN := Lib.hid hz.len_eq
  clear hs hz hsd
  go_enter Try.func47, Try.ntmps47
  go_wp2_with fail
  refine (check_any r c _ _ _ _).mono ?_
  rintro e w1 ⟨rfl, hk1⟩
  rw [HE.out]
  have h1 := ((BlockAt.new w #[.int .i64 r, .int .i64 c, .slice (some ⟨b, off, none⟩) (r * c) cap] 33).kept ((Kept.refl _).alloc (.cells #[.int .i64 0, .int .i64 0, .slice none 0 0] 33))).kept hk1
  have hR := ((BlockAt.new1 w #[.int .i64 0, .int .i64 0, .slice none 0 0] 33 (.cells #[.int .i64 r, .int .i64 c, .slice (some ⟨b, off, none⟩) (r * c) cap] 33)).kept hk1)
  have HK1 := Lib.hid ((((Kept.refl w).alloc _).alloc _).trans hk1)
  have H1 := Lib.hid h1
  have HR := Lib.hid hR
  obtain ⟨a0, a1, a2⟩ := box3 h1
  clear hk1 h1 hR
  go_wp2_with fail
  refine (side_any _ _).mono ?_
  rintro e w' ⟨rfl, rfl⟩
  rw [HSD.out]
  go_wp2_with fail
  refine (blank_any ll c (by omega) (by omega) _).mono ?_
  rintro e w2 ⟨bm, o2, rfl, hbm, hM, hk2⟩
  clear a0 a1 a2
  have hz1 := HR.out.lt
  have hw1 := HK1.out.size
  have H12 := Lib.hid (H1.out.kept hk2)
  have HR2 := Lib.hid (HR.out.kept hk2)
  have HK2 := Lib.hid (HK1.out.trans hk2)
  have HM2 := Lib.hid hM
  have hlm := hM.lt
  have hz2 := HR2.out.lt
  clear hk2 hM H1 HR HK1
  go_wp2_with fail
  have k3 : Kept w2 (w2.alloc (.cells #[.int .i64 ll, .int .i64 c, .slice (some ⟨bm, o2, none⟩) (ll * c) (ll * c)] 33)) := (Kept.refl w2).alloc _
  have hb6 := BlockAt.new w2 #[.int .i64 ll, .int .i64 c, .slice (some ⟨bm, o2, none⟩) (ll * c) (ll * c)] 33
  generalize w2.alloc (.cells #[.int .i64 ll, .int .i64 c, .slice (some ⟨bm, o2, none⟩) (ll * c) (ll * c)] 33) = w3 at *
  have H13 := Lib.hid (H12.out.kept k3)
  have HR3 := Lib.hid (HR2.out.kept k3)
  have HK3 := Lib.hid (HK2.out.trans k3)
  have HM3 := Lib.hid (HM2.out.kept k3)
  have HB6 := Lib.hid hb6
  have hz3 := hb6.lt
  clear k3 hb6 H12 HR2 HK2 HM2
  generalize w2.heap.size = q6 at *
  clear w2
  go_loopw [26] (fun i wr => ∃ k : Nat, k ≤ ll ∧ i = .int .i64 k ∧ (∀ q, q < k → 0 ≤ zs.getD q 0 ∧ zs.getD q 0 < r) ∧ Mat wr bm o2 ll c (pickTo F zs k) ∧ w3.grownBy wr (some bm)) (fun i _ => ll - (intOf i).toNat)
  case atStart => exact ⟨0, by omega, rfl, fun q hq => absurd hq (Nat.not_lt_zero q), by rw [show pickTo F zs 0 = zeroF from by funext i j; simp [pickTo, zeroF]]; exact HM3.out, grown_refl _ _⟩
  case round =>
    obtain ⟨k, hk, rfl, hall, hm, hg⟩ := hrel
    have HALL := Lib.hid hall
    have HM := Lib.hid hm
    have HG := Lib.hid hg
    have hkw := Kept.grown HK3.out hg (fun k e => by cases e; omega)
    have HKW := Lib.hid hkw
    have HRW := Lib.hid (HR3.out.grown hg (by simp; omega))
    have h1w := H13.out.grown hg (by simp; omega)
    have h6w := HB6.out.grown hg (by simp; omega)
    clear hall hm hg hkw
    by_cases hlt : k < ll
    · obtain ⟨bz, oz, ha, hcz⟩ := HZ.out.cells
      obtain rfl := ha (by omega)
      have hck := HKW.out.cell (hcz k hlt).1 (hcz k hlt).2
      have hzb := HZ.out.i64 k hlt
      have HZD := Lib.hid (show pickF F zs k = F (zs.getD k 0).toNat from rfl)
      have hnot : ∀ z, zs.getD k 0 = z → (z < 0 ∨ (r : Int) ≤ z) → ¬ pickOk r zs := fun z e h hok => by
        have := hok k (by rw [HLEN.out]; exact hlt)
        omega
      have HNOT := Lib.hid hnot
      have hnext : ∀ z, zs.getD k 0 = z → 0 ≤ z → z < r → ∀ q, q < k + 1 → 0 ≤ zs.getD q 0 ∧ zs.getD q 0 < r := fun z e h0 h1 q hq => by
        by_cases e2 : q = k
        · subst e2; omega
        · exact HALL.out q (by omega)
      have HNEXT := Lib.hid hnext
      clear hnot hnext ha hcz
      generalize hzk : zs.getD k 0 = z at hck hzb HZD
      have HZK := Lib.hid hzk
      clear hzk
      obtain ⟨a0, a1, a2⟩ := box3 h1w
      by_cases hneg : z < 0
      · go_wp2_with (refine wpList_store_block rfl 33 (.tmp 4) (.tmp 39) rfl _ #[.int .i64 0, .int .i64 0, .slice none 0 0] #[.int .i64 0, .int .i64 0, .slice none 0 0] 33 rfl rfl HRW.out Try.infoMat rfl (one3 _ _ _ _ _) ?_)
        refine bodyPost_ret (v := .tuple #[.agg #[.int .i64 0, .int .i64 0, .slice none 0 0], .int .i64 1]) ?_ rfl ⟨fun h => absurd h (HNOT.out z HZK.out (.inl hneg)), fun _ => rfl, HKW.out.setRow (by omega) _⟩
        exact results_row_tmp rfl _ _ (w.heap.size + 1) 33 #[.int .i64 0, .int .i64 0, .slice none 0 0] _ rfl (HRW.out.setRow _) Try.underlying33 rfl Try.infoMat _ rfl
      · have hd : decide (z < 0) = false := decide_eq_false hneg
        by_cases hbig : (r : Int) ≤ z
        · go_wp2_with (refine wpList_store_block rfl 33 (.tmp 4) (.tmp 39) rfl _ #[.int .i64 0, .int .i64 0, .slice none 0 0] #[.int .i64 0, .int .i64 0, .slice none 0 0] 33 rfl rfl HRW.out Try.infoMat rfl (one3 _ _ _ _ _) ?_)
          refine bodyPost_ret (v := .tuple #[.agg #[.int .i64 0, .int .i64 0, .slice none 0 0], .int .i64 1]) ?_ rfl ⟨fun h => absurd h (HNOT.out z HZK.out (.inr hbig)), fun _ => rfl, HKW.out.setRow (by omega) _⟩
          exact results_row_tmp rfl _ _ (w.heap.size + 1) 33 #[.int .i64 0, .int .i64 0, .slice none 0 0] _ rfl (HRW.out.setRow _) Try.underlying33 rfl Try.infoMat _ rfl
        · obtain ⟨y, rfl⟩ : ∃ y : Nat, z = y := ⟨z.toNat, by omega⟩
          have hd2 : decide ((r : Int) ≤ (y : Int)) = false := decide_eq_false hbig
          have hyr : y < r := by omega
          obtain ⟨c0, c1, c2⟩ := box3 h6w
          have e0 := later_cell a0
          have e1 := later_cell a1
          have e2 := later_cell a2
          have f0 := later_cell c0
          have f1 := later_cell c1
          have f2 := later_cell c2
          have hneg' : ¬ (y : Int) < 0 := by omega
          clear hneg hzb
          go_wp2_with fail
          refine (wpIn_wide (n := 0)).1 ?_
          refine wpIn_region_later_tail 6 (by kernel_rfl) (by kernel_rfl) (by kernel_rfl) ?_
          simp only [List.take_succ_cons, List.take_zero, List.drop_succ_cons, List.drop_zero]
          repeat (gi_big_quiet_step ((gi_at_call 62; exact callsIn_wide.2 (later_call (row_any _ _ _ _ _ _ (by omega) ⟨hc.1, by omega⟩ (by first | exact hlt | exact hyr) (by first | exact Nat.le_refl _ | exact hcap) _)))))
          refine wpQuietIn_nil ?_
          intro _ hw'
          obtain ⟨nq, hw''⟩ := hw'
          subst hw''
          clear e0 e1 e2 f0 f1 f2 a0 a1 a2 c0 c1 c2
          have hkq : Kept wr nq.1 := nq.2
          obtain ⟨w4, hrun, hg4, hm4⟩ := copy_row (n := c) (dLen := c) (dCap := ll * c - k * c) (sLen := c) (sCap := cap - y * c) (b2 := b) (o2 := off + y * c) (F y) (HM.out.kept hkq) hlt hc.1 (Nat.le_refl c) (by show c = min c c; omega)
            (fun j hj => (HS.out.kept (HKW.out.trans hkq)) y j hyr hj) 3
          have HRUN := Lib.hid hrun
          have hgt := grown_trans (grown_kept hkq (some bm)) hg4
          have hst := hm4.congr (G := pickTo F zs (k + 1)) (fun i j hi hj => by
            unfold rowOf pickTo
            by_cases e : i = k
            · subst e
              rw [if_pos ⟨rfl, hj⟩, if_pos (by omega), HZD.out]
              simp
            · rw [if_neg (fun h => e h.1)]
              by_cases e2 : i < k
              · rw [if_pos e2, if_pos (by omega)]
              · rw [if_neg e2, if_neg (by omega)])
          have HST := Lib.hid hst
          have HGT := Lib.hid hgt
          clear hm4 hst hg4 hgt hrun hkq
          gi_wp2_with (refine wpListIn_copy_run _ rfl _ _ 31 31 rfl _ _ rfl rfl HRUN.out ?_)
          go_wp2
          go_roundw
          case rel => exact ⟨k + 1, by omega, by go_num, HNEXT.out _ HZK.out (by omega) (by omega), HST.out, grown_trans HG.out HGT.out⟩
          case measure => simp [intOf]; omega
    · obtain rfl : k = ll := by omega
      have hok : pickOk r zs := fun i hi => HALL.out i (by rw [← HLEN.out]; exact hi)
      have hmf := HM.out.congr (G := pickF F zs) (fun i j hi _ => by unfold pickTo; rw [if_pos hi])
      have HMF := Lib.hid hmf
      have HOK := Lib.hid hok
      obtain ⟨x0, x1, x2⟩ := box3 h6w
      have hbl2 := HM.out.lt
      clear h1w hmf hok
      go_wp2_with (refine wpList_store_block rfl 33 (.tmp 4) (.tmp 48) rfl _ #[.int .i64 k, .int .i64 c, .slice (some ⟨bm, o2, none⟩) (k * c) (k * c)] #[.int .i64 0, .int .i64 0, .slice none 0 0] 33 rfl rfl HRW.out Try.infoMat rfl (one3 _ _ _ _ _) ?_)
      have g1 := grown_row wr (w.heap.size + 1) #[.int .i64 k, .int .i64 c, .slice (some ⟨bm, o2, none⟩) (k * c) (k * c)]
      refine bodyPost_ret (v := .tuple #[.agg #[.int .i64 k, .int .i64 c, .slice (some ⟨bm, o2, none⟩) (k * c) (k * c)], .int .i64 0]) ?_ rfl ⟨fun _ => ⟨bm, o2, by rw [HLEN.out], by omega, by rw [HLEN.out]; exact HMF.out.grown g1 (by simp; omega)⟩, fun h => absurd HOK.out h, Kept.grown HKW.out g1 (fun k e => by cases e; omega)⟩
      exact results_row_tmp rfl _ _ (w.heap.size + 1) 33 #[.int .i64 k, .int .i64 c, .slice (some ⟨bm, o2, none⟩) (k * c) (k * c)] _ rfl (HRW.out.setRow _) Try.underlying33 rfl Try.infoMat _ rfl
end Go.Proofs.Ytoonpnpooljmlaa

namespace Go.Proofs.Ytoonpnpooljmlaa
open Go.RowKit Go.Shelf
attribute [local go_sem] Oper.semAt_some

end Go.Proofs.Ytoonpnpooljmlaa

namespace Go.Proofs.Ytoonpnpooljmlaa
open Go.RowKit Go.Shelf
attribute [local go_sem] Oper.semAt_some

set_option maxRecDepth 100000 in
set_option maxHeartbeats 1000000 in
theorem invert_bad (r c : Int) (a : Option Addr) (l cap : Nat) (h : matE r c l ≠ 0 ∨ r ≠ c) (w : World) :
    Calls Try.prog 48 #[.agg #[.int .i64 r, .int .i64 c, .slice a l cap]] w fun e w' => e = .returned (.tuple #[.agg #[.int .i64 0, .int .i64 0, .slice none 0 0], .int .i64 1]) ∧ Kept w w' := by
  go_enter Try.func48, Try.ntmps48
  go_wp2_with fail
  refine (check_any r c a l cap _).mono ?_
  rintro e w1 ⟨rfl, hk1⟩
  have HK := Lib.hid ((((Kept.refl w).alloc _).alloc _).trans hk1)
  have h1 := ((BlockAt.new w #[.int .i64 r, .int .i64 c, .slice a l cap] 33).kept ((Kept.refl _).alloc (.cells #[.int .i64 0, .int .i64 0, .slice none 0 0] 33))).kept hk1
  have HR := Lib.hid ((BlockAt.new1 w #[.int .i64 0, .int .i64 0, .slice none 0 0] 33 (.cells #[.int .i64 r, .int .i64 c, .slice a l cap] 33)).kept hk1)
  obtain ⟨a0, a1, a2⟩ := box3 h1
  clear hk1 h1
  by_cases h1 : matE r c l = 0
  · have hne : (r != c) = true := by
      rw [bne_iff_ne]
      rcases h with h | h
      · exact absurd h1 h
      · exact h
    rw [h1]
    clear h h1
    go_wp2_with (refine wpList_store_block rfl 33 (.tmp 2) (.tmp 21) rfl _ #[.int .i64 0, .int .i64 0, .slice none 0 0] #[.int .i64 0, .int .i64 0, .slice none 0 0] 33 rfl rfl HR.out Try.infoMat rfl (one3 _ _ _ _ _) ?_)
    refine bodyPost_ret (v := .tuple #[.agg #[.int .i64 0, .int .i64 0, .slice none 0 0], .int .i64 1]) ?_ rfl ⟨rfl, HK.out.setRow (by omega) _⟩
    exact results_row_tmp rfl _ _ (w.heap.size + 1) 33 #[.int .i64 0, .int .i64 0, .slice none 0 0] _ rfl (HR.out.setRow _) Try.underlying33 rfl Try.infoMat _ rfl
  · have hne : (matE r c l != 0) = true := by rw [bne_iff_ne]; exact h1
    clear h h1
    go_wp2_with (refine wpList_store_block rfl 33 (.tmp 2) (.tmp 21) rfl _ #[.int .i64 0, .int .i64 0, .slice none 0 0] #[.int .i64 0, .int .i64 0, .slice none 0 0] 33 rfl rfl HR.out Try.infoMat rfl (one3 _ _ _ _ _) ?_)
    refine bodyPost_ret (v := .tuple #[.agg #[.int .i64 0, .int .i64 0, .slice none 0 0], .int .i64 1]) ?_ rfl ⟨rfl, HK.out.setRow (by omega) _⟩
    exact results_row_tmp rfl _ _ (w.heap.size + 1) 33 #[.int .i64 0, .int .i64 0, .slice none 0 0] _ rfl (HR.out.setRow _) Try.underlying33 rfl Try.infoMat _ rfl

/-- a matrix beside One as far as these rows -/
def bothTo (n : Nat) (F : Nat → Nat → Nat) (l : List Nat) : Nat → Nat → Nat := fun i j => if i ∈ l then beside n F oneF i j else 0
theorem bothTo_nil (n : Nat) (F : Nat → Nat → Nat) : bothTo n F [] = zeroF := by funext i j; simp [bothTo, zeroF]
theorem bothTo_snoc (n : Nat) (F : Nat → Nat → Nat) (l : List Nat) (k : Nat) : upd (rowOf (bothTo n F l) k n (F k)) k (n + k) 1 = bothTo n F (l ++ [k]) := by
  funext i j
  unfold upd rowOf bothTo
  by_cases h : i = k
  · subst h
    simp only [true_and, List.mem_append, List.mem_singleton, or_true, if_true]
    by_cases e : j = n + i
    · subst e
      rw [if_pos rfl, beside_right]; simp [oneF]
    · rw [if_neg e]
      by_cases e2 : j < n
      · rw [if_pos e2, beside_left F oneF e2]
      · rw [if_neg e2]
        have hb : beside n F oneF i j = 0 := by
          unfold beside oneF
          rw [if_neg e2, if_neg (by omega)]
        rw [hb]; simp
  · simp [h]
theorem bothTo_all (n : Nat) (F : Nat → Nat → Nat) (i j : Nat) (hi : i < n) : bothTo n F (List.range n) i j = beside n F oneF i j := by
  simp [bothTo, hi]
theorem bothTo_bt {n : Nat} {F : Nat → Nat → Nat} (hF : Bt F) (l : List Nat) : Bt (bothTo n F l) := fun i j => by
  unfold bothTo; split
  · exact beside_bt hF oneF_bt n i j
  · omega
/-- the right half as far as these rows -/
def halfTo (G : Nat → Nat → Nat) (l : List Nat) : Nat → Nat → Nat := fun i j => if i ∈ l then G i j else 0
theorem halfTo_nil (G : Nat → Nat → Nat) : halfTo G [] = zeroF := by funext i j; simp [halfTo, zeroF]

def InvP (n : Nat) (F : Nat → Nat → Nat) (w : World) (e : Ending) (w' : World) : Prop :=
  (rankF n n F = n → ∃ b off, e = .returned (.tuple #[.agg #[.int .i64 n, .int .i64 n, .slice (some ⟨b, off, none⟩) (n * n) (n * n)], .int .i64 0]) ∧ w.heap.size ≤ b ∧ Mat w' b off n n (invF n F)) ∧
  (rankF n n F ≠ n → e = .returned (.tuple #[.agg #[.int .i64 0, .int .i64 0, .slice none 0 0], .int .i64 3])) ∧ Kept w w'

set_option maxRecDepth 100000 in
set_option maxHeartbeats 4000000 in
theorem invert_any (n b off cap : Nat) (F : Nat → Nat → Nat) (hn : 1 ≤ n ∧ n ≤ 16) (hcap : n * n ≤ cap) (hF : Bt F) (w : World) (hs : MatR w b off n n F) :
    Calls Try.prog 48 #[.agg #[.int .i64 n, .int .i64 n, .slice (some ⟨b, off, none⟩) (n * n) cap]] w (InvP n F w) := by
  have HE := Lib.hid (matE_ok hn hn)
  have HS := Lib.hid hs
  have hbw := cell_lt (hs 0 0 (by omega) (by omega))
  clear hs
  refine callsIn_wide.1 (callsIn_of_wp_marks (n := 8) Try.func48 rfl trivial ?_ rfl)
  simp only [Try.ntmps48, List.size_toArray, List.length_nil, List.length_cons, Nat.reduceAdd, Nat.reduceSub, Array.replicate_succ, Array.replicate_zero, List.push_toArray, List.append_toArray, List.nil_append, List.cons_append]
  refine wpIn_wide.2 ?_
  go_wp2_with fail
  refine (check_any n n _ _ _ _).mono ?_
  rintro e w1 ⟨rfl, hk1⟩
  rw [HE.out]
  have h1 := ((BlockAt.new w #[.int .i64 n, .int .i64 n, .slice (some ⟨b, off, none⟩) (n * n) cap] 33).kept ((Kept.refl _).alloc (.cells #[.int .i64 0, .int .i64 0, .slice none 0 0] 33))).kept hk1
  have hR := ((BlockAt.new1 w #[.int .i64 0, .int .i64 0, .slice none 0 0] 33 (.cells #[.int .i64 n, .int .i64 n, .slice (some ⟨b, off, none⟩) (n * n) cap] 33)).kept hk1)
  have HK1 := Lib.hid ((((Kept.refl w).alloc _).alloc _).trans hk1)
  have H1 := Lib.hid h1
  have HR := Lib.hid hR
  obtain ⟨a0, a1, a2⟩ := box3 h1
  have hnn : ((n : Int) != (n : Int)) = false := by simp
  obtain ⟨m, hm⟩ : ∃ m, m = 2 * n := ⟨_, rfl⟩
  have h2n : (2 : Int) * (n : Int) = (m : Int) := by rw [hm]; simp
  have hm1 : m ≤ 2 * n := Nat.le_of_eq hm
  have hm2 : 2 * n ≤ m := Nat.le_of_eq hm.symm
  clear hm
  clear hk1 h1 hR
  go_wp2_with fail
  refine (blank_any n m (by omega) (by omega) _).mono ?_
  rintro e w2 ⟨bm, o2, rfl, hbm, hM, hk2⟩
  clear a0 a1 a2 hnn h2n
  rw [World.size_alloc] at hbm
  have hz1 := HR.out.lt
  have kn : Kept w1 w2 := ((Kept.refl w1).alloc _).trans hk2
  have H12 := Lib.hid (H1.out.kept kn)
  have HR2 := Lib.hid (HR.out.kept kn)
  have HN2 := Lib.hid ((BlockAt.new w1 #[.int .i64 n] 3).kept hk2)
  have HK2 := Lib.hid (HK1.out.trans kn)
  have HM2 := Lib.hid hM
  have hlm := hM.lt
  have hzn := HN2.out.lt
  clear kn hk2 hM H1 HR HK1
  generalize w1.heap.size = q4 at *
  go_wp2_with fail
  refine (rows_any n m bm o2 (n * m) _).mono ?_
  rintro e w3 ⟨rfl, hw3⟩
  rw [World.size_alloc]
  have k3 : Kept w2 w3 := by rw [hw3]; exact ((Kept.refl w2).alloc _).alloc _
  have hb5 : BlockAt w3 w2.heap.size #[.int .i64 n, .int .i64 (m : Nat), .slice (some ⟨bm, o2, none⟩) (n * m) (n * m)] 33 := by rw [hw3]; exact (BlockAt.new _ _ _).kept ((Kept.refl _).alloc _)
  have h7 : BlockAt w3 (w2.heap.size + 1) #[.int .i64 n, .int .i64 (m : Nat), .slice (some ⟨bm, o2, none⟩) (n * m) (n * m)] 33 := by rw [hw3]; exact BlockAt.new1 _ _ _ _
  have hz3 : w3.heap.size = w2.heap.size + 2 := by rw [hw3]; simp
  have H13 := Lib.hid (H12.out.kept k3)
  have HR3 := Lib.hid (HR2.out.kept k3)
  have HN3 := Lib.hid (HN2.out.kept k3)
  have HK3 := Lib.hid (HK2.out.trans k3)
  have HM3 := Lib.hid (HM2.out.kept k3)
  have HB5 := Lib.hid hb5
  clear hw3 k3 hb5 H12 HR2 HN2 HK2 HM2
  generalize w2.heap.size = q5 at *
  go_wp2
  refine wp_of_in 8 ?_
  refine wpIn_rangeFunc_S rfl (by omega) (gf := 75) (lb := #[.pointer (some ⟨q5 + 1, 0, none⟩)]) rfl trivial (enters_of Try.func75 (by kernel_rfl) rfl)
    (rows_stops 7 (by omega) (fun q => q = bm) n m bm o2 (n * m) (q5 + 1) (by omega) ⟨by omega, by omega⟩ (Nat.le_refl _) w3 (by omega) h7) (CellsBut.refl _) CellsBut.trans CellsBut.putObj (Below.refl _ _) (fun _ => rfl)
    (fun pre W => Mat W bm o2 n m (bothTo n F (ixs pre)) ∧ w3.grownBy W (some bm))
    (fun _ _ _ => False)
    (OwnFrom.and (Own.from (fun s A B row hs hg hr => hs.own hg hr) _) (ownFrom_grown w3 (Nat.le_refl _)))
    (fun _ _ _ _ _ hs _ _ => hs)
    ⟨by rw [ixs_nil, bothTo_nil]; exact HM3.out, grown_refl w3 _⟩ ?round ?done ?stop
  case round =>
    rintro l ⟨i, hi⟩ W K hK'
    have HK := Lib.hid hK'
    clear hK'
    gi_wp2
    refine HK.out _ ?_
    clear HK
    rintro l pre W ⟨iM, iG⟩ hlen
    obtain ⟨a0, a1, a2⟩ := box3 (H13.out.grown iG (by simp; omega))
    have hsrc : MatR W b off n n F := (HS.out.kept (Kept.grown HK3.out iG (fun k e => by cases e; omega)))
    have HSRC := Lib.hid hsrc
    have HM := Lib.hid iM
    have HG := Lib.hid iG
    clear hsrc iM iG
    gi_wp2_with fail
    refine (CallsIn.inRound l (callsIn_wide.2 (row_any n n b off cap i (by omega) ⟨hn.1, by omega⟩ hi hcap _))).mono ?_
    rintro e W2 ⟨rfl, hk⟩
    obtain ⟨W3, hrun, hg3, hm3⟩ := copy_row (n := n) (dLen := m) (dCap := n * m - i * m) (sLen := n) (sCap := cap - i * n) (b2 := b) (o2 := off + i * n) (F i) (HM.out.kept hk) hi hn.1 (by omega) (by show n = min n m; omega) (fun j hj => HSRC.out.kept hk i j hi hj) 3
    have HRUN := Lib.hid hrun
    have hgt := grown_trans (grown_kept hk (some bm)) hg3
    have c4 := box1 ((HN3.out.grown HG.out (by simp; omega)).grown hgt (by simp; omega))
    have hcell := hm3.cell i (n + i) hi (by omega)
    have hfree := hm3.free (o2 + i * m + (n + i))
    have hst := hm3.set hi (show n + i < m by omega) 1
    rw [bothTo_snoc, ← ixs_snoc pre i hi] at hst
    have HST := Lib.hid hst
    have HGT := Lib.hid (grown_trans hgt (grown_set W3 bm (o2 + i * m + (n + i)) (.int .u8 ((1 : Nat) : Int))))
    generalize rowOf (bothTo n F (ixs pre)) i n (F i) i (n + i) = x at hcell
    have hin : (n : Int) + (i : Int) = ((n + i : Nat) : Int) := by simp
    have hlt : n + i < m := by omega
    clear hm3 hst hg3 hgt hrun hk a0 a1 a2
    generalize hni : n + i = ni at *
    have HNI := Lib.hid hni
    clear hni
    gi_wp2_with (refine wpListIn_copy_run _ rfl _ _ 31 31 rfl _ _ rfl rfl HRUN.out ?_)
    exact ⟨HM.out.others HGT.out, but_of_grown HGT.out rfl, HST.out, grown_trans HG.out HGT.out⟩
  case done =>
    rintro D ys W hD hys ⟨iM, iG⟩ hK
    rw [hys] at iM
    have hmb := iM.congr (G := beside n F oneF) (fun i j hi _ => bothTo_all n F i j hi)
    have hbo := beside_bt hF oneF_bt n
    have h5 := HB5.out.grown iG (by simp; omega)
    have hn4 := HN3.out.grown iG (by simp; omega)
    have H5 := Lib.hid h5
    have H4 := Lib.hid hn4
    have HRW := Lib.hid (HR3.out.grown iG (by simp; omega))
    have HKW := Lib.hid (Kept.grown HK3.out iG (fun k e => by cases e; omega))
    have HMB := Lib.hid hmb
    have HKD := Lib.hid hK
    have hDz := (Array.getElem?_eq_some_iff.1 hK).1
    obtain ⟨a0, a1, a2⟩ := box3 h5
    have c4 := box1 hn4
    clear iM iG hK hmb h5 hn4 H13 HR3 HN3 HK3 HM3 HB5
    go_wp2_with fail
    go_cut [46] from 42 to 47 (fun s wx => s = .bool (decide ((redTo n (beside n F oneF) n).1 < n)) ∧ Mat wx bm o2 n m (redTo n (beside n F oneF) n).2 ∧ W.grownBy wx (some bm))
    case first =>
      refine wp_normal ?_
      go_region_with (go_at_call 63; refine (reduce_any n m bm o2 (n * m) n (beside n F oneF) (by omega) ⟨by omega, by omega⟩ (Nat.le_refl _) (by omega) hbo _ (by exact HMB.out.kept (Kept.refl W).drew)).mono ?_; rintro e w4 ⟨rfl, hm4, hg4⟩; have c4' := box1 ((H4.out.kept (Kept.refl W).drew).grown hg4 (by simp; omega)); have hg4' := grown_trans (grown_kept (Kept.refl W).drew (some bm)) hg4)
      all_goals (go_wp2_with fail; go_meet; exact ⟨rfl, hm4, hg4'⟩)
    case rest =>
      obtain ⟨rfl, hm4, hg4⟩ := hcut
      have hbR := redTo_bt n (beside n F oneF) hbo n
      have hrk := (rankF_le n n F).1
      have hrdef : (redTo n (beside n F oneF) n).1 = rankF n n F := rfl
      rw [hrdef]
      have HM4 := Lib.hid hm4
      have HG4 := Lib.hid hg4
      have c4' := box1 (H4.out.grown hg4 (by simp; omega))
      have HRW4 := Lib.hid (HRW.out.grown hg4 (by simp; omega))
      have hbR0 := HRW4.out.lt
      have hDk : wc.heap[D]? = some (.deferred (some [])) := (hg4.block D hDz (fun e => by cases e; omega)).trans HKD.out
      have HDK := Lib.hid hDk
      have HKW4 := Lib.hid (Kept.grown HKW.out hg4 (fun k e => by cases e; omega))
      clear a0 a1 a2 c4 hm4 hg4 hrdef hDk
      by_cases hfull : rankF n n F = n
      · have HFU := Lib.hid hfull
        have hd : decide (rankF n n F < n) = false := decide_eq_false (by omega)
        rw [hd]
        clear hfull hd hrk
        go_wp2_with fail
        refine (blank_any n n (by omega) (by omega) _).mono ?_
        rintro e w5 ⟨b5, o5, rfl, hb5, hm5, hk5⟩
        have HM5 := Lib.hid hm5
        have HMB5 := Lib.hid (HM4.out.kept hk5)
        have HRW5 := Lib.hid (HRW4.out.kept hk5)
        have HN5 := Lib.hid ((H4.out.grown HG4.out (by simp; omega)).kept hk5)
        have HB55 := Lib.hid ((H5.out.grown HG4.out (by simp; omega)).kept hk5)
        have HKW5 := Lib.hid (HKW4.out.trans hk5)
        have hDl4 := (Array.getElem?_eq_some_iff.1 HDK.out).1
        have HDK5 := Lib.hid ((Below.block hk5 D hDl4).trans HDK.out)
        have hl5 := hm5.lt
        have hlR5 := HRW5.out.lt
        have hln5 := HN5.out.lt
        have hlb5 := HB55.out.lt
        have hbm5 := HMB5.out.lt
        have hbmw := HMB.out.lt
        have hgs := HG4.out.size
        clear hm5 hk5 c4' HM4 HG4 HRW4 HKW4 HDK
        go_wp2_with fail
        refine (rows_any n n b5 o5 (n * n) _).mono ?_
        rintro e w6 ⟨rfl, hw6⟩
        rw [World.size_alloc]
        have k6 : Kept w5 w6 := by rw [hw6]; exact ((Kept.refl w5).alloc _).alloc _
        have hb8 : BlockAt w6 w5.heap.size #[.int .i64 n, .int .i64 n, .slice (some ⟨b5, o5, none⟩) (n * n) (n * n)] 33 := by rw [hw6]; exact (BlockAt.new _ _ _).kept ((Kept.refl _).alloc _)
        have h9 : BlockAt w6 (w5.heap.size + 1) #[.int .i64 n, .int .i64 n, .slice (some ⟨b5, o5, none⟩) (n * n) (n * n)] 33 := by rw [hw6]; exact BlockAt.new1 _ _ _ _
        have hz6 : w6.heap.size = w5.heap.size + 2 := by rw [hw6]; simp
        have HM6 := Lib.hid (HM5.out.kept k6)
        have HMB6 := Lib.hid (HMB5.out.kept k6)
        have HRW6 := Lib.hid (HRW5.out.kept k6)
        have HN6 := Lib.hid (HN5.out.kept k6)
        have HB56 := Lib.hid (HB55.out.kept k6)
        have HKW6 := Lib.hid (HKW5.out.trans k6)
        have HDK6 := Lib.hid ((Below.block k6 D (by omega)).trans HDK5.out)
        have HB8 := Lib.hid hb8
        clear hw6 k6 hb8 HM5 HMB5 HRW5 HN5 HB55 HKW5 HDK5
        generalize w5.heap.size = q8 at *
        go_wp2
        refine wp_of_in 8 ?_
        refine wpIn_rangeFunc_S rfl (by omega) (gf := 75) (lb := #[.pointer (some ⟨q8 + 1, 0, none⟩)]) rfl trivial (enters_of Try.func75 (by kernel_rfl) rfl)
          (rows_stops 7 (by omega) (fun q => q = b5) n n b5 o5 (n * n) (q8 + 1) (by omega) ⟨by omega, by omega⟩ (Nat.le_refl _) w6 (by omega) h9) (CellsBut.refl _) CellsBut.trans CellsBut.putObj (Below.refl _ _) (fun _ => rfl)
          (fun pre V => Mat V b5 o5 n n (halfTo (invF n F) (ixs pre)) ∧ w6.grownBy V (some b5))
          (fun _ _ _ => False)
          (OwnFrom.and (Own.from (fun s A B row hs hg hr => hs.own hg hr) _) (ownFrom_grown w6 (Nat.le_refl _)))
          (fun _ _ _ _ _ hs _ _ => hs)
          ⟨by rw [ixs_nil, halfTo_nil]; exact HM6.out, grown_refl w6 _⟩ ?round2 ?done2 ?stop2
        case round2 =>
          rintro l ⟨i, hi⟩ V K hK'
          have HK := Lib.hid hK'
          clear hK'
          gi_wp2
          refine HK.out _ ?_
          clear HK
          rintro l pre V ⟨iM, iG⟩ hlen
          have e0 := later_cell (box3 (HB56.out.grown iG (by simp; omega))).1
          have e1 := later_cell (box3 (HB56.out.grown iG (by simp; omega))).2.1
          have e2 := later_cell (box3 (HB56.out.grown iG (by simp; omega))).2.2
          have e3 := later_cell (box1 (HN6.out.grown iG (by simp; omega)))
          have HMBV := Lib.hid (HMB6.out.grown iG (by simp; omega))
          have HM := Lib.hid iM
          have HG := Lib.hid iG
          have hge := Nat.mul_le_mul_right m (Nat.succ_le_of_lt hi)
          rw [Nat.succ_mul] at hge
          have hcp : n < n * m - i * m := by omega
          have hmn : m - n = n := by omega
          have HMN := Lib.hid hmn
          have hnm : n ≤ m := by omega
          have hrow := row_any n m bm o2 (n * m) i (by omega) ⟨by omega, by omega⟩ hi (Nat.le_refl _)
          have HROW := Lib.hid hrow
          clear iM iG hge hmn hrow
          generalize hcq : n * m - i * m = cp at *
          have hne : ¬ cp = n := by omega
          gi_wp2
          refine wpIn_region_later_tail 6 (by kernel_rfl) (by kernel_rfl) (by kernel_rfl) ?_
          simp only [List.take_succ_cons, List.take_zero, List.drop_succ_cons, List.drop_zero]
          repeat (gi_big_quiet_step ((gi_at_call 62; exact (CallsIn.inRound l (callsIn_wide.2 (later_call (HROW.out _)))).mono fun e w' h => h)))
          refine wpQuietIn_nil ?_
          intro _ hw'
          obtain ⟨nq, hw''⟩ := hw'
          subst hw''
          clear e0 e1 e2 e3
          have hkq : Kept V nq.1 := nq.2
          obtain ⟨W3, hrun, hg3, hm3⟩ := copy_row (n := n) (dLen := n) (dCap := n * n - i * n) (sLen := m - n) (sCap := cp - n) (b2 := bm) (o2 := o2 + i * m + n) (invF n F i) (HM.out.kept hkq) hi hn.1 (Nat.le_refl n) (by show n = min (m - n) n; omega)
            (fun j hj => by
              have h := (HMBV.out.kept hkq).cell i (n + j) hi (by omega)
              rw [← Nat.add_assoc] at h
              exact h) 3
          have HRUN := Lib.hid hrun
          have hgt := grown_trans (grown_kept hkq (some b5)) hg3
          have hst := hm3.congr (G := halfTo (invF n F) (ixs (pre ++ [⟨i, hi⟩]))) (fun a j ha hj => by
            rw [ixs_snoc pre i hi]
            unfold rowOf halfTo
            by_cases e : a = i
            · subst e; simp [hj]
            · simp [e])
          have HST := Lib.hid hst
          have HGT := Lib.hid hgt
          clear hm3 hst hg3 hgt hrun hkq
          gi_wp2_with (refine wpListIn_copy_run _ rfl _ _ 31 31 rfl _ _ rfl rfl HRUN.out ?_)
          exact ⟨HM.out.others HGT.out, but_of_grown HGT.out rfl, HST.out, grown_trans HG.out HGT.out⟩
        case done2 =>
          rintro D2 ys V hD2 hys ⟨iM, iG⟩ hK2
          rw [hys] at iM
          have hmf := iM.congr (G := invF n F) (fun i j hi _ => by simp [halfTo, hi])
          have HMF := Lib.hid hmf
          obtain ⟨x0, x1, x2⟩ := box3 (HB8.out.grown iG (by simp; omega))
          have HRV := Lib.hid (HRW6.out.grown iG (by simp; omega))
          have HKV := Lib.hid (Kept.grown HKW6.out iG (fun k e => by cases e; omega))
          have HDV := Lib.hid ((iG.block D (by omega) (fun e => by cases e; omega)).trans HDK6.out)
          have HD2V := Lib.hid hK2
          have hbl2 := iM.lt
          have hDV := (Array.getElem?_eq_some_iff.1 HDV.out).1
          clear iM hmf hK2
          go_wp2_with (refine wpList_store_block rfl 33 (.tmp 2) (.tmp 62) rfl _ #[.int .i64 n, .int .i64 n, .slice (some ⟨b5, o5, none⟩) (n * n) (n * n)] #[.int .i64 0, .int .i64 0, .slice none 0 0] 33 rfl rfl HRV.out Try.infoMat rfl (one3 _ _ _ _ _) ?_)
          have g1 := grown_row V (w.heap.size + 1) #[.int .i64 n, .int .i64 n, .slice (some ⟨b5, o5, none⟩) (n * n) (n * n)]
          refine leaves_marks [D2, D] _ (by simp; omega) (fun E hE => ?_) (fun V' hT => ?_)
          · have hE5 : E ≠ w.heap.size + 1 := by
              rcases List.mem_cons.1 hE with e | h
              · omega
              · simp at h; omega
            rw [setRow_other _ _ _ _ hE5]
            rcases List.mem_cons.1 hE with e | h
            · subst e; exact HD2V.out
            · simp at h; subst h; exact HDV.out
          · have hnb : b5 ∉ [D2, D] := by simp; omega
            have hnr : w.heap.size + 1 ∉ [D2, D] := by simp; omega
            refine ⟨_, results_row_tmp rfl _ _ (w.heap.size + 1) 33 #[.int .i64 n, .int .i64 n, .slice (some ⟨b5, o5, none⟩) (n * n) (n * n)] _ rfl ((HRV.out.setRow _).turned hT hnr) Try.underlying33 rfl Try.infoMat _ rfl, fun _ => ⟨b5, o5, rfl, by omega, (HMF.out.grown g1 (by simp; omega)).turned hT hnb⟩, fun h => absurd HFU.out h, ?_⟩
            have hk' := Kept.grown HKV.out g1 (fun k e => by cases e; omega)
            exact ⟨hT.os.trans (Below.os hk'), hT.tape.trans (Below.tape hk'), hT.output.trans (Below.output hk'), by rw [hT.size]; exact Below.size hk', fun k hk => (hT.block k (by simp; omega)).trans (Below.block hk' k hk)⟩
        case stop2 =>
          rintro D c' pre W _ _ h _
          exact h.elim
      · have HNF := Lib.hid hfull
        have hd : decide (rankF n n F < n) = true := decide_eq_true (by omega)
        rw [hd]
        clear hfull hd hrk
        go_wp2_with (refine wpList_store_block rfl 33 (.tmp 2) (.tmp 47) rfl _ #[.int .i64 0, .int .i64 0, .slice none 0 0] #[.int .i64 0, .int .i64 0, .slice none 0 0] 33 rfl rfl HRW4.out Try.infoMat rfl (one3 _ _ _ _ _) ?_)
        have hKr : (wc.setRow (w.heap.size + 1) #[.int .i64 0, .int .i64 0, .slice none 0 0]).heap[D]? = some (.deferred (some [])) := by rw [setRow_other _ _ _ _ (by omega)]; exact HDK.out
        refine ⟨by simp, .inl ⟨_, _, rfl, run_takeDeferred hKr, ?_⟩⟩
        have g1 := grown_row wc (w.heap.size + 1) #[.int .i64 0, .int .i64 0, .slice none 0 0]
        have g2 := grown_put (wc.setRow (w.heap.size + 1) #[.int .i64 0, .int .i64 0, .slice none 0 0]) D (.deferred none)
        refine ⟨.tuple #[.agg #[.int .i64 0, .int .i64 0, .slice none 0 0], .int .i64 3], ?_, fun h => absurd h HNF.out, fun _ => rfl, (Kept.grown HKW4.out g1 (fun k e => by cases e; omega)).grown g2 (fun k e => by cases e; omega)⟩
        exact results_row_tmp rfl _ _ (w.heap.size + 1) 33 #[.int .i64 0, .int .i64 0, .slice none 0 0] _ rfl ((HRW4.out.setRow _).grown g2 (by simp; omega)) Try.underlying33 rfl Try.infoMat _ rfl
  case stop =>
    rintro D c' pre W _ _ h _
    exact h.elim
end Go.Proofs.Ytoonpnpooljmlaa

namespace Go.Proofs.Ytoonpnpooljmlaa
open Go.RowKit

theorem own_kept {A B : World} {base : Nat} {e : TypeId} {s n : Nat} {v : Value} {xs : List Value} (h : A.ownsRow base e s v n xs) (k : Kept A B) : B.ownsRow base e s v n xs := by
  obtain ⟨h1, h2 | ⟨g, cap, cur, hv, hb, hg, h3⟩⟩ := h
  · exact ⟨h1, .inl h2⟩
  · exact ⟨h1, .inr ⟨g, cap, cur, hv, hb, BlockAt.kept (show BlockAt A g cur e from hg) k, h3⟩⟩
theorem block_grown {w w' : World} {b : Nat} {C : Array Value} {t : TypeId} {row : Option Nat} (h : BlockAt w b C t) (g : w.grownBy w' row) (hne : some b ≠ row) : BlockAt w' b C t := (g.block b h.lt hne).trans h
theorem block_own {w w' : World} {b : Nat} {C : Array Value} {t : TypeId} {row : Option Nat} (h : BlockAt w b C t) (g : w.grownBy w' row) (hr : ∀ k, row = some k → ∃ o : Obj, w.heap[k]? = some o ∧ o.isCells = false) : BlockAt w' b C t := block_grown h g (fun e => by
  obtain ⟨o, ho, hc⟩ := hr b e.symm
  rw [show w.heap[b]? = _ from h] at ho
  cases ho
  cases hc)
theorem own_own {A B : World} {base : Nat} {e : TypeId} {s n : Nat} {v : Value} {xs : List Value} {row : Option Nat} (h : A.ownsRow base e s v n xs) (k : A.grownBy B row) (hr : ∀ k, row = some k → ∃ o : Obj, A.heap[k]? = some o ∧ o.isCells = false) : B.ownsRow base e s v n xs := by
  obtain ⟨h1, h2 | ⟨g, cap, cur, hv, hb, hg, h3⟩⟩ := h
  · exact ⟨h1, .inl h2⟩
  · exact ⟨h1, .inr ⟨g, cap, cur, hv, hb, block_own (show BlockAt A g cur e from hg) k hr, h3⟩⟩
theorem others_own {A B : World} {base : Nat} {e : TypeId} {s n : Nat} {v : Value} {xs : List Value} (h : A.ownsRow base e s v n xs) (g : A.grownBy B v.ownBlock) : KeepsOthers A B :=
  KeepsOthers.of_grownBy g (fun j _ e ho => by
    obtain ⟨h1, h2 | ⟨g, cap, cur, hv, hb, hg, h3⟩⟩ := h
    · rw [h2.1] at e; cases e
    · rw [hv] at e
      cases e
      rw [hg] at ho
      cases ho
      rfl)
theorem but_own {R : Nat → Prop} {A B : World} {row : Option Nat} (g : A.grownBy B row) (hR : ∀ k, row = some k → R k) : CellsBut R A B :=
  ⟨g.size, fun i cs t fr hr hi => by
    have hlt : i < A.heap.size := (Array.getElem?_eq_some_iff.1 hi).1
    exact (g.block i hlt (fun e => hr (hR i e.symm))).trans hi⟩
theorem others_kept {A B : World} (k : Kept A B) : KeepsOthers A B := ⟨Below.size k, fun i _ hi _ => (Below.block k i (Array.getElem?_eq_some_iff.1 hi).1).trans hi⟩

theorem own_slice {A : World} {base : Nat} {e : TypeId} {s n : Nat} {v : Value} {xs : List Value} (h : A.ownsRow base e s v n xs) : ∃ a m c, v = .slice a m c := by
  obtain ⟨_, h2 | ⟨g, cap, cur, hv, _⟩⟩ := h
  · exact ⟨_, _, _, h2.1⟩
  · exact ⟨_, _, _, hv⟩
theorem strs_own {w : World} {base l : Nat} {e : TypeId} {v : Value} {ss : List ByteArray} (ho : w.ownsRow base e 1 v l (ss.map Value.string)) (hl : ss.length = l) (hs : ∀ s ∈ ss, s.size ≤ 9223372036854775807) :
    ∃ a cap, v = .slice a l cap ∧ l ≤ cap ∧ StrsIn w a l ss := by
  rcases ho.2 with ⟨rfl, rfl⟩ | ⟨g, cap, cur, rfl, hb, hg, hn, hm, _⟩
  · exact ⟨none, 0, rfl, Nat.le_refl _, hl, by omega, hs, 0, 0, fun h => absurd h (Nat.lt_irrefl 0), fun i hi => absurd hi (Nat.not_lt_zero i)⟩
  · refine ⟨_, cap, rfl, hn, hl, by unfold maxLen at hm; omega, hs, g, 0, fun _ => rfl, fun i hi => ⟨(ho.lt g rfl).2, ?_⟩⟩
    rw [Nat.zero_add, ho.cellAt i (by omega)]
    have hi' : i < ss.length := by omega
    simp [List.getD, hi']
/-- what a range leaves of itself touches no text -/
theorem strs_put {W : World} {D : Nat} {o o' : Obj} {a : Option Addr} {l : Nat} {ss : List ByteArray} (h : StrsIn W a l ss) (hD : W.heap[D]? = some o) (hc : o.isCells = false) : StrsIn (W.putObj D o') a l ss := by
  obtain ⟨b, off, ha, hcs⟩ := h.cells
  refine ⟨h.len_eq, h.le, h.sizes, b, off, ha, fun i hi => ?_⟩
  obtain ⟨h1, h2⟩ := hcs i hi
  refine ⟨by simpa using h1, ?_⟩
  have hne : b ≠ D := fun e => by
    subst e
    unfold World.cell? at h2
    rw [hD] at h2
    cases o <;> first | (cases hc; done) | (simp at h2; done)
  have hb : (W.putObj D o').heap[b]? = W.heap[b]? := (grown_put W D o').block b h1 (fun e => hne (by cases e; rfl))
  unfold World.cell? at h2 ⊢
  rw [hb]
  exact h2
theorem kept_gr1 {base : Nat} {W a b : World} {row : Option Nat} (h : Below base W a) (g : a.grownBy b row) (hr : ∀ k, row = some k → base ≤ k) (hb : base ≤ W.heap.size := by omega) : Below base W b :=
  ⟨g.os.trans h.os, g.tape.trans h.tape, g.output.trans h.output, Nat.le_trans h.size g.size, fun k hk => (g.block k (by have := h.size; omega) (fun e => by have := hr k e.symm; omega)).trans (h.block k hk)⟩
theorem own_own1 {A B : World} {base : Nat} {e : TypeId} {s n : Nat} {v : Value} {xs : List Value} {row : Option Nat} (h : A.ownsRow base e s v n xs) (g : A.grownBy B row) (hr : row ≠ v.ownBlock) : B.ownsRow base e s v n xs :=
  h.kept g (by
    cases hv : v.ownBlock with
    | none => exact .inl rfl
    | some k => exact .inr fun e => hr (by rw [hv, e]))
theorem slice_of_own1 {w : World} {base : Nat} {e : TypeId} {s n : Nat} {v : Value} {xs : List Value} (h : w.ownsRow base e s v n xs) : ∃ a cap, v = .slice a n cap := by
  obtain ⟨h1, ⟨rfl, rfl⟩ | ⟨g, cap, cur, rfl, hg, _, h3, _⟩⟩ := h
  · exact ⟨none, 0, rfl⟩
  · exact ⟨_, cap, rfl⟩
theorem StrsIn.at {W : World} {a : Option Addr} {l : Nat} {ss : List ByteArray} (h : StrsIn W a l ss) (hl : 0 < l) : ∃ b off, a = some ⟨b, off, none⟩ ∧ ∀ i, i < l → ∀ w, Kept W w → w.cell? ⟨b, off + i, none⟩ = some (.string (ss.getD i ByteArray.empty)) := by
  obtain ⟨b, off, ha, hc⟩ := h.cells
  exact ⟨b, off, ha hl, fun i hi w kk => kk.cell (hc i hi).1 (hc i hi).2⟩
end Go.Proofs.Ytoonpnpooljmlaa
