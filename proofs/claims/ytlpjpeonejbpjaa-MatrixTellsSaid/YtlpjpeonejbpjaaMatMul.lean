/- matrix.Mul, by what it answers (numbers below 256). -/
import Derived.Test.YtlpjpeonejbpjaaMatOne
import Derived.Test.YtlpjpeonejbpjaaLater
namespace Go.Proofs.Ytlpjpeonejbpjaa
open Go.RowKit Go.Shelf
attribute [local go_sem] Oper.semAt_some

theorem matE_ok {r c : Nat} (hr : 1 ≤ r ∧ r ≤ 16) (hc : 1 ≤ c ∧ c ≤ 16) : matE r c (r * c) = 0 := by
  refine matE_good ?_
  simp [matB, sideB]
  omega
/-- what a row becomes by these rows, each times its number -/
def rowStep (f g F : Nat → Nat → Nat) (i : Nat) (l : List Nat) : Nat → Nat → Nat := l.foldl (fun F j => addRowF F i (g j) (f i j)) F
def allStep (f g : Nat → Nat → Nat) (m : Nat) (l : List Nat) : Nat → Nat → Nat := l.foldl (fun F i => rowStep f g F i (List.range m)) zeroF
theorem rowStep_snoc (f g F : Nat → Nat → Nat) (i : Nat) (l : List Nat) (j : Nat) : rowStep f g F i (l ++ [j]) = addRowF (rowStep f g F i l) i (g j) (f i j) := by simp [rowStep]
theorem allStep_snoc (f g : Nat → Nat → Nat) (m : Nat) (l : List Nat) (i : Nat) : allStep f g m (l ++ [i]) = rowStep f g (allStep f g m l) i (List.range m) := by simp [allStep]
theorem rowStep_at (f g F : Nat → Nat → Nat) (i a k : Nat) : ∀ n, rowStep f g F i (List.range n) a k = if a = i then F a k ^^^ xs (fun j => Gf.mul (g j k) (f i j)) n else F a k
  | 0 => by
    show F a k = _
    by_cases h : a = i
    · rw [if_pos h]; exact (Nat.xor_zero _).symm
    · rw [if_neg h]
  | n + 1 => by
    rw [List.range_succ, rowStep_snoc]
    have ih := rowStep_at f g F i a k n
    unfold addRowF
    by_cases h : a = i
    · subst h
      rw [if_pos rfl] at ih
      rw [if_pos rfl, if_pos rfl, ih, Nat.xor_assoc]
      rfl
    · rw [if_neg h] at ih
      rw [if_neg h, if_neg h, ih]
theorem allStep_at (f g : Nat → Nat → Nat) (m a k : Nat) : ∀ n, allStep f g m (List.range n) a k = if a < n then xs (fun j => Gf.mul (g j k) (f a j)) m else 0
  | 0 => by simp [allStep, zeroF]
  | n + 1 => by
    rw [List.range_succ, allStep_snoc, rowStep_at, allStep_at f g m a k n]
    by_cases h : a = n
    · subst h
      rw [if_pos rfl, if_neg (by omega), if_pos (by omega), Nat.zero_xor]
    · rw [if_neg h]
      by_cases h2 : a < n
      · rw [if_pos h2, if_pos (by omega)]
      · rw [if_neg h2, if_neg (by omega)]
theorem allStep_all {f g : Nat → Nat → Nat} (hf : Bt f) (hg : Bt g) (m r i k : Nat) (hi : i < r) : allStep f g m (List.range r) i k = mulM m f g i k := by
  rw [allStep_at, if_pos hi]
  exact xs_congr (fun j _ => Gf.mul_comm _ _ (hg _ _) (hf _ _))
theorem addRow_bt {F : Nat → Nat → Nat} (h : Bt F) (a : Nat) {H : Nat → Nat} (hH : ∀ j, H j < 256) (v : Nat) : Bt (addRowF F a H v) := fun i j => by
  unfold addRowF; split
  · exact Gf.xor_lt (h _ _) (Gf.mul_lt (hH _) _)
  · exact h _ _
theorem rowStep_bt {f g : Nat → Nat → Nat} (hg : Bt g) (i : Nat) : ∀ (l : List Nat) (F : Nat → Nat → Nat), Bt F → Bt (rowStep f g F i l)
  | [], _, h => h
  | j :: l, _, h => rowStep_bt hg i l _ (addRow_bt h i (hg j) _)
theorem allStep_bt {f g : Nat → Nat → Nat} (hg : Bt g) (m : Nat) (l : List Nat) : Bt (allStep f g m l) := by
  have gen : ∀ (l : List Nat) (F : Nat → Nat → Nat), Bt F → Bt (l.foldl (fun F i => rowStep f g F i (List.range m)) F) := by
    intro l
    induction l with
    | nil => intro F h; exact h
    | cons i l ih => intro F h; exact ih _ (rowStep_bt hg i _ _ h)
  exact gen l zeroF zeroF_bt

set_option maxRecDepth 100000 in
set_option maxHeartbeats 1000000 in
theorem mat_mul_bad (r1 c1 r2 c2 : Int) (a1 a2 : Option Addr) (l1 l2 cap1 cap2 : Nat) (h : matE r1 c1 l1 ≠ 0 ∨ matE r2 c2 l2 ≠ 0 ∨ c1 ≠ r2) (w : World) :
    Calls Try.prog 48 #[.agg #[.int .i64 r1, .int .i64 c1, .slice a1 l1 cap1], .agg #[.int .i64 r2, .int .i64 c2, .slice a2 l2 cap2]] w fun e w' => e = .returned (.tuple #[.agg #[.int .i64 0, .int .i64 0, .slice none 0 0], .int .i64 1]) ∧ Kept w w' := by
  go_enter Try.func48, Try.ntmps48
  go_wp2_with fail
  refine (check_any r1 c1 a1 l1 cap1 _).mono ?_
  rintro e w1 ⟨rfl, hk1⟩
  have hR := (BlockAt.new2 w #[.int .i64 0, .int .i64 0, .slice none 0 0] 50 (.cells #[.int .i64 r1, .int .i64 c1, .slice a1 l1 cap1] 50) (.cells #[.int .i64 r2, .int .i64 c2, .slice a2 l2 cap2] 50)).kept hk1
  have hA := ((BlockAt.new w #[.int .i64 r1, .int .i64 c1, .slice a1 l1 cap1] 50).kept (((Kept.refl _).alloc (.cells #[.int .i64 r2, .int .i64 c2, .slice a2 l2 cap2] 50)).alloc (.cells #[.int .i64 0, .int .i64 0, .slice none 0 0] 50))).kept hk1
  have hB := ((BlockAt.new1 w #[.int .i64 r2, .int .i64 c2, .slice a2 l2 cap2] 50 (.cells #[.int .i64 r1, .int .i64 c1, .slice a1 l1 cap1] 50)).kept ((Kept.refl _).alloc (.cells #[.int .i64 0, .int .i64 0, .slice none 0 0] 50))).kept hk1
  have hK1 := Lib.hid (((((Kept.refl w).alloc _).alloc _).alloc _).trans hk1)
  obtain ⟨b0, b1, b2⟩ := box3 hB
  have HR := Lib.hid hR
  have HA := Lib.hid hA
  clear hR hA hB hk1
  by_cases h1 : matE r1 c1 l1 = 0
  · rw [h1]
    go_wp2_with fail
    refine (check_any r2 c2 a2 l2 cap2 _).mono ?_
    rintro e w2 ⟨rfl, hk2⟩
    have HR2 := Lib.hid (HR.out.kept hk2)
    have HK2 := Lib.hid (hK1.out.trans hk2)
    by_cases h2 : matE r2 c2 l2 = 0
    · rw [h2]
      obtain ⟨a0, a1, a2⟩ := box3 (HA.out.kept hk2)
      have b0' := hk2.cell (cell_lt b0) b0
      have hne : (c1 != r2) = true := by
        rw [bne_iff_ne]
        rcases h with h | h | h
        · exact absurd h1 h
        · exact absurd h2 h
        · exact h
      clear b0 b1 b2 hk2 h h1 h2
      go_wp2_with (refine wpList_store_block rfl 50 (.tmp 4) (.tmp 26) rfl _ #[.int .i64 0, .int .i64 0, .slice none 0 0] #[.int .i64 0, .int .i64 0, .slice none 0 0] 50 rfl rfl HR2.out Try.infoMat rfl (one3 _ _ _ _ _) ?_)
      refine bodyPost_ret (v := .tuple #[.agg #[.int .i64 0, .int .i64 0, .slice none 0 0], .int .i64 1]) ?_ rfl ⟨rfl, HK2.out.setRow (by omega) _⟩
      exact results_row_tmp rfl _ _ (w.heap.size + 1 + 1) 50 #[.int .i64 0, .int .i64 0, .slice none 0 0] _ rfl (HR2.out.setRow _) Try.underlying50 rfl Try.infoMat _ rfl
    · have hne : (matE r2 c2 l2 != 0) = true := by rw [bne_iff_ne]; exact h2
      clear b0 b1 b2 hk2 h h1 h2
      go_wp2_with (refine wpList_store_block rfl 50 (.tmp 4) (.tmp 26) rfl _ #[.int .i64 0, .int .i64 0, .slice none 0 0] #[.int .i64 0, .int .i64 0, .slice none 0 0] 50 rfl rfl HR2.out Try.infoMat rfl (one3 _ _ _ _ _) ?_)
      refine bodyPost_ret (v := .tuple #[.agg #[.int .i64 0, .int .i64 0, .slice none 0 0], .int .i64 1]) ?_ rfl ⟨rfl, HK2.out.setRow (by omega) _⟩
      exact results_row_tmp rfl _ _ (w.heap.size + 1 + 1) 50 #[.int .i64 0, .int .i64 0, .slice none 0 0] _ rfl (HR2.out.setRow _) Try.underlying50 rfl Try.infoMat _ rfl
  · have hne : (matE r1 c1 l1 != 0) = true := by rw [bne_iff_ne]; exact h1
    clear b0 b1 b2 h h1
    go_wp2_with (refine wpList_store_block rfl 50 (.tmp 4) (.tmp 26) rfl _ #[.int .i64 0, .int .i64 0, .slice none 0 0] #[.int .i64 0, .int .i64 0, .slice none 0 0] 50 rfl rfl HR.out Try.infoMat rfl (one3 _ _ _ _ _) ?_)
    refine bodyPost_ret (v := .tuple #[.agg #[.int .i64 0, .int .i64 0, .slice none 0 0], .int .i64 1]) ?_ rfl ⟨rfl, hK1.out.setRow (by omega) _⟩
    exact results_row_tmp rfl _ _ (w.heap.size + 1 + 1) 50 #[.int .i64 0, .int .i64 0, .slice none 0 0] _ rfl (HR.out.setRow _) Try.underlying50 rfl Try.infoMat _ rfl
set_option maxRecDepth 100000 in
set_option maxHeartbeats 4000000 in
theorem mat_mul_any (r m c b1 o1 cap1 b2 o2 cap2 : Nat) (f g : Nat → Nat → Nat) (hr : 1 ≤ r ∧ r ≤ 16) (hm : 1 ≤ m ∧ m ≤ 16) (hc : 1 ≤ c ∧ c ≤ 16) (hc1 : r * m ≤ cap1) (hc2 : m * c ≤ cap2) (hf : Bt f) (hg : Bt g) (w : World)
    (hs1 : MatR w b1 o1 r m f) (hs2 : MatR w b2 o2 m c g) :
    Calls Try.prog 48 #[.agg #[.int .i64 r, .int .i64 m, .slice (some ⟨b1, o1, none⟩) (r * m) cap1], .agg #[.int .i64 m, .int .i64 c, .slice (some ⟨b2, o2, none⟩) (m * c) cap2]] w
      fun e w' => ∃ b off, e = .returned (.tuple #[.agg #[.int .i64 r, .int .i64 c, .slice (some ⟨b, off, none⟩) (r * c) (r * c)], .int .i64 0]) ∧ w.heap.size ≤ b ∧ Mat w' b off r c (mulM m f g) ∧ Kept w w' := by
  have hb1 := cell_lt (hs1 0 0 (by omega) (by omega))
  have hb2 := cell_lt (hs2 0 0 (by omega) (by omega))
  have HE1 := Lib.hid (matE_ok hr hm)
  have HE2 := Lib.hid (matE_ok hm hc)
  have HS1 := Lib.hid hs1
  have HS2 := Lib.hid hs2
  clear hs1 hs2
  refine callsIn_wide.1 (callsIn_of_wp_marks (n := 8) Try.func48 rfl trivial ?_ rfl)
  simp only [Try.ntmps48, List.size_toArray, List.length_nil, List.length_cons, Nat.reduceAdd, Nat.reduceSub, Array.replicate_succ, Array.replicate_zero, List.push_toArray, List.append_toArray, List.nil_append, List.cons_append]
  refine wpIn_wide.2 ?_
  go_wp2_with fail
  refine (check_any r m _ _ _ _).mono ?_
  rintro e w1 ⟨rfl, hk1⟩
  rw [HE1.out]
  have hR := (BlockAt.new2 w #[.int .i64 0, .int .i64 0, .slice none 0 0] 50 (.cells #[.int .i64 r, .int .i64 m, .slice (some ⟨b1, o1, none⟩) (r * m) cap1] 50) (.cells #[.int .i64 m, .int .i64 c, .slice (some ⟨b2, o2, none⟩) (m * c) cap2] 50)).kept hk1
  have hA := ((BlockAt.new w #[.int .i64 r, .int .i64 m, .slice (some ⟨b1, o1, none⟩) (r * m) cap1] 50).kept (((Kept.refl _).alloc (.cells #[.int .i64 m, .int .i64 c, .slice (some ⟨b2, o2, none⟩) (m * c) cap2] 50)).alloc (.cells #[.int .i64 0, .int .i64 0, .slice none 0 0] 50))).kept hk1
  have hB := ((BlockAt.new1 w #[.int .i64 m, .int .i64 c, .slice (some ⟨b2, o2, none⟩) (m * c) cap2] 50 (.cells #[.int .i64 r, .int .i64 m, .slice (some ⟨b1, o1, none⟩) (r * m) cap1] 50)).kept ((Kept.refl _).alloc (.cells #[.int .i64 0, .int .i64 0, .slice none 0 0] 50))).kept hk1
  have hK1 := Lib.hid (((((Kept.refl w).alloc _).alloc _).alloc _).trans hk1)
  have HR := Lib.hid hR
  have HA := Lib.hid hA
  have HB := Lib.hid hB
  obtain ⟨x0, x1, x2⟩ := box3 hB
  clear hR hA hB hk1
  go_wp2_with fail
  refine (check_any m c _ _ _ _).mono ?_
  rintro e w2 ⟨rfl, hk2⟩
  rw [HE2.out]
  clear x0 x1 x2
  have HR2 := Lib.hid (HR.out.kept hk2)
  have HA2 := Lib.hid (HA.out.kept hk2)
  have HB2 := Lib.hid (HB.out.kept hk2)
  have HK2 := Lib.hid (hK1.out.trans hk2)
  obtain ⟨x0, x1, x2⟩ := box3 HA2.out
  obtain ⟨y0, y1, y2⟩ := box3 HB2.out
  clear hk2 HR HA HB hK1
  go_wp2_with fail
  refine (blank_any r c (by omega) (by omega) _).mono ?_
  rintro e w3 ⟨bm, off, rfl, hbm, hM, hk3⟩
  have HR3 := Lib.hid (HR2.out.kept hk3)
  have HA3 := Lib.hid (HA2.out.kept hk3)
  have HB3 := Lib.hid (HB2.out.kept hk3)
  have HK3 := Lib.hid (HK2.out.trans hk3)
  have HM := Lib.hid hM
  have hzR := HR2.out.lt
  clear x0 x1 x2 y0 y1 y2 hM hk3 HR2 HA2 HB2 HK2
  go_wp2_with fail
  refine (rows_any r c bm off (r * c) _).mono ?_
  rintro e w4 ⟨rfl, hw4⟩
  rw [World.size_alloc]
  have k34 : Kept w3 w4 := by rw [hw4]; exact ((Kept.refl w3).alloc _).alloc _
  have h6 : BlockAt w4 w3.heap.size #[.int .i64 r, .int .i64 c, .slice (some ⟨bm, off, none⟩) (r * c) (r * c)] 50 := by rw [hw4]; exact (BlockAt.new _ _ _).kept ((Kept.refl _).alloc _)
  have h7 : BlockAt w4 (w3.heap.size + 1) #[.int .i64 r, .int .i64 c, .slice (some ⟨bm, off, none⟩) (r * c) (r * c)] 50 := by
    rw [hw4]; exact BlockAt.new1 _ _ _ _
  have hA := HA3.out.kept k34
  have hB := HB3.out.kept k34
  have hR := HR3.out.kept k34
  have hM := HM.out.kept k34
  have hK := HK3.out.trans k34
  have hbl := HM.out.lt
  have hRl := HR3.out.lt
  have hz4 : w4.heap.size = w3.heap.size + 2 := by rw [hw4]; simp
  clear hw4 k34 HM HK3 HR3 HA3 HB3
  generalize w3.heap.size = p at *
  go_wp2
  refine wp_of_in 8 ?_
  refine wpIn_rangeFunc_B (β := Nat × Nat) rfl (by omega) (gf := 90) (lb := #[.pointer (some ⟨p + 1, 0, none⟩)]) rfl trivial (enters_of Try.func90 (by kernel_rfl) rfl)
    (rows_stops 7 (by omega) (fun k => k = bm) r c bm off (r * c) (p + 1) (by omega) ⟨hc.1, by omega⟩ (Nat.le_refl _) w4 (by omega) h7) CellsBut.trans CellsBut.putObj (Below.refl _ _) (fun _ => rfl)
    (fun pre W => (BlockAt W w.heap.size #[.int .i64 r, .int .i64 m, .slice (some ⟨b1, o1, none⟩) (r * m) cap1] 50 ∧ BlockAt W (w.heap.size + 1) #[.int .i64 m, .int .i64 c, .slice (some ⟨b2, o2, none⟩) (m * c) cap2] 50 ∧
      BlockAt W (w.heap.size + 1 + 1) #[.int .i64 0, .int .i64 0, .slice none 0 0] 50 ∧ BlockAt W p #[.int .i64 r, .int .i64 c, .slice (some ⟨bm, off, none⟩) (r * c) (r * c)] 50 ∧ Mat W bm off r c (allStep f g m (ixs pre)) ∧ p + 1 < W.heap.size) ∧ Below w.heap.size w W)
    (fun _ _ _ => False)
    (OwnFrom.and (Own.from (fun s A B row hs hg hr => ⟨hs.1.own hg hr, hs.2.1.own hg hr, hs.2.2.1.own hg hr, hs.2.2.2.1.own hg hr, hs.2.2.2.2.1.own hg hr, Nat.lt_of_lt_of_le hs.2.2.2.2.2 hg.size⟩) _) (ownFrom_below (Nat.le_refl _) (by omega)))
    (fun _ _ _ _ _ hs _ _ => hs)
    ⟨⟨hA, hB, hR, h6, hM, by omega⟩, hK⟩
    (fun x q W => (p + 1 < q.1 ∧ p + 1 < q.2) ∧ BlockAt W q.1 #[.int .i64 (x.1 : Nat)] 3 ∧ BlockAt W q.2 #[.slice (some ⟨bm, off + x.1 * c, none⟩) c (r * c - x.1 * c)] 44)
    (fun x q s A B row hs hg hr => ⟨hs.1, hs.2.1.own hg (fun r e => (hr r e).2), hs.2.2.own hg (fun r e => (hr r e).2)⟩)
    ?round ?done ?stop
  case round =>
    rintro l pre ⟨i, hi⟩ W K ⟨⟨iA, iB, iR, i6, iM, iz⟩, iK⟩ hK'
    have HK := Lib.hid hK'
    have HA := Lib.hid iA
    have HB := Lib.hid iB
    have HR := Lib.hid iR
    have H6 := Lib.hid i6
    have HM := Lib.hid iM
    have HKK := Lib.hid iK
    have hpl := i6.lt
    clear iA iB iR i6 iM iK hK' hA hB hR hM h6 h7 hK
    gi_wp2
    refine HK.out _ _ (W.heap.size, W.heap.size + 1) (((KeepsOthers.alloc _ _).trans (KeepsOthers.alloc _ _)).from _) (CellsBut.of_kept (((Kept.refl W).alloc _).alloc _))
      ⟨⟨HA.out.kept (((Kept.refl W).alloc _).alloc _), HB.out.kept (((Kept.refl W).alloc _).alloc _), HR.out.kept (((Kept.refl W).alloc _).alloc _), H6.out.kept (((Kept.refl W).alloc _).alloc _), HM.out.kept (((Kept.refl W).alloc _).alloc _), by simp; omega⟩, Kept.trans HKK.out (((Kept.refl W).alloc _).alloc _)⟩
      ⟨⟨iz, by show p + 1 < W.heap.size + 1; omega⟩, (BlockAt.new W _ _).kept ((Kept.refl _).alloc _), BlockAt.new1 W _ _ _⟩ ?_
    generalize W.heap.size = q1
    clear HK HA HB HR H6 HM HKK iz hpl
    clear pre W
    rintro l pre W hl ⟨rr, hrr⟩ ⟨⟨iA, iB, iR, i6, iM, iz⟩, iK⟩ ⟨⟨hq1, hq2⟩, hbi, hbl2⟩ hlen
    have hq1' : p + 1 < q1 := hq1
    have hbi' : BlockAt W q1 #[.int .i64 (i : Nat)] 3 := hbi
    have hbl' : BlockAt W (q1 + 1) #[.slice (some ⟨bm, off + i * c, none⟩) c (r * c - i * c)] 44 := hbl2
    have HA := Lib.hid iA
    have HB := Lib.hid iB
    have HR := Lib.hid iR
    have H6 := Lib.hid i6
    have HM := Lib.hid iM
    have HKK := Lib.hid iK
    have HBI := Lib.hid hbi'
    have HBL := Lib.hid hbl'
    have HRR := Lib.hid hrr
    obtain ⟨y0, y1, y2⟩ := box3 iB
    clear iA iB iR i6 iM iK hq1 hq2 hbi hbl2 hbi' hbl' hrr
    gi_wp2_with fail
    refine (CallsIn.inRound l (callsIn_wide.2 (rows_any m c b2 o2 cap2 _))).mono ?_
    rintro e W2 ⟨rfl, hW2⟩
    have k2 : Kept W W2 := by rw [hW2]; exact (Kept.refl W).alloc _
    have h8 : BlockAt W2 W.heap.size #[.int .i64 m, .int .i64 c, .slice (some ⟨b2, o2, none⟩) (m * c) cap2] 50 := by rw [hW2]; exact BlockAt.new _ _ _
    have hz2 : W2.heap.size = W.heap.size + 1 := by rw [hW2]; simp
    have hrr2 : W2.heap[l]? = some (.loop rr) := by rw [hW2]; exact (Below.heap_alloc _ _ _ (by have := (Array.getElem?_eq_some_iff.1 HRR.out).1; omega)).trans HRR.out
    clear hW2 y0 y1 y2
    gi_wp2
    have hlz : l < W.heap.size := (Array.getElem?_eq_some_iff.1 HRR.out).1
    have hWz : w4.heap.size ≤ W.heap.size := by omega
    have hbmW := HM.out.lt
    refine wpIn_rangeFunc_SN rfl hrr2 (by omega) (gf := 90) (lb := #[.pointer (some ⟨W.heap.size, 0, none⟩)]) rfl trivial (enters_of Try.func90 (by kernel_rfl) rfl)
      ((rows_stops 5 (by omega) (fun k => k = bm) m c b2 o2 cap2 W.heap.size (by omega) ⟨hc.1, by omega⟩ hc2 W2 (by omega) h8).inRound l) (CellsBut.refl _) CellsBut.trans CellsBut.putObj (Below.refl _ _) (fun _ => rfl)
      (fun pre' W' => ((BlockAt W' w.heap.size #[.int .i64 r, .int .i64 m, .slice (some ⟨b1, o1, none⟩) (r * m) cap1] 50 ∧ BlockAt W' (w.heap.size + 1) #[.int .i64 m, .int .i64 c, .slice (some ⟨b2, o2, none⟩) (m * c) cap2] 50 ∧
        BlockAt W' (w.heap.size + 1 + 1) #[.int .i64 0, .int .i64 0, .slice none 0 0] 50 ∧ BlockAt W' p #[.int .i64 r, .int .i64 c, .slice (some ⟨bm, off, none⟩) (r * c) (r * c)] 50 ∧ Mat W' bm off r c (rowStep f g (allStep f g m (ixs pre)) i (ixs pre')) ∧ p + 1 < W'.heap.size) ∧
        BlockAt W' q1 #[.int .i64 (i : Nat)] 3 ∧ BlockAt W' (q1 + 1) #[.slice (some ⟨bm, off + i * c, none⟩) c (r * c - i * c)] 44 ∧ CellsBut (fun k => k = bm) W W') ∧ KeepsFrom w4.heap.size W W' ∧ Below w.heap.size w W')
      (fun _ _ _ => False)
      (OwnFrom.and (fun s A B row hs hg hr => ⟨⟨hs.1.1.own hg (fun r e => (hr r e).2), hs.1.2.1.own hg (fun r e => (hr r e).2), hs.1.2.2.1.own hg (fun r e => (hr r e).2), hs.1.2.2.2.1.own hg (fun r e => (hr r e).2), hs.1.2.2.2.2.1.own hg (fun r e => (hr r e).2), Nat.lt_of_lt_of_le hs.1.2.2.2.2.2 hg.size⟩, hs.2.1.own hg (fun r e => (hr r e).2), hs.2.2.1.own hg (fun r e => (hr r e).2), ownFrom_but W s A B row hs.2.2.2 hg hr⟩)
        (OwnFrom.and (ownFrom_keepsFrom (by omega)) (ownFrom_below (Nat.le_refl _) (by have := HKK.out.size; omega))))
      (fun _ _ _ _ _ hs _ _ => hs)
      ⟨⟨⟨HA.out.kept k2, HB.out.kept k2, HR.out.kept k2, H6.out.kept k2, HM.out.kept k2, by omega⟩, HBI.out.kept k2, HBL.out.kept k2, CellsBut.of_kept k2⟩, (KeepsOthers.of_grownBy (grown_kept k2 none) (fun j o e => by cases e)).from _, Kept.trans HKK.out k2⟩
      ?round2 ?done2 ?stop2
    case round2 =>
      rintro l2 ⟨j, hj⟩ W5 K hK'
      have HK := Lib.hid hK'
      clear hK'
      gi_wp2
      refine HK.out _ ?_
      clear HK
      rintro l2 pre2 W5 ⟨⟨⟨iA, iB, iR, i6, iM, iz⟩, jI, jL, jB⟩, jK, iK⟩ hlen2
      have hs1 := HS1.out.kept iK
      have hs2 := HS2.out.kept iK
      have hcell := hs1 i j hi hj
      have hfx := hf i j
      have e0 := later_cell (box3 iA).1
      have e1 := later_cell (box3 iA).2.1
      have e2 := later_cell (box3 iA).2.2
      have e3 := later_cell (box1 jI)
      have e4 := later_cell (box1 jL)
      have e5 := later_cell hcell
      have HA5 := Lib.hid iA
      have HB5 := Lib.hid iB
      have HR5 := Lib.hid iR
      have H65 := Lib.hid i6
      have HM5 := Lib.hid iM
      have HI5 := Lib.hid jI
      have HL5 := Lib.hid jL
      have HJB := Lib.hid jB
      have HJK := Lib.hid jK
      have HK5 := Lib.hid iK
      have HX2 := Lib.hid hs2
      clear iA iB iR i6 iM jI jL jB jK iK hs1 hs2 hcell
      gi_wp2
      refine wpIn_region_later_tail 8 (by kernel_rfl) (by kernel_rfl) (by kernel_rfl) ?_
      simp only [List.take_succ_cons, List.take_zero, List.drop_succ_cons, List.drop_zero]
      repeat (gi_big_quiet_step ((gi_at_call 74; exact (CallsIn.inRound l (callsIn_wide.2 (later_call (row_any r m b1 o1 cap1 i (by omega) ⟨hm.1, by omega⟩ hi hc1 _)))).mono fun e w' h => h)))
      refine wpQuietIn_nil ?_
      intro _ hw'
      obtain ⟨nq, hw''⟩ := hw'
      subst hw''
      clear e0 e1 e2 e3 e4 e5
      have hne2 : b2 ≠ bm := by omega
      have hbt : Bt (rowStep f g (allStep f g m (ixs pre)) i (ixs pre2)) := rowStep_bt hg i _ _ (allStep_bt hg m _)
      have hkq : Kept W5 nq.1 := nq.2
      gi_wp2_with fail
      refine (CallsIn.inRound l2 (CallsIn.inRound l (callsIn_wide.2 (add_row r c bm off _ i (f i j) b2 (o2 + j * c) _ (rowStep f g (allStep f g m (ixs pre)) i (ixs pre2)) (g j) hbt (hg j) (by omega) hi hfx _ (HM5.out.kept hkq)
        (fun wr k hg' _ j' hj' => ((HX2.out.kept hkq).grown hg' (fun e => hne2 (by cases e; rfl))) j j' hj hj'))))).mono ?_
      rintro e W6 ⟨⟨u, rfl⟩, hm6, hg6⟩
      have hgt := grown_trans (grown_kept hkq (some bm)) hg6
      have hno := HM5.out.others hgt
      have HM6 := Lib.hid hm6
      have HGT := Lib.hid hgt
      have HNO := Lib.hid hno
      clear hm6 hgt hno hg6 hbt
      gi_wp2
      have hgt := HGT.out
      refine ⟨HNO.out, but_of_grown hgt rfl, ⟨⟨HA5.out.grown hgt (by simp; omega), HB5.out.grown hgt (by simp; omega), HR5.out.grown hgt (by simp; omega), H65.out.grown hgt (by simp; omega), ?_, Nat.lt_of_lt_of_le iz hgt.size⟩,
        HI5.out.grown hgt (by simp; omega), HL5.out.grown hgt (by simp; omega), HJB.out.trans (but_of_grown hgt rfl)⟩, HJK.out.trans (HNO.out.from _), Kept.grown HK5.out hgt (fun k e => by cases e; omega)⟩
      rw [ixs_snoc _ _ hj, rowStep_snoc]
      exact HM6.out
    case done2 =>
      rintro ys W5 hys ⟨⟨⟨iA, iB, iR, i6, iM, iz⟩, jI, jL, jB⟩, jK, iK⟩
      rw [hys] at iM
      have HM5 := Lib.hid iM
      gi_wp2
      refine ⟨jK, jB, ⟨iA, iB, iR, i6, ?_, iz⟩, iK⟩
      rw [ixs_snoc _ _ hi, allStep_snoc]
      exact HM5.out
    case stop2 =>
      rintro c' pre W _ h
      exact h.elim
  case done =>
    rintro D ys W hD hys ⟨⟨iA, iB, iR, i6, iM, iz⟩, iK⟩ hK
    have hm2 := iM.congr (G := mulM m f g) (fun i j hi _ => by rw [hys]; exact allStep_all hf hg m r i j hi)
    have HM := Lib.hid hm2
    have HBB := Lib.hid iK
    have HB := Lib.hid iR
    obtain ⟨c0, c1, c2⟩ := box3 i6
    have hbl2 := iM.lt
    clear iM hm2 iK i6 iA iB iR
    go_wp2_with (refine wpList_store_block rfl 50 (.tmp 4) (.tmp 49) rfl _ #[.int .i64 r, .int .i64 c, .slice (some ⟨bm, off, none⟩) (r * c) (r * c)] #[.int .i64 0, .int .i64 0, .slice none 0 0] 50 rfl rfl HB.out Try.infoMat rfl (one3 _ _ _ _ _) ?_)
    have hKr : (W.setRow (w.heap.size + 1 + 1) #[.int .i64 r, .int .i64 c, .slice (some ⟨bm, off, none⟩) (r * c) (r * c)]).heap[D]? = some (.deferred (some [])) := by rw [setRow_other _ _ _ _ (by omega)]; exact hK
    refine ⟨by simp, .inl ⟨_, _, rfl, run_takeDeferred hKr, ?_⟩⟩
    have g1 := grown_row W (w.heap.size + 1 + 1) #[.int .i64 r, .int .i64 c, .slice (some ⟨bm, off, none⟩) (r * c) (r * c)]
    have g2 := grown_put (W.setRow (w.heap.size + 1 + 1) #[.int .i64 r, .int .i64 c, .slice (some ⟨bm, off, none⟩) (r * c) (r * c)]) D (.deferred none)
    refine ⟨.tuple #[.agg #[.int .i64 r, .int .i64 c, .slice (some ⟨bm, off, none⟩) (r * c) (r * c)], .int .i64 0], ?_, bm, off, rfl, by omega, (HM.out.grown g1 (by simp; omega)).grown g2 (by simp; omega), (Kept.grown HBB.out g1 (fun k e => by cases e; omega)).grown g2 (fun k e => by cases e; omega)⟩
    exact results_row_tmp rfl _ _ (w.heap.size + 1 + 1) 50 #[.int .i64 r, .int .i64 c, .slice (some ⟨bm, off, none⟩) (r * c) (r * c)] _ rfl ((HB.out.setRow _).grown g2 (by simp; omega)) Try.underlying50 rfl Try.infoMat _ rfl
  case stop =>
    rintro D c' pre W _ _ h _
    exact h.elim
end Go.Proofs.Ytlpjpeonejbpjaa
