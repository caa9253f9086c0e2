/- matrix.One, by what it answers (no conditions). -/
import Derived.Test.YtlpjpeonejbpjaaMatB
namespace Go.Proofs.Ytlpjpeonejbpjaa
open Go.RowKit Go.Shelf
attribute [local go_sem] Oper.semAt_some

/-- One as far as these rows -/
def diagTo (l : List Nat) : Nat → Nat → Nat := fun i j => if i = j ∧ i ∈ l then 1 else 0
theorem diagTo_nil : diagTo [] = zeroF := by funext i j; simp [diagTo, zeroF]
theorem diagTo_snoc (l : List Nat) (k : Nat) : upd (diagTo l) k k 1 = diagTo (l ++ [k]) := by
  funext i j
  unfold upd diagTo
  by_cases h : i = k ∧ j = k
  · obtain ⟨rfl, rfl⟩ := h; simp
  · rw [if_neg h]
    by_cases e : i = j
    · subst e
      have : i ≠ k := fun h' => h ⟨h', h'⟩
      simp [this]
    · simp [e]
theorem diagTo_all (n i j : Nat) (hi : i < n) : diagTo (List.range n) i j = oneF i j := by
  unfold diagTo oneF
  by_cases e : i = j
  · subst e; simp [hi]
  · simp [e]

set_option maxRecDepth 100000 in
set_option maxHeartbeats 2000000 in
theorem one_any (n : Nat) (h1 : 1 ≤ n) (hn : n ≤ 16) (w : World) :
    Calls Try.prog 45 #[.int .i64 n] w fun e w' => ∃ b off, e = .returned (.tuple #[.agg #[.int .i64 n, .int .i64 n, .slice (some ⟨b, off, none⟩) (n * n) (n * n)], .int .i64 0]) ∧ w.heap.size ≤ b ∧ Mat w' b off n n oneF ∧ Kept w w' := by
  have hs : sideB n = true := by simp [sideB]; omega
  have HS := Lib.hid hs
  clear hs
  refine callsIn_wide.1 (callsIn_of_wp_marks (n := 8) Try.func45 rfl trivial ?_ rfl)
  simp only [Try.ntmps45, List.size_toArray, List.length_nil, List.length_cons, Nat.reduceAdd, Nat.reduceSub, Array.replicate_succ, Array.replicate_zero, List.push_toArray, List.append_toArray, List.nil_append, List.cons_append]
  refine wpIn_wide.2 ?_
  go_wp2_with fail
  refine (side_any _ _).mono ?_
  rintro e w' ⟨rfl, rfl⟩
  rw [HS.out]
  go_wp2_with fail
  refine (blank_any n n (by omega) (by omega) _).mono ?_
  rintro e w1 ⟨b, off, rfl, hb, hM, hK⟩
  have HM := Lib.hid hM
  have HK := Lib.hid hK
  clear hM hK
  go_wp2_with fail
  refine (rows_any n n b off (n * n) _).mono ?_
  rintro e w2 ⟨rfl, hw2⟩
  rw [World.size_alloc] at hb ⊢
  have k12 : Kept w1 w2 := by rw [hw2]; exact ((Kept.refl w1).alloc _).alloc _
  have hM2 := HM.out.kept k12
  have h4 : BlockAt w2 w1.heap.size #[.int .i64 n, .int .i64 n, .slice (some ⟨b, off, none⟩) (n * n) (n * n)] 50 := by rw [hw2]; exact (BlockAt.new _ _ _).kept ((Kept.refl _).alloc _)
  have h5 : BlockAt w2 (w1.heap.size + 1) #[.int .i64 n, .int .i64 n, .slice (some ⟨b, off, none⟩) (n * n) (n * n)] 50 := by
    have h := BlockAt.new (w1.alloc (.cells #[.int .i64 n, .int .i64 n, .slice (some ⟨b, off, none⟩) (n * n) (n * n)] 50)) #[.int .i64 n, .int .i64 n, .slice (some ⟨b, off, none⟩) (n * n) (n * n)] 50
    rw [World.size_alloc] at h
    rw [hw2]; exact h
  have hR : BlockAt w2 w.heap.size #[.int .i64 0, .int .i64 0, .slice none 0 0] 50 := ((BlockAt.new w _ _).kept HK.out).kept k12
  have hB : Kept w w2 := (((Kept.refl w).alloc _).trans HK.out).trans k12
  have hbl := HM.out.lt
  have hRl := hR.lt
  have hz := HK.out.size
  rw [World.size_alloc] at hz
  have hz2 : w2.heap.size = w1.heap.size + 2 := by rw [hw2]; simp
  clear hw2 k12 HM HK
  generalize w1.heap.size = p at *
  go_wp2
  refine wp_of_in 8 ?_
  refine wpIn_rangeFunc_S rfl (by omega) (gf := 90) (lb := #[.pointer (some ⟨p + 1, 0, none⟩)]) rfl trivial (enters_of Try.func90 (by kernel_rfl) rfl)
    (rows_stops 7 (by omega) (fun k => k = b) n n b off (n * n) (p + 1) (by omega) ⟨h1, by omega⟩ (Nat.le_refl _) w2 (by omega) h5) (CellsBut.refl _) CellsBut.trans CellsBut.putObj (Below.refl _ _) (fun _ => rfl)
    (fun pre W => (BlockAt W p #[.int .i64 n, .int .i64 n, .slice (some ⟨b, off, none⟩) (n * n) (n * n)] 50 ∧ BlockAt W w.heap.size #[.int .i64 0, .int .i64 0, .slice none 0 0] 50 ∧ Mat W b off n n (diagTo (ixs pre))) ∧ Below w.heap.size w W)
    (fun _ _ _ => False)
    (OwnFrom.and (Own.from (fun s A B row hs hg hr => ⟨hs.1.own hg hr, hs.2.1.own hg hr, hs.2.2.own hg hr⟩) _) (ownFrom_below (Nat.le_refl _) (by omega)))
    (fun _ _ _ _ _ hs _ _ => hs)
    ⟨⟨h4, hR, by rw [ixs_nil, diagTo_nil]; exact hM2⟩, hB⟩ ?round ?done ?stop
  case round =>
    rintro l ⟨k, hk⟩ W K hK
    have HK := Lib.hid hK
    clear hK
    gi_wp2
    refine HK.out _ ?_
    clear HK
    rintro l pre W ⟨⟨ha, hb', hm⟩, hB⟩ hlen
    have hcell := hm.cell k k hk hk
    have hfree := hm.free (off + k * n + k)
    have hst := hm.set hk hk 1
    rw [diagTo_snoc, ← ixs_snoc _ _ hk] at hst
    have HST := Lib.hid hst
    have HA := Lib.hid ha
    have HB := Lib.hid hb'
    have HBB := Lib.hid hB
    generalize diagTo (ixs pre) k k = x at hcell
    clear hst ha hb' hB hm
    gi_wp2
    exact ⟨KeepsOthers.setCell _ _ _, CellsBut.setCell _ _ rfl, ⟨HA.out.setOther _ (by omega), HB.out.setOther _ (by omega), HST.out⟩, HBB.out.setCell (p := ⟨b, off + k * n + k, none⟩) (by show w.heap.size ≤ b; omega) _⟩
  case done =>
    rintro D ys W hD hys ⟨⟨ha, hb', hm⟩, hB⟩ hK
    have hm2 := hm.congr (G := oneF) (fun i j hi _ => by rw [hys]; exact diagTo_all n i j hi)
    have HM := Lib.hid hm2
    have HBB := Lib.hid hB
    have c0 := ha.cell 0
    have c1 := ha.cell 1
    have c2 := ha.cell 2
    simp only [List.getElem?_toArray, List.getElem?_cons_zero, List.getElem?_cons_succ] at c0 c1 c2
    clear hm hm2 hB ha
    have HB := Lib.hid hb'
    clear hb'
    go_wp2_with (refine wpList_store_block rfl 50 (.tmp 2) (.tmp 21) rfl w.heap.size #[.int .i64 n, .int .i64 n, .slice (some ⟨b, off, none⟩) (n * n) (n * n)] #[.int .i64 0, .int .i64 0, .slice none 0 0] 50 ?hx ?hy ?hg ?hi ?hsz ?h1 ?_)
    case hx => rfl
    case hy => rfl
    case hg => exact HB.out
    case hi => exact Try.infoMat
    case hsz => rfl
    case h1 => exact one3 _ _ _ _ _
    have hKr : (W.setRow w.heap.size #[.int .i64 n, .int .i64 n, .slice (some ⟨b, off, none⟩) (n * n) (n * n)]).heap[D]? = some (.deferred (some [])) := by rw [setRow_other _ _ _ _ (by omega)]; exact hK
    refine ⟨by simp, .inl ⟨_, _, rfl, run_takeDeferred hKr, ?_⟩⟩
    have g1 := grown_row W w.heap.size #[.int .i64 n, .int .i64 n, .slice (some ⟨b, off, none⟩) (n * n) (n * n)]
    have g2 := grown_put (W.setRow w.heap.size #[.int .i64 n, .int .i64 n, .slice (some ⟨b, off, none⟩) (n * n) (n * n)]) D (.deferred none)
    have hbl2 := HM.out.lt
    refine ⟨.tuple #[.agg #[.int .i64 n, .int .i64 n, .slice (some ⟨b, off, none⟩) (n * n) (n * n)], .int .i64 0], ?_, b, off, rfl, by omega, (HM.out.grown g1 (by simp; omega)).grown g2 (by simp; omega), (Kept.grown HBB.out g1 (fun k e => by cases e; omega)).grown g2 (fun k e => by cases e; omega)⟩
    exact results_row_tmp rfl _ _ w.heap.size 50 _ _ rfl ((HB.out.setRow _).grown g2 (by simp; omega)) Try.underlying50 rfl Try.infoMat _ rfl
  case stop =>
    rintro D c' pre W _ _ h _
    exact h.elim
end Go.Proofs.Ytlpjpeonejbpjaa
