/- matrix.pivot, by what it answers (sides within bounds, numbers below 256). -/
import Derived.Test.YtlpjpeonejbpjaaMatMul
namespace Go.Proofs.Ytlpjpeonejbpjaa
open Go.RowKit Go.Shelf
attribute [local go_sem] Oper.semAt_some

def pvV (o : Option Nat) : Int := match o with | none => -1 | some a => a
set_option maxRecDepth 100000 in
set_option maxHeartbeats 2000000 in
theorem pivot_any (r c b off cap fr col : Nat) (F : Nat → Nat → Nat) (hr : r ≤ 64) (hc : 1 ≤ c ∧ c ≤ 64) (hcap : r * c ≤ cap) (hcol : col < c) (hfr : fr ≤ r) (hF : Bt F) (w : World) (hs : MatR w b off r c F) :
    Calls Try.prog 86 #[.agg #[.int .i64 r, .int .i64 c, .slice (some ⟨b, off, none⟩) (r * c) cap], .int .i64 fr, .int .i64 col] w fun e w' => e = .returned (.int .i64 (pvV (pv F col fr (r - fr)))) ∧ Kept w w' := by
  have HS := Lib.hid hs
  clear hs
  refine callsIn_wide.1 (callsIn_of_wp_marks (n := 8) Try.func86 rfl trivial ?_ rfl)
  simp only [Try.ntmps86, List.size_toArray, List.length_nil, List.length_cons, Nat.reduceAdd, Nat.reduceSub, Array.replicate_succ, Array.replicate_zero, List.push_toArray, List.append_toArray, List.nil_append, List.cons_append]
  refine wpIn_wide.2 ?_
  go_wp2_with fail
  go_step3
  go_wp2_with fail
  go_step3
  go_wp2_with fail
  refine (rows_any r c b off cap _).mono ?_
  rintro e w1 ⟨rfl, hw1⟩
  simp only [World.size_alloc]
  have hK : Kept w w1 := by rw [hw1]; exact ((((((Kept.refl w).alloc _).alloc _).alloc _).alloc _).alloc _)
  have hbf : BlockAt w1 (w.heap.size + 1) #[.int .i64 fr] 3 := by rw [hw1]; exact (BlockAt.new1 w _ _ _).kept (((Kept.refl _).alloc _ |>.alloc _ |>.alloc _))
  have hbc : BlockAt w1 (w.heap.size + 1 + 1) #[.int .i64 col] 3 := by rw [hw1]; exact (BlockAt.new2 w _ _ _ _).kept (((Kept.refl _).alloc _ |>.alloc _))
  have hbn : BlockAt w1 (w.heap.size + 1 + 1 + 1) #[.int .i64 (-1)] 3 := by rw [hw1]; exact (BlockAt.new3 w _ _ _ _ _).kept (((Kept.refl _).alloc _))
  have hbm : BlockAt w1 (w.heap.size + 1 + 1 + 1 + 1) #[.int .i64 r, .int .i64 c, .slice (some ⟨b, off, none⟩) (r * c) cap] 50 := by
    have h := BlockAt.new3 (w.alloc (.cells #[.int .i64 r, .int .i64 c, .slice (some ⟨b, off, none⟩) (r * c) cap] 50)) #[.int .i64 r, .int .i64 c, .slice (some ⟨b, off, none⟩) (r * c) cap] 50
      (.cells #[.int .i64 fr] 3) (.cells #[.int .i64 col] 3) (.cells #[.int .i64 (-1)] 3)
    rw [World.size_alloc] at h
    rw [hw1]; exact h
  have hz : w1.heap.size = w.heap.size + 5 := by rw [hw1]; simp
  clear hw1
  generalize hp : w.heap.size + 1 = p1 at *
  have hpz := Nat.le_of_eq hp
  clear hp
  go_wp2
  refine wp_of_in 8 ?_
  refine wpIn_rangeFunc_S rfl (by omega) (gf := 90) (lb := #[.pointer (some ⟨p1 + 1 + 1 + 1, 0, none⟩)]) rfl trivial (enters_of Try.func90 (by kernel_rfl) rfl)
    (rows_stops 7 (by omega) (fun k => k = p1 + 1 + 1) r c b off cap (p1 + 1 + 1 + 1) hr hc hcap w1 (by omega) hbm) (CellsBut.refl _) CellsBut.trans CellsBut.putObj (Below.refl _ _) (fun _ => rfl)
    (fun pre W => (BlockAt W p1 #[.int .i64 fr] 3 ∧ BlockAt W (p1 + 1) #[.int .i64 col] 3 ∧ BlockAt W (p1 + 1 + 1) #[.int .i64 (-1)] 3 ∧ ∀ k, k ∈ ixs pre → fr ≤ k → F k col = 0) ∧ Below w.heap.size w W)
    (fun code pre W => (code = .exit 0 ∧ ∃ pre' : List { k : Nat // k < r }, ∃ k : Nat, ixs pre = ixs pre' ++ [k] ∧ k < r ∧ BlockAt W (p1 + 1 + 1) #[.int .i64 k] 3 ∧ fr ≤ k ∧ F k col ≠ 0 ∧ ∀ k, k ∈ ixs pre' → fr ≤ k → F k col = 0) ∧ Below w.heap.size w W)
    (OwnFrom.and (Own.from (fun s A B row hs hg hr => ⟨hs.1.own hg hr, hs.2.1.own hg hr, hs.2.2.1.own hg hr, hs.2.2.2⟩) _) (ownFrom_below (Nat.le_refl _) (by omega)))
    (fun code => OwnFrom.and (Own.from (fun s A B row hs hg hr => ⟨hs.1, by obtain ⟨_, pre', k, e, h1, h2, h3⟩ := hs; exact ⟨pre', k, e, h1, h2.own hg hr, h3⟩⟩) _) (ownFrom_below (Nat.le_refl _) (by omega)))
    ⟨⟨hbf, hbc, hbn, fun k hk => by cases hk⟩, hK⟩ ?round ?done ?stop
  case round =>
    rintro l ⟨k, hk⟩ W K hK'
    have HK := Lib.hid hK'
    clear hK'
    gi_wp2
    refine HK.out _ ?_
    clear HK
    rintro l pre W ⟨⟨iF, iC, iN, iZ⟩, iK⟩ hlen
    have c1 := box1 iF
    have c2 := box1 iC
    have hcell := HS.out.kept iK k col hk hcol
    have hfx := hF k col
    have HF := Lib.hid iF
    have HC := Lib.hid iC
    have HN := Lib.hid iN
    have HZ := Lib.hid iZ
    have HKK := Lib.hid iK
    have c3 := box1 iN
    have c4 := iN.free 0
    have hsn := ixs_snoc pre k hk
    have HSN := Lib.hid hsn
    clear iF iC iN iZ iK hsn
    by_cases hlt : k < fr
    · gi_wp2
      refine ⟨KeepsOthers.refl _, CellsBut.refl _ _, ⟨HF.out, HC.out, HN.out, fun q hq hfq => ?_⟩, HKK.out⟩
      rw [HSN.out] at hq
      rcases List.mem_append.1 hq with h | h
      · exact HZ.out q h hfq
      · simp at h; omega
    · have hd : decide ((k : Int) < (fr : Int)) = false := decide_eq_false (by omega)
      by_cases h0 : F k col = 0
      · have HH0 := Lib.hid h0
        rw [h0] at hcell
        gi_wp2
        refine ⟨KeepsOthers.refl _, CellsBut.refl _ _, ⟨HF.out, HC.out, HN.out, fun q hq hfq => ?_⟩, HKK.out⟩
        rw [HSN.out] at hq
        rcases List.mem_append.1 hq with h | h
        · exact HZ.out q h hfq
        · simp at h; rw [h]; exact HH0.out
      · have hb0 : (((F k col : Nat) : Int) == 0) = false := by rw [beq_eq_false_iff_ne]; omega
        have HH0 := Lib.hid h0
        clear h0
        gi_wp2
        exact ⟨KeepsOthers.setCell _ _ _, ⟨rfl, pre, k, HSN.out, hk, HN.out.set _, by omega, HH0.out, HZ.out⟩, HKK.out.setCell (p := ⟨p1 + 1 + 1, 0, none⟩) (by show w.heap.size ≤ p1 + 1 + 1; omega) _⟩
  case done =>
    rintro D ys W hD hys ⟨⟨iF, iC, iN, iZ⟩, iK⟩ hK
    rw [hys] at iZ
    have hpv := pv_zeros (f := F) (col := col) (n := fr) (k := r - fr) (fun i h1 h2 => iZ i (by simp; omega) h1)
    have HP := Lib.hid hpv
    have c3 := box1 iN
    clear iZ hpv iF iC iN
    go_wp2
    refine noGoto_ret ?_
    refine ⟨by simp, .inl ⟨_, _, rfl, run_takeDeferred hK, ?_⟩⟩
    exact ⟨_, results_tmp rfl _ _ _, by rw [HP.out]; rfl, Kept.grown iK (grown_put W D _) (fun k e => by cases e; omega)⟩
  case stop =>
    rintro D code pre W hD ⟨k1, _, hk1⟩ ⟨⟨rfl, pre', k, hpre, hkr, iN, hfk, h0, iZ⟩, iK⟩ hK
    rw [hk1, List.range_succ] at hpre
    obtain ⟨e1, e2⟩ := List.append_inj' hpre (by simp)
    simp only [List.cons.injEq, and_true] at e2
    subst e2
    rw [← e1] at iZ
    have hpv := pv_first (f := F) (col := col) (n := fr) (a := k1) (k := r - fr) hfk (by omega) h0 (fun i h1 h2 => iZ i (by simp; omega) h1)
    have HP := Lib.hid hpv
    have c3 := box1 iN
    clear iZ hpv iN hpre e1 hk1
    gi_wp2
    go_wp2
    refine noGoto_ret ?_
    refine ⟨by simp, .inl ⟨_, _, rfl, run_takeDeferred hK, ?_⟩⟩
    exact ⟨_, results_tmp rfl _ _ _, by rw [HP.out]; rfl, Kept.grown iK (grown_put W D _) (fun k e => by cases e; omega)⟩
end Go.Proofs.Ytlpjpeonejbpjaa
