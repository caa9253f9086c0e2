/- The walk of the law MatrixTells: it answers true and changes nothing that was there (no conditions). -/
import Derived.Test.YtlpjpeonejbpjaaTell
import Derived.Test.YtlpjpeonejbpjaaWake3
import Derived.Laws.OwnMore
import Derived.Deep.DeepCutAuto
namespace Go.Proofs.Ytlpjpeonejbpjaa
open Go.ChangeShapes Go.WideShapes Go.ChangeAt Go.RowKit Go.Joins

/-- the copy that is asked -/
structure TIn (b4 : Nat) (r c : Int) (l : Nat) (a : Option Addr) (cap : Nat) (H : Nat → Nat) (w : World) : Prop where
  x : BlockAt w b4 #[.int .i64 r, .int .i64 c, .slice a l cap] 50
  h : ByIn w a l H
theorem TIn.kept {b4 : Nat} {r c : Int} {l : Nat} {a : Option Addr} {cap : Nat} {H : Nat → Nat} {w w' : World} (h : TIn b4 r c l a cap H w) (k : Kept w w') : TIn b4 r c l a cap H w' := ⟨h.x.kept k, h.h.kept k⟩
/-- a result: its variable and its bytes -/
structure TX (w0 : World) (b8 : Nat) (r c : Int) (a : Option Addr) (l : Nat) (H : Nat → Nat) (w : World) : Prop where
  x : BlockAt w b8 #[.int .i64 r, .int .i64 c, .slice a l l] 50
  o : Own1 w0 w a l H
theorem TX.kept {w0 : World} {b8 : Nat} {r c : Int} {a : Option Addr} {l : Nat} {H : Nat → Nat} {w w' : World} (h : TX w0 b8 r c a l H w) (k : Kept w w') : TX w0 b8 r c a l H w' := ⟨h.x.kept k, h.o.kept k⟩
theorem by_store {w w' : World} {g o l b : Nat} {H : Nat → Nat} {cs C : Array Value} {t t' : TypeId} (h : ByIn w (some ⟨g, o, none⟩) l H) (hgb : BlockAt w g cs t) (gr : w.grownBy w' (some b)) (hb : BlockAt w b C t') (hne : t ≠ t') : ByIn w' (some ⟨g, o, none⟩) l H := by
  obtain ⟨b2, o2, ha2, hc2⟩ := h.cells
  by_cases hl : 0 < l
  · cases ha2 hl
    exact ⟨g, o, fun _ => rfl, fun i hi => by
      have h3 := (World.cell?_of_block (a := ⟨g, o + i, none⟩) (gr.block g (hc2 i hi).1 (fun e => ne_of_types hgb hb hne (Option.some.inj e)))).trans (hc2 i hi).2
      exact ⟨cell_lt h3, h3⟩⟩
  · obtain rfl : l = 0 := by omega
    exact ByIn.empty _ _ _
theorem by_mat {w : World} {b o r c : Nat} {H : Nat → Nat} (h : ByIn w (some ⟨b, o, none⟩) (r * c) H) (hp : 0 < r * c) : MatR w b o r c (rect c H) := by
  obtain ⟨b2, o2, e, hm⟩ := h.rect hp
  cases e
  exact hm
/-- what is due: its variable and its bytes -/
structure TD (b16 : Nat) (r c : Int) (a : Option Addr) (l cap : Nat) (H : Nat → Nat) (w : World) : Prop where
  x : BlockAt w b16 #[.int .i64 r, .int .i64 c, .slice a l cap] 50
  h : ByIn w a l H
  blk : 0 < l → ∃ g o cs, a = some ⟨g, o, none⟩ ∧ BlockAt w g cs 5
theorem TD.kept {b16 : Nat} {r c : Int} {a : Option Addr} {l cap : Nat} {H : Nat → Nat} {w w' : World} (h : TD b16 r c a l cap H w) (k : Kept w w') : TD b16 r c a l cap H w' :=
  ⟨h.x.kept k, h.h.kept k, fun hl => by obtain ⟨g, o, cs, e, hb⟩ := h.blk hl; exact ⟨g, o, cs, e, hb.kept k⟩⟩
theorem TD.zero {b16 : Nat} {w : World} (h : BlockAt w b16 #[.int .i64 0, .int .i64 0, .slice none 0 0] 50) (H : Nat → Nat) : TD b16 0 0 none 0 0 H w := ⟨h, ByIn.empty _ _ _, fun h => absurd h (Nat.lt_irrefl 0)⟩
theorem TD.storeOther {b16 b17 : Nat} {r c : Int} {a : Option Addr} {l cap : Nat} {H : Nat → Nat} {w w' : World} {C : Array Value} (h : TD b16 r c a l cap H w) (hg : w.grownBy w' (some b17)) (hb : BlockAt w b17 C 50) (hne : b16 ≠ b17) : TD b16 r c a l cap H w' := by
  refine ⟨h.x.grown hg (fun e => hne (Option.some.inj e)), ?_, fun hl => ?_⟩
  · by_cases hl : 0 < l
    · obtain ⟨g, o, cs, rfl, hgb⟩ := h.blk hl
      exact by_store h.h hgb hg hb (by decide)
    · obtain rfl : l = 0 := by omega
      exact ByIn.empty _ _ _
  · obtain ⟨g, o, cs, e, hgb⟩ := h.blk hl
    exact ⟨g, o, cs, e, hgb.grown hg (fun e => ne_of_types hgb hb (by decide) (Option.some.inj e))⟩
theorem later_kept {w : World} (u : Later w) : Kept w u.1 := u.2
theorem later_box {w : World} {b : Nat} {x y z : Value} {t : TypeId} (h : BlockAt w b #[x, y, z] t) : (∀ u : Later w, u.1.cell? ⟨b, 0, none⟩ = some x) ∧ (∀ u : Later w, u.1.cell? ⟨b, 1, none⟩ = some y) ∧ (∀ u : Later w, u.1.cell? ⟨b, 2, none⟩ = some z) :=
  ⟨later_cell (box3 h).1, later_cell (box3 h).2.1, later_cell (box3 h).2.2⟩
/-- with a matrix that may not be -/
theorem tell_bad {r c : Int} {l ln : Nat} {H : Nat → Nat} {zs : List Int} (h : matB r c l = false) : matE r c l = 1 ∧ tInvE r c l H = 1 ∧ tInvN r c l H = 0 ∧ tPkE r c l ln zs = 1 ∧ tPkR r c l ln zs = 0 ∧ tPkC r c l ln zs = 0 ∧ tRank r c l H = 0 := by
  have hE := matE_bad h
  have h0 : ¬ matE r c l = 0 := by omega
  have h1 : ¬ invOk r c l H := fun x => h0 x.1
  have h2 : ¬ pkOk r c l ln zs := fun x => h0 x.1
  refine ⟨hE, ?_, ?_, ?_, ?_, ?_, ?_⟩
  · unfold tInvE; rw [if_neg h1, if_neg (fun x => h0 x.1)]
  · unfold tInvN; rw [if_neg h1]
  · unfold tPkE; rw [if_neg h2]
  · unfold tPkR; rw [if_neg h2]
  · unfold tPkC; rw [if_neg h2]
  · unfold tRank; rw [if_neg h0]
theorem tell_rank {r c : Nat} {l : Nat} {H : Nat → Nat} (hE : matE r c l = 0) : tRank r c l H = rankF r c (rect c H) := by
  unfold tRank; rw [if_pos hE, Int.toNat_natCast, Int.toNat_natCast]
theorem inv_full {r : Nat} {l : Nat} {H : Nat → Nat} (hE : matE r r l = 0) (hR : rankF r r (rect r H) = r) : tInvE r r l H = 0 ∧ tInvN r r l H = r := by
  have hok : invOk r r l H := ⟨hE, rfl, by simpa using hR⟩
  unfold tInvE tInvN
  rw [if_pos hok, if_pos hok]
  exact ⟨rfl, Int.toNat_natCast r⟩
theorem inv_less {r : Nat} {l : Nat} {H : Nat → Nat} (hE : matE r r l = 0) (hR : rankF r r (rect r H) ≠ r) : tInvE r r l H = 3 ∧ tInvN r r l H = 0 := by
  have hno : ¬ invOk r r l H := fun h => hR (by simpa using h.2.2)
  unfold tInvE tInvN
  rw [if_neg hno, if_neg hno, if_pos ⟨hE, rfl⟩]
  exact ⟨rfl, rfl⟩
theorem inv_non {r c : Int} {l : Nat} {H : Nat → Nat} (h : r ≠ c) : tInvE r c l H = 1 ∧ tInvN r c l H = 0 := by
  have hno : ¬ invOk r c l H := fun x => h x.2.1
  unfold tInvE tInvN
  rw [if_neg hno, if_neg hno, if_neg (fun x => h x.2)]
  exact ⟨rfl, rfl⟩
theorem pk_ok {r c : Nat} {l ln : Nat} {zs : List Int} (hE : matE r c l = 0) (hs : sideB (ln : Int) = true) (hp : pickOk r zs) : tPkE r c l ln zs = 0 ∧ tPkR r c l ln zs = ln ∧ tPkC r c l ln zs = c := by
  have hok : pkOk r c l ln zs := ⟨hE, hs, by simpa using hp⟩
  unfold tPkE tPkR tPkC
  rw [if_pos hok, if_pos hok, if_pos hok]
  exact ⟨rfl, rfl, Int.toNat_natCast c⟩
theorem pk_no {r c : Nat} {l ln : Nat} {zs : List Int} (h : ¬ (sideB (ln : Int) = true ∧ pickOk r zs)) : tPkE r c l ln zs = 1 ∧ tPkR r c l ln zs = 0 ∧ tPkC r c l ln zs = 0 := by
  have hno : ¬ pkOk r c l ln zs := fun x => h ⟨x.2.1, by simpa using x.2.2⟩
  unfold tPkE tPkR tPkC
  rw [if_neg hno, if_neg hno, if_neg hno]
  exact ⟨rfl, rfl, rfl⟩
/-- are the rows' numbers good as far as k? -/
def goodTo (r ln : Nat) (zs : List Int) : Nat → Bool
  | 0 => sideB (ln : Int)
  | k + 1 => goodTo r ln zs k && (decide (0 ≤ zs.getD k 0) && decide (zs.getD k 0 ≤ (r : Int) - 1))
theorem goodTo_iff (r ln : Nat) (zs : List Int) : ∀ k, goodTo r ln zs k = true ↔ sideB (ln : Int) = true ∧ ∀ i, i < k → 0 ≤ zs.getD i 0 ∧ zs.getD i 0 < r
  | 0 => ⟨fun h => ⟨h, fun i hi => absurd hi (Nat.not_lt_zero i)⟩, fun h => h.1⟩
  | k + 1 => by
    have ih := goodTo_iff r ln zs k
    unfold goodTo
    rw [Bool.and_eq_true, Bool.and_eq_true, decide_eq_true_eq, decide_eq_true_eq, ih]
    constructor
    · rintro ⟨⟨h1, h2⟩, h3, h4⟩
      refine ⟨h1, fun i hi => ?_⟩
      by_cases e : i = k
      · subst e; exact ⟨h3, by omega⟩
      · exact h2 i (by omega)
    · rintro ⟨h1, h2⟩
      have h3 := h2 k (Nat.lt_succ_self k)
      exact ⟨⟨h1, fun i hi => h2 i (by omega)⟩, h3.1, by omega⟩
/-- what the law reckons for itself, behind its test -/
def TellCut (wa : World) (b16 b17 : Nat) (r c : Int) (l : Nat) (H : Nat → Nat) (ln : Nat) (zs : List Int) (s t u v : Value) (wx : World) : Prop :=
  s = .int .i64 (matE r c l) ∧ t = .int .i64 (tInvE r c l H) ∧ u = .int .i64 (tPkE r c l ln zs) ∧ v = .int .i64 (tRank r c l H : Nat) ∧ Kept wa wx ∧
  (∃ aw kw, TD b16 (tInvN r c l H : Nat) (tInvN r c l H : Nat) aw (tInvN r c l H * tInvN r c l H) kw (tInvH r H) wx) ∧
  (∃ av kv, TD b17 (tPkR r c l ln zs : Nat) (tPkC r c l ln zs : Nat) av (tPkR r c l ln zs * tPkC r c l ln zs) kv (tPkH c H zs) wx)
/-- and behind the square's test -/
def SqCut (wa : World) (b16 b17 : Nat) (r c : Int) (l : Nat) (H : Nat → Nat) (t : Value) (wx : World) : Prop :=
  t = .int .i64 (tInvE r c l H) ∧ Kept wa wx ∧ (∃ aw kw, TD b16 (tInvN r c l H : Nat) (tInvN r c l H : Nat) aw (tInvN r c l H * tInvN r c l H) kw (tInvH r H) wx) ∧ BlockAt wx b17 #[.int .i64 0, .int .i64 0, .slice none 0 0] 50
theorem tInvN_le (r c : Int) (l : Nat) (H : Nat → Nat) : tInvN r c l H ≤ 16 := by
  unfold tInvN
  split
  · rename_i h
    have hB : matB r c l = true := by
      cases hb : matB r c l
      · have := matE_bad hb
        have h0 := h.1
        omega
      · rfl
    unfold matB at hB
    simp only [Bool.and_eq_true] at hB
    have := sideB_bounds hB.1.1
    omega
  · exact Nat.zero_le _
theorem tPk_le (r c : Int) (l ln : Nat) (zs : List Int) : tPkR r c l ln zs ≤ 16 ∧ tPkC r c l ln zs ≤ 16 := by
  unfold tPkR tPkC
  split
  · rename_i h
    have hB : matB r c l = true := by
      cases hb : matB r c l
      · have := matE_bad hb
        have h0 := h.1
        omega
      · rfl
    unfold matB at hB
    simp only [Bool.and_eq_true] at hB
    have h1 := sideB_bounds hB.1.2
    have h2 := sideB_bounds h.2.1
    exact ⟨by omega, by omega⟩
  · exact ⟨Nat.zero_le _, Nat.zero_le _⟩
theorem spoil_own (w0 w : World) (a : Option Addr) (l : Nat) (H : Nat → Nat) (h : Own1 w0 w a l H) (hl : l ≤ 100000) (cap : Nat) :
    Calls Try.prog 44 #[.slice a l cap] w fun e w' => (∃ u, e = .returned u) ∧ ∃ row, w.grownBy w' row ∧ ∀ g, row = some g → w0.heap.size ≤ g ∧ (∃ o, a = some ⟨g, o, none⟩) ∧ ∃ cs, BlockAt w g cs 5 := by
  by_cases h0 : l = 0
  · subst h0
    refine (spoil_nil cap a w).mono ?_
    rintro e w' ⟨h1, hk⟩
    exact ⟨h1, none, grown_kept hk none, fun g e => by cases e⟩
  · obtain ⟨g, o, F, rfl, hb, hm, hF⟩ := h.blk (by omega)
    refine (spoil_any g o l cap F hF hl w hm).mono ?_
    rintro e w' ⟨h1, gr⟩
    exact ⟨h1, some g, gr, fun q e => by cases e; exact ⟨hb, ⟨o, rfl⟩, hm.blk⟩⟩
theorem TX.grownR {w0 : World} {b8 : Nat} {r c : Int} {a : Option Addr} {l : Nat} {H : Nat → Nat} {w w' : World} {row : Option Nat} (h : TX w0 b8 r c a l H w) (gr : w.grownBy w' row) (hr : ∀ g, row = some g → g < w0.heap.size ∧ ∃ cs, BlockAt w g cs 5) : TX w0 b8 r c a l H w' := by
  refine ⟨h.x.grown gr (fun e => ?_), ?_, h.o.nil, fun hl => ?_⟩
  · obtain ⟨_, cs, hb⟩ := hr b8 e.symm
    exact ne_of_types h.x hb (by decide) rfl
  · by_cases hl : 0 < l
    · obtain ⟨g, o, F, rfl, hb, hm, hF⟩ := h.o.blk hl
      obtain ⟨b2, o2, ha2, hc2⟩ := h.o.by_.cells
      cases ha2 hl
      exact ⟨g, o, fun _ => rfl, fun i hi => by
        have h3 := (World.cell?_of_block (a := ⟨g, o + i, none⟩) (gr.block g (hc2 i hi).1 (fun e => by have := (hr g e.symm).1; omega))).trans (hc2 i hi).2
        exact ⟨cell_lt h3, h3⟩⟩
    · obtain rfl : l = 0 := by omega
      exact ByIn.empty _ _ _
  · obtain ⟨g, o, F, e1, hb, hm, hF⟩ := h.o.blk hl
    exact ⟨g, o, F, e1, hb, hm.grown gr (fun e => by have := (hr g e.symm).1; omega), hF⟩
theorem own1_lt {w0 w : World} {a : Option Addr} {l g o : Nat} {H : Nat → Nat} (h : Own1 w0 w a l H) (e : a = some ⟨g, o, none⟩) : g < w.heap.size := by
  by_cases hl : 0 < l
  · obtain ⟨g', o', F, e1, hb, hm, hF⟩ := h.blk hl
    rw [e] at e1
    cases e1
    exact hm.lt
  · have := h.nil (by omega)
    rw [e] at this
    cases this
set_option maxRecDepth 100000 in
set_option maxHeartbeats 40000000 in
theorem matrixTells_walk {W : World} {v : Value} {am : Option Addr} {lm cm : Nat} {an : Option Addr} {ln cn : Nat} {zs : List Int} {al : Option Addr} {ll cl : Nat} {ss : List ByteArray} (h : AskM W v am lm cm an ln cn zs al ll cl ss) (hz : MsZ W am lm) :
    Calls Try.prog 8 #[v] W fun e W' => e = .returned (.bool true) ∧ Below W.heap.size W W' := by
  obtain ⟨rfl, hM, hN, hS, hcaps⟩ := h
  have hle := hM.le
  have hlen := hN.le
  have k1 : Kept W (W.alloc (.cells #[.slice am lm cm, .slice an ln cn, .slice al ll cl] 47)) := (Kept.refl W).alloc _
  have HB := Lib.hid (BlockAt.new W #[.slice am lm cm, .slice an ln cn, .slice al ll cl] 47)
  have HM := Lib.hid (hM.kept k1)
  have HN := Lib.hid (hN.kept k1)
  have HZ := Lib.hid (hz.kept hM k1)
  have HS := Lib.hid (hS.kept k1)
  have HK1 := Lib.hid k1
  clear hM hN hS hcaps k1 hz
  go_enter Try.func8, Try.ntmps8
  go_wp2_with fail
  generalize W.alloc (.cells #[.slice am lm cm, .slice an ln cn, .slice al ll cl] 47) = w0 at *
  refine (heavy3_any am an al lm cm ln cn ll cl ss w0 HM.out HS.out).mono ?_
  rintro e w1 ⟨⟨bv, rfl⟩, hk⟩
  have HB1 := Lib.hid (HB.out.kept hk)
  have HM1 := Lib.hid (HM.out.kept hk)
  have HN1 := Lib.hid (HN.out.kept hk)
  have HZ1 := Lib.hid (HZ.out.kept HM.out hk)
  have HK2 := Lib.hid (HK1.out.trans hk)
  clear hk HB HM HS HK1 HN HZ
  cases bv
  case true =>
    go_wp2
    go_ret
    exact ⟨rfl, HK2.out⟩
  go_wp2_with fail
  go_loopw [3] (fun i wr => ∃ k : Nat, k ≤ 4 ∧ i = .int .i64 k ∧ Kept w1 wr) (fun i _ => 4 - (intOf i).toNat)
  case atStart => exact ⟨0, by omega, rfl, Kept.refl _⟩
  case round =>
    obtain ⟨k, hk, rfl, hK⟩ := hrel
    obtain ⟨a0, a1, a2⟩ := box3 (HB1.out.kept hK)
    have HKr := Lib.hid hK
    clear hK
    by_cases hlt : k < lm
    · by_cases h5 : k < 4
      · obtain ⟨b, off, ha, hc⟩ := HM1.out.cells
        obtain rfl := ha (by omega)
        obtain ⟨r, c, x, l, cap, xs, h1, h2, h3, h4, g5, g6, h7, h8⟩ := hc k hlt
        have hlz := HZ1.out b off rfl k hlt x l cap h4
        have hd5 : decide ((k : Int) < 4) = true := decide_eq_true (by omega)
        have hread := fun w (kk : Kept w1 w) => And.intro (box3 (HB1.out.kept kk)) (And.intro (kk.cell h1 h2) (And.intro (kk.cell h1 h3) (kk.cell h1 h4)))
        have hsrc0 : ∃ H : Nat → Nat, (∀ q, H q < 256) ∧ ∀ w, Kept w1 w → ByIn w x l H := ⟨_, fun q => h8.byte q, fun w kk => (h8.kept kk).by⟩
        obtain ⟨H, hHb, hsrc⟩ := hsrc0
        have HREAD := Lib.hid hread
        have HSRC := Lib.hid hsrc
        clear hc ha h2 h3 h4 h8 hread hsrc
        obtain ⟨_, m0, m1, m2⟩ := HREAD.out _ HKr.out
        go_wp2_with fail
        refine (copy_matrix r c x l cap H hlz wr (HSRC.out _ HKr.out)).mono ?_
        rintro e w2 ⟨a', cap', rfl, hcl, hby, hg, hk2⟩
        have kx : Kept w2 (w2.alloc (.cells #[.int .i64 r, .int .i64 c, .slice a' l cap'] 50)) := (Kept.refl w2).alloc _
        have HIN := Lib.hid (TIn.mk (BlockAt.new w2 #[.int .i64 r, .int .i64 c, .slice a' l cap'] 50) (hby.kept kx))
        have HKx := Lib.hid ((HKr.out.trans hk2).trans kx)
        have hgn : 0 < l → ∃ g, a' = some ⟨g, 0, none⟩ ∧ g < (w2.alloc (.cells #[.int .i64 r, .int .i64 c, .slice a' l cap'] 50)).heap.size := fun h0 => by
          obtain ⟨g, cs, e1, _, e3⟩ := hg h0
          exact ⟨g, e1, (e3.kept kx).lt⟩
        have HGN := Lib.hid hgn
        clear hby hg hk2 kx a0 a1 a2 m0 m1 m2 hgn
        have hb4 : w2.heap.size < (w2.alloc (.cells #[.int .i64 r, .int .i64 c, .slice a' l cap'] 50)).heap.size := by simp
        obtain ⟨⟨a0, a1, a2⟩, m0, m1, m2⟩ := HREAD.out _ HKx.out
        go_wp2_with fail
        generalize w2.alloc (.cells #[.int .i64 r, .int .i64 c, .slice a' l cap'] 50) = w3 at *
        generalize w2.heap.size = b4 at *
        refine (refmat_any r c x l cap _).mono ?_
        rintro e w4 ⟨rfl, hk4⟩
        have HIN4 := Lib.hid (HIN.out.kept hk4)
        have HK4 := Lib.hid (HKx.out.trans hk4)
        have hs4 := Below.size hk4
        obtain ⟨c0, c1, c2⟩ := box3 HIN4.out.x
        clear hk4 HIN HKx a0 a1 a2 m0 m1 m2
        go_wp2_with fail
        refine (rank_all r c a' l cap' H hHb w4 HIN4.out.h).mono ?_
        rintro e w5 ⟨rfl, hk5⟩
        have HIN5 := Lib.hid (HIN4.out.kept hk5)
        have HK5 := Lib.hid (HK4.out.trans hk5)
        have hs5 := Below.size hk5
        have hs15 := HK5.out.size
        clear hk5 HIN4 HK4 c0 c1 c2
        obtain ⟨c0, c1, c2⟩ := box3 HIN5.out.x
        go_wp2_with fail
        refine (invert_all r c a' l cap' H hHb hcl w5 HIN5.out.h).mono ?_
        rintro e w6 ⟨ax, rfl, hox, hk6⟩
        have k7 : Kept w6 (w6.alloc (.cells #[.int .i64 (tInvN r c l H : Nat), .int .i64 (tInvN r c l H : Nat), .slice ax (tInvN r c l H * tInvN r c l H) (tInvN r c l H * tInvN r c l H)] 50)) := (Kept.refl w6).alloc _
        have k67 := Kept.trans hk6 k7
        have HX7 := Lib.hid (TX.mk (w0 := w5) (BlockAt.new w6 #[.int .i64 (tInvN r c l H : Nat), .int .i64 (tInvN r c l H : Nat), .slice ax (tInvN r c l H * tInvN r c l H) (tInvN r c l H * tInvN r c l H)] 50) (hox.kept k7))
        have HIN7 := Lib.hid (HIN5.out.kept k67)
        have HK57 := Lib.hid k67
        have HK7 := Lib.hid (HK5.out.trans k67)
        have hs7 := Below.size k67
        clear hk6 k7 k67 hox HK5 c0 c1 c2
        obtain ⟨c0, c1, c2⟩ := box3 HIN7.out.x
        obtain ⟨⟨a0, a1, a2⟩, _⟩ := HREAD.out _ HK7.out
        go_wp2_with fail
        generalize w6.alloc (.cells #[.int .i64 (tInvN r c l H : Nat), .int .i64 (tInvN r c l H : Nat), .slice ax (tInvN r c l H * tInvN r c l H) (tInvN r c l H * tInvN r c l H)] 50) = w7 at *
        generalize w6.heap.size = b8 at *
        refine (pick_all r c a' an l cap' ln cn zs H hHb hcl w7 HIN7.out.h (HN1.out.kept HK7.out)).mono ?_
        rintro e w8 ⟨ay, rfl, hoy, hk8⟩
        have k9 : Kept w8 (w8.alloc (.cells #[.int .i64 (tPkR r c l ln zs : Nat), .int .i64 (tPkC r c l ln zs : Nat), .slice ay (tPkR r c l ln zs * tPkC r c l ln zs) (tPkR r c l ln zs * tPkC r c l ln zs)] 50)) := (Kept.refl w8).alloc _
        have k89 := Kept.trans hk8 k9
        have HYA := Lib.hid (TX.mk (w0 := w7) (BlockAt.new w8 #[.int .i64 (tPkR r c l ln zs : Nat), .int .i64 (tPkC r c l ln zs : Nat), .slice ay (tPkR r c l ln zs * tPkC r c l ln zs) (tPkR r c l ln zs * tPkC r c l ln zs)] 50) (hoy.kept k9))
        have HXA := Lib.hid (HX7.out.kept k89)
        have HINA := Lib.hid (HIN7.out.kept k89)
        have HKA := Lib.hid (HK7.out.trans k89)
        have HK5A := Lib.hid (HK57.out.trans k89)
        have hszA : (w8.alloc (.cells #[.int .i64 (tPkR r c l ln zs : Nat), .int .i64 (tPkC r c l ln zs : Nat), .slice ay (tPkR r c l ln zs * tPkC r c l ln zs) (tPkR r c l ln zs * tPkC r c l ln zs)] 50)).heap.size = w8.heap.size + 1 := by simp
        have hb10 : w7.heap.size ≤ w8.heap.size := Below.size hk8
        have HD9 := Lib.hid ((BlockAt.new1 w8 #[.int .i64 0, .int .i64 0, .slice none 0 0] 50 (.cells #[.int .i64 (tPkR r c l ln zs : Nat), .int .i64 (tPkC r c l ln zs : Nat), .slice ay (tPkR r c l ln zs * tPkC r c l ln zs) (tPkR r c l ln zs * tPkC r c l ln zs)] 50)).kept ((Kept.refl _).alloc (.cells #[.int .i64 0, .int .i64 0, .slice none 0 0] 50)))
        have HE9 := Lib.hid (BlockAt.new2 w8 #[.int .i64 0, .int .i64 0, .slice none 0 0] 50 (.cells #[.int .i64 (tPkR r c l ln zs : Nat), .int .i64 (tPkC r c l ln zs : Nat), .slice ay (tPkR r c l ln zs * tPkC r c l ln zs) (tPkR r c l ln zs * tPkC r c l ln zs)] 50) (.cells #[.int .i64 0, .int .i64 0, .slice none 0 0] 50))
        have HKA9 : Hid (Kept (w8.alloc (.cells #[.int .i64 (tPkR r c l ln zs : Nat), .int .i64 (tPkC r c l ln zs : Nat), .slice ay (tPkR r c l ln zs * tPkC r c l ln zs) (tPkR r c l ln zs * tPkC r c l ln zs)] 50)) (((w8.alloc (.cells #[.int .i64 (tPkR r c l ln zs : Nat), .int .i64 (tPkC r c l ln zs : Nat), .slice ay (tPkR r c l ln zs * tPkC r c l ln zs) (tPkR r c l ln zs * tPkC r c l ln zs)] 50)).alloc (.cells #[.int .i64 0, .int .i64 0, .slice none 0 0] 50)).alloc (.cells #[.int .i64 0, .int .i64 0, .slice none 0 0] 50))) := Lib.hid (((Kept.refl _).alloc _).alloc _)
        clear hk8 k9 k89 hoy HIN7 HK7 c0 c1 c2 a0 a1 a2 HK57
        go_upto_if 69 with (fail)
        generalize ((w8.alloc _).alloc _).alloc _ = w9 at *
        generalize w8.alloc _ = wa at *
        generalize w8.heap.size = b10 at *
        generalize hmbb : matB r c l = mb at *
        have HMB := Lib.hid hmbb
        clear hmbb
        go_cut [12, 13, 14, 15] (fun s t u v wx => TellCut wa (b10 + 1) (b10 + 1 + 1) r c l H ln zs s t u v wx)
        case first =>
          as_aux_lemma =>
            cases mb with
            | false =>
              obtain ⟨t1, t2, t3, t4, t5, t6, t7⟩ := tell_bad (H := H) (ln := ln) (zs := zs) HMB.out
              have hfin : TellCut wa (b10 + 1) (b10 + 1 + 1) r c l H ln zs (.int .i64 1) (.int .i64 1) (.int .i64 1) (.int .i64 0) w9 := by
                refine ⟨by rw [t1], by rw [t2], by rw [t4], by rw [t7]; rfl, HKA9.out, ⟨none, 0, ?_⟩, ⟨none, 0, ?_⟩⟩
                · rw [t3]; exact TD.zero HD9.out _
                · rw [t5, t6]; exact TD.zero HE9.out _
              clear t1 t2 t3 t4 t5 t6 t7
              go_wp2_with fail
              go_meet
              exact hfin
            | true =>
              have hE := matE_good HMB.out
              obtain ⟨r', c', bx, ox, rfl, rfl, rfl, rfl, hr, hc, hm⟩ := mat_by hE (HSRC.out w9 (HKA.out.trans HKA9.out))
              have hF := rect_bt hHb c'
              have hpos : 0 < r' * c' := Nat.mul_pos (by omega) (by omega)
              have hrk := tell_rank (H := H) hE
              have hrrk := rrank r' c' bx ox cap (rect c' H) hr hc hF w9 hm
              generalize rankF r' c' (rect c' H) = R at hrk hrrk
              have HRK := Lib.hid hrk
              have HE := Lib.hid hE
              obtain ⟨⟨a0, a1, a2⟩, m0, m1, m2⟩ := HREAD.out _ (HKA.out.trans HKA9.out)
              clear hm hrk hE
              go_wp2_with fail
              refine hrrk.mono ?_
              rintro e wb ⟨rfl, hkb⟩
              have HDB := Lib.hid (HD9.out.kept hkb)
              have HEB := Lib.hid (HE9.out.kept hkb)
              have HKB := Lib.hid (HKA9.out.trans hkb)
              clear hkb hrrk a0 a1 a2 m0 m1 m2
              obtain ⟨⟨a0, a1, a2⟩, m0, m1, m2⟩ := HREAD.out _ (HKA.out.trans HKB.out)
              go_wp2_with fail
              go_quiet (fail)
              have HDY := Lib.hid (HDB.out.kept ((Kept.refl wb).drewN nq))
              have HEY := Lib.hid (HEB.out.kept ((Kept.refl wb).drewN nq))
              have HKY := Lib.hid (HKB.out.trans ((Kept.refl wb).drewN nq))
              clear a0 a1 a2 m0 m1 m2 HDB HEB HKB
              generalize wb.drewN nq = wy at *
              go_upto_if 88 with (fail)
              go_cut [13] (fun t wx => SqCut wa (b10 + 1) (b10 + 1 + 1) (r' : Int) (c' : Int) (r' * c') H t wx)
              case first =>
                as_aux_lemma =>
                  by_cases hsq : r' = c'
                  · subst hsq
                    have hsqb : ((r' : Int) == (r' : Int)) = true := by simp
                    have hrin := fun w hm => rinvert r' bx ox cap (rect r' H) hr hF w hm
                    obtain ⟨⟨a0, a1, a2⟩, m0, m1, m2⟩ := HREAD.out _ (HKA.out.trans HKY.out)
                    have hmy := by_mat (HSRC.out _ (HKA.out.trans HKY.out)) hpos
                    go_wp2_with fail
                    by_cases hR : rankF r' r' (rect r' H) = r'
                    · have hinv := inv_full HE.out hR
                      rw [hR] at hrin
                      refine (hrin wy hmy).mono ?_
                      rintro e wi ⟨gi, ki, rfl, _, hgs, hmg, hki⟩
                      have k2 := Kept.trans hki ((Kept.refl wi).alloc (.cells #[.int .i64 r', .int .i64 r', .slice (some ⟨gi, 0, none⟩) (r' * r') ki] 50))
                      have HB18 := Lib.hid (BlockAt.new wi #[.int .i64 r', .int .i64 r', .slice (some ⟨gi, 0, none⟩) (r' * r') ki] 50)
                      have HMG := Lib.hid (hmg.kept ((Kept.refl wi).alloc (.cells #[.int .i64 r', .int .i64 r', .slice (some ⟨gi, 0, none⟩) (r' * r') ki] 50)))
                      have HDZ := Lib.hid (HDY.out.kept k2)
                      have HEZ := Lib.hid (HEY.out.kept k2)
                      have HKZ := Lib.hid (HKY.out.trans k2)
                      have HINV := Lib.hid hinv
                      have hrb : ((r' : Int) == (r' : Int)) = true := by simp
                      rw [hrb]
                      clear hki k2 hmg hmy hrin hinv hR hsqb hrb a0 a1 a2 m0 m1 m2 HDY HEY HKY
                      go_wp2_with fail
                      generalize wi.alloc (.cells #[.int .i64 r', .int .i64 r', .slice (some ⟨gi, 0, none⟩) (r' * r') ki] 50) = wz at *
                      generalize wi.heap.size = b18 at *
                      refine wp_region_inv1 (fun a0 L a w => ∃ V : Nat → Value, a = ((a0.put (some 99) (V 0)).put (some 13) (V 1)) ∧ (L 0 → V 0 = .agg #[.int .i64 r', .int .i64 r', .slice (some ⟨gi, 0, none⟩) (r' * r') ki]) ∧ (L 1 → V 1 = .int .i64 0) ∧ (L 2 → L 0) ∧ (¬ L 2 → w = wz.drew) ∧
                        (L 2 → w = ((wz.drew.setCell ⟨b10 + 1, 0, none⟩ (.int .i64 r')).setCell ⟨b10 + 1, 1, none⟩ (.int .i64 r')).setCell ⟨b10 + 1, 2, none⟩ (.slice (some ⟨gi, 0, none⟩) (r' * r') ki))) (by as_aux_lemma => kernel_rfl) (by as_aux_lemma => kernel_rfl) ?eh0 ?ehs ?ehe
                      case eh0 =>
                        intro L hL
                        exact ⟨fun j => if j = 0 then u99 else .int .i64 3, by simp only [Act.put, List.setIfInBounds_toArray, List.set_cons_zero, List.set_cons_succ, Nat.reduceEqDiff, if_true, if_false], fun h => absurd h (hL _ (by decide)), fun h => absurd h (hL _ (by decide)), fun h => absurd h (hL _ (by decide)), fun _ => rfl, fun h => absurd h (hL _ (by decide))⟩
                      case ehs =>
                        rintro L L' a w i op K ⟨V, rfl, h0, h1, hd, hw0, hw2⟩ ho hopen hdep hL hK
                        have old : ∀ {i j}, (∀ j, L' j ↔ (j = i ∨ L j)) → L' j → j ≠ i → L j := fun {i j} hL hj hne => ((hL j).1 hj).resolve_left hne
                        match i, ho with
                        | 0, ho =>
                          simp only [List.getElem?_toArray, List.getElem?_cons_zero, Option.some.injEq] at ho
                          have hw := hw0 (fun x => hopen (hd x))
                          have hb18' : BlockAt w b18 #[.int .i64 r', .int .i64 r', .slice (some ⟨gi, 0, none⟩) (r' * r') ki] 50 := by rw [hw]; exact HB18.out.kept (Kept.refl wz).drew
                          obtain ⟨x0, x1, x2⟩ := box3 hb18'
                          have HH := Lib.hid (And.intro hw0 hw2)
                          clear hw hb18' hw0 hw2
                          subst ho
                          rw [if_pos (wanted_free rfl _)]
                          simp only [Act.put, List.setIfInBounds_toArray, List.set_cons_zero, List.set_cons_succ]
                          go_simp
                          exact hK _ _ ⟨vset V 0 (.agg #[.int .i64 r', .int .i64 r', .slice (some ⟨gi, 0, none⟩) (r' * r') ki]), by simp only [Act.put, List.setIfInBounds_toArray, List.set_cons_zero, List.set_cons_succ, vset, Nat.reduceEqDiff, if_true, if_false], fun _ => vset_same _ _ _, fun h => by rw [vset_other _ _ (by decide)]; exact h1 (old hL h (by decide)), fun _ => (hL 0).2 (.inl rfl), fun h => HH.out.1 (fun x => h ((hL _).2 (.inr x))), fun h => HH.out.2 (old hL h (by decide))⟩
                        | 1, ho =>
                          simp only [List.getElem?_toArray, List.getElem?_cons_zero, List.getElem?_cons_succ, Option.some.injEq] at ho
                          have HH := Lib.hid (And.intro hw0 hw2)
                          clear hw0 hw2
                          subst ho
                          rw [if_pos (wanted_free rfl _)]
                          simp only [Act.put, List.setIfInBounds_toArray, List.set_cons_zero, List.set_cons_succ]
                          go_simp
                          exact hK _ _ ⟨vset V 1 (.int .i64 0), by simp only [Act.put, List.setIfInBounds_toArray, List.set_cons_zero, List.set_cons_succ, vset, Nat.reduceEqDiff, if_true, if_false], fun h => by rw [vset_other _ _ (by decide)]; exact h0 (old hL h (by decide)), fun _ => vset_same _ _ _, fun h => (hL 0).2 (.inr (hd (old hL h (by decide)))), fun h => HH.out.1 (fun x => h ((hL _).2 (.inr x))), fun h => HH.out.2 (old hL h (by decide))⟩
                        | 2, ho =>
                          simp only [List.getElem?_toArray, List.getElem?_cons_zero, List.getElem?_cons_succ, Option.some.injEq] at ho
                          have l0 := hdep 0 (by rw [← ho]; kernel_rfl)
                          have e0 := h0 l0
                          have hw := hw0 hopen
                          have hzb : BlockAt w (b10 + 1) #[.int .i64 0, .int .i64 0, .slice none 0 0] 50 := by rw [hw]; exact HDZ.out.kept (Kept.refl wz).drew
                          obtain ⟨x0, x1, x2⟩ := box3 hzb
                          have f0 := hzb.free 0
                          have f1 := hzb.free 1
                          have f2 := hzb.free 2
                          have HW := Lib.hid hw
                          clear hw hzb hw0 hw2
                          subst ho
                          rw [if_pos (wanted_free rfl _)]
                          simp only [Act.put, List.setIfInBounds_toArray, List.set_cons_zero, List.set_cons_succ, e0]
                          go_simp
                          exact hK _ _ ⟨V, by simp only [Act.put, List.setIfInBounds_toArray, List.set_cons_zero, List.set_cons_succ, e0], fun _ => e0, fun h => h1 (old hL h (by decide)), fun _ => (hL 0).2 (.inr l0), fun h => absurd ((hL 2).2 (.inl rfl)) h, fun _ => by rw [HW.out]⟩
                        | n + 3, ho => simp at ho
                      case ehe =>
                        rintro L a w ⟨V, rfl, h0, h1, hd, hw0, hw2⟩ hall
                        have e0 := h0 (hall 0 (by decide))
                        have e1 := h1 (hall 1 (by decide))
                        have hw := hw2 (hall 2 (by decide))
                        have g3 := grown3b wz.drew (b10 + 1) (.int .i64 r') (.int .i64 r') (.slice (some ⟨gi, 0, none⟩) (r' * r') ki)
                        have hfin : SqCut wa (b10 + 1) (b10 + 1 + 1) (r' : Int) (r' : Int) (r' * r') H (.int .i64 0) w := by
                          rw [hw]
                          exact ⟨by rw [HINV.out.1], Kept.grown (HKZ.out.trans (Kept.refl wz).drew) g3 (fun q e => by cases e; omega), ⟨some ⟨gi, 0, none⟩, ki, by rw [HINV.out.2]; exact ⟨set3b (HDZ.out.kept (Kept.refl wz).drew) _ _ _, by unfold tInvH; rw [Int.toNat_natCast]; exact (HMG.out.kept (Kept.refl wz).drew).grownT g3 (HDZ.out.kept (Kept.refl wz).drew) (by decide) |>.cell.flat, fun _ => by obtain ⟨cs, hcs⟩ := ((HMG.out.kept (Kept.refl wz).drew).grownT g3 (HDZ.out.kept (Kept.refl wz).drew) (by decide)).blk; exact ⟨gi, 0, cs, rfl, hcs⟩⟩⟩, (HEZ.out.kept (Kept.refl wz).drew).grown g3 (by simp)⟩
                        clear h0 h1 hd hw0 hw2 hall hw
                        simp only [Act.put, List.setIfInBounds_toArray, List.set_cons_zero, List.set_cons_succ, e0, e1]
                        go_wp2_with fail
                        go_meet
                        exact hfin
                    · have hinv := inv_less HE.out hR
                      have hrb : (((rankF r' r' (rect r' H) : Nat) : Int) == (r' : Int)) = false := by rw [beq_eq_false_iff_ne]; omega
                      rw [hrb] at hrin
                      refine (hrin wy hmy).mono ?_
                      rintro e wi ⟨gi, ki, rfl, _, hgs, hmg, hki⟩
                      have k2 := Kept.trans hki ((Kept.refl wi).alloc (.cells #[.int .i64 r', .int .i64 r', .slice (some ⟨gi, 0, none⟩) (r' * r') ki] 50))
                      have hfin : SqCut wa (b10 + 1) (b10 + 1 + 1) (r' : Int) (r' : Int) (r' * r') H (.int .i64 3) (wi.alloc (.cells #[.int .i64 r', .int .i64 r', .slice (some ⟨gi, 0, none⟩) (r' * r') ki] 50)) :=
                        ⟨by rw [hinv.1], HKY.out.trans k2, ⟨none, 0, by rw [hinv.2]; exact TD.zero (HDY.out.kept k2) _⟩, HEY.out.kept k2⟩
                      clear hki k2 hmg hmy hrin hinv hR hrb hsqb a0 a1 a2 m0 m1 m2
                      go_wp2_with fail
                      go_meet
                      exact hfin
                  · have hsqb : ((r' : Int) == (c' : Int)) = false := by rw [beq_eq_false_iff_ne]; omega
                    have hinv := inv_non (r := (r' : Int)) (c := (c' : Int)) (l := r' * c') (H := H) (by omega)
                    have hfin : SqCut wa (b10 + 1) (b10 + 1 + 1) (r' : Int) (c' : Int) (r' * c') H (.int .i64 1) wy :=
                      ⟨by rw [hinv.1], HKY.out, ⟨none, 0, by rw [hinv.2]; exact TD.zero HDY.out _⟩, HEY.out⟩
                    clear hinv hsq
                    go_wp2_with fail
                    go_meet
                    exact hfin
              case rest =>
                as_aux_lemma =>
                  obtain ⟨rfl, hKq, hDq, hEq⟩ := hcut
                  have HKQ := Lib.hid hKq
                  have HDQ := Lib.hid hDq
                  have HEQ := Lib.hid hEq
                  obtain ⟨⟨a0, a1, a2⟩, m0, m1, m2⟩ := HREAD.out _ (HKA.out.trans hKq)
                  clear hKq hDq hEq HDY HEY HKY
                  go_wp2_with fail
                  refine (between_any _ 1 16 _).mono ?_
                  rintro e w' ⟨rfl, rfl⟩
                  rw [show (decide (1 ≤ (ln : Int)) && decide ((ln : Int) ≤ 16)) = goodTo r' ln zs 0 from rfl]
                  go_wp2_with fail
                  go_loopw [20, 21] (fun gd i wr => ∃ q : Nat, q ≤ ln ∧ i = .int .i64 q ∧ gd = .bool (goodTo r' ln zs q) ∧ Kept wa wr ∧ (∃ aw kw, TD (b10 + 1) (tInvN r' c' (r' * c') H : Nat) (tInvN r' c' (r' * c') H : Nat) aw (tInvN r' c' (r' * c') H * tInvN r' c' (r' * c') H) kw (tInvH r' H) wr) ∧ BlockAt wr (b10 + 1 + 1) #[.int .i64 0, .int .i64 0, .slice none 0 0] 50) (fun _ i _ => ln - (intOf i).toNat)
                  case atStart => exact ⟨0, by omega, rfl, rfl, HKQ.out, HDQ.out, HEQ.out⟩
                  case round =>
                    clear a0 a1 a2 m0 m1 m2 HKQ HDQ HEQ
                    obtain ⟨q, hq, rfl, rfl, hKq, hDq, hEq⟩ := hrel
                    have HKQ := Lib.hid hKq
                    have HDQ := Lib.hid hDq
                    have HEQ := Lib.hid hEq
                    obtain ⟨⟨a0, a1, a2⟩, m0, m1, m2⟩ := HREAD.out _ (HKA.out.trans hKq)
                    have hk1q := HKA.out.trans hKq
                    clear hKq hDq hEq
                    by_cases hql : q < ln
                    · obtain ⟨nb, no, hna, hnc⟩ := HN1.out.cells
                      obtain rfl := hna (by omega)
                      have hcell := hk1q.cell (hnc q hql).1 (hnc q hql).2
                      have hz64 := HN1.out.i64 q hql
                      have hgs : goodTo r' ln zs (q + 1) = (goodTo r' ln zs q && (decide (0 ≤ zs.getD q 0) && decide (zs.getD q 0 ≤ (r' : Int) - 1))) := rfl
                      have HGS := Lib.hid hgs
                      clear hgs hnc hna hk1q
                      generalize goodTo r' ln zs q = gq at *
                      generalize zs.getD q 0 = z at *
                      cases gq with
                      | true =>
                        go_wp2_with fail
                        go_quiet ((go_at_call 30; exact quietly (num_ref _ _ _)))
                        go_wp2
                        go_roundw
                        case rel => exact ⟨q + 1, by omega, by go_num, by rw [HGS.out]; rfl, HKQ.out.trans ((Kept.refl _).drewN nq), by obtain ⟨aw, kw, h⟩ := HDQ.out; exact ⟨aw, kw, h.kept ((Kept.refl _).drewN nq)⟩, HEQ.out.kept ((Kept.refl _).drewN nq)⟩
                        case measure => simp [intOf]; omega
                      | false =>
                        go_wp2_with fail
                        go_quiet (fail)
                        go_wp2
                        go_roundw
                        case rel => exact ⟨q + 1, by omega, by go_num, by rw [HGS.out]; rfl, HKQ.out.trans ((Kept.refl _).drewN nq), by obtain ⟨aw, kw, h⟩ := HDQ.out; exact ⟨aw, kw, h.kept ((Kept.refl _).drewN nq)⟩, HEQ.out.kept ((Kept.refl _).drewN nq)⟩
                        case measure => simp [intOf]; omega
                    · obtain rfl : ln = q := by omega
                      have hgi := goodTo_iff r' ln zs ln
                      have hlz := HN1.out.len_eq
                      generalize goodTo r' ln zs ln = gq at *
                      cases gq with
                      | false =>
                        have hno : ¬ (sideB (ln : Int) = true ∧ pickOk r' zs) := fun h => by
                          have := hgi.2 ⟨h.1, fun i hi => h.2 i (by omega)⟩
                          cases this
                        have hfin : TellCut wa (b10 + 1) (b10 + 1 + 1) (r' : Int) (c' : Int) (r' * c') H ln zs (.int .i64 0) (.int .i64 (tInvE r' c' (r' * c') H)) (.int .i64 1) (.int .i64 (R : Nat)) wr := by
                          obtain ⟨p1, p2, p3⟩ := pk_no (r := r') (c := c') (l := r' * c') hno
                          refine ⟨by rw [HE.out], rfl, by rw [p1], by rw [HRK.out], HKQ.out, HDQ.out, ⟨none, 0, ?_⟩⟩
                          rw [p2, p3]
                          exact TD.zero HEQ.out _
                        clear hgi hno hk1q
                        go_wp2_with fail
                        go_meet
                        exact hfin
                      | true =>
                        obtain ⟨hsd, hpk⟩ := hgi.1 rfl
                        have hln16 := sideB_bounds hsd
                        have hln16 : 1 ≤ ln ∧ ln ≤ 16 := by omega
                        have HSD := Lib.hid hsd
                        have HPOK := Lib.hid (show pickOk r' zs from fun i hi => hpk i (by omega))
                        obtain ⟨nb, no, hna, hnc⟩ := HN1.out.cells
                        obtain rfl := hna (by omega)
                        clear hgi hsd hpk hna hnc hk1q
                        go_wp2_with fail
                        clear a0 a1 a2 m0 m1 m2
                        let val : Nat → Value := fun j => ([.pointer (some ⟨W.heap.size, 0, none⟩), .slice (some ⟨b, off, none⟩) lm cm, .int .i64 k, .pointer (some ⟨b, off + k * 3, none⟩), .agg #[.int .i64 r', .int .i64 c', .slice (some ⟨bx, ox, none⟩) (r' * c') cap], .pointer (some ⟨W.heap.size, 1, none⟩), .slice (some ⟨nb, no, none⟩) ln cn, undef, .int .i64 0] : List Value).getD j undef
                        refine wp_region_inv1 (fun a0 L a w => ∃ V : Nat → Value, a = (((((((((a0.put (some 128) (V 0)).put (some 129) (V 1)).put (some 130) (V 2)).put (some 131) (V 3)).put (some 132) (V 4)).put (some 133) (V 5)).put (some 134) (V 6)).put (some 135) (V 7)).put (some 14) (V 8)) ∧ Kept wa w ∧ (∀ j, L j → j ≠ 7 → j ≠ 9 → V j = val j) ∧ (L 7 → (∃ gp kp csp, V 7 = .agg #[.int .i64 ln, .int .i64 c', .slice (some ⟨gp, 0, none⟩) (ln * c') kp] ∧ BlockAt w gp csp 5 ∧ ByIn w (some ⟨gp, 0, none⟩) (ln * c') (flat c' (pickF (rect c' H) zs)))) ∧ (L 9 → L 7) ∧ (∃ aw kw, TD (b10 + 1) (tInvN r' c' (r' * c') H : Nat) (tInvN r' c' (r' * c') H : Nat) aw (tInvN r' c' (r' * c') H * tInvN r' c' (r' * c') H) kw (tInvH r' H) w) ∧ (¬ L 9 → BlockAt w (b10 + 1 + 1) #[.int .i64 0, .int .i64 0, .slice none 0 0] 50) ∧ (L 9 → (∃ av kv, TD (b10 + 1 + 1) (ln : Int) (c' : Int) av (ln * c') kv (flat c' (pickF (rect c' H) zs)) w))) (by as_aux_lemma => kernel_rfl) (by as_aux_lemma => kernel_rfl) ?eh0 ?ehs ?ehe
                        case eh0 =>
                          intro L hL
                          refine ⟨fun j => ([u128, u129, u130, u131, u132, u133, u134, u135, .int .i64 1] : List Value).getD j undef, by simp only [Act.put, List.setIfInBounds_toArray, List.set_cons_zero, List.set_cons_succ]; rfl, HKQ.out.trans (Kept.refl _).drew, fun j hj _ _ => ?_, fun h => absurd h (hL 7 (by decide)), fun h => absurd h (hL 9 (by decide)), ?_, fun _ => HEQ.out.kept (Kept.refl _).drew, fun h => absurd h (hL 9 (by decide))⟩
                          · by_cases h : j < 10
                            · exact absurd hj (hL j h)
                            · simp [val, show ¬ j < 9 by omega]
                          · obtain ⟨aw, kw, hD⟩ := HDQ.out
                            exact ⟨aw, kw, hD.kept (Kept.refl _).drew⟩
                        case ehs =>
                          rintro L L' a w i op K ⟨V, rfl, hKw, hV, h7', hd, hD, hz, h9⟩ ho hopen hdep hL hK
                          obtain ⟨⟨a0, a1, a2⟩, m0, m1, m2⟩ := HREAD.out _ (HKA.out.trans hKw)
                          have old : ∀ {i j}, (∀ j, L' j ↔ (j = i ∨ L j)) → L' j → j ≠ i → L j := fun {i j} hL hj hne => ((hL j).1 hj).resolve_left hne
                          have vok : ∀ x, (i ≠ 7 → i ≠ 9 → x = val i) → ∀ j, L' j → j ≠ 7 → j ≠ 9 → vset V i x j = val j := fun x hx j hj h1 h2 => by
                            by_cases e : j = i
                            · subst e; rw [vset_same]; exact hx h1 h2
                            · rw [vset_other _ _ e]; exact hV j (((hL j).1 hj).resolve_left e) h1 h2
                          have HVOK := Lib.hid vok
                          have HH := Lib.hid (And.intro hKw (And.intro h7' (And.intro hd (And.intro hD (And.intro hz h9)))))
                          clear vok
                          match i, ho with
                          | 0, ho =>
                            simp only [List.getElem?_toArray, List.getElem?_cons_zero, Option.some.injEq] at ho
                            clear hV h7' hd hD hz h9
                            subst ho
                            rw [if_pos (wanted_free rfl _)]
                            simp only [Act.put, List.setIfInBounds_toArray, List.set_cons_zero, List.set_cons_succ]
                            go_simp
                            exact hK _ _ ⟨vset V 0 (val 0), by simp only [Act.put, List.setIfInBounds_toArray, List.set_cons_zero, List.set_cons_succ, vset, Nat.reduceEqDiff, if_true, if_false]; rfl, HH.out.1, HVOK.out _ (fun _ _ => rfl), fun h => by obtain ⟨gp, kp, csp, e1, e2⟩ := HH.out.2.1 (old hL h (by decide)); exact ⟨gp, kp, csp, by rw [vset_other _ _ (by decide)]; exact e1, e2⟩, fun h => (hL 7).2 (.inr (HH.out.2.2.1 (old hL h (by decide)))), HH.out.2.2.2.1, fun h => HH.out.2.2.2.2.1 (fun x => h ((hL 9).2 (.inr x))), fun h => HH.out.2.2.2.2.2 (old hL h (by decide))⟩
                          | 1, ho =>
                            simp only [List.getElem?_toArray, List.getElem?_cons_zero, List.getElem?_cons_succ, Option.some.injEq] at ho
                            have e0 : V 0 = .pointer (some ⟨W.heap.size, 0, none⟩) := hV 0 (hdep 0 (by rw [← ho]; kernel_rfl)) (by decide) (by decide)
                            clear hV h7' hd hD hz h9
                            subst ho
                            rw [if_pos (wanted_free rfl _)]
                            simp only [Act.put, List.setIfInBounds_toArray, List.set_cons_zero, List.set_cons_succ, e0]
                            go_simp
                            exact hK _ _ ⟨vset V 1 (val 1), by simp only [Act.put, List.setIfInBounds_toArray, List.set_cons_zero, List.set_cons_succ, vset, Nat.reduceEqDiff, if_true, if_false, e0]; rfl, HH.out.1, HVOK.out _ (fun _ _ => rfl), fun h => by obtain ⟨gp, kp, csp, e1, e2⟩ := HH.out.2.1 (old hL h (by decide)); exact ⟨gp, kp, csp, by rw [vset_other _ _ (by decide)]; exact e1, e2⟩, fun h => (hL 7).2 (.inr (HH.out.2.2.1 (old hL h (by decide)))), HH.out.2.2.2.1, fun h => HH.out.2.2.2.2.1 (fun x => h ((hL 9).2 (.inr x))), fun h => HH.out.2.2.2.2.2 (old hL h (by decide))⟩
                          | 2, ho =>
                            simp only [List.getElem?_toArray, List.getElem?_cons_zero, List.getElem?_cons_succ, Option.some.injEq] at ho
                            clear hV h7' hd hD hz h9
                            subst ho
                            rw [if_pos (wanted_free rfl _)]
                            simp only [Act.put, List.setIfInBounds_toArray, List.set_cons_zero, List.set_cons_succ]
                            go_simp
                            exact hK _ _ ⟨vset V 2 (val 2), by simp only [Act.put, List.setIfInBounds_toArray, List.set_cons_zero, List.set_cons_succ, vset, Nat.reduceEqDiff, if_true, if_false]; rfl, HH.out.1, HVOK.out _ (fun _ _ => rfl), fun h => by obtain ⟨gp, kp, csp, e1, e2⟩ := HH.out.2.1 (old hL h (by decide)); exact ⟨gp, kp, csp, by rw [vset_other _ _ (by decide)]; exact e1, e2⟩, fun h => (hL 7).2 (.inr (HH.out.2.2.1 (old hL h (by decide)))), HH.out.2.2.2.1, fun h => HH.out.2.2.2.2.1 (fun x => h ((hL 9).2 (.inr x))), fun h => HH.out.2.2.2.2.2 (old hL h (by decide))⟩
                          | 3, ho =>
                            simp only [List.getElem?_toArray, List.getElem?_cons_zero, List.getElem?_cons_succ, Option.some.injEq] at ho
                            have e1 : V 1 = .slice (some ⟨b, off, none⟩) lm cm := hV 1 (hdep 1 (by rw [← ho]; kernel_rfl)) (by decide) (by decide)
                            have e2 : V 2 = .int .i64 k := hV 2 (hdep 2 (by rw [← ho]; kernel_rfl)) (by decide) (by decide)
                            clear hV h7' hd hD hz h9
                            subst ho
                            rw [if_pos (wanted_free rfl _)]
                            simp only [Act.put, List.setIfInBounds_toArray, List.set_cons_zero, List.set_cons_succ, e1, e2]
                            go_simp
                            exact hK _ _ ⟨vset V 3 (val 3), by simp only [Act.put, List.setIfInBounds_toArray, List.set_cons_zero, List.set_cons_succ, vset, Nat.reduceEqDiff, if_true, if_false, e1, e2]; rfl, HH.out.1, HVOK.out _ (fun _ _ => rfl), fun h => by obtain ⟨gp, kp, csp, e1, e2⟩ := HH.out.2.1 (old hL h (by decide)); exact ⟨gp, kp, csp, by rw [vset_other _ _ (by decide)]; exact e1, e2⟩, fun h => (hL 7).2 (.inr (HH.out.2.2.1 (old hL h (by decide)))), HH.out.2.2.2.1, fun h => HH.out.2.2.2.2.1 (fun x => h ((hL 9).2 (.inr x))), fun h => HH.out.2.2.2.2.2 (old hL h (by decide))⟩
                          | 4, ho =>
                            simp only [List.getElem?_toArray, List.getElem?_cons_zero, List.getElem?_cons_succ, Option.some.injEq] at ho
                            have e3 : V 3 = .pointer (some ⟨b, off + k * 3, none⟩) := hV 3 (hdep 3 (by rw [← ho]; kernel_rfl)) (by decide) (by decide)
                            clear hV h7' hd hD hz h9
                            subst ho
                            rw [if_pos (wanted_free rfl _)]
                            simp only [Act.put, List.setIfInBounds_toArray, List.set_cons_zero, List.set_cons_succ, e3]
                            go_simp
                            exact hK _ _ ⟨vset V 4 (val 4), by simp only [Act.put, List.setIfInBounds_toArray, List.set_cons_zero, List.set_cons_succ, vset, Nat.reduceEqDiff, if_true, if_false, e3]; rfl, HH.out.1, HVOK.out _ (fun _ _ => rfl), fun h => by obtain ⟨gp, kp, csp, e1, e2⟩ := HH.out.2.1 (old hL h (by decide)); exact ⟨gp, kp, csp, by rw [vset_other _ _ (by decide)]; exact e1, e2⟩, fun h => (hL 7).2 (.inr (HH.out.2.2.1 (old hL h (by decide)))), HH.out.2.2.2.1, fun h => HH.out.2.2.2.2.1 (fun x => h ((hL 9).2 (.inr x))), fun h => HH.out.2.2.2.2.2 (old hL h (by decide))⟩
                          | 5, ho =>
                            simp only [List.getElem?_toArray, List.getElem?_cons_zero, List.getElem?_cons_succ, Option.some.injEq] at ho
                            clear hV h7' hd hD hz h9
                            subst ho
                            rw [if_pos (wanted_free rfl _)]
                            simp only [Act.put, List.setIfInBounds_toArray, List.set_cons_zero, List.set_cons_succ]
                            go_simp
                            exact hK _ _ ⟨vset V 5 (val 5), by simp only [Act.put, List.setIfInBounds_toArray, List.set_cons_zero, List.set_cons_succ, vset, Nat.reduceEqDiff, if_true, if_false]; rfl, HH.out.1, HVOK.out _ (fun _ _ => rfl), fun h => by obtain ⟨gp, kp, csp, e1, e2⟩ := HH.out.2.1 (old hL h (by decide)); exact ⟨gp, kp, csp, by rw [vset_other _ _ (by decide)]; exact e1, e2⟩, fun h => (hL 7).2 (.inr (HH.out.2.2.1 (old hL h (by decide)))), HH.out.2.2.2.1, fun h => HH.out.2.2.2.2.1 (fun x => h ((hL 9).2 (.inr x))), fun h => HH.out.2.2.2.2.2 (old hL h (by decide))⟩
                          | 6, ho =>
                            simp only [List.getElem?_toArray, List.getElem?_cons_zero, List.getElem?_cons_succ, Option.some.injEq] at ho
                            have e5 : V 5 = .pointer (some ⟨W.heap.size, 1, none⟩) := hV 5 (hdep 5 (by rw [← ho]; kernel_rfl)) (by decide) (by decide)
                            clear hV h7' hd hD hz h9
                            subst ho
                            rw [if_pos (wanted_free rfl _)]
                            simp only [Act.put, List.setIfInBounds_toArray, List.set_cons_zero, List.set_cons_succ, e5]
                            go_simp
                            exact hK _ _ ⟨vset V 6 (val 6), by simp only [Act.put, List.setIfInBounds_toArray, List.set_cons_zero, List.set_cons_succ, vset, Nat.reduceEqDiff, if_true, if_false, e5]; rfl, HH.out.1, HVOK.out _ (fun _ _ => rfl), fun h => by obtain ⟨gp, kp, csp, e1, e2⟩ := HH.out.2.1 (old hL h (by decide)); exact ⟨gp, kp, csp, by rw [vset_other _ _ (by decide)]; exact e1, e2⟩, fun h => (hL 7).2 (.inr (HH.out.2.2.1 (old hL h (by decide)))), HH.out.2.2.2.1, fun h => HH.out.2.2.2.2.1 (fun x => h ((hL 9).2 (.inr x))), fun h => HH.out.2.2.2.2.2 (old hL h (by decide))⟩
                          | 7, ho =>
                            simp only [List.getElem?_toArray, List.getElem?_cons_zero, List.getElem?_cons_succ, Option.some.injEq] at ho
                            have e4 : V 4 = .agg #[.int .i64 r', .int .i64 c', .slice (some ⟨bx, ox, none⟩) (r' * c') cap] := hV 4 (hdep 4 (by rw [← ho]; kernel_rfl)) (by decide) (by decide)
                            have e6 : V 6 = .slice (some ⟨nb, no, none⟩) ln cn := hV 6 (hdep 6 (by rw [← ho]; kernel_rfl)) (by decide) (by decide)
                            have hmw := by_mat (HSRC.out _ (HKA.out.trans hKw)) hpos
                            clear hV h7' hd hD hz h9
                            subst ho
                            rw [if_pos (wanted_free rfl _)]
                            simp only [Act.put, List.setIfInBounds_toArray, List.set_cons_zero, List.set_cons_succ, e4, e6]
                            go_simp
                            refine (rpick r' c' bx ox cap ln cn (some ⟨nb, no, none⟩) zs (rect c' H) hr hc hln16 h7 w hmw (HN1.out.kept (HKA.out.trans HH.out.1)) HPOK.out).mono ?_
                            rintro e w' ⟨ap, kp, rfl, hby, ⟨gp, csp, rfl, hgb⟩, hkp⟩
                            exact hK _ _ ⟨vset V 7 (.agg #[.int .i64 ln, .int .i64 c', .slice (some ⟨gp, 0, none⟩) (ln * c') kp]), by simp only [Act.put, List.setIfInBounds_toArray, List.set_cons_zero, List.set_cons_succ, vset, Nat.reduceEqDiff, if_true, if_false, e4, e6], HH.out.1.trans hkp, HVOK.out _ (fun h => absurd rfl h), fun _ => ⟨gp, kp, csp, vset_same _ _ _, hgb, hby⟩, fun h => (hL 7).2 (.inl rfl), by obtain ⟨aw, kw, hDD⟩ := HH.out.2.2.2.1; exact ⟨aw, kw, hDD.kept hkp⟩, fun h => (HH.out.2.2.2.2.1 (fun x => h ((hL 9).2 (.inr x)))).kept hkp, fun h => absurd (HH.out.2.2.1 (old hL h (by decide))) hopen⟩
                          | 8, ho =>
                            simp only [List.getElem?_toArray, List.getElem?_cons_zero, List.getElem?_cons_succ, Option.some.injEq] at ho
                            clear hV h7' hd hD hz h9
                            subst ho
                            rw [if_pos (wanted_free rfl _)]
                            simp only [Act.put, List.setIfInBounds_toArray, List.set_cons_zero, List.set_cons_succ]
                            go_simp
                            exact hK _ _ ⟨vset V 8 (val 8), by simp only [Act.put, List.setIfInBounds_toArray, List.set_cons_zero, List.set_cons_succ, vset, Nat.reduceEqDiff, if_true, if_false]; rfl, HH.out.1, HVOK.out _ (fun _ _ => rfl), fun h => by obtain ⟨gp, kp, csp, e1, e2⟩ := HH.out.2.1 (old hL h (by decide)); exact ⟨gp, kp, csp, by rw [vset_other _ _ (by decide)]; exact e1, e2⟩, fun h => (hL 7).2 (.inr (HH.out.2.2.1 (old hL h (by decide)))), HH.out.2.2.2.1, fun h => HH.out.2.2.2.2.1 (fun x => h ((hL 9).2 (.inr x))), fun h => HH.out.2.2.2.2.2 (old hL h (by decide))⟩
                          | 9, ho =>
                            simp only [List.getElem?_toArray, List.getElem?_cons_zero, List.getElem?_cons_succ, Option.some.injEq] at ho
                            have l7 := hdep 7 (by rw [← ho]; kernel_rfl)
                            obtain ⟨gp, kp, csp, e7, hgb, hby⟩ := h7' l7
                            have hzb := hz hopen
                            obtain ⟨x0, x1, x2⟩ := box3 hzb
                            have f0 := hzb.free 0
                            have f1 := hzb.free 1
                            have f2 := hzb.free 2
                            have g3 := grown3b w (b10 + 1 + 1) (.int .i64 ln) (.int .i64 c') (.slice (some ⟨gp, 0, none⟩) (ln * c') kp)
                            have hs3 := set3b hzb (.int .i64 ln) (.int .i64 c') (.slice (some ⟨gp, 0, none⟩) (ln * c') kp)
                            have hgb3 := hgb.grown g3 (fun e => ne_of_types hgb hzb (by decide) (Option.some.inj e))
                            have HN := Lib.hid (And.intro (Kept.grown hKw g3 (fun q e => by cases e; omega)) (And.intro (TD.mk hs3 (by_store hby hgb g3 hzb (by decide)) (fun _ => ⟨gp, 0, csp, rfl, hgb3⟩)) hgb3))
                            have HD9 : Hid (∃ aw kw, TD (b10 + 1) (tInvN r' c' (r' * c') H : Nat) (tInvN r' c' (r' * c') H : Nat) aw (tInvN r' c' (r' * c') H * tInvN r' c' (r' * c') H) kw (tInvH r' H) _) := Lib.hid (by obtain ⟨aw, kw, hDD⟩ := hD; exact ⟨aw, kw, hDD.storeOther g3 hzb (by omega)⟩)
                            clear g3 hs3 hzb hgb hby hgb3
                            clear hV h7' hd hD hz h9
                            subst ho
                            rw [if_pos (wanted_free rfl _)]
                            simp only [Act.put, List.setIfInBounds_toArray, List.set_cons_zero, List.set_cons_succ, e7]
                            go_simp
                            exact hK _ _ ⟨vset V 9 undef, by simp only [Act.put, List.setIfInBounds_toArray, List.set_cons_zero, List.set_cons_succ, vset, Nat.reduceEqDiff, if_false, e7], HN.out.1, HVOK.out _ (fun _ h => absurd rfl h), fun _ => ⟨gp, kp, csp, by rw [vset_other _ _ (by decide)]; exact e7, HN.out.2.2, HN.out.2.1.h⟩, fun _ => (hL 7).2 (.inr l7), HD9.out, fun h => absurd ((hL 9).2 (.inl rfl)) h, fun _ => ⟨_, _, HN.out.2.1⟩⟩
                          | n + 10, ho => simp at ho
                        case ehe =>
                          rintro L a w ⟨V, rfl, hKw, hV, _, _, hD, _, h9⟩ hall
                          have e8 : V 8 = .int .i64 0 := hV 8 (hall 8 (by decide)) (by decide) (by decide)
                          have hD17 := h9 (hall 9 (by decide))
                          have hfin : TellCut wa (b10 + 1) (b10 + 1 + 1) (r' : Int) (c' : Int) (r' * c') H ln zs (.int .i64 0) (.int .i64 (tInvE r' c' (r' * c') H)) (.int .i64 0) (.int .i64 (R : Nat)) w := by
                            obtain ⟨p1, p2, p3⟩ := pk_ok HE.out HSD.out HPOK.out
                            refine ⟨by rw [HE.out], rfl, by rw [p1], by rw [HRK.out], hKw, hD, ?_⟩
                            rw [p2, p3]
                            obtain ⟨av, kv, h⟩ := hD17
                            exact ⟨av, kv, h⟩
                          clear hV hD h9 hall hD17 hKw
                          simp only [Act.put, List.setIfInBounds_toArray, List.set_cons_zero, List.set_cons_succ, e8]
                          go_wp2_with fail
                          go_meet
                          exact hfin
        case rest =>
          as_aux_lemma =>
            obtain ⟨rfl, rfl, rfl, rfl, hKc, ⟨aw, kw, hD16⟩, ⟨av, kv, hD17⟩⟩ := hcut
            have hX := HXA.out.kept hKc
            have hY := HYA.out.kept hKc
            have hIN := HINA.out.kept hKc
            have hK1c := HKA.out.trans hKc
            have HK5C := Lib.hid (HK5A.out.trans hKc)
            have hchk := fun w => check_any r c a' l cap' w
            have hxn := tInvN_le r c l H
            have hpn := tPk_le r c l ln zs
            generalize tInvN r c l H = xn at *
            generalize tInvE r c l H = fv at *
            generalize tPkR r c l ln zs = pr at *
            generalize tPkC r c l ln zs = pc at *
            generalize tPkE r c l ln zs = gv at *
            generalize tRank r c l H = rv at *
            generalize tInvH r H = XH at *
            generalize tPkH c H zs = YH at *
            generalize matE r c l = ev at *
            have hxl : xn * xn ≤ 256 := Nat.le_trans (Nat.mul_le_mul hxn hxn) (by decide)
            have hpl : pr * pc ≤ 256 := Nat.le_trans (Nat.mul_le_mul hpn.1 hpn.2) (by decide)
            generalize xn * xn = xl at *
            generalize pr * pc = pl at *
            obtain ⟨⟨a0, a1, a2⟩, m0, m1, m2⟩ := HREAD.out _ hK1c
            have la0 := later_cell a0
            have lm0 := later_cell m0
            have lm1 := later_cell m1
            have lm2 := later_cell m2
            obtain ⟨c0, c1, c2⟩ := later_box hIN.x
            obtain ⟨x0, x1, x2⟩ := later_box hX.x
            obtain ⟨y0, y1, y2⟩ := later_box hY.x
            obtain ⟨d0, d1, d2⟩ := later_box hD16.x
            obtain ⟨f0, f1, f2⟩ := later_box hD17.x
            have HCK := Lib.hid hchk
            have HXB := Lib.hid hX.o.by_
            have HDB := Lib.hid hD16.h
            have HYB := Lib.hid hY.o.by_
            have HEB := Lib.hid hD17.h
            have HIB := Lib.hid hIN.h
            have HSB := Lib.hid (HSRC.out _ hK1c)
            have HXC := Lib.hid hX
            have HYC := Lib.hid hY
            have HK1C := Lib.hid hK1c
            have hl63 : l ≤ 9223372036854775807 := by omega
            have hxl63 : xl ≤ 9223372036854775807 := by omega
            have hpl63 : pl ≤ 9223372036854775807 := by omega
            have n1 : ((ev : Int) != ev) = false := by simp
            have n2 : ((fv : Int) != fv) = false := by simp
            have n3 : ((gv : Int) != gv) = false := by simp
            have n4 : ((rv : Int) != (rv : Int)) = false := by simp
            clear a0 a1 a2 m0 m1 m2 hX hY hIN hK1c hchk hD16 hD17 hKc
            have he3 : ∀ (u : Later wc) (rq cq : Int) (pq qq : Option Addr) (mq kq1 kq2 : Nat), ((pq = ax ∧ qq = aw ∧ mq = xl) ∨ (pq = ay ∧ qq = av ∧ mq = pl) ∨ (pq = a' ∧ qq = x ∧ mq = l)) → Calls Try.prog 43 #[.agg #[.int .i64 rq, .int .i64 cq, .slice pq mq kq1], .agg #[.int .i64 rq, .int .i64 cq, .slice qq mq kq2]] u.1 fun e w' => e = .returned (.bool true) ∧ Kept u.1 w' := fun u rq cq pq qq mq kq1 kq2 h => by
              have k1 := later_kept u
              rcases h with ⟨e1, e2, e3⟩ | ⟨e1, e2, e3⟩ | ⟨e1, e2, e3⟩
              · rw [e1, e2, e3]; exact eq_matrix rq cq ax aw xl kq1 kq2 XH hxl63 _ (HXB.out.kept k1) (HDB.out.kept k1)
              · rw [e1, e2, e3]; exact eq_matrix rq cq ay av pl kq1 kq2 YH hpl63 _ (HYB.out.kept k1) (HEB.out.kept k1)
              · rw [e1, e2, e3]; exact eq_matrix rq cq a' x l kq1 kq2 H hl63 _ (HIB.out.kept k1) (HSB.out.kept k1)
            have HE3 := Lib.hid he3
            clear he3
            go_wp2_with fail
            refine region_later (by as_aux_lemma => kernel_rfl) (by as_aux_lemma => kernel_rfl) ?_
            repeat (go_big_quiet_step (first | (go_at_call 42; exact later_call (HCK.out _)) | (go_at_call 41; exact later_same (num3_any _ _)) | (go_at_call 43; refine later_call (HE3.out _ _ _ _ _ _ _ _ ?_); first | exact Or.inl ⟨rfl, rfl, rfl⟩ | exact Or.inr (Or.inl ⟨rfl, rfl, rfl⟩) | exact Or.inr (Or.inr ⟨rfl, rfl, rfl⟩))))
            refine wpQuiet_nil ?_
            intro _ hw'
            obtain ⟨nq, hw''⟩ := hw'
            subst hw''
            have hkq : Kept wc nq.1 := nq.2
            clear la0 lm0 lm1 lm2 c0 c1 c2 x0 x1 x2 y0 y1 y2 d0 d1 d2 f0 f1 f2
            have HXD := Lib.hid (HXC.out.kept hkq)
            have HYD := Lib.hid (HYC.out.kept hkq)
            have HK5D := Lib.hid (HK5C.out.trans hkq)
            have HK1D := Lib.hid (HK1C.out.trans hkq)
            clear hkq
            generalize nq.1 = wd at *
            obtain ⟨x0, x1, x2⟩ := box3 HXD.out.x
            go_wp2_with fail
            refine (spoil_own w5 wd ax xl XH HXD.out.o (by omega) xl).mono ?_
            rintro e we ⟨⟨ue, rfl⟩, row, gr, hrow⟩
            have HYF := Lib.hid (HYD.out.grownR gr (fun g e => by
              obtain ⟨_, ⟨o, e2⟩, hcs⟩ := hrow g e
              exact ⟨own1_lt HX7.out.o e2, hcs⟩))
            have HK5F := Lib.hid (Kept.grown HK5D.out gr (fun g e => (hrow g e).1))
            have HK1F := Lib.hid (Kept.grown HK1D.out gr (fun g e => Nat.le_trans hs15 (hrow g e).1))
            clear gr hrow x0 x1 x2
            obtain ⟨y0, y1, y2⟩ := box3 HYF.out.x
            go_wp2_with fail
            refine (spoil_own w7 we ay pl YH HYF.out.o (by omega) pl).mono ?_
            rintro e wf ⟨⟨uf, rfl⟩, row2, gr2, hrow2⟩
            have hK5G := Kept.grown HK5F.out gr2 (fun g e => Nat.le_trans hs7 (hrow2 g e).1)
            have hK1G := Kept.grown HK1F.out gr2 (fun g e => Nat.le_trans (Nat.le_trans hs15 hs7) (hrow2 g e).1)
            have hIN := HIN5.out.kept hK5G
            obtain ⟨⟨a0, a1, a2⟩, m0, m1, m2⟩ := HREAD.out _ hK1G
            have la0 := later_cell a0
            have lm0 := later_cell m0
            have lm1 := later_cell m1
            have lm2 := later_cell m2
            obtain ⟨c0, c1, c2⟩ := later_box hIN.x
            have HIF := Lib.hid hIN.h
            have HSF := Lib.hid (HSRC.out _ hK1G)
            have HK1G := Lib.hid hK1G
            clear gr2 hrow2 hK5G hK1G hIN a0 a1 a2 m0 m1 m2 y0 y1 y2 n1 n2 n3 n4
            go_wp2_with fail
            refine region_later (by as_aux_lemma => kernel_rfl) (by as_aux_lemma => kernel_rfl) ?_
            repeat (go_big_quiet_step ((go_at_call 43; exact later_call (eq_matrix r c a' x l cap' cap H hl63 _ (HIF.out.kept (later_kept _)) (HSF.out.kept (later_kept _))))))
            refine wpQuiet_nil ?_
            intro _ hw'
            obtain ⟨nq, hw''⟩ := hw'
            subst hw''
            have HK1H := Lib.hid (HK1G.out.trans nq.2)
            clear la0 lm0 lm1 lm2 c0 c1 c2
            generalize nq.1 = wg at *
            go_wp2_with fail
            go_roundw
            case rel => exact ⟨k + 1, by omega, by go_num, HK1H.out⟩
            case measure => simp [intOf]; omega
      · have hd5 : decide ((k : Int) < 4) = false := decide_eq_false (by omega)
        as_aux_lemma =>
          go_wp2_with fail
          clear a0 a1 a2
          go_loopw [22] (fun i wr => ∃ z : Int, -1 ≤ z ∧ z ≤ 18 ∧ i = .int .i64 z ∧ Kept w1 wr) (fun i _ => (18 - intOf i).toNat)
          case atStart => exact ⟨-1, by omega, by omega, rfl, HKr.out⟩
          case round =>
            obtain ⟨z, hz1, hz2, rfl, hKz⟩ := hrel
            have HKZ := Lib.hid hKz
            clear hKz
            by_cases h17 : z ≤ 17
            · have hd17 : decide (z ≤ 17) = true := decide_eq_true h17
              by_cases hs : sideB z = true
              · have hsb := sideB_bounds hs
                obtain ⟨n, rfl⟩ : ∃ n : Nat, z = n := ⟨z.toNat, by omega⟩
                have hn : 1 ≤ n ∧ n ≤ 16 := by omega
                have hd1 : (decide (1 ≤ (n : Int)) && decide ((n : Int) ≤ 16)) = true := hs
                clear hs hsb
                go_wp2_with fail
                refine (one_any n hn.1 hn.2 wr).mono ?_
                rintro e w3 ⟨g, o, rfl, _, hm, hk3⟩
                have kx : Kept w3 ((w3.alloc (.cells #[.int .i64 n, .int .i64 n, .slice (some ⟨g, o, none⟩) (n * n) (n * n)] 50)).alloc (.cells #[.int .i64 0, .int .i64 0, .slice none 0 0] 50)) := ((Kept.refl _).alloc _).alloc _
                have HX := Lib.hid ((BlockAt.new w3 #[.int .i64 n, .int .i64 n, .slice (some ⟨g, o, none⟩) (n * n) (n * n)] 50).kept ((Kept.refl _).alloc (.cells #[.int .i64 0, .int .i64 0, .slice none 0 0] 50)))
                have HD := Lib.hid (BlockAt.new1 w3 #[.int .i64 0, .int .i64 0, .slice none 0 0] 50 (.cells #[.int .i64 n, .int .i64 n, .slice (some ⟨g, o, none⟩) (n * n) (n * n)] 50))
                have HM := Lib.hid (hm.kept kx)
                have HK4 := Lib.hid ((HKZ.out.trans hk3).trans kx)
                have hz3 : w1.heap.size ≤ w3.heap.size := (HKZ.out.trans hk3).size
                clear hm hk3 kx
                go_wp2_with fail
                generalize (w3.alloc _).alloc _ = w4 at *
                refine (between_any _ 1 16 _).mono ?_
                rintro e w' ⟨rfl, rfl⟩
                rw [hd1]
                go_wp2_with fail
                refine (rone n hn w4).mono ?_
                rintro e w5 ⟨g2, rfl, _, hm2, hk5⟩
                have HX5 := Lib.hid (HX.out.kept hk5)
                have HD5 := Lib.hid (HD.out.kept hk5)
                have HM5 := Lib.hid (HM.out.kept hk5)
                have HM2 := Lib.hid hm2
                have HK5 := Lib.hid (HK4.out.trans hk5)
                have hne : w3.heap.size ≠ w3.heap.size + 1 := by omega
                have g9 := grown_row w5 (w3.heap.size + 1) #[.int .i64 n, .int .i64 n, .slice (some ⟨g2, 0, none⟩) (n * n) (n * n)]
                have hX6 := HX5.out.grown g9 (by simp)
                have hD6 := HD5.out.setRow #[.int .i64 n, .int .i64 n, .slice (some ⟨g2, 0, none⟩) (n * n) (n * n)]
                have HA6 := Lib.hid ((HM5.out.grownT g9 HD5.out (by decide)).cell.flat)
                have HB6 := Lib.hid ((HM2.out.grownT g9 HD5.out (by decide)).cell.flat)
                have HK6 := Lib.hid (Kept.grown HK5.out g9 (fun q e => by cases e; omega))
                obtain ⟨x0, x1, x2⟩ := box3 hX6
                obtain ⟨d0, d1, d2⟩ := box3 hD6
                clear hm2 hk5 HX HM HK4 g9 hX6 hD6 HD
                go_wp2_with (first | (go_at_call 41; refine (num3_any _ _).mono ?_; rintro e w' ⟨rfl, rfl⟩) | (refine wpList_store_block rfl 50 (.tmp 26) (.tmp 212) rfl _ #[.int .i64 n, .int .i64 n, .slice (some ⟨g2, 0, none⟩) (n * n) (n * n)] #[.int .i64 0, .int .i64 0, .slice none 0 0] 50 rfl rfl HD5.out Try.infoMat rfl (one3 _ _ _ _ _) ?_))
                have hnn := Nat.mul_le_mul hn.2 hn.2
                refine (eq_matrix n n (some ⟨g, o, none⟩) (some ⟨g2, 0, none⟩) (n * n) (n * n) (n * n) (flat n oneF) (by omega) _ HA6.out HB6.out).mono ?_
                rintro e w8 ⟨rfl, hk8⟩
                have HK8 := Lib.hid (HK6.out.trans hk8)
                clear hk8 x0 x1 x2 d0 d1 d2
                go_wp2_with fail
                go_roundw
                case rel => exact ⟨(n : Int) + 1, by omega, by omega, by go_num, HK8.out⟩
                case measure => simp [intOf]; omega
              · have hsf : sideB z = false := by simpa using hs
                have hd1 : (decide (1 ≤ z) && decide (z ≤ 16)) = false := hsf
                have HSF := Lib.hid hsf
                clear hs hsf
                go_wp2_with fail
                refine (one_bad z HSF.out wr).mono ?_
                rintro e w3 ⟨rfl, hk3⟩
                have kx : Kept w3 ((w3.alloc (.cells #[.int .i64 0, .int .i64 0, .slice none 0 0] 50)).alloc (.cells #[.int .i64 0, .int .i64 0, .slice none 0 0] 50)) := ((Kept.refl _).alloc _).alloc _
                have hX := (BlockAt.new w3 #[.int .i64 0, .int .i64 0, .slice none 0 0] 50).kept ((Kept.refl _).alloc (.cells #[.int .i64 0, .int .i64 0, .slice none 0 0] 50))
                have hD := BlockAt.new1 w3 #[.int .i64 0, .int .i64 0, .slice none 0 0] 50 (.cells #[.int .i64 0, .int .i64 0, .slice none 0 0] 50)
                have HK4 := Lib.hid ((HKZ.out.trans hk3).trans kx)
                obtain ⟨x0, x1, x2⟩ := box3 hX
                obtain ⟨d0, d1, d2⟩ := box3 hD
                clear hk3 kx hX hD
                go_wp2_with fail
                generalize (w3.alloc _).alloc _ = w4 at *
                refine (between_any _ 1 16 _).mono ?_
                rintro e w' ⟨rfl, rfl⟩
                rw [hd1]
                go_wp2_with (go_at_call 41; refine (num3_any _ _).mono ?_; rintro e w' ⟨rfl, rfl⟩)
                refine (eq_matrix 0 0 none none 0 0 0 (fun _ => 0) (by omega) _ (ByIn.empty _ _ _) (ByIn.empty _ _ _)).mono ?_
                rintro e w8 ⟨rfl, hk8⟩
                have HK8 := Lib.hid (HK4.out.trans hk8)
                clear hk8 x0 x1 x2 d0 d1 d2
                go_wp2_with fail
                go_roundw
                case rel => exact ⟨z + 1, by omega, by omega, by go_num, HK8.out⟩
                case measure => simp [intOf]; omega
            · have hd17 : decide (z ≤ 17) = false := decide_eq_false h17
              go_wp2_with fail
              refine (wakes3_any _).mono ?_
              rintro e w2 ⟨rfl, hk2⟩
              go_wp2
              go_ret
              exact ⟨rfl, (HK2.out.trans HKZ.out).trans hk2⟩
    · as_aux_lemma =>
        go_wp2_with fail
        clear a0 a1 a2
        go_loopw [22] (fun i wr => ∃ z : Int, -1 ≤ z ∧ z ≤ 18 ∧ i = .int .i64 z ∧ Kept w1 wr) (fun i _ => (18 - intOf i).toNat)
        case atStart => exact ⟨-1, by omega, by omega, rfl, HKr.out⟩
        case round =>
          obtain ⟨z, hz1, hz2, rfl, hKz⟩ := hrel
          have HKZ := Lib.hid hKz
          clear hKz
          by_cases h17 : z ≤ 17
          · have hd17 : decide (z ≤ 17) = true := decide_eq_true h17
            by_cases hs : sideB z = true
            · have hsb := sideB_bounds hs
              obtain ⟨n, rfl⟩ : ∃ n : Nat, z = n := ⟨z.toNat, by omega⟩
              have hn : 1 ≤ n ∧ n ≤ 16 := by omega
              have hd1 : (decide (1 ≤ (n : Int)) && decide ((n : Int) ≤ 16)) = true := hs
              clear hs hsb
              go_wp2_with fail
              refine (one_any n hn.1 hn.2 wr).mono ?_
              rintro e w3 ⟨g, o, rfl, _, hm, hk3⟩
              have kx : Kept w3 ((w3.alloc (.cells #[.int .i64 n, .int .i64 n, .slice (some ⟨g, o, none⟩) (n * n) (n * n)] 50)).alloc (.cells #[.int .i64 0, .int .i64 0, .slice none 0 0] 50)) := ((Kept.refl _).alloc _).alloc _
              have HX := Lib.hid ((BlockAt.new w3 #[.int .i64 n, .int .i64 n, .slice (some ⟨g, o, none⟩) (n * n) (n * n)] 50).kept ((Kept.refl _).alloc (.cells #[.int .i64 0, .int .i64 0, .slice none 0 0] 50)))
              have HD := Lib.hid (BlockAt.new1 w3 #[.int .i64 0, .int .i64 0, .slice none 0 0] 50 (.cells #[.int .i64 n, .int .i64 n, .slice (some ⟨g, o, none⟩) (n * n) (n * n)] 50))
              have HM := Lib.hid (hm.kept kx)
              have HK4 := Lib.hid ((HKZ.out.trans hk3).trans kx)
              have hz3 : w1.heap.size ≤ w3.heap.size := (HKZ.out.trans hk3).size
              clear hm hk3 kx
              go_wp2_with fail
              generalize (w3.alloc _).alloc _ = w4 at *
              refine (between_any _ 1 16 _).mono ?_
              rintro e w' ⟨rfl, rfl⟩
              rw [hd1]
              go_wp2_with fail
              refine (rone n hn w4).mono ?_
              rintro e w5 ⟨g2, rfl, _, hm2, hk5⟩
              have HX5 := Lib.hid (HX.out.kept hk5)
              have HD5 := Lib.hid (HD.out.kept hk5)
              have HM5 := Lib.hid (HM.out.kept hk5)
              have HM2 := Lib.hid hm2
              have HK5 := Lib.hid (HK4.out.trans hk5)
              have hne : w3.heap.size ≠ w3.heap.size + 1 := by omega
              have g9 := grown_row w5 (w3.heap.size + 1) #[.int .i64 n, .int .i64 n, .slice (some ⟨g2, 0, none⟩) (n * n) (n * n)]
              have hX6 := HX5.out.grown g9 (by simp)
              have hD6 := HD5.out.setRow #[.int .i64 n, .int .i64 n, .slice (some ⟨g2, 0, none⟩) (n * n) (n * n)]
              have HA6 := Lib.hid ((HM5.out.grownT g9 HD5.out (by decide)).cell.flat)
              have HB6 := Lib.hid ((HM2.out.grownT g9 HD5.out (by decide)).cell.flat)
              have HK6 := Lib.hid (Kept.grown HK5.out g9 (fun q e => by cases e; omega))
              obtain ⟨x0, x1, x2⟩ := box3 hX6
              obtain ⟨d0, d1, d2⟩ := box3 hD6
              clear hm2 hk5 HX HM HK4 g9 hX6 hD6 HD
              go_wp2_with (first | (go_at_call 41; refine (num3_any _ _).mono ?_; rintro e w' ⟨rfl, rfl⟩) | (refine wpList_store_block rfl 50 (.tmp 26) (.tmp 212) rfl _ #[.int .i64 n, .int .i64 n, .slice (some ⟨g2, 0, none⟩) (n * n) (n * n)] #[.int .i64 0, .int .i64 0, .slice none 0 0] 50 rfl rfl HD5.out Try.infoMat rfl (one3 _ _ _ _ _) ?_))
              have hnn := Nat.mul_le_mul hn.2 hn.2
              refine (eq_matrix n n (some ⟨g, o, none⟩) (some ⟨g2, 0, none⟩) (n * n) (n * n) (n * n) (flat n oneF) (by omega) _ HA6.out HB6.out).mono ?_
              rintro e w8 ⟨rfl, hk8⟩
              have HK8 := Lib.hid (HK6.out.trans hk8)
              clear hk8 x0 x1 x2 d0 d1 d2
              go_wp2_with fail
              go_roundw
              case rel => exact ⟨(n : Int) + 1, by omega, by omega, by go_num, HK8.out⟩
              case measure => simp [intOf]; omega
            · have hsf : sideB z = false := by simpa using hs
              have hd1 : (decide (1 ≤ z) && decide (z ≤ 16)) = false := hsf
              have HSF := Lib.hid hsf
              clear hs hsf
              go_wp2_with fail
              refine (one_bad z HSF.out wr).mono ?_
              rintro e w3 ⟨rfl, hk3⟩
              have kx : Kept w3 ((w3.alloc (.cells #[.int .i64 0, .int .i64 0, .slice none 0 0] 50)).alloc (.cells #[.int .i64 0, .int .i64 0, .slice none 0 0] 50)) := ((Kept.refl _).alloc _).alloc _
              have hX := (BlockAt.new w3 #[.int .i64 0, .int .i64 0, .slice none 0 0] 50).kept ((Kept.refl _).alloc (.cells #[.int .i64 0, .int .i64 0, .slice none 0 0] 50))
              have hD := BlockAt.new1 w3 #[.int .i64 0, .int .i64 0, .slice none 0 0] 50 (.cells #[.int .i64 0, .int .i64 0, .slice none 0 0] 50)
              have HK4 := Lib.hid ((HKZ.out.trans hk3).trans kx)
              obtain ⟨x0, x1, x2⟩ := box3 hX
              obtain ⟨d0, d1, d2⟩ := box3 hD
              clear hk3 kx hX hD
              go_wp2_with fail
              generalize (w3.alloc _).alloc _ = w4 at *
              refine (between_any _ 1 16 _).mono ?_
              rintro e w' ⟨rfl, rfl⟩
              rw [hd1]
              go_wp2_with (go_at_call 41; refine (num3_any _ _).mono ?_; rintro e w' ⟨rfl, rfl⟩)
              refine (eq_matrix 0 0 none none 0 0 0 (fun _ => 0) (by omega) _ (ByIn.empty _ _ _) (ByIn.empty _ _ _)).mono ?_
              rintro e w8 ⟨rfl, hk8⟩
              have HK8 := Lib.hid (HK4.out.trans hk8)
              clear hk8 x0 x1 x2 d0 d1 d2
              go_wp2_with fail
              go_roundw
              case rel => exact ⟨z + 1, by omega, by omega, by go_num, HK8.out⟩
              case measure => simp [intOf]; omega
          · have hd17 : decide (z ≤ 17) = false := decide_eq_false h17
            go_wp2_with fail
            refine (wakes3_any _).mono ?_
            rintro e w2 ⟨rfl, hk2⟩
            go_wp2
            go_ret
            exact ⟨rfl, (HK2.out.trans HKZ.out).trans hk2⟩
end Go.Proofs.Ytlpjpeonejbpjaa
