/- span.Parts, by what it answers (numbers within the limits). -/
import Derived.Test.YtlncjheifkbomaaSpn5
import Derived.Test.YtlncjheifkbomaaSpn3
import Derived.Test.YtlncjheifkbomaaSpnS
import Derived.Test.YtlncjheifkbomaaPjR
import Derived.Test.YtlncjheifkbomaaSt
import Derived.Test.YtlncjheifkbomaaCutL
namespace Go.Proofs.Ytlncjheifkbomaa
open Go.RowKit Go.Shelf
attribute [local go_sem] Oper.semAt_some
/-- the loop's state behind the stripes pre -/
def SpSt (wo : World) (p q f e n : Nat) (R : Nat → Prop) (pre : List Nat) (W : World) : Prop :=
  (∃ v, BlockAt W (p + 3) #[v] 56 ∧ W.ownsRow wo.heap.size 84 3 v (selL q f e n pre).length (spv (selL q f e n pre)) ∧ ∀ g, v.ownBlock = some g → R g) ∧
  (BlockAt W (wo.heap.size + 1) #[.int .i64 (f : Int)] 3 ∧ BlockAt W p #[.int .i64 (e : Int)] 3 ∧ BlockAt W (p + 1) #[.int .i64 (q : Int)] 3) ∧ p + 6 ≤ W.heap.size ∧ Below wo.heap.size wo W
theorem SpSt.own {wo : World} {p q f e n : Nat} {R : Nat → Prop} {α : Type} {b : Nat} (hb : wo.heap.size ≤ b) (g : List α → List Nat) : OwnFrom b (fun pre W => SpSt wo p q f e n R (g pre) W) := by
  refine OwnFrom.and (Own.from (fun s A B row hs hg hr => ?_) _) (OwnFrom.and (Own.from (fun s A B row hs hg hr => ⟨block_own hs.1 hg hr, block_own hs.2.1 hg hr, block_own hs.2.2 hg hr⟩) _) (OwnFrom.and (Own.from (fun s A B row hs hg hr => Nat.le_trans hs hg.size) _) (ownFrom_below (Nat.le_refl _) hb)))
  obtain ⟨v, h1, h2, h3⟩ := hs
  exact ⟨v, block_own h1 hg hr, own_own h2 hg hr, h3⟩
set_option maxRecDepth 100000 in
set_option maxHeartbeats 4000000 in
theorem sparts_good (k m s : Int) (n f e : Nat) (many : Int) (q : Nat) (hs : stB k m s n = true) (hq : k * s = (q : Int)) (hf : f ≤ n) (hm : 0 ≤ many) (he : (e : Int) = (f : Int) + min many ((n : Int) - (f : Int))) (wo : World) :
    Calls Try.prog 30 #[.agg #[.int .i64 k, .int .i64 m, .int .i64 s], .int .i64 n, .int .i64 f, .int .i64 many] wo fun x w' => ∃ a cap, x = .returned (.tuple #[.slice a (spN q f e) cap, .int .i64 0]) ∧ PartsIn w' a (spN q f e) (spL q f e) ∧ Kept wo w' := by
  have HST := Lib.hid (fun u => stripes_any k m s n u)
  have e1 : stE k m s n = 0 := by unfold stE; rw [if_pos hs]
  rw [e1] at HST
  generalize stN k m s n = N at HST
  have hsh : shpB k m s = true := by unfold stB at hs; rw [Bool.and_eq_true, Bool.and_eq_true] at hs; exact hs.1
  have hn2 : n ≤ 2000 := by unfold stB at hs; rw [Bool.and_eq_true, Bool.and_eq_true, decide_eq_true_iff, decide_eq_true_iff] at hs; omega
  have hqb : 1 ≤ q ∧ q ≤ 960 := by have := ks_bounds hsh; omega
  have hd1 : decide ((f : Int) < 0) = false := decide_eq_false (by omega)
  have hd2 : decide (n < f) = false := decide_eq_false (by omega)
  have hd3 : decide (many < 0) = false := decide_eq_false (by omega)
  have HB := Lib.hid ((BlockAt.new wo #[.int .i64 k, .int .i64 m, .int .i64 s] 31).kept ((Kept.refl _).alloc (.cells #[.int .i64 (f : Int)] 3)))
  have HF := Lib.hid (BlockAt.new1 wo #[.int .i64 (f : Int)] 3 (.cells #[.int .i64 k, .int .i64 m, .int .i64 s] 31))
  have HK := Lib.hid (((Kept.refl wo).alloc (.cells #[.int .i64 k, .int .i64 m, .int .i64 s] 31)).alloc (.cells #[.int .i64 (f : Int)] 3))
  have hbs : wo.heap.size + 2 = ((wo.alloc (.cells #[.int .i64 k, .int .i64 m, .int .i64 s] 31)).alloc (.cells #[.int .i64 (f : Int)] 3)).heap.size := by simp
  have HQ := Lib.hid hq
  have hen : f ≤ e ∧ e ≤ n := by omega
  obtain ⟨nf, hnf⟩ : ∃ nf : Nat, nf = n - f := ⟨_, rfl⟩
  have e2 : (n : Int) - (f : Int) = (nf : Int) := by omega
  have HE := Lib.hid (show (e : Int) = (f : Int) + min many (nf : Int) by rw [← e2]; exact he)
  obtain ⟨i0, hi, hz0, hz1, hz2⟩ := info_parts Try.infoPart
  have HI := Lib.hid (And.intro hi (And.intro hz0 (And.intro hz1 hz2)))
  have HN := Lib.hid e2
  clear e1 hs hsh hq he hnf hi hz0 hz1 hz2
  refine callsIn_wide.1 (callsIn_of_wp_marks (n := 8) Try.func30 rfl trivial ?_ rfl)
  simp only [Try.ntmps30, List.size_toArray, List.length_nil, List.length_cons, Nat.reduceAdd, Nat.reduceSub, Array.replicate_succ, Array.replicate_zero, List.push_toArray, List.append_toArray, List.nil_append, List.cons_append]
  refine wpIn_wide.2 ?_
  have HHB := Lib.hid hbs
  clear hbs e2
  go_upto_region 1 with (fail)
  generalize hg1 : (wo.alloc (.cells #[.int .i64 k, .int .i64 m, .int .i64 s] 31)).alloc (.cells #[.int .i64 (f : Int)] 3) = w1 at *
  clear hg1
  obtain ⟨a0, a1, a2⟩ := box3c HB.out
  go_step3
  go_wp2_with fail
  refine (HST.out _).mono ?_
  rintro e0 w2 ⟨rfl, hk2⟩
  have HK2 := Lib.hid (HK.out.trans hk2)
  have HB2 := Lib.hid (HB.out.kept hk2)
  have HF2 := Lib.hid (HF.out.kept hk2)
  have hs2 : wo.heap.size + 2 ≤ w2.heap.size := by have := HHB.out; have := hk2.size; omega
  clear a0 a1 a2 hk2 HB HF HK
  obtain ⟨a0, a1, a2⟩ := box3c HB2.out
  have c0 := box1 HF2.out
  have e1 := HN.out
  have hmul := HQ.out
  have e2 : (f : Int) + min many (nf : Int) = (e : Int) := HE.out.symm
  go_upto_region 7 with (fail)
  obtain ⟨p, hp⟩ : ∃ p, p = w2.heap.size := ⟨_, rfl⟩
  have HT3 := Lib.hid (BlockAt.new w2 #[.int .i64 (e : Int)] 3)
  have HB3 := Lib.hid (HB2.out.kept ((Kept.refl _).alloc (.cells #[.int .i64 (e : Int)] 3)))
  have HF3 := Lib.hid (HF2.out.kept ((Kept.refl _).alloc (.cells #[.int .i64 (e : Int)] 3)))
  have HK3 := Lib.hid (HK2.out.alloc (.cells #[.int .i64 (e : Int)] 3))
  have HP3 := Lib.hid (show p + 1 = (w2.alloc (.cells #[.int .i64 (e : Int)] 3)).heap.size by rw [hp]; simp)
  rw [← hp] at HT3 hs2 ⊢
  clear e1 e2 hd1 hd2 hd3 a0 a1 a2 c0 HB2 HF2 hp
  generalize w2.alloc (.cells #[.int .i64 (e : Int)] 3) = w3 at *
  obtain ⟨a0, a1, a2⟩ := box3c HB3.out
  go_upto_region 8 with (fail)
  have HZ4 := Lib.hid (BlockAt.new w3 #[.int .i64 (q : Int)] 3)
  have HT4 := Lib.hid (HT3.out.kept ((Kept.refl _).alloc (.cells #[.int .i64 (q : Int)] 3)))
  have HF4 := Lib.hid (HF3.out.kept ((Kept.refl _).alloc (.cells #[.int .i64 (q : Int)] 3)))
  have HK4 := Lib.hid (HK3.out.alloc (.cells #[.int .i64 (q : Int)] 3))
  have HP4 := Lib.hid (show p + 2 = (w3.alloc (.cells #[.int .i64 (q : Int)] 3)).heap.size by have := HP3.out; simp; omega)
  rw [← HP3.out] at HZ4 ⊢
  clear hmul a0 a1 a2 HB3 HT3 HF3 HK3 HP3 HK2
  generalize w3.alloc (.cells #[.int .i64 (q : Int)] 3) = w4 at *
  go_upto_region 9 with (fail)
  have HV6 := Lib.hid (BlockAt.new1 w4 #[.slice (some ⟨w4.heap.size, 0, none⟩) 0 0] 56 (.cells #[] 84))
  have HE6 := Lib.hid ((BlockAt.new w4 #[] 84).kept ((Kept.refl _).alloc (.cells #[.slice (some ⟨w4.heap.size, 0, none⟩) 0 0] 56)))
  have k46 : Kept w4 ((w4.alloc (.cells #[] 84)).alloc (.cells #[.slice (some ⟨w4.heap.size, 0, none⟩) 0 0] 56)) := ((Kept.refl _).alloc _).alloc _
  have HZ6 := Lib.hid (HZ4.out.kept k46)
  have HT6 := Lib.hid (HT4.out.kept k46)
  have HF6 := Lib.hid (HF4.out.kept k46)
  have HK6 := Lib.hid (HK4.out.trans k46)
  have HP6 := Lib.hid (show p + 4 = ((w4.alloc (.cells #[] 84)).alloc (.cells #[.slice (some ⟨w4.heap.size, 0, none⟩) 0 0] 56)).heap.size by have := HP4.out; simp; omega)
  rw [← HP4.out] at HV6 HE6 HP6 HK6 HF6 HT6 HZ6 ⊢
  rw [show p + 2 + 1 = p + 3 from rfl] at HV6 ⊢
  clear k46 HZ4 HT4 HF4 HK4 
  generalize (w4.alloc (.cells #[] 84)).alloc (.cells #[.slice (some ⟨p + 2, 0, none⟩) 0 0] 56) = w6 at *
  have cz := box1 HZ6.out
  refine wp_of_in 8 ?_
  refine wpIn_label ?_
  go_wp2_with fail
  refine (stripesq_any _ _ _).mono ?_
  rintro e9 w7 ⟨rfl, hw7⟩
  have hk7 : Kept w6 w7 := by rw [hw7]; exact ((Kept.refl _).alloc _).alloc _
  have HX2 := Lib.hid (show BlockAt w7 (p + 4) #[.int .i64 (n : Int)] 3 by rw [hw7, HP6.out]; exact (BlockAt.new _ _ _).kept ((Kept.refl _).alloc _))
  have HX3 := Lib.hid (show BlockAt w7 (p + 5) #[.int .i64 (q : Int)] 3 by rw [hw7, show p + 5 = w6.heap.size + 1 by have := HP6.out; omega]; exact BlockAt.new1 _ _ _ _)
  have HP7 := Lib.hid (show p + 6 = w7.heap.size by have := HP6.out; rw [hw7]; simp; omega)
  rw [← HP6.out]
  have HV7 := Lib.hid (HV6.out.kept hk7)
  have HE7 := Lib.hid (HE6.out.kept hk7)
  have HZ7 := Lib.hid (HZ6.out.kept hk7)
  have HT7 := Lib.hid (HT6.out.kept hk7)
  have HF7 := Lib.hid (HF6.out.kept hk7)
  have HK7 := Lib.hid (HK6.out.trans hk7)
  clear hk7 hw7 HV6 HE6 HZ6 HT6 HF6 HK6 HP6 cz
  go_wp2_with fail
  refine wp_of_in 8 ?_
  obtain ⟨R, hR⟩ : ∃ R : Nat → Prop, R = fun g => wo.heap.size ≤ g ∧ g ≠ wo.heap.size + 1 ∧ g ≠ p ∧ g ≠ p + 1 ∧ g ≠ p + 3 ∧ g ≠ p + 4 ∧ g ≠ p + 5 := ⟨_, rfl⟩
  have HRP := Lib.hid (show R (p + 2) by rw [hR]; exact ⟨by omega, by omega, by omega, by omega, by omega, by omega, by omega⟩)
  have HRL := Lib.hid (show ¬ R (p + 3) by rw [hR]; exact fun h => h.2.2.2.2.1 rfl)
  have HRN := Lib.hid (show ∀ g, p + 6 ≤ g → R g by rw [hR]; exact fun g h => ⟨by omega, by omega, by omega, by omega, by omega, by omega, by omega⟩)
  have HNF := Lib.hid (show ¬ (R (wo.heap.size + 1) ∨ wo.heap.size + 1 = p + 3) by rw [hR]; exact fun h => h.elim (fun h => h.2.1 rfl) (fun h => by omega))
  have HNT := Lib.hid (show ¬ (R p ∨ p = p + 3) by rw [hR]; exact fun h => h.elim (fun h => h.2.2.1 rfl) (fun h => by omega))
  have HNZ := Lib.hid (show ¬ (R (p + 1) ∨ p + 1 = p + 3) by rw [hR]; exact fun h => h.elim (fun h => h.2.2.2.1 rfl) (fun h => by omega))
  have hrt : ¬ (R (p + 4) ∨ p + 4 = p + 3) := by rw [hR]; exact fun h => h.elim (fun h => h.2.2.2.2.2.1 rfl) (fun h => by omega)
  have hrq : ¬ (R (p + 5) ∨ p + 5 = p + 3) := by rw [hR]; exact fun h => h.elim (fun h => h.2.2.2.2.2.2 rfl) (fun h => by omega)
  clear hR
  have hp7 := HP7.out
  refine wpIn_rangeFunc_S rfl (by omega) (gf := 55) (lb := #[.pointer (some ⟨p + 4, 0, none⟩), .pointer (some ⟨p + 5, 0, none⟩)]) rfl trivial (enters_of Try.func55 (by kernel_rfl) rfl)
    (stripesq_stops 7 (by omega) (fun g => R g ∨ g = p + 3) n (by omega) q ⟨hqb.1, by omega⟩ (p + 4) (p + 5) w7 hrt hrq HX2.out HX3.out) (CellsBut.refl _) CellsBut.trans CellsBut.putObj (Below.refl _ _) (fun _ => rfl)
    (fun pre W => SpSt wo p q f e n R (ixs pre) W)
    (fun c pre W => (c = .exit 0 ∧ ∃ i, pre.getLast? = some i ∧ e ≤ i.1 * q) ∧ SpSt wo p q f e n R (ixs pre) W)
    (SpSt.own (by omega) ixs) (fun c => OwnFrom.and (Own.from (fun s A B row hs hg hr => hs) _) (SpSt.own (by omega) ixs)) ?h0 ?round ?done ?stop
  case h0 => exact ⟨⟨_, HV7.out, ⟨rfl, .inr ⟨p + 2, 0, #[], rfl, by omega, HE7.out, Nat.le_refl _, by unfold maxLen; omega, rfl, rfl⟩⟩, fun g e => by cases e; exact HRP.out⟩, ⟨HF7.out, HT7.out, HZ7.out⟩, by omega, HK7.out⟩
  case round =>
    rintro l ⟨ii, hi⟩ W K hK
    have HK := Lib.hid hK
    clear hK
    obtain ⟨lo, hlo⟩ : ∃ lo, ii * q = lo := ⟨_, rfl⟩
    obtain ⟨hi9, hhi⟩ : ∃ hi9, min (lo + q) n = hi9 := ⟨_, rfl⟩
    simp only [hlo, hhi]
    have HLO := Lib.hid hlo
    have HHI := Lib.hid hhi
    have hlon : lo < n := by rw [← hlo]; exact (nP_lt hqb.1).1 hi
    have hlq : (lo : Int) / (q : Int) = (ii : Int) := by rw [← hlo, Int.natCast_mul]; exact Int.mul_ediv_cancel _ (by omega)
    have hin : ii ≤ lo := by rw [← hlo]; exact Nat.le_mul_of_pos_right ii (by omega)
    have HLQ := Lib.hid hlq
    clear hlo hlq
    gi_wp2
    refine HK.out _ ?_
    clear HK
    rintro l pre W ⟨⟨v, hpl, hown, hvR⟩, ⟨hF, hT, hZ⟩, hx2, hB⟩ hlen
    have HB := Lib.hid hB
    have HPL := Lib.hid hpl
    have HOWN := Lib.hid hown
    have HVR := Lib.hid hvR
    have HFr := Lib.hid hF
    have HTr := Lib.hid hT
    have HZr := Lib.hid hZ
    have hn : (selL q f e n (ixs pre)).length < 2001 := by
      have h0 := selL_length q f e n (ixs pre)
      rw [ixs_length] at h0
      have h1 : nP n q ≤ n := Nat.not_lt.1 (fun h => by have := (nP_lt hqb.1).1 h; have := Nat.le_mul_of_pos_right n hqb.1; omega)
      omega
    have cf := box1 hF
    have ct := box1 hT
    clear hpl hown hvR hB hF hT hZ
    have hwl := HB.out.size
    by_cases c1 : e ≤ lo
    · have hd1 : decide (e ≤ lo) = true := decide_eq_true c1
      have HSEL := Lib.hid (show selL q f e n (ixs (pre ++ [(⟨ii, hi⟩ : { k : Nat // k < nP n q })])) = selL q f e n (ixs pre) by rw [ixs_snoc, selL_snoc, selP_high (by rw [HLO.out]; exact c1), List.append_nil])
      clear hhi
      gi_wp2
      refine ⟨KeepsOthers.refl _, ⟨rfl, ⟨ii, hi⟩, by simp, by show e ≤ ii * q; rw [HLO.out]; exact c1⟩, ⟨_, HPL.out, ?_, HVR.out⟩, ⟨HFr.out, HTr.out, HZr.out⟩, by omega, HB.out⟩
      rw [HSEL.out]
      exact HOWN.out
    · have hd1 : decide (e ≤ lo) = false := decide_eq_false c1
      by_cases c2 : hi9 ≤ f
      · have hd2 : decide (hi9 ≤ f) = true := decide_eq_true c2
        have HSEL := Lib.hid (show selL q f e n (ixs (pre ++ [(⟨ii, hi⟩ : { k : Nat // k < nP n q })])) = selL q f e n (ixs pre) by rw [ixs_snoc, selL_snoc, selP_none (by rw [HLO.out]; omega), List.append_nil])
        clear hhi
        gi_wp2
        refine ⟨KeepsOthers.refl _, CellsBut.refl _ _, ⟨_, HPL.out, ?_, HVR.out⟩, ⟨HFr.out, HTr.out, HZr.out⟩, by omega, HB.out⟩
        rw [HSEL.out]
        exact HOWN.out
      · have hd2 : decide (hi9 ≤ f) = false := decide_eq_false c2
        obtain ⟨mx, hmx⟩ : ∃ mx, mx = max f lo := ⟨_, rfl⟩
        obtain ⟨mn, hmn⟩ : ∃ mn, mn = min e hi9 := ⟨_, rfl⟩
        obtain ⟨l9, hl9⟩ : ∃ l9, l9 = mx - lo := ⟨_, rfl⟩
        obtain ⟨h9, hh9⟩ : ∃ h9, h9 = mn - lo := ⟨_, rfl⟩
        have hxmx : max (f : Int) (lo : Int) = (mx : Int) := by omega
        have hxmn : min (e : Int) (hi9 : Int) = (mn : Int) := by omega
        have hxl : (mx : Int) - (lo : Int) = (l9 : Int) := by omega
        have hxh : (mn : Int) - (lo : Int) = (h9 : Int) := by omega
        have hb9 : mx ≤ 2000 ∧ mn ≤ 2000 ∧ l9 ≤ 2000 ∧ h9 ≤ 2000 := by omega
        have HMX := Lib.hid hmx
        have HMN := Lib.hid hmn
        have HL9 := Lib.hid hl9
        have HH9 := Lib.hid hh9
        have f1 := HLQ.out
        have f1t : (lo : Int).tdiv (q : Int) = (ii : Int) := by rw [Int.tdiv_eq_ediv_of_nonneg (by omega)]; exact f1
        have f2 : ((q : Int) == 0) = false := by rw [beq_eq_false_iff_ne]; omega
        have f3 : IntKind.i64.wrap (ii : Int) = (ii : Int) := IntWalk.i64_in _ (by omega)
        have f6 : ¬ q = 0 := by omega
        have f4 : IntKind.i64.wrap (l9 : Int) = (l9 : Int) := IntWalk.i64_in _ (by omega)
        have f5 : IntKind.i64.wrap (h9 : Int) = (h9 : Int) := IntWalk.i64_in _ (by omega)
        clear hhi hmx hmn hl9 hh9
        gi_wp2_with fail
        refine Pj.wpIn_round_step (by as_aux_lemma => kernel_rfl) (fun a0 L a w => ∃ V : Nat → Value, a = Pj.puts [(63, 0), (64, 1), (65, 2), (66, 3), (67, 4), (68, 5), (69, 6), (70, 7), (71, 8), (72, 9), (73, 10), (74, 11), (75, 12), (76, 13), (17, 14)] V a0 ∧ Pj.JS W [Pj.Is (.int .i64 (lo : Int)), Pj.Is (.int .i64 (q : Int)), Pj.Is (.int .i64 (ii : Int)), Pj.Is (.int .i64 (f : Int)), Pj.Is (.int .i64 (lo : Int)), Pj.Is (.int .i64 (mx : Int)), Pj.Is (.int .i64 (lo : Int)), Pj.Is (.int .i64 (l9 : Int)), Pj.Is (.int .i64 (e : Int)), Pj.Is (.int .i64 (hi9 : Int)), Pj.Is (.int .i64 (mn : Int)), Pj.Is (.int .i64 (lo : Int)), Pj.Is (.int .i64 (h9 : Int)), Pj.Is (.agg #[.int .i64 (ii : Int), .int .i64 (l9 : Int), .int .i64 (h9 : Int)]), Pj.Ptr W, (fun _ _ => True)] 14 15 #[.int .i64 0, .int .i64 0, .int .i64 0] #[.int .i64 (ii : Int), .int .i64 (l9 : Int), .int .i64 (h9 : Int)] 84 L V w) (by as_aux_lemma => kernel_rfl) (by as_aux_lemma => kernel_rfl) ?eh0 ?ehs ?ehe
        case eh0 =>
          intro L hL
          exact ⟨_, Pj.puts_self _ (fun j => ([63, 64, 65, 66, 67, 68, 69, 70, 71, 72, 73, 74, 75, 76, 17, 0] : List Nat).getD j 0) [0, 1, 2, 3, 4, 5, 6, 7, 8, 9, 10, 11, 12, 13, 14], Pj.JS.start (n := 16) (Nat.le_refl _) (by decide) (by decide) hL ((Kept.refl _).drew)⟩
        case ehs =>
          rintro L L' a w i op K ⟨V, rfl, hJ⟩ ho hopen hdep hL hK
          have hP : Pj.AllFlat [Pj.Is (.int .i64 (lo : Int)), Pj.Is (.int .i64 (q : Int)), Pj.Is (.int .i64 (ii : Int)), Pj.Is (.int .i64 (f : Int)), Pj.Is (.int .i64 (lo : Int)), Pj.Is (.int .i64 (mx : Int)), Pj.Is (.int .i64 (lo : Int)), Pj.Is (.int .i64 (l9 : Int)), Pj.Is (.int .i64 (e : Int)), Pj.Is (.int .i64 (hi9 : Int)), Pj.Is (.int .i64 (mn : Int)), Pj.Is (.int .i64 (lo : Int)), Pj.Is (.int .i64 (h9 : Int)), Pj.Is (.agg #[.int .i64 (ii : Int), .int .i64 (l9 : Int), .int .i64 (h9 : Int)]), Pj.Ptr W, (fun _ _ => True)] := ⟨Pj.Is.flat _, Pj.Is.flat _, Pj.Is.flat _, Pj.Is.flat _, Pj.Is.flat _, Pj.Is.flat _, Pj.Is.flat _, Pj.Is.flat _, Pj.Is.flat _, Pj.Is.flat _, Pj.Is.flat _, Pj.Is.flat _, Pj.Is.flat _, Pj.Is.flat _, Pj.Ptr.flat _, (fun _ _ _ _ _ => trivial), trivial⟩
          have HP := Lib.hid hP
          clear hP
          match i, ho with
          | 0, ho =>
            simp only [List.getElem?_toArray, List.getElem?_cons_zero, Option.some.injEq] at ho
            have HJ := Lib.hid hJ
            clear hJ
            subst ho
            refine Pj.Step.free rfl ?_
            simp only [Pj.puts, List.foldl_cons, List.foldl_nil, Act.put, List.setIfInBounds_toArray, List.set_cons_zero, List.set_cons_succ]
            go_simp
            exact hK _ _ ⟨Pj.vset V 0 (.int .i64 (lo : Int)), by simp only [Pj.puts, List.foldl_cons, List.foldl_nil, Act.put, List.setIfInBounds_toArray, List.set_cons_zero, List.set_cons_succ, Pj.vset, Nat.reduceEqDiff, if_true, if_false], HJ.out.more HP.out (by decide) (by decide) hL (Kept.refl _) (rfl)⟩
          | 1, ho =>
            simp only [List.getElem?_toArray, List.getElem?_cons_zero, List.getElem?_cons_succ, Option.some.injEq] at ho
            have cz := box1 (HZr.out.kept hJ.kp)
            have HJ := Lib.hid hJ
            clear hJ
            subst ho
            refine Pj.Step.free rfl ?_
            simp only [Pj.puts, List.foldl_cons, List.foldl_nil, Act.put, List.setIfInBounds_toArray, List.set_cons_zero, List.set_cons_succ]
            go_simp
            exact hK _ _ ⟨Pj.vset V 1 (.int .i64 (q : Int)), by simp only [Pj.puts, List.foldl_cons, List.foldl_nil, Act.put, List.setIfInBounds_toArray, List.set_cons_zero, List.set_cons_succ, Pj.vset, Nat.reduceEqDiff, if_true, if_false], HJ.out.more HP.out (by decide) (by decide) hL (Kept.refl _) (rfl)⟩
          | 2, ho =>
            simp only [List.getElem?_toArray, List.getElem?_cons_zero, List.getElem?_cons_succ, Option.some.injEq] at ho
            have e0 : V 0 = .int .i64 (lo : Int) := hJ.h 0 (hdep 0 (by rw [← ho]; kernel_rfl))
            have e1 : V 1 = .int .i64 (q : Int) := hJ.h 1 (hdep 1 (by rw [← ho]; kernel_rfl))
            have HJ := Lib.hid hJ
            clear hJ
            subst ho
            refine Pj.Step.free rfl ?_
            simp only [Pj.puts, List.foldl_cons, List.foldl_nil, Act.put, List.setIfInBounds_toArray, List.set_cons_zero, List.set_cons_succ, e0, e1]
            go_simp
            exact hK _ _ ⟨Pj.vset V 2 (.int .i64 (ii : Int)), by simp only [Pj.puts, List.foldl_cons, List.foldl_nil, Act.put, List.setIfInBounds_toArray, List.set_cons_zero, List.set_cons_succ, Pj.vset, Nat.reduceEqDiff, if_true, if_false, e0, e1], HJ.out.more HP.out (by decide) (by decide) hL (Kept.refl _) (rfl)⟩
          | 3, ho =>
            simp only [List.getElem?_toArray, List.getElem?_cons_zero, List.getElem?_cons_succ, Option.some.injEq] at ho
            have cf := box1 (HFr.out.kept hJ.kp)
            have HJ := Lib.hid hJ
            clear hJ
            subst ho
            refine Pj.Step.free rfl ?_
            simp only [Pj.puts, List.foldl_cons, List.foldl_nil, Act.put, List.setIfInBounds_toArray, List.set_cons_zero, List.set_cons_succ]
            go_simp
            exact hK _ _ ⟨Pj.vset V 3 (.int .i64 (f : Int)), by simp only [Pj.puts, List.foldl_cons, List.foldl_nil, Act.put, List.setIfInBounds_toArray, List.set_cons_zero, List.set_cons_succ, Pj.vset, Nat.reduceEqDiff, if_true, if_false], HJ.out.more HP.out (by decide) (by decide) hL (Kept.refl _) (rfl)⟩
          | 4, ho =>
            simp only [List.getElem?_toArray, List.getElem?_cons_zero, List.getElem?_cons_succ, Option.some.injEq] at ho
            have HJ := Lib.hid hJ
            clear hJ
            subst ho
            refine Pj.Step.free rfl ?_
            simp only [Pj.puts, List.foldl_cons, List.foldl_nil, Act.put, List.setIfInBounds_toArray, List.set_cons_zero, List.set_cons_succ]
            go_simp
            exact hK _ _ ⟨Pj.vset V 4 (.int .i64 (lo : Int)), by simp only [Pj.puts, List.foldl_cons, List.foldl_nil, Act.put, List.setIfInBounds_toArray, List.set_cons_zero, List.set_cons_succ, Pj.vset, Nat.reduceEqDiff, if_true, if_false], HJ.out.more HP.out (by decide) (by decide) hL (Kept.refl _) (rfl)⟩
          | 5, ho =>
            simp only [List.getElem?_toArray, List.getElem?_cons_zero, List.getElem?_cons_succ, Option.some.injEq] at ho
            have e3 : V 3 = .int .i64 (f : Int) := hJ.h 3 (hdep 3 (by rw [← ho]; kernel_rfl))
            have e4 : V 4 = .int .i64 (lo : Int) := hJ.h 4 (hdep 4 (by rw [← ho]; kernel_rfl))
            have HJ := Lib.hid hJ
            clear hJ
            subst ho
            refine Pj.Step.free rfl ?_
            simp only [Pj.puts, List.foldl_cons, List.foldl_nil, Act.put, List.setIfInBounds_toArray, List.set_cons_zero, List.set_cons_succ, e3, e4]
            go_simp
            exact hK _ _ ⟨Pj.vset V 5 (.int .i64 (mx : Int)), by simp only [Pj.puts, List.foldl_cons, List.foldl_nil, Act.put, List.setIfInBounds_toArray, List.set_cons_zero, List.set_cons_succ, Pj.vset, Nat.reduceEqDiff, if_true, if_false, e3, e4], HJ.out.more HP.out (by decide) (by decide) hL (Kept.refl _) (rfl)⟩
          | 6, ho =>
            simp only [List.getElem?_toArray, List.getElem?_cons_zero, List.getElem?_cons_succ, Option.some.injEq] at ho
            have HJ := Lib.hid hJ
            clear hJ
            subst ho
            refine Pj.Step.free rfl ?_
            simp only [Pj.puts, List.foldl_cons, List.foldl_nil, Act.put, List.setIfInBounds_toArray, List.set_cons_zero, List.set_cons_succ]
            go_simp
            exact hK _ _ ⟨Pj.vset V 6 (.int .i64 (lo : Int)), by simp only [Pj.puts, List.foldl_cons, List.foldl_nil, Act.put, List.setIfInBounds_toArray, List.set_cons_zero, List.set_cons_succ, Pj.vset, Nat.reduceEqDiff, if_true, if_false], HJ.out.more HP.out (by decide) (by decide) hL (Kept.refl _) (rfl)⟩
          | 7, ho =>
            simp only [List.getElem?_toArray, List.getElem?_cons_zero, List.getElem?_cons_succ, Option.some.injEq] at ho
            have e5 : V 5 = .int .i64 (mx : Int) := hJ.h 5 (hdep 5 (by rw [← ho]; kernel_rfl))
            have e6 : V 6 = .int .i64 (lo : Int) := hJ.h 6 (hdep 6 (by rw [← ho]; kernel_rfl))
            have HJ := Lib.hid hJ
            clear hJ
            subst ho
            refine Pj.Step.free rfl ?_
            simp only [Pj.puts, List.foldl_cons, List.foldl_nil, Act.put, List.setIfInBounds_toArray, List.set_cons_zero, List.set_cons_succ, e5, e6]
            go_simp
            exact hK _ _ ⟨Pj.vset V 7 (.int .i64 (l9 : Int)), by simp only [Pj.puts, List.foldl_cons, List.foldl_nil, Act.put, List.setIfInBounds_toArray, List.set_cons_zero, List.set_cons_succ, Pj.vset, Nat.reduceEqDiff, if_true, if_false, e5, e6], HJ.out.more HP.out (by decide) (by decide) hL (Kept.refl _) (rfl)⟩
          | 8, ho =>
            simp only [List.getElem?_toArray, List.getElem?_cons_zero, List.getElem?_cons_succ, Option.some.injEq] at ho
            have ct := box1 (HTr.out.kept hJ.kp)
            have HJ := Lib.hid hJ
            clear hJ
            subst ho
            refine Pj.Step.free rfl ?_
            simp only [Pj.puts, List.foldl_cons, List.foldl_nil, Act.put, List.setIfInBounds_toArray, List.set_cons_zero, List.set_cons_succ]
            go_simp
            exact hK _ _ ⟨Pj.vset V 8 (.int .i64 (e : Int)), by simp only [Pj.puts, List.foldl_cons, List.foldl_nil, Act.put, List.setIfInBounds_toArray, List.set_cons_zero, List.set_cons_succ, Pj.vset, Nat.reduceEqDiff, if_true, if_false], HJ.out.more HP.out (by decide) (by decide) hL (Kept.refl _) (rfl)⟩
          | 9, ho =>
            simp only [List.getElem?_toArray, List.getElem?_cons_zero, List.getElem?_cons_succ, Option.some.injEq] at ho
            have HJ := Lib.hid hJ
            clear hJ
            subst ho
            refine Pj.Step.free rfl ?_
            simp only [Pj.puts, List.foldl_cons, List.foldl_nil, Act.put, List.setIfInBounds_toArray, List.set_cons_zero, List.set_cons_succ]
            go_simp
            exact hK _ _ ⟨Pj.vset V 9 (.int .i64 (hi9 : Int)), by simp only [Pj.puts, List.foldl_cons, List.foldl_nil, Act.put, List.setIfInBounds_toArray, List.set_cons_zero, List.set_cons_succ, Pj.vset, Nat.reduceEqDiff, if_true, if_false], HJ.out.more HP.out (by decide) (by decide) hL (Kept.refl _) (rfl)⟩
          | 10, ho =>
            simp only [List.getElem?_toArray, List.getElem?_cons_zero, List.getElem?_cons_succ, Option.some.injEq] at ho
            have e8 : V 8 = .int .i64 (e : Int) := hJ.h 8 (hdep 8 (by rw [← ho]; kernel_rfl))
            have e9 : V 9 = .int .i64 (hi9 : Int) := hJ.h 9 (hdep 9 (by rw [← ho]; kernel_rfl))
            have HJ := Lib.hid hJ
            clear hJ
            subst ho
            refine Pj.Step.free rfl ?_
            simp only [Pj.puts, List.foldl_cons, List.foldl_nil, Act.put, List.setIfInBounds_toArray, List.set_cons_zero, List.set_cons_succ, e8, e9]
            go_simp
            exact hK _ _ ⟨Pj.vset V 10 (.int .i64 (mn : Int)), by simp only [Pj.puts, List.foldl_cons, List.foldl_nil, Act.put, List.setIfInBounds_toArray, List.set_cons_zero, List.set_cons_succ, Pj.vset, Nat.reduceEqDiff, if_true, if_false, e8, e9], HJ.out.more HP.out (by decide) (by decide) hL (Kept.refl _) (rfl)⟩
          | 11, ho =>
            simp only [List.getElem?_toArray, List.getElem?_cons_zero, List.getElem?_cons_succ, Option.some.injEq] at ho
            have HJ := Lib.hid hJ
            clear hJ
            subst ho
            refine Pj.Step.free rfl ?_
            simp only [Pj.puts, List.foldl_cons, List.foldl_nil, Act.put, List.setIfInBounds_toArray, List.set_cons_zero, List.set_cons_succ]
            go_simp
            exact hK _ _ ⟨Pj.vset V 11 (.int .i64 (lo : Int)), by simp only [Pj.puts, List.foldl_cons, List.foldl_nil, Act.put, List.setIfInBounds_toArray, List.set_cons_zero, List.set_cons_succ, Pj.vset, Nat.reduceEqDiff, if_true, if_false], HJ.out.more HP.out (by decide) (by decide) hL (Kept.refl _) (rfl)⟩
          | 12, ho =>
            simp only [List.getElem?_toArray, List.getElem?_cons_zero, List.getElem?_cons_succ, Option.some.injEq] at ho
            have e10 : V 10 = .int .i64 (mn : Int) := hJ.h 10 (hdep 10 (by rw [← ho]; kernel_rfl))
            have e11 : V 11 = .int .i64 (lo : Int) := hJ.h 11 (hdep 11 (by rw [← ho]; kernel_rfl))
            have HJ := Lib.hid hJ
            clear hJ
            subst ho
            refine Pj.Step.free rfl ?_
            simp only [Pj.puts, List.foldl_cons, List.foldl_nil, Act.put, List.setIfInBounds_toArray, List.set_cons_zero, List.set_cons_succ, e10, e11]
            go_simp
            exact hK _ _ ⟨Pj.vset V 12 (.int .i64 (h9 : Int)), by simp only [Pj.puts, List.foldl_cons, List.foldl_nil, Act.put, List.setIfInBounds_toArray, List.set_cons_zero, List.set_cons_succ, Pj.vset, Nat.reduceEqDiff, if_true, if_false, e10, e11], HJ.out.more HP.out (by decide) (by decide) hL (Kept.refl _) (rfl)⟩
          | 13, ho =>
            simp only [List.getElem?_toArray, List.getElem?_cons_zero, List.getElem?_cons_succ, Option.some.injEq] at ho
            have e2 : V 2 = .int .i64 (ii : Int) := hJ.h 2 (hdep 2 (by rw [← ho]; kernel_rfl))
            have e7 : V 7 = .int .i64 (l9 : Int) := hJ.h 7 (hdep 7 (by rw [← ho]; kernel_rfl))
            have e12 : V 12 = .int .i64 (h9 : Int) := hJ.h 12 (hdep 12 (by rw [← ho]; kernel_rfl))
            have HJ := Lib.hid hJ
            clear hJ
            subst ho
            refine Pj.Step.free rfl ?_
            simp only [Pj.puts, List.foldl_cons, List.foldl_nil, Act.put, List.setIfInBounds_toArray, List.set_cons_zero, List.set_cons_succ, e2, e7, e12]
            go_simp
            exact hK _ _ ⟨Pj.vset V 13 (.agg #[.int .i64 (ii : Int), .int .i64 (l9 : Int), .int .i64 (h9 : Int)]), by simp only [Pj.puts, List.foldl_cons, List.foldl_nil, Act.put, List.setIfInBounds_toArray, List.set_cons_zero, List.set_cons_succ, Pj.vset, Nat.reduceEqDiff, if_true, if_false, e2, e7, e12], HJ.out.more HP.out (by decide) (by decide) hL (Kept.refl _) (rfl)⟩
          | 14, ho =>
            simp only [List.getElem?_toArray, List.getElem?_cons_zero, List.getElem?_cons_succ, Option.some.injEq] at ho
            have HJ := Lib.hid hJ
            clear hJ
            subst ho
            refine Pj.Step.free rfl ?_
            refine Pj.oper_alloc_block 84 rfl #[.int .i64 0, .int .i64 0, .int .i64 0] (by kernel_rfl) ?_
            simp only [Pj.puts, List.foldl_cons, List.foldl_nil, Act.put, List.setIfInBounds_toArray, List.set_cons_zero, List.set_cons_succ]
            exact hK _ _ ⟨Pj.vset V 14 (.pointer (some ⟨w.heap.size, 0, none⟩)), by simp only [Pj.puts, List.foldl_cons, List.foldl_nil, Act.put, List.setIfInBounds_toArray, List.set_cons_zero, List.set_cons_succ, Pj.vset, Nat.reduceEqDiff, if_true, if_false], HJ.out.made HP.out (by decide) hopen hL rfl⟩
          | 15, ho =>
            simp only [List.getElem?_toArray, List.getElem?_cons_zero, List.getElem?_cons_succ, Option.some.injEq] at ho
            have lia := hdep 14 (by rw [← ho]; kernel_rfl)
            obtain ⟨b, e14, hwb, hbz⟩ := hJ.z lia hopen
            have e13 : V 13 = .agg #[.int .i64 (ii : Int), .int .i64 (l9 : Int), .int .i64 (h9 : Int)] := hJ.h 13 (hdep 13 (by rw [← ho]; kernel_rfl))
            have HJ := Lib.hid hJ
            clear hJ
            subst ho
            refine Pj.Step.free rfl ?_
            simp only [Pj.puts, List.foldl_cons, List.foldl_nil, Act.put, List.setIfInBounds_toArray, List.set_cons_zero, List.set_cons_succ, e14, e13]
            refine Pj.oper_store_block 84 _ _ rfl b #[.int .i64 (ii : Int), .int .i64 (l9 : Int), .int .i64 (h9 : Int)] #[.int .i64 0, .int .i64 0, .int .i64 0] 84 rfl rfl hbz (by kernel_rfl) rfl (by simp [Value.oneCell']) ?_
            exact hK _ _ ⟨Pj.vset V 15 undef, by simp only [Pj.puts, List.foldl_cons, List.foldl_nil, Act.put, List.setIfInBounds_toArray, List.set_cons_zero, List.set_cons_succ, Pj.vset, Nat.reduceEqDiff, if_false, e14, e13], HJ.out.stored HP.out (by decide) lia hL e14 hwb hbz rfl⟩
          | n + 16, ho => simp at ho
        case ehe =>
          rintro L a w ⟨V, rfl, hJ⟩ hall
          obtain ⟨b, e14, hwb, hbx⟩ := hJ.x (hall 15 (by decide))
          have HKj := Lib.hid hJ.kp
          clear hJ hall
          simp only [Pj.puts, List.foldl_cons, List.foldl_nil, Act.put, List.setIfInBounds_toArray, List.set_cons_zero, List.set_cons_succ, e14]
          clear e14
          obtain ⟨wa, rfl⟩ : ∃ wa, wa = w := ⟨_, rfl⟩
          have hown1 := own_kept HOWN.out HKj.out
          have HOW1 := Lib.hid hown1
          have HVA := Lib.hid (HPL.out.kept HKj.out)
          have c := box1 HVA.out
          obtain ⟨d0, d1, d2⟩ := box3c hbx
          have hws := HKj.out.size
          clear hown1 hbx hxmx hxmn hxl hxh f1 f1t f2 f3 f4 f5 f6
          by_cases c3 : l9 < h9
          · have hd3 : decide (l9 < h9) = true := decide_eq_true c3
            have hsel : selP q f e n ii = [((ii : Int), (l9 : Int), (h9 : Int))] := by
              have h1 := HLO.out
              have h2 := HHI.out
              have h3 := HMX.out
              have h4 := HMN.out
              have h5 := HL9.out
              have h6 := HH9.out
              rw [selP_some (by rw [h1]; omega) (by rw [h1]; omega), h1, h2, ← h3, ← h4, ← h5, ← h6]
            have HSEL := Lib.hid (show spv (selL q f e n (ixs (pre ++ [(⟨ii, hi⟩ : { k : Nat // k < nP n q })]))) = spv (selL q f e n (ixs pre)) ++ [.int .i64 (ii : Int), .int .i64 (l9 : Int), .int .i64 (h9 : Int)] ∧ (selL q f e n (ixs (pre ++ [(⟨ii, hi⟩ : { k : Nat // k < nP n q })]))).length = (selL q f e n (ixs pre)).length + 1 by
              rw [ixs_snoc, selL_snoc, hsel, spv_append, List.length_append]
              exact ⟨rfl, rfl⟩)
            clear hsel
            gi_wp2_with (gi_at_builtin; refine wpListIn_append_own_at _ rfl _ _ 56 rfl wo.heap.size 84 i0 (.agg #[.int .i64 0, .int .i64 0, .int .i64 0]) 3 24 Try.underlying56 HI.out.1 HI.out.2.1 HI.out.2.2.1 HI.out.2.2.2 rfl (by decide) _ _ _ rfl (HOW1.out.alloc _) ⟨wa.heap.size, 0, none⟩ 1 1 [.int .i64 (ii : Int), .int .i64 (l9 : Int), .int .i64 (h9 : Int)] rfl rfl ?c1 ?c2 ?c3 ?c4 ?c5 ?_)
            case c1 =>
              intro j' u hj'
              match j', hj' with
              | 0, hj' => simp at hj'; subst hj'; simp [Addr.add]
              | 1, hj' => simp at hj'; subst hj'; simp [Addr.add]
              | 2, hj' => simp at hj'; subst hj'; simp [Addr.add]
            case c2 => intro u hu; simp at hu; rcases hu with rfl | rfl | rfl <;> rfl
            case c3 => unfold maxLen; omega
            case c4 => omega
            case c5 => simp; omega
            intro v' w9 hown9 hgrow _ hat
            obtain ⟨a9, c9, hv9⟩ := slice_of_own1 hown9
            have kx := HKj.out.alloc (.cells #[.int .i64 (ii : Int), .int .i64 (l9 : Int), .int .i64 (h9 : Int)] 84)
            have hown1 := own_kept HOWN.out kx
            have hpl9 := block_grown (HPL.out.kept kx) hgrow (fun e => HRL.out (HVR.out _ e.symm))
            have hR9 : ∀ g, v'.ownBlock = some g → R g := fun g e => by
              rcases hat with h | h
              · exact HVR.out g (h ▸ e)
              · rw [h] at e
                cases e
                exact HRN.out _ (by have := kx.size; simp; omega)
            have hpg : some (p + 3) ≠ v'.ownBlock := fun e => HRL.out (hR9 _ e.symm)
            have hset : w9.grownBy (w9.setCell ⟨p + 3, 0, none⟩ v') (some (p + 3)) := ⟨rfl, rfl, rfl, by simp, fun k _ hne => Below.heap_setCell w9 ⟨p + 3, 0, none⟩ v' k (fun e => hne (by rw [e]))⟩
            have HE1 := Lib.hid ((((others_kept kx).trans (others_own hown1 hgrow))).trans (KeepsOthers.setCell w9 ⟨p + 3, 0, none⟩ v'))
            have HE2 := Lib.hid (((CellsBut.of_kept kx).trans (but_own hgrow (fun j e => Or.inl (HVR.out j e)))).trans (CellsBut.setCell (R := fun j => R j ∨ j = p + 3) (b := p + 3) (i := 0) w9 v' (.inr rfl)))
            have HE3 := Lib.hid (((kept_gr1 (HB.out.trans (Below.mono kx (by omega))) hgrow (fun g e => by have := (HOWN.out.lt g e).1; omega))).setCell (p := ⟨p + 3, 0, none⟩) (by show wo.heap.size ≤ p + 3; omega) v')
            have HE4 := Lib.hid (own_own1 hown9 hset hpg)
            have HE5 := Lib.hid (show BlockAt (w9.setCell ⟨p + 3, 0, none⟩ v') (p + 3) #[v'] 56 by have := hpl9.set (i := 0) v'; simpa using this)
            have HE6 := Lib.hid hR9
            have f0 := hpl9.free 0
            have c0 := box1 hpl9
            have hs9 : W.heap.size ≤ (w9.setCell ⟨p + 3, 0, none⟩ v').heap.size := by have := kx.size; have := hgrow.size; simp only [World.size_setCell]; omega
            subst hv9
            clear hown9 hgrow hat kx hown1 hpl9 hR9 hpg hset c d0 d1 d2
            gi_wp2
            refine ⟨HE1.out, HE2.out, ⟨⟨_, HE5.out, ?_, HE6.out⟩, ⟨HFr.out.but HE2.out HNF.out, HTr.out.but HE2.out HNT.out, HZr.out.but HE2.out HNZ.out⟩, by omega, HE3.out⟩⟩
            rw [HSEL.out.1, HSEL.out.2]
            exact HE4.out
          · have hd3 : decide (l9 < h9) = false := decide_eq_false c3
            have hsel : selP q f e n ii = [] := selP_none (by
              have h1 := HLO.out
              have h2 := HHI.out
              have h3 := HMX.out
              have h4 := HMN.out
              have h5 := HL9.out
              have h6 := HH9.out
              rw [h1]
              omega)
            have HSEL := Lib.hid (show selL q f e n (ixs (pre ++ [(⟨ii, hi⟩ : { k : Nat // k < nP n q })])) = selL q f e n (ixs pre) by rw [ixs_snoc, selL_snoc, hsel, List.append_nil])
            clear hsel
            gi_wp2
            refine ⟨others_kept HKj.out, CellsBut.of_kept HKj.out, ⟨⟨_, HVA.out, ?_, HVR.out⟩, ⟨HFr.out.kept HKj.out, HTr.out.kept HKj.out, HZr.out.kept HKj.out⟩, by omega, HB.out.trans (Below.mono HKj.out (by omega))⟩⟩
            rw [HSEL.out]
            exact HOW1.out
  case done =>
    rintro D ys W hD hys ⟨⟨v, hpl, hown, hvR⟩, _, hx2, hB⟩ hK
    have hall : selL q f e n (ixs ys) = spL q f e := by
      rw [hys]
      exact selL_all hqb.1 hen.1 hen.2 (by have h := nP_lt (n := n) (q := q) (k := nP n q) hqb.1; omega)
    rw [hall, spL_length] at hown
    have hown' := own_own hown (grown_put W D (.deferred none)) (fun k e => by cases e; exact ⟨_, hK, rfl⟩)
    obtain ⟨a, cap, rfl, hcap, hst⟩ := parts_own hown' (spL_length q f e)
    have c := box1 hpl
    have HB := Lib.hid hB
    have HST := Lib.hid hst
    have HKD := Lib.hid hK
    clear hpl hown hvR hB hst hown' hcap hall hK
    go_wp2
    refine noGoto_ret ⟨by simp, .inl ⟨_, _, rfl, run_takeDeferred HKD.out, ?_⟩⟩
    have k2 : Kept wo (W.putObj D (.deferred none)) := Below.grown HB.out (grown_put W D (.deferred none)) (by have := HB.out.size; simp; omega) (fun k e => by cases e; omega)
    refine ⟨.tuple #[.slice a (spN q f e) cap, .int .i64 0], ?_, a, cap, rfl, HST.out, k2⟩
    simp [results, Try.f30, go_sem]
  case stop =>
    rintro D c pre W hD ⟨k, hk, hpre⟩ ⟨⟨rfl, i, hil, hei⟩, ⟨v, hpl, hown, hvR⟩, _, hx2, hB⟩ hK
    have hall : selL q f e n (ixs pre) = spL q f e := by
      rw [hpre]
      refine selL_all hqb.1 hen.1 hen.2 ?_
      have hik : i.1 = k := by
        have h1 : (ixs pre).getLast? = some i.1 := by unfold ixs; rw [List.getLast?_map, hil]; rfl
        rw [hpre] at h1
        simpa [List.range_succ] using h1.symm
      rw [Nat.succ_mul, ← hik]
      omega
    rw [hall, spL_length] at hown
    clear hil hei
    have hown' := own_own hown (grown_put W D (.deferred none)) (fun k e => by cases e; exact ⟨_, hK, rfl⟩)
    obtain ⟨a, cap, rfl, hcap, hst⟩ := parts_own hown' (spL_length q f e)
    have c := box1 hpl
    have HB := Lib.hid hB
    have HST := Lib.hid hst
    have HKD := Lib.hid hK
    clear hpl hown hvR hB hst hown' hcap hall hK
    gi_wp2
    go_wp2
    refine noGoto_ret ⟨by simp, .inl ⟨_, _, rfl, run_takeDeferred HKD.out, ?_⟩⟩
    have k2 : Kept wo (W.putObj D (.deferred none)) := Below.grown HB.out (grown_put W D (.deferred none)) (by have := HB.out.size; simp; omega) (fun k e => by cases e; omega)
    refine ⟨.tuple #[.slice a (spN q f e) cap, .int .i64 0], ?_, a, cap, rfl, HST.out, k2⟩
    simp [results, Try.f30, go_sem]
end Go.Proofs.Ytlncjheifkbomaa
