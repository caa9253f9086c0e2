/- silolaw20.Heavy, wakes, num: how much is played (no conditions). -/
import Derived.Test.YtdllenoclnmmdaaAskM
namespace Go.Proofs.Ytdllenoclnmmdaa
open Go.RowKit Go.Shelf
attribute [local go_sem] Oper.semAt_some

/-- how much texts are, as the program reckons it: beyond a million it stops -/
def sumT (ss : List ByteArray) (l : Nat) : Nat → Int
  | 0 => l
  | k + 1 => if sumT ss l k < 1048576 then sumT ss l k + ((ss.getD k ByteArray.empty).size : Int) else sumT ss l k
theorem sumT_stays (ss : List ByteArray) (l k : Nat) (h : ¬ sumT ss l k < 1048576) : ∀ j, sumT ss l (k + j) = sumT ss l k
  | 0 => rfl
  | j + 1 => by
    have ih := sumT_stays ss l k h j
    show (if sumT ss l (k + j) < 1048576 then _ else sumT ss l (k + j)) = _
    rw [ih, if_neg h]
theorem sumT_bd (ss : List ByteArray) (l : Nat) (hl : l ≤ 8796093021952) (h : ∀ q, (ss.getD q ByteArray.empty).size ≤ 140737488351232) : ∀ k, (l : Int) ≤ sumT ss l k ∧ sumT ss l k ≤ 281474976710656
  | 0 => ⟨Int.le_refl _, by show (l : Int) ≤ _; omega⟩
  | k + 1 => by
    have ih := sumT_bd ss l hl h k
    have hk := h k
    show (l : Int) ≤ (if sumT ss l k < 1048576 then _ else sumT ss l k) ∧ (if sumT ss l k < 1048576 then _ else sumT ss l k) ≤ 281474976710656
    split <;> omega
theorem getD_small {ss : List ByteArray} {n : Nat} (h : ∀ s ∈ ss, s.size ≤ n) (q : Nat) : (ss.getD q ByteArray.empty).size ≤ n := by
  by_cases hq : q < ss.length
  · exact h _ (by simp [List.getD, hq])
  · have : ss.getD q ByteArray.empty = ByteArray.empty := by simp [List.getD, Nat.not_lt.1 hq]
    rw [this]
    exact Nat.zero_le _
def sumA (ss : List ByteArray) : Int := sumT ss ss.length ss.length
theorem TextsIn.sum_bd {W : World} {a : Option Addr} {l cap : Nat} {ss : List ByteArray} (h : TextsIn W a l cap ss) : (l : Int) ≤ sumA ss ∧ sumA ss ≤ 281474976710656 := by
  unfold sumA
  rw [h.strs.len_eq]
  exact sumT_bd ss l h.few (getD_small h.short) l
set_option maxRecDepth 100000 in
theorem texts_eq (a : Option Addr) (l cap : Nat) (ss : List ByteArray) (w : World) (h : TextsIn w a l cap ss) :
    Calls Try.prog 41 #[.slice a l cap] w fun e w' => e = .returned (.int .i64 (sumA ss)) ∧ w = w' := by
  have hle := h.few
  have HH := Lib.hid h.strs
  have HB := Lib.hid (sumT_bd ss l h.few (getD_small h.short))
  have HE := Lib.hid (show sumA ss = sumT ss l l by unfold sumA; rw [h.strs.len_eq])
  have HZ := Lib.hid (getD_small h.short)
  rw [HE.out]
  clear h HE
  go_enter Try.func41, Try.ntmps41
  go_wp2
  go_loopw [3, 4] (fun m i wr => ∃ k : Nat, k ≤ l ∧ i = .int .i64 k ∧ m = .int .i64 (sumT ss l k) ∧ w = wr) (fun _ i _ => l - (intOf i).toNat)
  case atStart => exact ⟨0, by omega, rfl, rfl, rfl⟩
  case round =>
    obtain ⟨k, hk, rfl, rfl, rfl⟩ := hrel
    by_cases hlt : k < l
    · have hst := sumT_stays ss l k
      have hsu : sumT ss l (k + 1) = if sumT ss l k < 1048576 then sumT ss l k + ((ss.getD k ByteArray.empty).size : Int) else sumT ss l k := rfl
      have HST := Lib.hid hst
      have HSU := Lib.hid hsu
      have hbd := HB.out k
      have hzk := HZ.out k
      clear hst hsu
      generalize hT : sumT ss l k = T at HST HSU hbd ⊢
      have HT := Lib.hid hT
      clear hT
      by_cases hn : T < 1048576
      · obtain ⟨b, off, ha, hc⟩ := HH.out.cells
        obtain rfl := ha (by omega)
        obtain ⟨hb, hcell⟩ := hc k hlt
        have hs := HH.out.size k hlt
        generalize ss.getD k ByteArray.empty = s at hcell hs HSU hzk
        clear hc ha
        go_wp2
        go_roundw
        case rel => exact ⟨k + 1, by omega, by go_num, by rw [HSU.out, if_pos hn], by trivial⟩
        case measure => simp [intOf]; omega
      · go_wp2
        go_ret
        refine ⟨?_, rfl⟩
        have := HST.out hn (l - k)
        rw [show k + (l - k) = l by omega] at this
        show Ending.returned (.int .i64 T) = _
        rw [this]
    · obtain rfl : k = l := by omega
      go_wp2
      go_ret
      exact ⟨rfl, rfl⟩
theorem num20_any (n : Int) (w : World) : Calls Try.prog 14 #[.int .i64 n] w fun e w' => e = .returned (.int .i64 n) ∧ w = w' := by
  go_enter Try.func14, Try.ntmps14
  go_wp2
  go_ret
  exact ⟨rfl, rfl⟩
theorem nil_strs (w : World) (a : Option Addr) : StrsIn w a 0 [] := ⟨rfl, by decide, (fun s hs => by cases hs), 0, 0, fun h => absurd h (Nat.lt_irrefl 0), fun i hi => absurd hi (Nat.not_lt_zero i)⟩
set_option maxRecDepth 100000 in
theorem wakes20_any (w : World) : Calls Try.prog 19 #[] w fun e w' => e = .returned (.bool true) ∧ Kept w w' := by
  have HM := Lib.hid (show mfT ⟨0, [], []⟩ = ⟨#[77, 65, 78, 70, 0, 0, 0]⟩ from rfl)
  go_enter Try.func19, Try.ntmps19
  go_wp2_with fail
  refine (mbytes_good 0 none 0 0 none 0 0 [] [] _ (nil_strs _ _) (nil_strs _ _) (by decide)).mono ?_
  rw [HM.out]
  rintro e w1 ⟨rfl, hk⟩
  have HK := Lib.hid hk
  clear hk
  go_wp2_with fail
  refine (num20_any _ _).mono ?_
  rintro e w' ⟨rfl, rfl⟩
  go_wp2
  go_ret
  exact ⟨rfl, HK.out⟩
/-- what is said by 'not heavy' -/
def LightM (lm : Nat) (ms : List Mf) : Prop := ∀ i, i < lm → sumA (ms.getD i mf00).bs ≤ 6000 ∧ sumA (ms.getD i mf00).us ≤ 6000
def HeavyP (w : World) (lm ls : Nat) (ms : List Mf) (e : Ending) (w' : World) : Prop := Kept w w' ∧ (e = .returned (.bool true) ∨ e = .returned (.bool false) ∧ LightM lm ms ∧ ls ≤ 6000)
set_option maxRecDepth 100000 in
set_option maxHeartbeats 4000000 in
theorem heavy20_any (am : Option Addr) (lm cm : Nat) (ms : List Mf) (aa : Option Addr) (ls cs : Nat) (ss : List ByteArray) (wo : World) (hm : MfsIn wo am lm ms) (hs : TextsIn wo aa ls cs ss) :
    Calls Try.prog 8 #[.agg #[.slice am lm cm, .slice aa ls cs]] wo (HeavyP wo lm ls ms) := by
  have HMS := Lib.hid hm
  have HSS := Lib.hid hs
  have hlm := hm.few
  have HB0 := Lib.hid (BlockAt.new wo #[.slice am lm cm, .slice aa ls cs] 25)
  have HK0 := Lib.hid ((Kept.refl wo).alloc (.cells #[.slice am lm cm, .slice aa ls cs] 25))
  have hbs := hs.sum_bd
  clear hm hs
  go_enter Try.func8, Try.ntmps8
  go_upto_region 1 with (fail)
  generalize wo.alloc (.cells #[.slice am lm cm, .slice aa ls cs] 25) = w1 at *
  have HBX0 := Lib.hid (show ∀ w, Kept w1 w → w.cell? ⟨wo.heap.size, 0, none⟩ = some (.slice am lm cm) ∧ w.cell? ⟨wo.heap.size, 1, none⟩ = some (.slice aa ls cs) from fun w k => ⟨(HB0.out.kept k).cell 0, (HB0.out.kept k).cell 1⟩)
  obtain ⟨a0, a1⟩ := HBX0.out _ (Kept.refl _)
  go_wp2_with fail
  refine (texts_eq aa ls cs ss _ ((HSS.out.kept HK0.out))).mono ?_
  rintro e w2 ⟨rfl, rfl⟩
  obtain ⟨N, hN⟩ : ∃ N, N = sumA ss := ⟨_, rfl⟩
  rw [← hN] at hbs ⊢
  clear hN a0 a1
  go_wp2_with fail
  go_loopw [3, 4] (fun nv kv wr => ∃ (k : Nat) (n : Int), k ≤ lm ∧ kv = .int .i64 k ∧ nv = .int .i64 n ∧ (ls : Int) ≤ n ∧ 0 ≤ n ∧ n ≤ 1125899906842624 ∧ Hid (∀ i, i < k → sumA (ms.getD i mf00).bs ≤ n ∧ sumA (ms.getD i mf00).us ≤ n) ∧ Kept w1 wr) (fun _ kv _ => lm - (intOf kv).toNat)
  case atStart => exact ⟨0, N, by omega, rfl, rfl, by omega, by omega, by omega, Lib.hid (fun i hi => absurd hi (Nat.not_lt_zero i)), Kept.refl _⟩
  case round =>
    obtain ⟨k, n, hk, rfl, rfl, hn1, hn0, hn2, HA, hkr⟩ := hrel
    have HKR := Lib.hid hkr
    obtain ⟨a0, a1⟩ := HBX0.out _ hkr
    have HBX := Lib.hid (show ∀ w, Kept wr w → w.cell? ⟨wo.heap.size, 0, none⟩ = some (.slice am lm cm) ∧ w.cell? ⟨wo.heap.size, 1, none⟩ = some (.slice aa ls cs) from fun w k => HBX0.out _ (HKR.out.trans k))
    clear hkr
    by_cases hend : k < lm ∧ n < 1048576
    · obtain ⟨hlt, hnn⟩ := hend
      have hd1 : decide (k < lm) = true := decide_eq_true hlt
      have hd2 : decide (n < 1048576) = true := decide_eq_true hnn
      obtain ⟨bm, om, ha, hc⟩ := HMS.out.cells
      obtain rfl := ha (by omega)
      obtain ⟨ab, cb, au, cu, hB, hU, _, hlb, c0, c1, c2⟩ := hc k hlt
      have HASN := Lib.hid (show ∀ z : Int, n ≤ z → sumA (ms.getD k mf00).bs ≤ z → sumA (ms.getD k mf00).us ≤ z → ∀ i, i < k + 1 → sumA (ms.getD i mf00).bs ≤ z ∧ sumA (ms.getD i mf00).us ≤ z from fun z h0 h1 h2 i hi => by
        by_cases e : i = k
        · subst e; exact ⟨h1, h2⟩
        · have := HA.out i (by omega); omega)
      generalize ms.getD k mf00 = m at *
      obtain ⟨kk, bs, us⟩ := m
      dsimp only at *
      have hsb := hB.sum_bd
      have hsu := hU.sum_bd
      have HTB := Lib.hid hB
      have HTU := Lib.hid hU
      obtain ⟨mb, hmb⟩ : ∃ mb, mb = bs.length := ⟨_, rfl⟩
      obtain ⟨mu, hmu⟩ : ∃ mu, mu = us.length := ⟨_, rfl⟩
      rw [← hmb] at HTB c1 hsb
      rw [← hmu] at HTU c2 hsu
      have hkw : Kept wo wr := HK0.out.trans HKR.out
      have HC1 := Lib.hid (show ∀ w, Kept wr w → w.cell? ⟨bm, om + k * 3 + 1, none⟩ = some (.slice ab mb cb) from fun w q => (hkw.trans q).cell hlb c1)
      have HC2 := Lib.hid (show ∀ w, Kept wr w → w.cell? ⟨bm, om + k * 3 + 2, none⟩ = some (.slice au mu cu) from fun w q => (hkw.trans q).cell hlb c2)
      have HTbs := Lib.hid (show ∀ w, Kept wr w → Calls Try.prog 41 #[.slice ab mb cb] w fun e w' => e = .returned (.int .i64 (sumA bs)) ∧ w = w' from fun w q => texts_eq ab mb cb bs w (HTB.out.kept (hkw.trans q)))
      have HTus := Lib.hid (show ∀ w, Kept wr w → Calls Try.prog 41 #[.slice au mu cu] w fun e w' => e = .returned (.int .i64 (sumA us)) ∧ w = w' from fun w q => texts_eq au mu cu us w (HTU.out.kept (hkw.trans q)))
      have h0b : 0 ≤ sumA bs := by omega
      have h0u : 0 ≤ sumA us := by omega
      obtain ⟨n1, hn1'⟩ : ∃ n1, n + sumA bs = n1 := ⟨_, rfl⟩
      obtain ⟨n2, hn2'⟩ : ∃ n2, n1 + sumA us = n2 := ⟨_, rfl⟩
      have HS1 := Lib.hid hn1'
      have HS2 := Lib.hid hn2'
      have HW1 := Lib.hid (show IntKind.i64.wrap n1 = n1 from IntWalk.i64_in _ (by omega))
      have HW2 := Lib.hid (show IntKind.i64.wrap n2 = n2 from IntWalk.i64_in _ (by omega))
      have hbd2 : n2 ≤ 1125899906842624 ∧ 0 ≤ n2 ∧ (ls : Int) ≤ n2 ∧ n ≤ n2 ∧ sumA bs ≤ n2 ∧ sumA us ≤ n2 := by omega
      obtain ⟨q1, q2, q3, q4, q5, q6⟩ := hbd2
      have HAN := Lib.hid (HASN.out n2 q4 q5 q6)
      clear hB hU c0 c1 c2 hc ha hmb hmu hn1' hn2' hkw q4 q5 q6 hsb hsu h0b h0u HASN
      go_wp2_with fail
      refine Pj.wp_region_step (fun az0 L az w => ∃ V : Nat → Value, az = Pj.puts [(19, 0), (20, 1), (21, 2), (22, 3), (23, 4), (24, 5), (25, 6), (26, 7), (27, 8), (28, 9), (29, 10), (30, 11), (31, 12), (32, 13), (33, 14), (34, 15), (35, 16), (3, 17)] V az0 ∧ Pj.J wr [Pj.Is (.int .i64 n), Pj.Is (.pointer (some ⟨wo.heap.size, 0, none⟩)), Pj.Is (.slice (some ⟨bm, om, none⟩) lm cm), Pj.Is (.int .i64 k), Pj.Is (.pointer (some ⟨bm, om + k * 3, none⟩)), Pj.Is (.pointer (some ⟨bm, om + k * 3 + 1, none⟩)), Pj.Is (.slice ab mb cb), Pj.Is (.int .i64 (sumA bs)), Pj.Is (.int .i64 n1), Pj.Is (.pointer (some ⟨wo.heap.size, 0, none⟩)), Pj.Is (.slice (some ⟨bm, om, none⟩) lm cm), Pj.Is (.int .i64 k), Pj.Is (.pointer (some ⟨bm, om + k * 3, none⟩)), Pj.Is (.pointer (some ⟨bm, om + k * 3 + 2, none⟩)), Pj.Is (.slice au mu cu), Pj.Is (.int .i64 (sumA us)), Pj.Is (.int .i64 n2), Pj.Is (.int .i64 n2)] L V w ∧ (¬ L 17 → V 17 = .int .i64 n) ∧ (L 17 → L 0)) (by as_aux_lemma => kernel_rfl) (by as_aux_lemma => kernel_rfl) ?eh0 ?ehs ?ehe
      case eh0 =>
        intro L hL
        exact ⟨_, Pj.puts_self _ (fun j => ([19, 20, 21, 22, 23, 24, 25, 26, 27, 28, 29, 30, 31, 32, 33, 34, 35, 3] : List Nat).getD j 0) [0, 1, 2, 3, 4, 5, 6, 7, 8, 9, 10, 11, 12, 13, 14, 15, 16, 17], Pj.J.none (n := 18) (Nat.le_refl _) hL ((Kept.refl _).drew), fun _ => rfl, fun h => absurd h (hL 17 (by decide))⟩
      case ehs =>
        rintro L L' az w iz opz Kq ⟨V, rfl, hJ, hi17, hl17_0⟩ ho hopen hdep hL hKq
        have hP : Pj.AllStay [Pj.Is (.int .i64 n), Pj.Is (.pointer (some ⟨wo.heap.size, 0, none⟩)), Pj.Is (.slice (some ⟨bm, om, none⟩) lm cm), Pj.Is (.int .i64 k), Pj.Is (.pointer (some ⟨bm, om + k * 3, none⟩)), Pj.Is (.pointer (some ⟨bm, om + k * 3 + 1, none⟩)), Pj.Is (.slice ab mb cb), Pj.Is (.int .i64 (sumA bs)), Pj.Is (.int .i64 n1), Pj.Is (.pointer (some ⟨wo.heap.size, 0, none⟩)), Pj.Is (.slice (some ⟨bm, om, none⟩) lm cm), Pj.Is (.int .i64 k), Pj.Is (.pointer (some ⟨bm, om + k * 3, none⟩)), Pj.Is (.pointer (some ⟨bm, om + k * 3 + 2, none⟩)), Pj.Is (.slice au mu cu), Pj.Is (.int .i64 (sumA us)), Pj.Is (.int .i64 n2), Pj.Is (.int .i64 n2)] := ⟨Pj.Is.stays _, Pj.Is.stays _, Pj.Is.stays _, Pj.Is.stays _, Pj.Is.stays _, Pj.Is.stays _, Pj.Is.stays _, Pj.Is.stays _, Pj.Is.stays _, Pj.Is.stays _, Pj.Is.stays _, Pj.Is.stays _, Pj.Is.stays _, Pj.Is.stays _, Pj.Is.stays _, Pj.Is.stays _, Pj.Is.stays _, Pj.Is.stays _, trivial⟩
        have HP := Lib.hid hP
        clear hP
        match iz, ho with
        | 0, ho =>
          simp only [List.getElem?_toArray, List.getElem?_cons_zero, Option.some.injEq] at ho
          have ei17 : V 17 = .int .i64 n := hi17 (fun h => hopen (hl17_0 h))
          have HJ := Lib.hid hJ
          clear hJ
          subst ho
          refine Pj.Step.free rfl ?_
          simp only [Pj.puts, List.foldl_cons, List.foldl_nil, Act.put, List.setIfInBounds_toArray, List.set_cons_zero, List.set_cons_succ, ei17]
          go_simp
          exact hKq _ _ ⟨Pj.vset V 0 (.int .i64 n), by simp only [Pj.puts, List.foldl_cons, List.foldl_nil, Act.put, List.setIfInBounds_toArray, List.set_cons_zero, List.set_cons_succ, Pj.vset, Nat.reduceEqDiff, if_true, if_false, ei17], HJ.out.more HP.out hL (Kept.refl _) (rfl), fun h => by rw [Pj.vset_other _ _ (by decide)]; exact hi17 (fun q => h ((hL 17).2 (.inr q))), fun h => (hL 0).2 (((hL 17).1 h).elim (fun e => absurd e (by decide)) (fun q => .inr (hl17_0 q)))⟩
        | 1, ho =>
          simp only [List.getElem?_toArray, List.getElem?_cons_zero, List.getElem?_cons_succ, Option.some.injEq] at ho
          have HJ := Lib.hid hJ
          clear hJ
          subst ho
          refine Pj.Step.free rfl ?_
          simp only [Pj.puts, List.foldl_cons, List.foldl_nil, Act.put, List.setIfInBounds_toArray, List.set_cons_zero, List.set_cons_succ]
          go_simp
          exact hKq _ _ ⟨Pj.vset V 1 (.pointer (some ⟨wo.heap.size, 0, none⟩)), by simp only [Pj.puts, List.foldl_cons, List.foldl_nil, Act.put, List.setIfInBounds_toArray, List.set_cons_zero, List.set_cons_succ, Pj.vset, Nat.reduceEqDiff, if_true, if_false], HJ.out.more HP.out hL (Kept.refl _) (rfl), fun h => by rw [Pj.vset_other _ _ (by decide)]; exact hi17 (fun q => h ((hL 17).2 (.inr q))), fun h => (hL 0).2 (((hL 17).1 h).elim (fun e => absurd e (by decide)) (fun q => .inr (hl17_0 q)))⟩
        | 2, ho =>
          simp only [List.getElem?_toArray, List.getElem?_cons_zero, List.getElem?_cons_succ, Option.some.injEq] at ho
          have e1 : V 1 = .pointer (some ⟨wo.heap.size, 0, none⟩) := hJ.h 1 (hdep 1 (by rw [← ho]; kernel_rfl))
          obtain ⟨d0, d1⟩ := HBX.out _ hJ.kp
          have HJ := Lib.hid hJ
          clear hJ
          subst ho
          refine Pj.Step.free rfl ?_
          simp only [Pj.puts, List.foldl_cons, List.foldl_nil, Act.put, List.setIfInBounds_toArray, List.set_cons_zero, List.set_cons_succ, e1]
          go_simp
          exact hKq _ _ ⟨Pj.vset V 2 (.slice (some ⟨bm, om, none⟩) lm cm), by simp only [Pj.puts, List.foldl_cons, List.foldl_nil, Act.put, List.setIfInBounds_toArray, List.set_cons_zero, List.set_cons_succ, Pj.vset, Nat.reduceEqDiff, if_true, if_false, e1], HJ.out.more HP.out hL (Kept.refl _) (rfl), fun h => by rw [Pj.vset_other _ _ (by decide)]; exact hi17 (fun q => h ((hL 17).2 (.inr q))), fun h => (hL 0).2 (((hL 17).1 h).elim (fun e => absurd e (by decide)) (fun q => .inr (hl17_0 q)))⟩
        | 3, ho =>
          simp only [List.getElem?_toArray, List.getElem?_cons_zero, List.getElem?_cons_succ, Option.some.injEq] at ho
          have HJ := Lib.hid hJ
          clear hJ
          subst ho
          refine Pj.Step.free rfl ?_
          simp only [Pj.puts, List.foldl_cons, List.foldl_nil, Act.put, List.setIfInBounds_toArray, List.set_cons_zero, List.set_cons_succ]
          go_simp
          exact hKq _ _ ⟨Pj.vset V 3 (.int .i64 k), by simp only [Pj.puts, List.foldl_cons, List.foldl_nil, Act.put, List.setIfInBounds_toArray, List.set_cons_zero, List.set_cons_succ, Pj.vset, Nat.reduceEqDiff, if_true, if_false], HJ.out.more HP.out hL (Kept.refl _) (rfl), fun h => by rw [Pj.vset_other _ _ (by decide)]; exact hi17 (fun q => h ((hL 17).2 (.inr q))), fun h => (hL 0).2 (((hL 17).1 h).elim (fun e => absurd e (by decide)) (fun q => .inr (hl17_0 q)))⟩
        | 4, ho =>
          simp only [List.getElem?_toArray, List.getElem?_cons_zero, List.getElem?_cons_succ, Option.some.injEq] at ho
          have e2 : V 2 = .slice (some ⟨bm, om, none⟩) lm cm := hJ.h 2 (hdep 2 (by rw [← ho]; kernel_rfl))
          have e3 : V 3 = .int .i64 k := hJ.h 3 (hdep 3 (by rw [← ho]; kernel_rfl))
          have HJ := Lib.hid hJ
          clear hJ
          subst ho
          refine Pj.Step.free rfl ?_
          simp only [Pj.puts, List.foldl_cons, List.foldl_nil, Act.put, List.setIfInBounds_toArray, List.set_cons_zero, List.set_cons_succ, e2, e3]
          go_simp
          exact hKq _ _ ⟨Pj.vset V 4 (.pointer (some ⟨bm, om + k * 3, none⟩)), by simp only [Pj.puts, List.foldl_cons, List.foldl_nil, Act.put, List.setIfInBounds_toArray, List.set_cons_zero, List.set_cons_succ, Pj.vset, Nat.reduceEqDiff, if_true, if_false, e2, e3], HJ.out.more HP.out hL (Kept.refl _) (rfl), fun h => by rw [Pj.vset_other _ _ (by decide)]; exact hi17 (fun q => h ((hL 17).2 (.inr q))), fun h => (hL 0).2 (((hL 17).1 h).elim (fun e => absurd e (by decide)) (fun q => .inr (hl17_0 q)))⟩
        | 5, ho =>
          simp only [List.getElem?_toArray, List.getElem?_cons_zero, List.getElem?_cons_succ, Option.some.injEq] at ho
          have e4 : V 4 = .pointer (some ⟨bm, om + k * 3, none⟩) := hJ.h 4 (hdep 4 (by rw [← ho]; kernel_rfl))
          have HJ := Lib.hid hJ
          clear hJ
          subst ho
          refine Pj.Step.free rfl ?_
          simp only [Pj.puts, List.foldl_cons, List.foldl_nil, Act.put, List.setIfInBounds_toArray, List.set_cons_zero, List.set_cons_succ, e4]
          go_simp
          exact hKq _ _ ⟨Pj.vset V 5 (.pointer (some ⟨bm, om + k * 3 + 1, none⟩)), by simp only [Pj.puts, List.foldl_cons, List.foldl_nil, Act.put, List.setIfInBounds_toArray, List.set_cons_zero, List.set_cons_succ, Pj.vset, Nat.reduceEqDiff, if_true, if_false, e4], HJ.out.more HP.out hL (Kept.refl _) (rfl), fun h => by rw [Pj.vset_other _ _ (by decide)]; exact hi17 (fun q => h ((hL 17).2 (.inr q))), fun h => (hL 0).2 (((hL 17).1 h).elim (fun e => absurd e (by decide)) (fun q => .inr (hl17_0 q)))⟩
        | 6, ho =>
          simp only [List.getElem?_toArray, List.getElem?_cons_zero, List.getElem?_cons_succ, Option.some.injEq] at ho
          have e5 : V 5 = .pointer (some ⟨bm, om + k * 3 + 1, none⟩) := hJ.h 5 (hdep 5 (by rw [← ho]; kernel_rfl))
          have c1 := HC1.out _ hJ.kp
          have HJ := Lib.hid hJ
          clear hJ
          subst ho
          refine Pj.Step.free rfl ?_
          simp only [Pj.puts, List.foldl_cons, List.foldl_nil, Act.put, List.setIfInBounds_toArray, List.set_cons_zero, List.set_cons_succ, e5]
          go_simp
          exact hKq _ _ ⟨Pj.vset V 6 (.slice ab mb cb), by simp only [Pj.puts, List.foldl_cons, List.foldl_nil, Act.put, List.setIfInBounds_toArray, List.set_cons_zero, List.set_cons_succ, Pj.vset, Nat.reduceEqDiff, if_true, if_false, e5], HJ.out.more HP.out hL (Kept.refl _) (rfl), fun h => by rw [Pj.vset_other _ _ (by decide)]; exact hi17 (fun q => h ((hL 17).2 (.inr q))), fun h => (hL 0).2 (((hL 17).1 h).elim (fun e => absurd e (by decide)) (fun q => .inr (hl17_0 q)))⟩
        | 7, ho =>
          simp only [List.getElem?_toArray, List.getElem?_cons_zero, List.getElem?_cons_succ, Option.some.injEq] at ho
          have e6 : V 6 = .slice ab mb cb := hJ.h 6 (hdep 6 (by rw [← ho]; kernel_rfl))
          have htx := HTbs.out w hJ.kp
          have HJ := Lib.hid hJ
          clear hJ
          subst ho
          refine Pj.Step.free rfl ?_
          simp only [Pj.puts, List.foldl_cons, List.foldl_nil, Act.put, List.setIfInBounds_toArray, List.set_cons_zero, List.set_cons_succ, e6]
          go_simp
          refine htx.mono ?_
          rintro e w' ⟨rfl, rfl⟩
          exact hKq _ _ ⟨Pj.vset V 7 (.int .i64 (sumA bs)), by simp only [Pj.puts, List.foldl_cons, List.foldl_nil, Act.put, List.setIfInBounds_toArray, List.set_cons_zero, List.set_cons_succ, Pj.vset, Nat.reduceEqDiff, if_true, if_false, e6], HJ.out.more HP.out hL (Kept.refl _) (rfl), fun h => by rw [Pj.vset_other _ _ (by decide)]; exact hi17 (fun q => h ((hL 17).2 (.inr q))), fun h => (hL 0).2 (((hL 17).1 h).elim (fun e => absurd e (by decide)) (fun q => .inr (hl17_0 q)))⟩
        | 8, ho =>
          simp only [List.getElem?_toArray, List.getElem?_cons_zero, List.getElem?_cons_succ, Option.some.injEq] at ho
          have e0 : V 0 = .int .i64 n := hJ.h 0 (hdep 0 (by rw [← ho]; kernel_rfl))
          have e7 : V 7 = .int .i64 (sumA bs) := hJ.h 7 (hdep 7 (by rw [← ho]; kernel_rfl))
          have hs1 := HS1.out
          have hw1 := HW1.out
          have HJ := Lib.hid hJ
          clear hJ
          subst ho
          refine Pj.Step.free rfl ?_
          simp only [Pj.puts, List.foldl_cons, List.foldl_nil, Act.put, List.setIfInBounds_toArray, List.set_cons_zero, List.set_cons_succ, e0, e7]
          go_simp
          exact hKq _ _ ⟨Pj.vset V 8 (.int .i64 n1), by simp only [Pj.puts, List.foldl_cons, List.foldl_nil, Act.put, List.setIfInBounds_toArray, List.set_cons_zero, List.set_cons_succ, Pj.vset, Nat.reduceEqDiff, if_true, if_false, e0, e7], HJ.out.more HP.out hL (Kept.refl _) (rfl), fun h => by rw [Pj.vset_other _ _ (by decide)]; exact hi17 (fun q => h ((hL 17).2 (.inr q))), fun h => (hL 0).2 (((hL 17).1 h).elim (fun e => absurd e (by decide)) (fun q => .inr (hl17_0 q)))⟩
        | 9, ho =>
          simp only [List.getElem?_toArray, List.getElem?_cons_zero, List.getElem?_cons_succ, Option.some.injEq] at ho
          have HJ := Lib.hid hJ
          clear hJ
          subst ho
          refine Pj.Step.free rfl ?_
          simp only [Pj.puts, List.foldl_cons, List.foldl_nil, Act.put, List.setIfInBounds_toArray, List.set_cons_zero, List.set_cons_succ]
          go_simp
          exact hKq _ _ ⟨Pj.vset V 9 (.pointer (some ⟨wo.heap.size, 0, none⟩)), by simp only [Pj.puts, List.foldl_cons, List.foldl_nil, Act.put, List.setIfInBounds_toArray, List.set_cons_zero, List.set_cons_succ, Pj.vset, Nat.reduceEqDiff, if_true, if_false], HJ.out.more HP.out hL (Kept.refl _) (rfl), fun h => by rw [Pj.vset_other _ _ (by decide)]; exact hi17 (fun q => h ((hL 17).2 (.inr q))), fun h => (hL 0).2 (((hL 17).1 h).elim (fun e => absurd e (by decide)) (fun q => .inr (hl17_0 q)))⟩
        | 10, ho =>
          simp only [List.getElem?_toArray, List.getElem?_cons_zero, List.getElem?_cons_succ, Option.some.injEq] at ho
          have e9 : V 9 = .pointer (some ⟨wo.heap.size, 0, none⟩) := hJ.h 9 (hdep 9 (by rw [← ho]; kernel_rfl))
          obtain ⟨d0, d1⟩ := HBX.out _ hJ.kp
          have HJ := Lib.hid hJ
          clear hJ
          subst ho
          refine Pj.Step.free rfl ?_
          simp only [Pj.puts, List.foldl_cons, List.foldl_nil, Act.put, List.setIfInBounds_toArray, List.set_cons_zero, List.set_cons_succ, e9]
          go_simp
          exact hKq _ _ ⟨Pj.vset V 10 (.slice (some ⟨bm, om, none⟩) lm cm), by simp only [Pj.puts, List.foldl_cons, List.foldl_nil, Act.put, List.setIfInBounds_toArray, List.set_cons_zero, List.set_cons_succ, Pj.vset, Nat.reduceEqDiff, if_true, if_false, e9], HJ.out.more HP.out hL (Kept.refl _) (rfl), fun h => by rw [Pj.vset_other _ _ (by decide)]; exact hi17 (fun q => h ((hL 17).2 (.inr q))), fun h => (hL 0).2 (((hL 17).1 h).elim (fun e => absurd e (by decide)) (fun q => .inr (hl17_0 q)))⟩
        | 11, ho =>
          simp only [List.getElem?_toArray, List.getElem?_cons_zero, List.getElem?_cons_succ, Option.some.injEq] at ho
          have HJ := Lib.hid hJ
          clear hJ
          subst ho
          refine Pj.Step.free rfl ?_
          simp only [Pj.puts, List.foldl_cons, List.foldl_nil, Act.put, List.setIfInBounds_toArray, List.set_cons_zero, List.set_cons_succ]
          go_simp
          exact hKq _ _ ⟨Pj.vset V 11 (.int .i64 k), by simp only [Pj.puts, List.foldl_cons, List.foldl_nil, Act.put, List.setIfInBounds_toArray, List.set_cons_zero, List.set_cons_succ, Pj.vset, Nat.reduceEqDiff, if_true, if_false], HJ.out.more HP.out hL (Kept.refl _) (rfl), fun h => by rw [Pj.vset_other _ _ (by decide)]; exact hi17 (fun q => h ((hL 17).2 (.inr q))), fun h => (hL 0).2 (((hL 17).1 h).elim (fun e => absurd e (by decide)) (fun q => .inr (hl17_0 q)))⟩
        | 12, ho =>
          simp only [List.getElem?_toArray, List.getElem?_cons_zero, List.getElem?_cons_succ, Option.some.injEq] at ho
          have e10 : V 10 = .slice (some ⟨bm, om, none⟩) lm cm := hJ.h 10 (hdep 10 (by rw [← ho]; kernel_rfl))
          have e11 : V 11 = .int .i64 k := hJ.h 11 (hdep 11 (by rw [← ho]; kernel_rfl))
          have HJ := Lib.hid hJ
          clear hJ
          subst ho
          refine Pj.Step.free rfl ?_
          simp only [Pj.puts, List.foldl_cons, List.foldl_nil, Act.put, List.setIfInBounds_toArray, List.set_cons_zero, List.set_cons_succ, e10, e11]
          go_simp
          exact hKq _ _ ⟨Pj.vset V 12 (.pointer (some ⟨bm, om + k * 3, none⟩)), by simp only [Pj.puts, List.foldl_cons, List.foldl_nil, Act.put, List.setIfInBounds_toArray, List.set_cons_zero, List.set_cons_succ, Pj.vset, Nat.reduceEqDiff, if_true, if_false, e10, e11], HJ.out.more HP.out hL (Kept.refl _) (rfl), fun h => by rw [Pj.vset_other _ _ (by decide)]; exact hi17 (fun q => h ((hL 17).2 (.inr q))), fun h => (hL 0).2 (((hL 17).1 h).elim (fun e => absurd e (by decide)) (fun q => .inr (hl17_0 q)))⟩
        | 13, ho =>
          simp only [List.getElem?_toArray, List.getElem?_cons_zero, List.getElem?_cons_succ, Option.some.injEq] at ho
          have e12 : V 12 = .pointer (some ⟨bm, om + k * 3, none⟩) := hJ.h 12 (hdep 12 (by rw [← ho]; kernel_rfl))
          have HJ := Lib.hid hJ
          clear hJ
          subst ho
          refine Pj.Step.free rfl ?_
          simp only [Pj.puts, List.foldl_cons, List.foldl_nil, Act.put, List.setIfInBounds_toArray, List.set_cons_zero, List.set_cons_succ, e12]
          go_simp
          exact hKq _ _ ⟨Pj.vset V 13 (.pointer (some ⟨bm, om + k * 3 + 2, none⟩)), by simp only [Pj.puts, List.foldl_cons, List.foldl_nil, Act.put, List.setIfInBounds_toArray, List.set_cons_zero, List.set_cons_succ, Pj.vset, Nat.reduceEqDiff, if_true, if_false, e12], HJ.out.more HP.out hL (Kept.refl _) (rfl), fun h => by rw [Pj.vset_other _ _ (by decide)]; exact hi17 (fun q => h ((hL 17).2 (.inr q))), fun h => (hL 0).2 (((hL 17).1 h).elim (fun e => absurd e (by decide)) (fun q => .inr (hl17_0 q)))⟩
        | 14, ho =>
          simp only [List.getElem?_toArray, List.getElem?_cons_zero, List.getElem?_cons_succ, Option.some.injEq] at ho
          have e13 : V 13 = .pointer (some ⟨bm, om + k * 3 + 2, none⟩) := hJ.h 13 (hdep 13 (by rw [← ho]; kernel_rfl))
          have c2 := HC2.out _ hJ.kp
          have HJ := Lib.hid hJ
          clear hJ
          subst ho
          refine Pj.Step.free rfl ?_
          simp only [Pj.puts, List.foldl_cons, List.foldl_nil, Act.put, List.setIfInBounds_toArray, List.set_cons_zero, List.set_cons_succ, e13]
          go_simp
          exact hKq _ _ ⟨Pj.vset V 14 (.slice au mu cu), by simp only [Pj.puts, List.foldl_cons, List.foldl_nil, Act.put, List.setIfInBounds_toArray, List.set_cons_zero, List.set_cons_succ, Pj.vset, Nat.reduceEqDiff, if_true, if_false, e13], HJ.out.more HP.out hL (Kept.refl _) (rfl), fun h => by rw [Pj.vset_other _ _ (by decide)]; exact hi17 (fun q => h ((hL 17).2 (.inr q))), fun h => (hL 0).2 (((hL 17).1 h).elim (fun e => absurd e (by decide)) (fun q => .inr (hl17_0 q)))⟩
        | 15, ho =>
          simp only [List.getElem?_toArray, List.getElem?_cons_zero, List.getElem?_cons_succ, Option.some.injEq] at ho
          have e14 : V 14 = .slice au mu cu := hJ.h 14 (hdep 14 (by rw [← ho]; kernel_rfl))
          have htx := HTus.out w hJ.kp
          have HJ := Lib.hid hJ
          clear hJ
          subst ho
          refine Pj.Step.free rfl ?_
          simp only [Pj.puts, List.foldl_cons, List.foldl_nil, Act.put, List.setIfInBounds_toArray, List.set_cons_zero, List.set_cons_succ, e14]
          go_simp
          refine htx.mono ?_
          rintro e w' ⟨rfl, rfl⟩
          exact hKq _ _ ⟨Pj.vset V 15 (.int .i64 (sumA us)), by simp only [Pj.puts, List.foldl_cons, List.foldl_nil, Act.put, List.setIfInBounds_toArray, List.set_cons_zero, List.set_cons_succ, Pj.vset, Nat.reduceEqDiff, if_true, if_false, e14], HJ.out.more HP.out hL (Kept.refl _) (rfl), fun h => by rw [Pj.vset_other _ _ (by decide)]; exact hi17 (fun q => h ((hL 17).2 (.inr q))), fun h => (hL 0).2 (((hL 17).1 h).elim (fun e => absurd e (by decide)) (fun q => .inr (hl17_0 q)))⟩
        | 16, ho =>
          simp only [List.getElem?_toArray, List.getElem?_cons_zero, List.getElem?_cons_succ, Option.some.injEq] at ho
          have e8 : V 8 = .int .i64 n1 := hJ.h 8 (hdep 8 (by rw [← ho]; kernel_rfl))
          have e15 : V 15 = .int .i64 (sumA us) := hJ.h 15 (hdep 15 (by rw [← ho]; kernel_rfl))
          have hs2 := HS2.out
          have hw2 := HW2.out
          have HJ := Lib.hid hJ
          clear hJ
          subst ho
          refine Pj.Step.free rfl ?_
          simp only [Pj.puts, List.foldl_cons, List.foldl_nil, Act.put, List.setIfInBounds_toArray, List.set_cons_zero, List.set_cons_succ, e8, e15]
          go_simp
          exact hKq _ _ ⟨Pj.vset V 16 (.int .i64 n2), by simp only [Pj.puts, List.foldl_cons, List.foldl_nil, Act.put, List.setIfInBounds_toArray, List.set_cons_zero, List.set_cons_succ, Pj.vset, Nat.reduceEqDiff, if_true, if_false, e8, e15], HJ.out.more HP.out hL (Kept.refl _) (rfl), fun h => by rw [Pj.vset_other _ _ (by decide)]; exact hi17 (fun q => h ((hL 17).2 (.inr q))), fun h => (hL 0).2 (((hL 17).1 h).elim (fun e => absurd e (by decide)) (fun q => .inr (hl17_0 q)))⟩
        | 17, ho =>
          simp only [List.getElem?_toArray, List.getElem?_cons_zero, List.getElem?_cons_succ, Option.some.injEq] at ho
          have e16 : V 16 = .int .i64 n2 := hJ.h 16 (hdep 16 (by rw [← ho]; kernel_rfl))
          have hd17_0 := hdep 0 (by rw [← ho]; kernel_rfl)
          have HJ := Lib.hid hJ
          clear hJ
          subst ho
          refine Pj.Step.free rfl ?_
          simp only [Pj.puts, List.foldl_cons, List.foldl_nil, Act.put, List.setIfInBounds_toArray, List.set_cons_zero, List.set_cons_succ, e16]
          go_simp
          exact hKq _ _ ⟨Pj.vset V 17 (.int .i64 n2), by simp only [Pj.puts, List.foldl_cons, List.foldl_nil, Act.put, List.setIfInBounds_toArray, List.set_cons_zero, List.set_cons_succ, Pj.vset, Nat.reduceEqDiff, if_true, if_false, e16], HJ.out.more HP.out hL (Kept.refl _) (rfl), fun h => absurd ((hL 17).2 (.inl rfl)) h, fun _ => (hL 0).2 (.inr hd17_0)⟩
        | n + 18, ho => simp at ho
      case ehe =>
        rintro L az w ⟨V, rfl, hJ, hi17, hl17_0⟩ hall
        have e17 : V 17 = .int .i64 n2 := hJ.h 17 (hall 17 (by decide))
        have HKj := Lib.hid hJ.kp
        clear hJ hall hi17 hl17_0
        simp only [Pj.puts, List.foldl_cons, List.foldl_nil, Act.put, List.setIfInBounds_toArray, List.set_cons_zero, List.set_cons_succ, e17]
        clear e17
        go_wp2
        go_roundw
        case rel => exact ⟨k + 1, n2, by omega, by go_num, rfl, q3, q2, q1, HAN, HKR.out.trans HKj.out⟩
        case measure => simp [intOf]; omega
    · by_cases h6 : n ≤ 6000
      · have hkl : lm = k := by omega
        have HLI := Lib.hid (show LightM lm ms from fun i hi => by have := HA.out i (by omega); omega)
        have hd3 : decide (6000 < n) = false := decide_eq_false (by omega)
        subst hkl
        have hd1 : decide (lm < lm) = false := decide_eq_false (by omega)
        have HKE := Lib.hid (HK0.out.trans HKR.out)
        clear hend
        go_wp2
        go_ret
        exact ⟨HKE.out, .inr ⟨rfl, HLI.out, by omega⟩⟩
      · have hd3 : decide (6000 < n) = true := decide_eq_true (by omega)
        have HKE := Lib.hid (HK0.out.trans HKR.out)
        by_cases hlt : k < lm
        · have hd1 : decide (k < lm) = true := decide_eq_true hlt
          have hd2 : decide (n < 1048576) = false := decide_eq_false (by omega)
          clear hend
          go_wp2
          go_ret
          exact ⟨HKE.out, .inl rfl⟩
        · have hd1 : decide (k < lm) = false := decide_eq_false hlt
          clear hend
          go_wp2
          go_ret
          exact ⟨HKE.out, .inl rfl⟩
end Go.Proofs.Ytdllenoclnmmdaa
