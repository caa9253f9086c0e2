/- The laws of layer 4 on one shape alone: silolaw4.of and what asks it, given both walks (no conditions). -/
import Derived.Test.YtoonpnpooljmlaaQa11
import Derived.IntWalk
namespace Go.Proofs.Ytoonpnpooljmlaa
open Go.RowKit Go.Shelf
attribute [local go_sem] Oper.semAt_some

/-- what silolaw0.Within tells -/
def wthn4 (x : Int) (n : Nat) : Nat := (IntKind.u64.wrap x % (n : Int)).toNat
theorem wthn4_lt (x : Int) (n : Nat) (h : 1 ≤ n) : wthn4 x n < n := by
  unfold wthn4
  have h1 := Int.emod_nonneg (IntKind.u64.wrap x) (show (n : Int) ≠ 0 by omega)
  have h2 := Int.emod_lt_of_pos (IntKind.u64.wrap x) (show (0 : Int) < (n : Int) by omega)
  omega
theorem within_ref4 (x : Int) (n : Nat) (hn : 1 ≤ n ∧ n ≤ 1099511627776) (w : World) : Calls Try.prog 29 #[.int .i64 x, .int .i64 n] w fun e w' => e = .returned (.int .i64 (wthn4 x n : Nat)) ∧ w = w' := by
  have hu : IntKind.u64.wrap (n : Int) = (n : Int) := by rw [IntKind.wrap_u64]; omega
  have hne : ((n : Int) == 0) = false := by rw [beq_eq_false_iff_ne]; omega
  have h0 : 0 ≤ IntKind.u64.wrap x := by rw [IntKind.wrap_u64]; omega
  go_enter Try.func29, Try.ntmps29
  go_wp2
  go_ret
  have h1 := Int.emod_nonneg (IntKind.u64.wrap x) (show (n : Int) ≠ 0 by omega)
  have h2 := Int.emod_lt_of_pos (IntKind.u64.wrap x) (show (0 : Int) < (n : Int) by omega)
  have h3 : wrap64 (IntKind.u64.wrap x % (n : Int)) = IntKind.u64.wrap x % (n : Int) := by
    unfold wrap64
    omega
  refine ⟨?_, rfl⟩
  unfold wthn4
  rw [Int.toNat_of_nonneg h1]
  show Ending.returned (.int .i64 (wrap64 (IntKind.u64.wrap x % (n : Int)))) = _
  rw [h3]
/-- the walk of a law of layer 4, as a contract -/
def LawC (f : FuncId) : Prop := ∀ (ax : Option Addr) (ls cs : Nat) (al : Option Addr) (ll cl : Nat) (ss : List ByteArray) (ab : Option Addr) (lb cb : Nat) (T : Nat → Bool) (W : World), AskC W ax ls cs al ll cl ss → BoolsIn W ab lb T → lb ≤ 9223372036854775807 →
  Calls Try.prog f #[.agg #[.slice ax ls cs, .slice al ll cl, .slice ab lb cb]] W fun e W' => e = .returned (.bool true) ∧ Kept W W'
def OfC : Prop := ∀ (ax : Option Addr) (ls cs : Nat) (al : Option Addr) (ll cl : Nat) (ss : List ByteArray) (ab : Option Addr) (lb cb : Nat) (T : Nat → Bool) (k m s : Int) (W : World), AskC W ax ls cs al ll cl ss → BoolsIn W ab lb T → lb ≤ 9223372036854775807 →
  (-9223372036854775808 ≤ k ∧ k ≤ 9223372036854775807) → (-9223372036854775808 ≤ m ∧ m ≤ 9223372036854775807) → (-9223372036854775808 ≤ s ∧ s ≤ 9223372036854775807) →
  Calls Try.prog 32 #[.agg #[.slice ax ls cs, .slice al ll cl, .slice ab lb cb], .agg #[.int .i64 k, .int .i64 m, .int .i64 s]] W fun e W' => e = .returned (.bool true) ∧ Kept W W'
set_option maxRecDepth 100000 in
set_option maxHeartbeats 4000000 in
theorem of4_any (hce : LawC 3) (hcr : LawC 4) : OfC := by
  intro ax ls cs al ll cl ss ab lb cb T k m s W h hT hlb hk hm hs
  have HCE := Lib.hid hce
  have HCR := Lib.hid hcr
  have HA := Lib.hid h
  have HT := Lib.hid hT
  have HLB := Lib.hid hlb
  have HKB := Lib.hid (And.intro hk (And.intro hm hs))
  clear hce hcr h hT hk hm hs hlb
  go_enter Try.func32, Try.ntmps32
  go_upto_region 1 with (fail)
  have hA1 := (BlockAt.new W #[.slice ax ls cs, .slice al ll cl, .slice ab lb cb] 26).kept ((Kept.refl _).alloc (.cells #[.int .i64 k, .int .i64 m, .int .i64 s] 29))
  have HS1 := Lib.hid (BlockAt.new1 W #[.int .i64 k, .int .i64 m, .int .i64 s] 29 (.cells #[.slice ax ls cs, .slice al ll cl, .slice ab lb cb] 26))
  have HK1 := Lib.hid (((Kept.refl W).alloc (.cells #[.slice ax ls cs, .slice al ll cl, .slice ab lb cb] 26)).alloc (.cells #[.int .i64 k, .int .i64 m, .int .i64 s] 29))
  generalize (W.alloc (.cells #[.slice ax ls cs, .slice al ll cl, .slice ab lb cb] 26)).alloc (.cells #[.int .i64 k, .int .i64 m, .int .i64 s] 29) = w1 at *
  obtain ⟨a0, a1, a2⟩ := box3c hA1
  clear hA1
  go_upto_region 2 with (fail)
  have hq := BlockAt.new w1 #[.slice ax ls cs, .slice al ll cl, .slice ab lb cb] 26
  have k2 := (Kept.refl w1).alloc (.cells #[.slice ax ls cs, .slice al ll cl, .slice ab lb cb] 26)
  have hle : w1.heap.size < (w1.alloc (.cells #[.slice ax ls cs, .slice al ll cl, .slice ab lb cb] 26)).heap.size := by simp
  generalize w1.alloc (.cells #[.slice ax ls cs, .slice al ll cl, .slice ab lb cb] 26) = w2 at *
  obtain ⟨p5, hp5⟩ : ∃ p, p = w1.heap.size := ⟨_, rfl⟩
  rw [← hp5] at hq hle ⊢
  have HP5 := Lib.hid hp5
  obtain ⟨c0, c1, c2⟩ := box3c (HS1.out.kept k2)
  have HK2 := Lib.hid k2
  have hg := BlockAt.new w2 #[.int .i64 k, .int .i64 m, .int .i64 s] 29
  have k3 := (Kept.refl w2).alloc (.cells #[.int .i64 k, .int .i64 m, .int .i64 s] 29)
  have hq3 := hq.kept k3
  have d0 := (box3c hq3).1
  have f0 := hq3.free 0
  clear hp5 k2 a0 a1 a2
  go_upto_region 3 with (fail)
  have HQ4 := Lib.hid ((hq.set (i := 0) (.slice (some ⟨w2.heap.size, 0, none⟩) 1 1)).kept ((Kept.refl _).alloc (.cells #[.int .i64 k, .int .i64 m, .int .i64 s] 29)))
  have HG4 := Lib.hid (show BlockAt ((w2.setCell ⟨p5, 0, none⟩ (.slice (some ⟨w2.heap.size, 0, none⟩) 1 1)).alloc (.cells #[.int .i64 k, .int .i64 m, .int .i64 s] 29)) w2.heap.size #[.int .i64 k, .int .i64 m, .int .i64 s] 29 by
    have h9 := BlockAt.new (w2.setCell ⟨p5, 0, none⟩ (.slice (some ⟨w2.heap.size, 0, none⟩) 1 1)) #[.int .i64 k, .int .i64 m, .int .i64 s] 29
    rwa [World.size_setCell] at h9)
  have HK4 := Lib.hid (show Kept w1 _ from (HK2.out.setCell (p := ⟨p5, 0, none⟩) (by have := HP5.out; show w1.heap.size ≤ p5; omega) (.slice (some ⟨w2.heap.size, 0, none⟩) 1 1)).alloc (.cells #[.int .i64 k, .int .i64 m, .int .i64 s] 29))
  clear hq hg k3 hq3 d0 f0 c0 c1 c2
  generalize (w2.setCell ⟨p5, 0, none⟩ (.slice (some ⟨w2.heap.size, 0, none⟩) 1 1)).alloc (.cells #[.int .i64 k, .int .i64 m, .int .i64 s] 29) = w4 at *
  generalize w2.heap.size = g at *
  have HAQ := Lib.hid (show ∀ w, Kept w4 w → AskC w (some ⟨g, 0, none⟩) 1 1 al ll cl ss from fun w kk => ⟨⟨by omega, g, 0, fun _ => rfl, fun i hi => by
      obtain rfl : i = 0 := by omega
      obtain ⟨e0, e1, e2⟩ := box3c (HG4.out.kept kk)
      exact ⟨k, m, s, (HG4.out.kept kk).lt, e0, e1, e2, HKB.out⟩⟩, by omega, HA.out.texts.kept ((HK1.out.trans HK4.out).trans kk)⟩)
  have HTQ := Lib.hid (show ∀ w, Kept w4 w → BoolsIn w ab lb T from fun w kk => HT.out.kept ((HK1.out.trans HK4.out).trans kk))
  have HRQ := Lib.hid (show ∀ w, Kept w4 w → w.cell? ⟨p5, 0, none⟩ = some (.slice (some ⟨g, 0, none⟩) 1 1) ∧ w.cell? ⟨p5, 1, none⟩ = some (.slice al ll cl) ∧ w.cell? ⟨p5, 2, none⟩ = some (.slice ab lb cb) from fun w kk => box3c (HQ4.out.kept kk))
  obtain ⟨a0, a1, a2⟩ := HRQ.out _ (Kept.refl _)
  go_wp2_with fail
  refine (HCE.out _ _ _ _ _ _ _ _ _ _ T _ (HAQ.out _ (Kept.refl _)) (HTQ.out _ (Kept.refl _)) HLB.out).mono ?_
  rintro e w5 ⟨rfl, hk5⟩
  have HK5 := Lib.hid hk5
  clear a0 a1 a2
  obtain ⟨a0, a1, a2⟩ := HRQ.out _ hk5
  clear hk5
  go_wp2_with fail
  refine (HCR.out _ _ _ _ _ _ _ _ _ _ T _ (HAQ.out _ HK5.out) (HTQ.out _ HK5.out) HLB.out).mono ?_
  rintro e w6 ⟨rfl, hk6⟩
  have HK6 := Lib.hid (((HK1.out.trans HK4.out).trans HK5.out).trans hk6)
  clear hk6 a0 a1 a2
  go_wp2
  go_ret
  exact ⟨rfl, HK6.out⟩
set_option maxRecDepth 100000 in
set_option maxHeartbeats 4000000 in
theorem code_one (hof : OfC) : LawC 6 := by
  intro ax ls cs al ll cl ss ab lb cb T W h hT hlb
  have HOF := Lib.hid hof
  have HA := Lib.hid h
  have HT := Lib.hid hT
  have HLB := Lib.hid hlb
  have HK0 := Lib.hid ((Kept.refl W).alloc (.cells #[.slice ax ls cs, .slice al ll cl, .slice ab lb cb] 26))
  have HB0 := Lib.hid (BlockAt.new W #[.slice ax ls cs, .slice al ll cl, .slice ab lb cb] 26)
  clear hof h hT hlb
  go_enter Try.func6, Try.ntmps6
  go_upto_region 1 with (fail)
  generalize W.alloc (.cells #[.slice ax ls cs, .slice al ll cl, .slice ab lb cb] 26) = w1 at *
  have HRQ := Lib.hid (show ∀ w, Kept w1 w → w.cell? ⟨W.heap.size, 0, none⟩ = some (.slice ax ls cs) ∧ w.cell? ⟨W.heap.size, 1, none⟩ = some (.slice al ll cl) ∧ w.cell? ⟨W.heap.size, 2, none⟩ = some (.slice ab lb cb) from fun w kk => box3c (HB0.out.kept kk))
  have HOW := Lib.hid (show ∀ w (k m s : Int), Kept w1 w → (0 ≤ k ∧ k ≤ 100) → (0 ≤ m ∧ m ≤ 100) → (0 ≤ s ∧ s ≤ 100) → Calls Try.prog 32 #[.agg #[.slice ax ls cs, .slice al ll cl, .slice ab lb cb], .agg #[.int .i64 k, .int .i64 m, .int .i64 s]] w fun e W' => e = .returned (.bool true) ∧ Kept w W' from fun w k m s kk hk hm hs =>
    HOF.out ax ls cs al ll cl ss ab lb cb T k m s w (HA.out.kept (HK0.out.trans kk)) (HT.out.kept (HK0.out.trans kk)) HLB.out (by omega) (by omega) (by omega))
  have hz := wthn4_lt (ll : Int) 6 (by omega)
  have hwi := fun w => within_ref4 (ll : Int) 6 (by omega) w
  generalize wthn4 (ll : Int) 6 = z at hz hwi
  have HWI := Lib.hid hwi
  have HWR := Lib.hid (show IntKind.i64.wrap (1 + (z : Int)) = 1 + (z : Int) from IntWalk.i64_in _ (by omega))
  clear hwi
  go_wp2_with fail
  refine Pj.wp_region_step (fun az0 L az w => ∃ V : Nat → Value, az = Pj.puts [(3, 0), (4, 1), (5, 2), (6, 3), (7, 4), (8, 5), (9, 6), (10, 7), (2, 8)] V az0 ∧ Pj.J w1 [Pj.Is (.agg #[.slice ax ls cs, .slice al ll cl, .slice ab lb cb]), Pj.Is (.pointer (some ⟨W.heap.size, 1, none⟩)), Pj.Is (.slice al ll cl), Pj.Is (.int .i64 ll), Pj.Is (.int .i64 (z : Nat)), Pj.Is (.int .i64 (1 + (z : Int))), Pj.Is (.agg #[.int .i64 1, .int .i64 (1 + (z : Int)), .int .i64 3]), Pj.Is (.bool true), Pj.Is (.bool true)] L V w) (by as_aux_lemma => kernel_rfl) (by as_aux_lemma => kernel_rfl) ?eh0 ?ehs ?ehe
  case eh0 =>
    intro L hL
    exact ⟨_, Pj.puts_self _ (fun j => ([3, 4, 5, 6, 7, 8, 9, 10, 2] : List Nat).getD j 0) [0, 1, 2, 3, 4, 5, 6, 7, 8], Pj.J.none (n := 9) (Nat.le_refl _) hL ((Kept.refl _).drew)⟩
  case ehs =>
    rintro L L' az w iz opz Kq ⟨V, rfl, hJ⟩ ho hopen hdep hL hKq
    have hP : Pj.AllStay [Pj.Is (.agg #[.slice ax ls cs, .slice al ll cl, .slice ab lb cb]), Pj.Is (.pointer (some ⟨W.heap.size, 1, none⟩)), Pj.Is (.slice al ll cl), Pj.Is (.int .i64 ll), Pj.Is (.int .i64 (z : Nat)), Pj.Is (.int .i64 (1 + (z : Int))), Pj.Is (.agg #[.int .i64 1, .int .i64 (1 + (z : Int)), .int .i64 3]), Pj.Is (.bool true), Pj.Is (.bool true)] := ⟨Pj.Is.stays _, Pj.Is.stays _, Pj.Is.stays _, Pj.Is.stays _, Pj.Is.stays _, Pj.Is.stays _, Pj.Is.stays _, Pj.Is.stays _, Pj.Is.stays _, trivial⟩
    have HP := Lib.hid hP
    clear hP
    match iz, ho with
    | 0, ho =>
      simp only [List.getElem?_toArray, List.getElem?_cons_zero, Option.some.injEq] at ho
      obtain ⟨a0, a1, a2⟩ := HRQ.out _ hJ.kp
      have HJ := Lib.hid hJ
      clear hJ
      subst ho
      refine Pj.Step.free rfl ?_
      simp only [Pj.puts, List.foldl_cons, List.foldl_nil, Act.put, List.setIfInBounds_toArray, List.set_cons_zero, List.set_cons_succ]
      go_simp
      exact hKq _ _ ⟨Pj.vset V 0 (.agg #[.slice ax ls cs, .slice al ll cl, .slice ab lb cb]), by simp only [Pj.puts, List.foldl_cons, List.foldl_nil, Act.put, List.setIfInBounds_toArray, List.set_cons_zero, List.set_cons_succ, Pj.vset, Nat.reduceEqDiff, if_true, if_false], HJ.out.more HP.out hL (Kept.refl _) (rfl)⟩
    | 1, ho =>
      simp only [List.getElem?_toArray, List.getElem?_cons_zero, List.getElem?_cons_succ, Option.some.injEq] at ho
      have HJ := Lib.hid hJ
      clear hJ
      subst ho
      refine Pj.Step.free rfl ?_
      simp only [Pj.puts, List.foldl_cons, List.foldl_nil, Act.put, List.setIfInBounds_toArray, List.set_cons_zero, List.set_cons_succ]
      go_simp
      exact hKq _ _ ⟨Pj.vset V 1 (.pointer (some ⟨W.heap.size, 1, none⟩)), by simp only [Pj.puts, List.foldl_cons, List.foldl_nil, Act.put, List.setIfInBounds_toArray, List.set_cons_zero, List.set_cons_succ, Pj.vset, Nat.reduceEqDiff, if_true, if_false], HJ.out.more HP.out hL (Kept.refl _) (rfl)⟩
    | 2, ho =>
      simp only [List.getElem?_toArray, List.getElem?_cons_zero, List.getElem?_cons_succ, Option.some.injEq] at ho
      have e1 : V 1 = .pointer (some ⟨W.heap.size, 1, none⟩) := hJ.h 1 (hdep 1 (by rw [← ho]; kernel_rfl))
      obtain ⟨a0, a1, a2⟩ := HRQ.out _ hJ.kp
      have HJ := Lib.hid hJ
      clear hJ
      subst ho
      refine Pj.Step.free rfl ?_
      simp only [Pj.puts, List.foldl_cons, List.foldl_nil, Act.put, List.setIfInBounds_toArray, List.set_cons_zero, List.set_cons_succ, e1]
      go_simp
      exact hKq _ _ ⟨Pj.vset V 2 (.slice al ll cl), by simp only [Pj.puts, List.foldl_cons, List.foldl_nil, Act.put, List.setIfInBounds_toArray, List.set_cons_zero, List.set_cons_succ, Pj.vset, Nat.reduceEqDiff, if_true, if_false, e1], HJ.out.more HP.out hL (Kept.refl _) (rfl)⟩
    | 3, ho =>
      simp only [List.getElem?_toArray, List.getElem?_cons_zero, List.getElem?_cons_succ, Option.some.injEq] at ho
      have e2 : V 2 = .slice al ll cl := hJ.h 2 (hdep 2 (by rw [← ho]; kernel_rfl))
      have HJ := Lib.hid hJ
      clear hJ
      subst ho
      refine Pj.Step.free rfl ?_
      simp only [Pj.puts, List.foldl_cons, List.foldl_nil, Act.put, List.setIfInBounds_toArray, List.set_cons_zero, List.set_cons_succ, e2]
      go_simp
      exact hKq _ _ ⟨Pj.vset V 3 (.int .i64 ll), by simp only [Pj.puts, List.foldl_cons, List.foldl_nil, Act.put, List.setIfInBounds_toArray, List.set_cons_zero, List.set_cons_succ, Pj.vset, Nat.reduceEqDiff, if_true, if_false, e2], HJ.out.more HP.out hL (Kept.refl _) (rfl)⟩
    | 4, ho =>
      simp only [List.getElem?_toArray, List.getElem?_cons_zero, List.getElem?_cons_succ, Option.some.injEq] at ho
      have e3 : V 3 = .int .i64 ll := hJ.h 3 (hdep 3 (by rw [← ho]; kernel_rfl))
      have hwi := HWI.out w
      have HJ := Lib.hid hJ
      clear hJ
      subst ho
      refine Pj.Step.free rfl ?_
      simp only [Pj.puts, List.foldl_cons, List.foldl_nil, Act.put, List.setIfInBounds_toArray, List.set_cons_zero, List.set_cons_succ, e3]
      go_simp
      refine hwi.mono ?_
      rintro e w' ⟨rfl, rfl⟩
      have hk9 := Kept.refl w
      exact hKq _ _ ⟨Pj.vset V 4 (.int .i64 (z : Nat)), by simp only [Pj.puts, List.foldl_cons, List.foldl_nil, Act.put, List.setIfInBounds_toArray, List.set_cons_zero, List.set_cons_succ, Pj.vset, Nat.reduceEqDiff, if_true, if_false, e3], HJ.out.more HP.out hL (hk9) (rfl)⟩
    | 5, ho =>
      simp only [List.getElem?_toArray, List.getElem?_cons_zero, List.getElem?_cons_succ, Option.some.injEq] at ho
      have e4 : V 4 = .int .i64 (z : Nat) := hJ.h 4 (hdep 4 (by rw [← ho]; kernel_rfl))
      have hw9 := HWR.out
      have HJ := Lib.hid hJ
      clear hJ
      subst ho
      refine Pj.Step.free rfl ?_
      simp only [Pj.puts, List.foldl_cons, List.foldl_nil, Act.put, List.setIfInBounds_toArray, List.set_cons_zero, List.set_cons_succ, e4]
      go_simp
      exact hKq _ _ ⟨Pj.vset V 5 (.int .i64 (1 + (z : Int))), by simp only [Pj.puts, List.foldl_cons, List.foldl_nil, Act.put, List.setIfInBounds_toArray, List.set_cons_zero, List.set_cons_succ, Pj.vset, Nat.reduceEqDiff, if_true, if_false, e4], HJ.out.more HP.out hL (Kept.refl _) (rfl)⟩
    | 6, ho =>
      simp only [List.getElem?_toArray, List.getElem?_cons_zero, List.getElem?_cons_succ, Option.some.injEq] at ho
      have e5 : V 5 = .int .i64 (1 + (z : Int)) := hJ.h 5 (hdep 5 (by rw [← ho]; kernel_rfl))
      have HJ := Lib.hid hJ
      clear hJ
      subst ho
      refine Pj.Step.free rfl ?_
      simp only [Pj.puts, List.foldl_cons, List.foldl_nil, Act.put, List.setIfInBounds_toArray, List.set_cons_zero, List.set_cons_succ, e5]
      go_simp
      exact hKq _ _ ⟨Pj.vset V 6 (.agg #[.int .i64 1, .int .i64 (1 + (z : Int)), .int .i64 3]), by simp only [Pj.puts, List.foldl_cons, List.foldl_nil, Act.put, List.setIfInBounds_toArray, List.set_cons_zero, List.set_cons_succ, Pj.vset, Nat.reduceEqDiff, if_true, if_false, e5], HJ.out.more HP.out hL (Kept.refl _) (rfl)⟩
    | 7, ho =>
      simp only [List.getElem?_toArray, List.getElem?_cons_zero, List.getElem?_cons_succ, Option.some.injEq] at ho
      have e0 : V 0 = .agg #[.slice ax ls cs, .slice al ll cl, .slice ab lb cb] := hJ.h 0 (hdep 0 (by rw [← ho]; kernel_rfl))
      have e6 : V 6 = .agg #[.int .i64 1, .int .i64 (1 + (z : Int)), .int .i64 3] := hJ.h 6 (hdep 6 (by rw [← ho]; kernel_rfl))
      have hof := HOW.out w 1 (1 + (z : Int)) 3 hJ.kp (by omega) (by omega) (by omega)
      have HJ := Lib.hid hJ
      clear hJ
      subst ho
      refine Pj.Step.free rfl ?_
      simp only [Pj.puts, List.foldl_cons, List.foldl_nil, Act.put, List.setIfInBounds_toArray, List.set_cons_zero, List.set_cons_succ, e0, e6]
      go_simp
      refine hof.mono ?_
      rintro e w' ⟨rfl, hk9⟩
      exact hKq _ _ ⟨Pj.vset V 7 (.bool true), by simp only [Pj.puts, List.foldl_cons, List.foldl_nil, Act.put, List.setIfInBounds_toArray, List.set_cons_zero, List.set_cons_succ, Pj.vset, Nat.reduceEqDiff, if_true, if_false, e0, e6], HJ.out.more HP.out hL (hk9) (rfl)⟩
    | 8, ho =>
      simp only [List.getElem?_toArray, List.getElem?_cons_zero, List.getElem?_cons_succ, Option.some.injEq] at ho
      have e7 : V 7 = .bool true := hJ.h 7 (hdep 7 (by rw [← ho]; kernel_rfl))
      have HJ := Lib.hid hJ
      clear hJ
      subst ho
      refine Pj.Step.free rfl ?_
      simp only [Pj.puts, List.foldl_cons, List.foldl_nil, Act.put, List.setIfInBounds_toArray, List.set_cons_zero, List.set_cons_succ, e7]
      go_simp
      exact hKq _ _ ⟨Pj.vset V 8 (.bool true), by simp only [Pj.puts, List.foldl_cons, List.foldl_nil, Act.put, List.setIfInBounds_toArray, List.set_cons_zero, List.set_cons_succ, Pj.vset, Nat.reduceEqDiff, if_true, if_false, e7], HJ.out.more HP.out hL (Kept.refl _) (rfl)⟩
    | n + 9, ho => simp at ho
  case ehe =>
    rintro L az w ⟨V, rfl, hJ⟩ hall
    have e0 : V 0 = .agg #[.slice ax ls cs, .slice al ll cl, .slice ab lb cb] := hJ.h 0 (hall 0 (by decide))
    have e1 : V 1 = .pointer (some ⟨W.heap.size, 1, none⟩) := hJ.h 1 (hall 1 (by decide))
    have e2 : V 2 = .slice al ll cl := hJ.h 2 (hall 2 (by decide))
    have e3 : V 3 = .int .i64 ll := hJ.h 3 (hall 3 (by decide))
    have e4 : V 4 = .int .i64 (z : Nat) := hJ.h 4 (hall 4 (by decide))
    have e5 : V 5 = .int .i64 (1 + (z : Int)) := hJ.h 5 (hall 5 (by decide))
    have e6 : V 6 = .agg #[.int .i64 1, .int .i64 (1 + (z : Int)), .int .i64 3] := hJ.h 6 (hall 6 (by decide))
    have e7 : V 7 = .bool true := hJ.h 7 (hall 7 (by decide))
    have e8 : V 8 = .bool true := hJ.h 8 (hall 8 (by decide))
    have HKj := Lib.hid hJ.kp
    clear hJ hall
    simp only [Pj.puts, List.foldl_cons, List.foldl_nil, Act.put, List.setIfInBounds_toArray, List.set_cons_zero, List.set_cons_succ, e0, e1, e2, e3, e4, e5, e6, e7, e8]
    clear e0 e1 e2 e3 e4 e5 e6 e7 e8
    have HK6 := Lib.hid (HK0.out.trans HKj.out)
    go_wp2
    go_ret
    exact ⟨rfl, HK6.out⟩
set_option maxRecDepth 100000 in
set_option maxHeartbeats 4000000 in
theorem code_single (hof : OfC) : LawC 7 := by
  intro ax ls cs al ll cl ss ab lb cb T W h hT hlb
  have HOF := Lib.hid hof
  have HA := Lib.hid h
  have HT := Lib.hid hT
  have HLB := Lib.hid hlb
  have HK0 := Lib.hid ((Kept.refl W).alloc (.cells #[.slice ax ls cs, .slice al ll cl, .slice ab lb cb] 26))
  have HB0 := Lib.hid (BlockAt.new W #[.slice ax ls cs, .slice al ll cl, .slice ab lb cb] 26)
  clear hof h hT hlb
  go_enter Try.func7, Try.ntmps7
  go_upto_region 1 with (fail)
  generalize W.alloc (.cells #[.slice ax ls cs, .slice al ll cl, .slice ab lb cb] 26) = w1 at *
  have HRQ := Lib.hid (show ∀ w, Kept w1 w → w.cell? ⟨W.heap.size, 0, none⟩ = some (.slice ax ls cs) ∧ w.cell? ⟨W.heap.size, 1, none⟩ = some (.slice al ll cl) ∧ w.cell? ⟨W.heap.size, 2, none⟩ = some (.slice ab lb cb) from fun w kk => box3c (HB0.out.kept kk))
  have HOW := Lib.hid (show ∀ w (k m s : Int), Kept w1 w → (0 ≤ k ∧ k ≤ 100) → (0 ≤ m ∧ m ≤ 100) → (0 ≤ s ∧ s ≤ 100) → Calls Try.prog 32 #[.agg #[.slice ax ls cs, .slice al ll cl, .slice ab lb cb], .agg #[.int .i64 k, .int .i64 m, .int .i64 s]] w fun e W' => e = .returned (.bool true) ∧ Kept w W' from fun w k m s kk hk hm hs =>
    HOF.out ax ls cs al ll cl ss ab lb cb T k m s w (HA.out.kept (HK0.out.trans kk)) (HT.out.kept (HK0.out.trans kk)) HLB.out (by omega) (by omega) (by omega))
  have hz := wthn4_lt (ll : Int) 8 (by omega)
  have hwi := fun w => within_ref4 (ll : Int) 8 (by omega) w
  generalize wthn4 (ll : Int) 8 = z at hz hwi
  have HWI := Lib.hid hwi
  have HWR := Lib.hid (show IntKind.i64.wrap (1 + (z : Int)) = 1 + (z : Int) from IntWalk.i64_in _ (by omega))
  clear hwi
  go_wp2_with fail
  refine Pj.wp_region_step (fun az0 L az w => ∃ V : Nat → Value, az = Pj.puts [(3, 0), (4, 1), (5, 2), (6, 3), (7, 4), (8, 5), (9, 6), (10, 7), (2, 8)] V az0 ∧ Pj.J w1 [Pj.Is (.agg #[.slice ax ls cs, .slice al ll cl, .slice ab lb cb]), Pj.Is (.pointer (some ⟨W.heap.size, 1, none⟩)), Pj.Is (.slice al ll cl), Pj.Is (.int .i64 ll), Pj.Is (.int .i64 (z : Nat)), Pj.Is (.int .i64 (1 + (z : Int))), Pj.Is (.agg #[.int .i64 (1 + (z : Int)), .int .i64 1, .int .i64 5]), Pj.Is (.bool true), Pj.Is (.bool true)] L V w) (by as_aux_lemma => kernel_rfl) (by as_aux_lemma => kernel_rfl) ?eh0 ?ehs ?ehe
  case eh0 =>
    intro L hL
    exact ⟨_, Pj.puts_self _ (fun j => ([3, 4, 5, 6, 7, 8, 9, 10, 2] : List Nat).getD j 0) [0, 1, 2, 3, 4, 5, 6, 7, 8], Pj.J.none (n := 9) (Nat.le_refl _) hL ((Kept.refl _).drew)⟩
  case ehs =>
    rintro L L' az w iz opz Kq ⟨V, rfl, hJ⟩ ho hopen hdep hL hKq
    have hP : Pj.AllStay [Pj.Is (.agg #[.slice ax ls cs, .slice al ll cl, .slice ab lb cb]), Pj.Is (.pointer (some ⟨W.heap.size, 1, none⟩)), Pj.Is (.slice al ll cl), Pj.Is (.int .i64 ll), Pj.Is (.int .i64 (z : Nat)), Pj.Is (.int .i64 (1 + (z : Int))), Pj.Is (.agg #[.int .i64 (1 + (z : Int)), .int .i64 1, .int .i64 5]), Pj.Is (.bool true), Pj.Is (.bool true)] := ⟨Pj.Is.stays _, Pj.Is.stays _, Pj.Is.stays _, Pj.Is.stays _, Pj.Is.stays _, Pj.Is.stays _, Pj.Is.stays _, Pj.Is.stays _, Pj.Is.stays _, trivial⟩
    have HP := Lib.hid hP
    clear hP
    match iz, ho with
    | 0, ho =>
      simp only [List.getElem?_toArray, List.getElem?_cons_zero, Option.some.injEq] at ho
      obtain ⟨a0, a1, a2⟩ := HRQ.out _ hJ.kp
      have HJ := Lib.hid hJ
      clear hJ
      subst ho
      refine Pj.Step.free rfl ?_
      simp only [Pj.puts, List.foldl_cons, List.foldl_nil, Act.put, List.setIfInBounds_toArray, List.set_cons_zero, List.set_cons_succ]
      go_simp
      exact hKq _ _ ⟨Pj.vset V 0 (.agg #[.slice ax ls cs, .slice al ll cl, .slice ab lb cb]), by simp only [Pj.puts, List.foldl_cons, List.foldl_nil, Act.put, List.setIfInBounds_toArray, List.set_cons_zero, List.set_cons_succ, Pj.vset, Nat.reduceEqDiff, if_true, if_false], HJ.out.more HP.out hL (Kept.refl _) (rfl)⟩
    | 1, ho =>
      simp only [List.getElem?_toArray, List.getElem?_cons_zero, List.getElem?_cons_succ, Option.some.injEq] at ho
      have HJ := Lib.hid hJ
      clear hJ
      subst ho
      refine Pj.Step.free rfl ?_
      simp only [Pj.puts, List.foldl_cons, List.foldl_nil, Act.put, List.setIfInBounds_toArray, List.set_cons_zero, List.set_cons_succ]
      go_simp
      exact hKq _ _ ⟨Pj.vset V 1 (.pointer (some ⟨W.heap.size, 1, none⟩)), by simp only [Pj.puts, List.foldl_cons, List.foldl_nil, Act.put, List.setIfInBounds_toArray, List.set_cons_zero, List.set_cons_succ, Pj.vset, Nat.reduceEqDiff, if_true, if_false], HJ.out.more HP.out hL (Kept.refl _) (rfl)⟩
    | 2, ho =>
      simp only [List.getElem?_toArray, List.getElem?_cons_zero, List.getElem?_cons_succ, Option.some.injEq] at ho
      have e1 : V 1 = .pointer (some ⟨W.heap.size, 1, none⟩) := hJ.h 1 (hdep 1 (by rw [← ho]; kernel_rfl))
      obtain ⟨a0, a1, a2⟩ := HRQ.out _ hJ.kp
      have HJ := Lib.hid hJ
      clear hJ
      subst ho
      refine Pj.Step.free rfl ?_
      simp only [Pj.puts, List.foldl_cons, List.foldl_nil, Act.put, List.setIfInBounds_toArray, List.set_cons_zero, List.set_cons_succ, e1]
      go_simp
      exact hKq _ _ ⟨Pj.vset V 2 (.slice al ll cl), by simp only [Pj.puts, List.foldl_cons, List.foldl_nil, Act.put, List.setIfInBounds_toArray, List.set_cons_zero, List.set_cons_succ, Pj.vset, Nat.reduceEqDiff, if_true, if_false, e1], HJ.out.more HP.out hL (Kept.refl _) (rfl)⟩
    | 3, ho =>
      simp only [List.getElem?_toArray, List.getElem?_cons_zero, List.getElem?_cons_succ, Option.some.injEq] at ho
      have e2 : V 2 = .slice al ll cl := hJ.h 2 (hdep 2 (by rw [← ho]; kernel_rfl))
      have HJ := Lib.hid hJ
      clear hJ
      subst ho
      refine Pj.Step.free rfl ?_
      simp only [Pj.puts, List.foldl_cons, List.foldl_nil, Act.put, List.setIfInBounds_toArray, List.set_cons_zero, List.set_cons_succ, e2]
      go_simp
      exact hKq _ _ ⟨Pj.vset V 3 (.int .i64 ll), by simp only [Pj.puts, List.foldl_cons, List.foldl_nil, Act.put, List.setIfInBounds_toArray, List.set_cons_zero, List.set_cons_succ, Pj.vset, Nat.reduceEqDiff, if_true, if_false, e2], HJ.out.more HP.out hL (Kept.refl _) (rfl)⟩
    | 4, ho =>
      simp only [List.getElem?_toArray, List.getElem?_cons_zero, List.getElem?_cons_succ, Option.some.injEq] at ho
      have e3 : V 3 = .int .i64 ll := hJ.h 3 (hdep 3 (by rw [← ho]; kernel_rfl))
      have hwi := HWI.out w
      have HJ := Lib.hid hJ
      clear hJ
      subst ho
      refine Pj.Step.free rfl ?_
      simp only [Pj.puts, List.foldl_cons, List.foldl_nil, Act.put, List.setIfInBounds_toArray, List.set_cons_zero, List.set_cons_succ, e3]
      go_simp
      refine hwi.mono ?_
      rintro e w' ⟨rfl, rfl⟩
      have hk9 := Kept.refl w
      exact hKq _ _ ⟨Pj.vset V 4 (.int .i64 (z : Nat)), by simp only [Pj.puts, List.foldl_cons, List.foldl_nil, Act.put, List.setIfInBounds_toArray, List.set_cons_zero, List.set_cons_succ, Pj.vset, Nat.reduceEqDiff, if_true, if_false, e3], HJ.out.more HP.out hL (hk9) (rfl)⟩
    | 5, ho =>
      simp only [List.getElem?_toArray, List.getElem?_cons_zero, List.getElem?_cons_succ, Option.some.injEq] at ho
      have e4 : V 4 = .int .i64 (z : Nat) := hJ.h 4 (hdep 4 (by rw [← ho]; kernel_rfl))
      have hw9 := HWR.out
      have HJ := Lib.hid hJ
      clear hJ
      subst ho
      refine Pj.Step.free rfl ?_
      simp only [Pj.puts, List.foldl_cons, List.foldl_nil, Act.put, List.setIfInBounds_toArray, List.set_cons_zero, List.set_cons_succ, e4]
      go_simp
      exact hKq _ _ ⟨Pj.vset V 5 (.int .i64 (1 + (z : Int))), by simp only [Pj.puts, List.foldl_cons, List.foldl_nil, Act.put, List.setIfInBounds_toArray, List.set_cons_zero, List.set_cons_succ, Pj.vset, Nat.reduceEqDiff, if_true, if_false, e4], HJ.out.more HP.out hL (Kept.refl _) (rfl)⟩
    | 6, ho =>
      simp only [List.getElem?_toArray, List.getElem?_cons_zero, List.getElem?_cons_succ, Option.some.injEq] at ho
      have e5 : V 5 = .int .i64 (1 + (z : Int)) := hJ.h 5 (hdep 5 (by rw [← ho]; kernel_rfl))
      have HJ := Lib.hid hJ
      clear hJ
      subst ho
      refine Pj.Step.free rfl ?_
      simp only [Pj.puts, List.foldl_cons, List.foldl_nil, Act.put, List.setIfInBounds_toArray, List.set_cons_zero, List.set_cons_succ, e5]
      go_simp
      exact hKq _ _ ⟨Pj.vset V 6 (.agg #[.int .i64 (1 + (z : Int)), .int .i64 1, .int .i64 5]), by simp only [Pj.puts, List.foldl_cons, List.foldl_nil, Act.put, List.setIfInBounds_toArray, List.set_cons_zero, List.set_cons_succ, Pj.vset, Nat.reduceEqDiff, if_true, if_false, e5], HJ.out.more HP.out hL (Kept.refl _) (rfl)⟩
    | 7, ho =>
      simp only [List.getElem?_toArray, List.getElem?_cons_zero, List.getElem?_cons_succ, Option.some.injEq] at ho
      have e0 : V 0 = .agg #[.slice ax ls cs, .slice al ll cl, .slice ab lb cb] := hJ.h 0 (hdep 0 (by rw [← ho]; kernel_rfl))
      have e6 : V 6 = .agg #[.int .i64 (1 + (z : Int)), .int .i64 1, .int .i64 5] := hJ.h 6 (hdep 6 (by rw [← ho]; kernel_rfl))
      have hof := HOW.out w (1 + (z : Int)) 1 5 hJ.kp (by omega) (by omega) (by omega)
      have HJ := Lib.hid hJ
      clear hJ
      subst ho
      refine Pj.Step.free rfl ?_
      simp only [Pj.puts, List.foldl_cons, List.foldl_nil, Act.put, List.setIfInBounds_toArray, List.set_cons_zero, List.set_cons_succ, e0, e6]
      go_simp
      refine hof.mono ?_
      rintro e w' ⟨rfl, hk9⟩
      exact hKq _ _ ⟨Pj.vset V 7 (.bool true), by simp only [Pj.puts, List.foldl_cons, List.foldl_nil, Act.put, List.setIfInBounds_toArray, List.set_cons_zero, List.set_cons_succ, Pj.vset, Nat.reduceEqDiff, if_true, if_false, e0, e6], HJ.out.more HP.out hL (hk9) (rfl)⟩
    | 8, ho =>
      simp only [List.getElem?_toArray, List.getElem?_cons_zero, List.getElem?_cons_succ, Option.some.injEq] at ho
      have e7 : V 7 = .bool true := hJ.h 7 (hdep 7 (by rw [← ho]; kernel_rfl))
      have HJ := Lib.hid hJ
      clear hJ
      subst ho
      refine Pj.Step.free rfl ?_
      simp only [Pj.puts, List.foldl_cons, List.foldl_nil, Act.put, List.setIfInBounds_toArray, List.set_cons_zero, List.set_cons_succ, e7]
      go_simp
      exact hKq _ _ ⟨Pj.vset V 8 (.bool true), by simp only [Pj.puts, List.foldl_cons, List.foldl_nil, Act.put, List.setIfInBounds_toArray, List.set_cons_zero, List.set_cons_succ, Pj.vset, Nat.reduceEqDiff, if_true, if_false, e7], HJ.out.more HP.out hL (Kept.refl _) (rfl)⟩
    | n + 9, ho => simp at ho
  case ehe =>
    rintro L az w ⟨V, rfl, hJ⟩ hall
    have e0 : V 0 = .agg #[.slice ax ls cs, .slice al ll cl, .slice ab lb cb] := hJ.h 0 (hall 0 (by decide))
    have e1 : V 1 = .pointer (some ⟨W.heap.size, 1, none⟩) := hJ.h 1 (hall 1 (by decide))
    have e2 : V 2 = .slice al ll cl := hJ.h 2 (hall 2 (by decide))
    have e3 : V 3 = .int .i64 ll := hJ.h 3 (hall 3 (by decide))
    have e4 : V 4 = .int .i64 (z : Nat) := hJ.h 4 (hall 4 (by decide))
    have e5 : V 5 = .int .i64 (1 + (z : Int)) := hJ.h 5 (hall 5 (by decide))
    have e6 : V 6 = .agg #[.int .i64 (1 + (z : Int)), .int .i64 1, .int .i64 5] := hJ.h 6 (hall 6 (by decide))
    have e7 : V 7 = .bool true := hJ.h 7 (hall 7 (by decide))
    have e8 : V 8 = .bool true := hJ.h 8 (hall 8 (by decide))
    have HKj := Lib.hid hJ.kp
    clear hJ hall
    simp only [Pj.puts, List.foldl_cons, List.foldl_nil, Act.put, List.setIfInBounds_toArray, List.set_cons_zero, List.set_cons_succ, e0, e1, e2, e3, e4, e5, e6, e7, e8]
    clear e0 e1 e2 e3 e4 e5 e6 e7 e8
    have HK6 := Lib.hid (HK0.out.trans HKj.out)
    go_wp2
    go_ret
    exact ⟨rfl, HK6.out⟩
set_option maxRecDepth 100000 in
set_option maxHeartbeats 4000000 in
theorem code_none (hof : OfC) : LawC 8 := by
  intro ax ls cs al ll cl ss ab lb cb T W h hT hlb
  have HOF := Lib.hid hof
  have HA := Lib.hid h
  have HT := Lib.hid hT
  have HLB := Lib.hid hlb
  have HK0 := Lib.hid ((Kept.refl W).alloc (.cells #[.slice ax ls cs, .slice al ll cl, .slice ab lb cb] 26))
  have HB0 := Lib.hid (BlockAt.new W #[.slice ax ls cs, .slice al ll cl, .slice ab lb cb] 26)
  clear hof h hT hlb
  go_enter Try.func8, Try.ntmps8
  go_upto_region 1 with (fail)
  generalize W.alloc (.cells #[.slice ax ls cs, .slice al ll cl, .slice ab lb cb] 26) = w1 at *
  have HRQ := Lib.hid (show ∀ w, Kept w1 w → w.cell? ⟨W.heap.size, 0, none⟩ = some (.slice ax ls cs) ∧ w.cell? ⟨W.heap.size, 1, none⟩ = some (.slice al ll cl) ∧ w.cell? ⟨W.heap.size, 2, none⟩ = some (.slice ab lb cb) from fun w kk => box3c (HB0.out.kept kk))
  have HOW := Lib.hid (show ∀ w (k m s : Int), Kept w1 w → (0 ≤ k ∧ k ≤ 100) → (0 ≤ m ∧ m ≤ 100) → (0 ≤ s ∧ s ≤ 100) → Calls Try.prog 32 #[.agg #[.slice ax ls cs, .slice al ll cl, .slice ab lb cb], .agg #[.int .i64 k, .int .i64 m, .int .i64 s]] w fun e W' => e = .returned (.bool true) ∧ Kept w W' from fun w k m s kk hk hm hs =>
    HOF.out ax ls cs al ll cl ss ab lb cb T k m s w (HA.out.kept (HK0.out.trans kk)) (HT.out.kept (HK0.out.trans kk)) HLB.out (by omega) (by omega) (by omega))
  have hz := wthn4_lt (ll : Int) 8 (by omega)
  have hwi := fun w => within_ref4 (ll : Int) 8 (by omega) w
  generalize wthn4 (ll : Int) 8 = z at hz hwi
  have HWI := Lib.hid hwi
  have HWR := Lib.hid (show IntKind.i64.wrap (1 + (z : Int)) = 1 + (z : Int) from IntWalk.i64_in _ (by omega))
  clear hwi
  go_wp2_with fail
  refine Pj.wp_region_step (fun az0 L az w => ∃ V : Nat → Value, az = Pj.puts [(3, 0), (4, 1), (5, 2), (6, 3), (7, 4), (8, 5), (9, 6), (10, 7), (2, 8)] V az0 ∧ Pj.J w1 [Pj.Is (.agg #[.slice ax ls cs, .slice al ll cl, .slice ab lb cb]), Pj.Is (.pointer (some ⟨W.heap.size, 1, none⟩)), Pj.Is (.slice al ll cl), Pj.Is (.int .i64 ll), Pj.Is (.int .i64 (z : Nat)), Pj.Is (.int .i64 (1 + (z : Int))), Pj.Is (.agg #[.int .i64 (1 + (z : Int)), .int .i64 0, .int .i64 4]), Pj.Is (.bool true), Pj.Is (.bool true)] L V w) (by as_aux_lemma => kernel_rfl) (by as_aux_lemma => kernel_rfl) ?eh0 ?ehs ?ehe
  case eh0 =>
    intro L hL
    exact ⟨_, Pj.puts_self _ (fun j => ([3, 4, 5, 6, 7, 8, 9, 10, 2] : List Nat).getD j 0) [0, 1, 2, 3, 4, 5, 6, 7, 8], Pj.J.none (n := 9) (Nat.le_refl _) hL ((Kept.refl _).drew)⟩
  case ehs =>
    rintro L L' az w iz opz Kq ⟨V, rfl, hJ⟩ ho hopen hdep hL hKq
    have hP : Pj.AllStay [Pj.Is (.agg #[.slice ax ls cs, .slice al ll cl, .slice ab lb cb]), Pj.Is (.pointer (some ⟨W.heap.size, 1, none⟩)), Pj.Is (.slice al ll cl), Pj.Is (.int .i64 ll), Pj.Is (.int .i64 (z : Nat)), Pj.Is (.int .i64 (1 + (z : Int))), Pj.Is (.agg #[.int .i64 (1 + (z : Int)), .int .i64 0, .int .i64 4]), Pj.Is (.bool true), Pj.Is (.bool true)] := ⟨Pj.Is.stays _, Pj.Is.stays _, Pj.Is.stays _, Pj.Is.stays _, Pj.Is.stays _, Pj.Is.stays _, Pj.Is.stays _, Pj.Is.stays _, Pj.Is.stays _, trivial⟩
    have HP := Lib.hid hP
    clear hP
    match iz, ho with
    | 0, ho =>
      simp only [List.getElem?_toArray, List.getElem?_cons_zero, Option.some.injEq] at ho
      obtain ⟨a0, a1, a2⟩ := HRQ.out _ hJ.kp
      have HJ := Lib.hid hJ
      clear hJ
      subst ho
      refine Pj.Step.free rfl ?_
      simp only [Pj.puts, List.foldl_cons, List.foldl_nil, Act.put, List.setIfInBounds_toArray, List.set_cons_zero, List.set_cons_succ]
      go_simp
      exact hKq _ _ ⟨Pj.vset V 0 (.agg #[.slice ax ls cs, .slice al ll cl, .slice ab lb cb]), by simp only [Pj.puts, List.foldl_cons, List.foldl_nil, Act.put, List.setIfInBounds_toArray, List.set_cons_zero, List.set_cons_succ, Pj.vset, Nat.reduceEqDiff, if_true, if_false], HJ.out.more HP.out hL (Kept.refl _) (rfl)⟩
    | 1, ho =>
      simp only [List.getElem?_toArray, List.getElem?_cons_zero, List.getElem?_cons_succ, Option.some.injEq] at ho
      have HJ := Lib.hid hJ
      clear hJ
      subst ho
      refine Pj.Step.free rfl ?_
      simp only [Pj.puts, List.foldl_cons, List.foldl_nil, Act.put, List.setIfInBounds_toArray, List.set_cons_zero, List.set_cons_succ]
      go_simp
      exact hKq _ _ ⟨Pj.vset V 1 (.pointer (some ⟨W.heap.size, 1, none⟩)), by simp only [Pj.puts, List.foldl_cons, List.foldl_nil, Act.put, List.setIfInBounds_toArray, List.set_cons_zero, List.set_cons_succ, Pj.vset, Nat.reduceEqDiff, if_true, if_false], HJ.out.more HP.out hL (Kept.refl _) (rfl)⟩
    | 2, ho =>
      simp only [List.getElem?_toArray, List.getElem?_cons_zero, List.getElem?_cons_succ, Option.some.injEq] at ho
      have e1 : V 1 = .pointer (some ⟨W.heap.size, 1, none⟩) := hJ.h 1 (hdep 1 (by rw [← ho]; kernel_rfl))
      obtain ⟨a0, a1, a2⟩ := HRQ.out _ hJ.kp
      have HJ := Lib.hid hJ
      clear hJ
      subst ho
      refine Pj.Step.free rfl ?_
      simp only [Pj.puts, List.foldl_cons, List.foldl_nil, Act.put, List.setIfInBounds_toArray, List.set_cons_zero, List.set_cons_succ, e1]
      go_simp
      exact hKq _ _ ⟨Pj.vset V 2 (.slice al ll cl), by simp only [Pj.puts, List.foldl_cons, List.foldl_nil, Act.put, List.setIfInBounds_toArray, List.set_cons_zero, List.set_cons_succ, Pj.vset, Nat.reduceEqDiff, if_true, if_false, e1], HJ.out.more HP.out hL (Kept.refl _) (rfl)⟩
    | 3, ho =>
      simp only [List.getElem?_toArray, List.getElem?_cons_zero, List.getElem?_cons_succ, Option.some.injEq] at ho
      have e2 : V 2 = .slice al ll cl := hJ.h 2 (hdep 2 (by rw [← ho]; kernel_rfl))
      have HJ := Lib.hid hJ
      clear hJ
      subst ho
      refine Pj.Step.free rfl ?_
      simp only [Pj.puts, List.foldl_cons, List.foldl_nil, Act.put, List.setIfInBounds_toArray, List.set_cons_zero, List.set_cons_succ, e2]
      go_simp
      exact hKq _ _ ⟨Pj.vset V 3 (.int .i64 ll), by simp only [Pj.puts, List.foldl_cons, List.foldl_nil, Act.put, List.setIfInBounds_toArray, List.set_cons_zero, List.set_cons_succ, Pj.vset, Nat.reduceEqDiff, if_true, if_false, e2], HJ.out.more HP.out hL (Kept.refl _) (rfl)⟩
    | 4, ho =>
      simp only [List.getElem?_toArray, List.getElem?_cons_zero, List.getElem?_cons_succ, Option.some.injEq] at ho
      have e3 : V 3 = .int .i64 ll := hJ.h 3 (hdep 3 (by rw [← ho]; kernel_rfl))
      have hwi := HWI.out w
      have HJ := Lib.hid hJ
      clear hJ
      subst ho
      refine Pj.Step.free rfl ?_
      simp only [Pj.puts, List.foldl_cons, List.foldl_nil, Act.put, List.setIfInBounds_toArray, List.set_cons_zero, List.set_cons_succ, e3]
      go_simp
      refine hwi.mono ?_
      rintro e w' ⟨rfl, rfl⟩
      have hk9 := Kept.refl w
      exact hKq _ _ ⟨Pj.vset V 4 (.int .i64 (z : Nat)), by simp only [Pj.puts, List.foldl_cons, List.foldl_nil, Act.put, List.setIfInBounds_toArray, List.set_cons_zero, List.set_cons_succ, Pj.vset, Nat.reduceEqDiff, if_true, if_false, e3], HJ.out.more HP.out hL (hk9) (rfl)⟩
    | 5, ho =>
      simp only [List.getElem?_toArray, List.getElem?_cons_zero, List.getElem?_cons_succ, Option.some.injEq] at ho
      have e4 : V 4 = .int .i64 (z : Nat) := hJ.h 4 (hdep 4 (by rw [← ho]; kernel_rfl))
      have hw9 := HWR.out
      have HJ := Lib.hid hJ
      clear hJ
      subst ho
      refine Pj.Step.free rfl ?_
      simp only [Pj.puts, List.foldl_cons, List.foldl_nil, Act.put, List.setIfInBounds_toArray, List.set_cons_zero, List.set_cons_succ, e4]
      go_simp
      exact hKq _ _ ⟨Pj.vset V 5 (.int .i64 (1 + (z : Int))), by simp only [Pj.puts, List.foldl_cons, List.foldl_nil, Act.put, List.setIfInBounds_toArray, List.set_cons_zero, List.set_cons_succ, Pj.vset, Nat.reduceEqDiff, if_true, if_false, e4], HJ.out.more HP.out hL (Kept.refl _) (rfl)⟩
    | 6, ho =>
      simp only [List.getElem?_toArray, List.getElem?_cons_zero, List.getElem?_cons_succ, Option.some.injEq] at ho
      have e5 : V 5 = .int .i64 (1 + (z : Int)) := hJ.h 5 (hdep 5 (by rw [← ho]; kernel_rfl))
      have HJ := Lib.hid hJ
      clear hJ
      subst ho
      refine Pj.Step.free rfl ?_
      simp only [Pj.puts, List.foldl_cons, List.foldl_nil, Act.put, List.setIfInBounds_toArray, List.set_cons_zero, List.set_cons_succ, e5]
      go_simp
      exact hKq _ _ ⟨Pj.vset V 6 (.agg #[.int .i64 (1 + (z : Int)), .int .i64 0, .int .i64 4]), by simp only [Pj.puts, List.foldl_cons, List.foldl_nil, Act.put, List.setIfInBounds_toArray, List.set_cons_zero, List.set_cons_succ, Pj.vset, Nat.reduceEqDiff, if_true, if_false, e5], HJ.out.more HP.out hL (Kept.refl _) (rfl)⟩
    | 7, ho =>
      simp only [List.getElem?_toArray, List.getElem?_cons_zero, List.getElem?_cons_succ, Option.some.injEq] at ho
      have e0 : V 0 = .agg #[.slice ax ls cs, .slice al ll cl, .slice ab lb cb] := hJ.h 0 (hdep 0 (by rw [← ho]; kernel_rfl))
      have e6 : V 6 = .agg #[.int .i64 (1 + (z : Int)), .int .i64 0, .int .i64 4] := hJ.h 6 (hdep 6 (by rw [← ho]; kernel_rfl))
      have hof := HOW.out w (1 + (z : Int)) 0 4 hJ.kp (by omega) (by omega) (by omega)
      have HJ := Lib.hid hJ
      clear hJ
      subst ho
      refine Pj.Step.free rfl ?_
      simp only [Pj.puts, List.foldl_cons, List.foldl_nil, Act.put, List.setIfInBounds_toArray, List.set_cons_zero, List.set_cons_succ, e0, e6]
      go_simp
      refine hof.mono ?_
      rintro e w' ⟨rfl, hk9⟩
      exact hKq _ _ ⟨Pj.vset V 7 (.bool true), by simp only [Pj.puts, List.foldl_cons, List.foldl_nil, Act.put, List.setIfInBounds_toArray, List.set_cons_zero, List.set_cons_succ, Pj.vset, Nat.reduceEqDiff, if_true, if_false, e0, e6], HJ.out.more HP.out hL (hk9) (rfl)⟩
    | 8, ho =>
      simp only [List.getElem?_toArray, List.getElem?_cons_zero, List.getElem?_cons_succ, Option.some.injEq] at ho
      have e7 : V 7 = .bool true := hJ.h 7 (hdep 7 (by rw [← ho]; kernel_rfl))
      have HJ := Lib.hid hJ
      clear hJ
      subst ho
      refine Pj.Step.free rfl ?_
      simp only [Pj.puts, List.foldl_cons, List.foldl_nil, Act.put, List.setIfInBounds_toArray, List.set_cons_zero, List.set_cons_succ, e7]
      go_simp
      exact hKq _ _ ⟨Pj.vset V 8 (.bool true), by simp only [Pj.puts, List.foldl_cons, List.foldl_nil, Act.put, List.setIfInBounds_toArray, List.set_cons_zero, List.set_cons_succ, Pj.vset, Nat.reduceEqDiff, if_true, if_false, e7], HJ.out.more HP.out hL (Kept.refl _) (rfl)⟩
    | n + 9, ho => simp at ho
  case ehe =>
    rintro L az w ⟨V, rfl, hJ⟩ hall
    have e0 : V 0 = .agg #[.slice ax ls cs, .slice al ll cl, .slice ab lb cb] := hJ.h 0 (hall 0 (by decide))
    have e1 : V 1 = .pointer (some ⟨W.heap.size, 1, none⟩) := hJ.h 1 (hall 1 (by decide))
    have e2 : V 2 = .slice al ll cl := hJ.h 2 (hall 2 (by decide))
    have e3 : V 3 = .int .i64 ll := hJ.h 3 (hall 3 (by decide))
    have e4 : V 4 = .int .i64 (z : Nat) := hJ.h 4 (hall 4 (by decide))
    have e5 : V 5 = .int .i64 (1 + (z : Int)) := hJ.h 5 (hall 5 (by decide))
    have e6 : V 6 = .agg #[.int .i64 (1 + (z : Int)), .int .i64 0, .int .i64 4] := hJ.h 6 (hall 6 (by decide))
    have e7 : V 7 = .bool true := hJ.h 7 (hall 7 (by decide))
    have e8 : V 8 = .bool true := hJ.h 8 (hall 8 (by decide))
    have HKj := Lib.hid hJ.kp
    clear hJ hall
    simp only [Pj.puts, List.foldl_cons, List.foldl_nil, Act.put, List.setIfInBounds_toArray, List.set_cons_zero, List.set_cons_succ, e0, e1, e2, e3, e4, e5, e6, e7, e8]
    clear e0 e1 e2 e3 e4 e5 e6 e7 e8
    have HK6 := Lib.hid (HK0.out.trans HKj.out)
    go_wp2
    go_ret
    exact ⟨rfl, HK6.out⟩
set_option maxRecDepth 100000 in
set_option maxHeartbeats 4000000 in
theorem code_great (hof : OfC) : LawC 9 := by
  intro ax ls cs al ll cl ss ab lb cb T W h hT hlb
  have HOF := Lib.hid hof
  have HA := Lib.hid h
  have HT := Lib.hid hT
  have HLB := Lib.hid hlb
  have HK0 := Lib.hid ((Kept.refl W).alloc (.cells #[.slice ax ls cs, .slice al ll cl, .slice ab lb cb] 26))
  have HB0 := Lib.hid (BlockAt.new W #[.slice ax ls cs, .slice al ll cl, .slice ab lb cb] 26)
  clear hof h hT hlb
  go_enter Try.func9, Try.ntmps9
  go_upto_region 1 with (fail)
  generalize W.alloc (.cells #[.slice ax ls cs, .slice al ll cl, .slice ab lb cb] 26) = w1 at *
  have HRQ := Lib.hid (show ∀ w, Kept w1 w → w.cell? ⟨W.heap.size, 0, none⟩ = some (.slice ax ls cs) ∧ w.cell? ⟨W.heap.size, 1, none⟩ = some (.slice al ll cl) ∧ w.cell? ⟨W.heap.size, 2, none⟩ = some (.slice ab lb cb) from fun w kk => box3c (HB0.out.kept kk))
  have HOW := Lib.hid (show ∀ w (k m s : Int), Kept w1 w → (0 ≤ k ∧ k ≤ 100) → (0 ≤ m ∧ m ≤ 100) → (0 ≤ s ∧ s ≤ 100) → Calls Try.prog 32 #[.agg #[.slice ax ls cs, .slice al ll cl, .slice ab lb cb], .agg #[.int .i64 k, .int .i64 m, .int .i64 s]] w fun e W' => e = .returned (.bool true) ∧ Kept w W' from fun w k m s kk hk hm hs =>
    HOF.out ax ls cs al ll cl ss ab lb cb T k m s w (HA.out.kept (HK0.out.trans kk)) (HT.out.kept (HK0.out.trans kk)) HLB.out (by omega) (by omega) (by omega))
  obtain ⟨a0, a1, a2⟩ := HRQ.out _ (Kept.refl _)
  go_wp2_with fail
  refine (HOW.out _ 8 6 2 (Kept.refl _) (by omega) (by omega) (by omega)).mono ?_
  rintro e w6 ⟨rfl, hk6⟩
  have HK6 := Lib.hid (HK0.out.trans hk6)
  clear hk6 a0 a1 a2
  go_wp2
  go_ret
  exact ⟨rfl, HK6.out⟩
end Go.Proofs.Ytoonpnpooljmlaa
