/- names.Glob, by what it answers (texts of no great length). -/
import Derived.Test.YtjiefcjjgadjiaaDoorGl1
import Derived.Test.YtjiefcjjgadjiaaDoorPj
namespace Go.Proofs.YtjiefcjjgadjiaaDoor
open Go.RowKit Go.Shelf
theorem drop_data (r : ByteArray) (k : Nat) : (r.extract k r.size).data.toList = r.data.toList.drop k := by
  rw [seg_of]
  unfold seg
  rw [List.take_of_length_le (by rw [List.length_drop]; exact Nat.le_refl _)]
/-- how far a text may be matched behind a pattern, of how far it may be ahead of it -/
def globF (s : ByteArray) (l : List UInt8) (F : Nat → Bool) : Nat → Bool :=
  if _h0 : l = [] then F
  else if Lib.hasPrefix l [42, 42] = true then globF s (l.drop 2) (starF s true F)
  else if (l.getD 0 0 == 42) = true then globF s (l.drop 1) (starF s false F)
  else globF s (l.drop 1) (letF s (l.getD 0 0) F)
termination_by l.length
decreasing_by all_goals (have := List.length_pos_iff.2 _h0; simp only [List.length_drop]; omega)
theorem globF_nil (s : ByteArray) (F : Nat → Bool) : globF s [] F = F := by rw [globF, dif_pos rfl]
theorem globF_two (s : ByteArray) (l : List UInt8) (F : Nat → Bool) (h0 : l ≠ []) (h : Lib.hasPrefix l [42, 42] = true) : globF s l F = globF s (l.drop 2) (starF s true F) := by rw [globF, dif_neg h0, if_pos h]
theorem globF_one (s : ByteArray) (l : List UInt8) (F : Nat → Bool) (h0 : l ≠ []) (h : Lib.hasPrefix l [42, 42] = false) (h1 : (l.getD 0 0 == 42) = true) : globF s l F = globF s (l.drop 1) (starF s false F) := by rw [globF, dif_neg h0, if_neg (by rw [h]; exact Bool.false_ne_true), if_pos h1]
theorem globF_let (s : ByteArray) (l : List UInt8) (F : Nat → Bool) (h0 : l ≠ []) (h : Lib.hasPrefix l [42, 42] = false) (h1 : (l.getD 0 0 == 42) = false) : globF s l F = globF s (l.drop 1) (letF s (l.getD 0 0) F) := by rw [globF, dif_neg h0, if_neg (by rw [h]; exact Bool.false_ne_true), if_neg (by rw [h1]; exact Bool.false_ne_true)]
def atZero : Nat → Bool := fun i => i == 0
def globB (p s : ByteArray) : Bool := globF s p.data.toList atZero s.size
theorem prefix_len (l : List UInt8) (h : Lib.hasPrefix l [42, 42] = true) : 2 ≤ l.length := by
  unfold Lib.hasPrefix at h
  match l, h with
  | [], h => simp at h
  | [x], h => simp at h
  | x :: y :: r, _ => simp
set_option maxRecDepth 100000 in
set_option maxHeartbeats 4000000 in
theorem glob_good (p s : ByteArray) (w : World) (hp : p.size ≤ 40) (hs : s.size ≤ 40) :
    Calls Tryd.prog 18 #[.string p, .string s] w fun e w' => e = .returned (.tuple #[.bool (globB p s), .int .i64 0]) ∧ Kept w w' := by
  obtain ⟨n, hn⟩ : ∃ n, n = s.size + 1 := ⟨_, rfl⟩
  have hmk : ∀ u : World, (Instr.makeSlice 51 (.int .i64 ((s.size : Int) + 1)) (.int .i64 ((s.size : Int) + 1))).run Tryd.prog u =
      .ok (.slice (some ⟨u.heap.size, 0, none⟩) n n) (u.alloc (.cells (madeCells #[.bool false] n) 4)) := fun u => by
    rw [show (s.size : Int) + 1 = (n : Int) by omega]
    exact mkBs n (by omega) u
  have HN := Lib.hid hn
  have hn1 : s.size < n := by omega
  have hn2 : n ≤ 41 := by omega
  have hn3 : 0 < n := by omega
  clear hn
  have hd1 : decide ((40 : Int) < p.size) = false := decide_eq_false (by omega)
  have hd2 : decide ((40 : Int) < s.size) = false := decide_eq_false (by omega)
  unfold globB
  go_enter Tryd.func18, Tryd.ntmps18
  go_upto_region 4 with (fail)
  have hB1 := Bs.new w n
  have hK1 := (Kept.refl w).alloc (.cells (madeCells #[.bool false] n) 4)
  generalize w.alloc (.cells (madeCells #[.bool false] n) 4) = w1 at *
  obtain ⟨g, hg⟩ : ∃ g, w.heap.size = g := ⟨_, rfl⟩
  rw [hg] at hB1 ⊢
  have hf := hB1.free 0
  have hc := hB1.cell 0 hn3
  have HB2 := Lib.hid (hB1.set 0 hn3 true atZero (fun i hi => by
    by_cases e : i = 0
    · subst e; rfl
    · rw [if_neg e]; exact beq_eq_false_iff_ne.2 e))
  have HK2 := Lib.hid (hK1.setCell (p := ⟨g, 0, none⟩) (show w.heap.size ≤ g by omega) (.bool true))
  clear hmk hg hB1 hK1
  go_wp2_with fail
  clear hf hc
  go_loopw [6, 7] (fun at9 i wr => ∃ (r : ByteArray) (g c : Nat) (F : Nat → Bool), i = .string r ∧ at9 = .slice (some ⟨g, 0, none⟩) n c ∧ Bs wr g n F ∧ globF s r.data.toList F = globF s p.data.toList atZero ∧ Kept w wr) (fun _ i _ => match i with | .string t => t.size | _ => 0)
  case atStart => exact ⟨p, g, n, atZero, rfl, rfl, HB2.out, rfl, HK2.out⟩
  case round =>
    obtain ⟨r, g, c, F, rfl, rfl, hb, hgl, hk⟩ := hrel
    have HB := Lib.hid hb
    have HG := Lib.hid hgl
    have HK := Lib.hid hk
    clear hb hgl hk HB2 HK2
    have hrl : r.data.toList.length = r.size := rfl
    by_cases h0 : 0 < r.size
    · have HNE := Lib.hid (show r.data.toList ≠ [] from fun e => by rw [e] at hrl; simp at hrl; omega)
      have hne : r.toList.isEmpty = false := by
        rw [← toList_data]
        cases hc : r.data.toList with
        | nil => rw [hc] at hrl; simp at hrl; omega
        | cons x k => rfl
      have HPF := Lib.hid (Tryd.strings_HasPrefix r ⟨#[42, 42]⟩)
      have HR0 := Lib.hid (byte_of r 0 h0)
      have HP2 := Lib.hid (fun h => prefix_len r.data.toList h)
      rw [hrl] at HP2
      have HPE := Lib.hid (show Lib.hasPrefix r.data.toList (⟨#[42, 42]⟩ : ByteArray).data.toList = Lib.hasPrefix r.data.toList [42, 42] from rfl)
      rw [HPE.out] at HPF
      cases hb2 : Lib.hasPrefix r.data.toList [42, 42] with
      | true =>
        have h2 : 2 ≤ r.size := HP2.out hb2
        have HLE := Lib.hid (show (2 : Int) ≤ (r.size : Int) by omega)
        have HNX := Lib.hid (globF_two s r.data.toList F HNE.out hb2)
        have HST := Lib.hid (fun w hb => star_nm s true g n c F w HN.out hs hb)
        rw [hb2] at HPF
        clear hrl hb2
        go_wp2_with fail
        refine (HPF.out _).mono ?_
        rintro e wq ⟨rfl, rfl⟩
        go_wp2_with fail
        refine Pj.wp_region_step (fun a0 L a w => ∃ V : Nat → Value, a = Pj.puts [(35, 0), (36, 1), (37, 2), (38, 3), (39, 4), (6, 5), (7, 6)] V a0 ∧ Pj.J wq [Pj.Is (.slice (some ⟨g, 0, none⟩) n c), Pj.Is (.string s), (fun w v => ∃ g9, v = .slice (some ⟨g9, 0, none⟩) n n ∧ Bs w g9 n (starF s true F)), Pj.Is (.string r), Pj.Is (.string (r.extract 2 r.size)), (fun w v => ∃ g9, v = .slice (some ⟨g9, 0, none⟩) n n ∧ Bs w g9 n (starF s true F)), Pj.Is (.string (r.extract 2 r.size))] L V w ∧ (¬ L 5 → V 5 = .slice (some ⟨g, 0, none⟩) n c) ∧ (L 5 → L 0) ∧ (¬ L 6 → V 6 = .string r) ∧ (L 6 → L 3)) (by as_aux_lemma => kernel_rfl) (by as_aux_lemma => kernel_rfl) ?eh0 ?ehs ?ehe
        case eh0 =>
          intro L hL
          exact ⟨_, Pj.puts_self _ (fun j => ([35, 36, 37, 38, 39, 6, 7] : List Nat).getD j 0) [0, 1, 2, 3, 4, 5, 6], Pj.J.none (n := 7) (Nat.le_refl _) hL ((Kept.refl _).drew), fun _ => rfl, fun h => absurd h (hL 5 (by decide)), fun _ => rfl, fun h => absurd h (hL 6 (by decide))⟩
        case ehs =>
          rintro L L' a w i op K ⟨V, rfl, hJ, hi5, hl5_0, hi6, hl6_3⟩ ho hopen hdep hL hK
          have hP : Pj.AllStay [Pj.Is (.slice (some ⟨g, 0, none⟩) n c), Pj.Is (.string s), (fun w v => ∃ g9, v = .slice (some ⟨g9, 0, none⟩) n n ∧ Bs w g9 n (starF s true F)), Pj.Is (.string r), Pj.Is (.string (r.extract 2 r.size)), (fun w v => ∃ g9, v = .slice (some ⟨g9, 0, none⟩) n n ∧ Bs w g9 n (starF s true F)), Pj.Is (.string (r.extract 2 r.size))] := ⟨Pj.Is.stays _, Pj.Is.stays _, fun _ _ _ ⟨g9, e, h⟩ k => ⟨g9, e, h.kept k⟩, Pj.Is.stays _, Pj.Is.stays _, fun _ _ _ ⟨g9, e, h⟩ k => ⟨g9, e, h.kept k⟩, Pj.Is.stays _, trivial⟩
          have HP := Lib.hid hP
          clear hP
          match i, ho with
          | 0, ho =>
            simp only [List.getElem?_toArray, List.getElem?_cons_zero, Option.some.injEq] at ho
            have ei5 : V 5 = .slice (some ⟨g, 0, none⟩) n c := hi5 (fun h => hopen (hl5_0 h))
            have HJ := Lib.hid hJ
            clear hJ
            subst ho
            refine Pj.Step.free rfl ?_
            simp only [Pj.puts, List.foldl_cons, List.foldl_nil, Act.put, List.setIfInBounds_toArray, List.set_cons_zero, List.set_cons_succ, ei5]
            go_simp
            exact hK _ _ ⟨Pj.vset V 0 (.slice (some ⟨g, 0, none⟩) n c), by simp only [Pj.puts, List.foldl_cons, List.foldl_nil, Act.put, List.setIfInBounds_toArray, List.set_cons_zero, List.set_cons_succ, Pj.vset, Nat.reduceEqDiff, if_true, if_false, ei5], HJ.out.more HP.out hL (Kept.refl _) (rfl), fun h => by rw [Pj.vset_other _ _ (by decide)]; exact hi5 (fun q => h ((hL 5).2 (.inr q))), fun h => (hL 0).2 (((hL 5).1 h).elim (fun e => absurd e (by decide)) (fun q => .inr (hl5_0 q))), fun h => by rw [Pj.vset_other _ _ (by decide)]; exact hi6 (fun q => h ((hL 6).2 (.inr q))), fun h => (hL 3).2 (((hL 6).1 h).elim (fun e => absurd e (by decide)) (fun q => .inr (hl6_3 q)))⟩
          | 1, ho =>
            simp only [List.getElem?_toArray, List.getElem?_cons_zero, List.getElem?_cons_succ, Option.some.injEq] at ho
            have HJ := Lib.hid hJ
            clear hJ
            subst ho
            refine Pj.Step.free rfl ?_
            simp only [Pj.puts, List.foldl_cons, List.foldl_nil, Act.put, List.setIfInBounds_toArray, List.set_cons_zero, List.set_cons_succ]
            go_simp
            exact hK _ _ ⟨Pj.vset V 1 (.string s), by simp only [Pj.puts, List.foldl_cons, List.foldl_nil, Act.put, List.setIfInBounds_toArray, List.set_cons_zero, List.set_cons_succ, Pj.vset, Nat.reduceEqDiff, if_true, if_false], HJ.out.more HP.out hL (Kept.refl _) (rfl), fun h => by rw [Pj.vset_other _ _ (by decide)]; exact hi5 (fun q => h ((hL 5).2 (.inr q))), fun h => (hL 0).2 (((hL 5).1 h).elim (fun e => absurd e (by decide)) (fun q => .inr (hl5_0 q))), fun h => by rw [Pj.vset_other _ _ (by decide)]; exact hi6 (fun q => h ((hL 6).2 (.inr q))), fun h => (hL 3).2 (((hL 6).1 h).elim (fun e => absurd e (by decide)) (fun q => .inr (hl6_3 q)))⟩
          | 2, ho =>
            simp only [List.getElem?_toArray, List.getElem?_cons_zero, List.getElem?_cons_succ, Option.some.injEq] at ho
            have e0 : V 0 = .slice (some ⟨g, 0, none⟩) n c := hJ.h 0 (hdep 0 (by rw [← ho]; kernel_rfl))
            have e1 : V 1 = .string s := hJ.h 1 (hdep 1 (by rw [← ho]; kernel_rfl))
            have hbx := HB.out.kept hJ.kp
            have HJ := Lib.hid hJ
            clear hJ
            subst ho
            refine Pj.Step.free rfl ?_
            simp only [Pj.puts, List.foldl_cons, List.foldl_nil, Act.put, List.setIfInBounds_toArray, List.set_cons_zero, List.set_cons_succ, e0, e1]
            go_simp
            refine (HST.out w hbx).mono ?_
            rintro e w' ⟨⟨g9, rfl, hb9⟩, hk9⟩
            exact hK _ _ ⟨Pj.vset V 2 (.slice (some ⟨g9, 0, none⟩) n n), by simp only [Pj.puts, List.foldl_cons, List.foldl_nil, Act.put, List.setIfInBounds_toArray, List.set_cons_zero, List.set_cons_succ, Pj.vset, Nat.reduceEqDiff, if_true, if_false, e0, e1], HJ.out.more HP.out hL (hk9) (⟨_, rfl, hb9⟩), fun h => by rw [Pj.vset_other _ _ (by decide)]; exact hi5 (fun q => h ((hL 5).2 (.inr q))), fun h => (hL 0).2 (((hL 5).1 h).elim (fun e => absurd e (by decide)) (fun q => .inr (hl5_0 q))), fun h => by rw [Pj.vset_other _ _ (by decide)]; exact hi6 (fun q => h ((hL 6).2 (.inr q))), fun h => (hL 3).2 (((hL 6).1 h).elim (fun e => absurd e (by decide)) (fun q => .inr (hl6_3 q)))⟩
          | 3, ho =>
            simp only [List.getElem?_toArray, List.getElem?_cons_zero, List.getElem?_cons_succ, Option.some.injEq] at ho
            have ei6 : V 6 = .string r := hi6 (fun h => hopen (hl6_3 h))
            have HJ := Lib.hid hJ
            clear hJ
            subst ho
            refine Pj.Step.free rfl ?_
            simp only [Pj.puts, List.foldl_cons, List.foldl_nil, Act.put, List.setIfInBounds_toArray, List.set_cons_zero, List.set_cons_succ, ei6]
            go_simp
            exact hK _ _ ⟨Pj.vset V 3 (.string r), by simp only [Pj.puts, List.foldl_cons, List.foldl_nil, Act.put, List.setIfInBounds_toArray, List.set_cons_zero, List.set_cons_succ, Pj.vset, Nat.reduceEqDiff, if_true, if_false, ei6], HJ.out.more HP.out hL (Kept.refl _) (rfl), fun h => by rw [Pj.vset_other _ _ (by decide)]; exact hi5 (fun q => h ((hL 5).2 (.inr q))), fun h => (hL 0).2 (((hL 5).1 h).elim (fun e => absurd e (by decide)) (fun q => .inr (hl5_0 q))), fun h => by rw [Pj.vset_other _ _ (by decide)]; exact hi6 (fun q => h ((hL 6).2 (.inr q))), fun h => (hL 3).2 (((hL 6).1 h).elim (fun e => absurd e (by decide)) (fun q => .inr (hl6_3 q)))⟩
          | 4, ho =>
            simp only [List.getElem?_toArray, List.getElem?_cons_zero, List.getElem?_cons_succ, Option.some.injEq] at ho
            have e3 : V 3 = .string r := hJ.h 3 (hdep 3 (by rw [← ho]; kernel_rfl))
            have HJ := Lib.hid hJ
            clear hJ
            subst ho
            refine Pj.Step.free rfl ?_
            simp only [Pj.puts, List.foldl_cons, List.foldl_nil, Act.put, List.setIfInBounds_toArray, List.set_cons_zero, List.set_cons_succ, e3]
            go_simp
            rw [if_pos HLE.out]
            go_simp
            exact hK _ _ ⟨Pj.vset V 4 (.string (r.extract 2 r.size)), by simp only [Pj.puts, List.foldl_cons, List.foldl_nil, Act.put, List.setIfInBounds_toArray, List.set_cons_zero, List.set_cons_succ, Pj.vset, Nat.reduceEqDiff, if_true, if_false, e3], HJ.out.more HP.out hL (Kept.refl _) (rfl), fun h => by rw [Pj.vset_other _ _ (by decide)]; exact hi5 (fun q => h ((hL 5).2 (.inr q))), fun h => (hL 0).2 (((hL 5).1 h).elim (fun e => absurd e (by decide)) (fun q => .inr (hl5_0 q))), fun h => by rw [Pj.vset_other _ _ (by decide)]; exact hi6 (fun q => h ((hL 6).2 (.inr q))), fun h => (hL 3).2 (((hL 6).1 h).elim (fun e => absurd e (by decide)) (fun q => .inr (hl6_3 q)))⟩
          | 5, ho =>
            simp only [List.getElem?_toArray, List.getElem?_cons_zero, List.getElem?_cons_succ, Option.some.injEq] at ho
            obtain ⟨g9, e2, hg9⟩ := hJ.h 2 (hdep 2 (by rw [← ho]; kernel_rfl))
            have hd5_0 := hdep 0 (by rw [← ho]; kernel_rfl)
            have HJ := Lib.hid hJ
            clear hJ
            subst ho
            refine Pj.Step.free rfl ?_
            simp only [Pj.puts, List.foldl_cons, List.foldl_nil, Act.put, List.setIfInBounds_toArray, List.set_cons_zero, List.set_cons_succ, e2]
            go_simp
            exact hK _ _ ⟨Pj.vset V 5 (.slice (some ⟨g9, 0, none⟩) n n), by simp only [Pj.puts, List.foldl_cons, List.foldl_nil, Act.put, List.setIfInBounds_toArray, List.set_cons_zero, List.set_cons_succ, Pj.vset, Nat.reduceEqDiff, if_true, if_false, e2], HJ.out.more HP.out hL (Kept.refl _) (⟨_, rfl, hg9⟩), fun h => absurd ((hL 5).2 (.inl rfl)) h, fun _ => (hL 0).2 (.inr hd5_0), fun h => by rw [Pj.vset_other _ _ (by decide)]; exact hi6 (fun q => h ((hL 6).2 (.inr q))), fun h => (hL 3).2 (((hL 6).1 h).elim (fun e => absurd e (by decide)) (fun q => .inr (hl6_3 q)))⟩
          | 6, ho =>
            simp only [List.getElem?_toArray, List.getElem?_cons_zero, List.getElem?_cons_succ, Option.some.injEq] at ho
            have e4 : V 4 = .string (r.extract 2 r.size) := hJ.h 4 (hdep 4 (by rw [← ho]; kernel_rfl))
            have hd6_3 := hdep 3 (by rw [← ho]; kernel_rfl)
            have HJ := Lib.hid hJ
            clear hJ
            subst ho
            refine Pj.Step.free rfl ?_
            simp only [Pj.puts, List.foldl_cons, List.foldl_nil, Act.put, List.setIfInBounds_toArray, List.set_cons_zero, List.set_cons_succ, e4]
            go_simp
            exact hK _ _ ⟨Pj.vset V 6 (.string (r.extract 2 r.size)), by simp only [Pj.puts, List.foldl_cons, List.foldl_nil, Act.put, List.setIfInBounds_toArray, List.set_cons_zero, List.set_cons_succ, Pj.vset, Nat.reduceEqDiff, if_true, if_false, e4], HJ.out.more HP.out hL (Kept.refl _) (rfl), fun h => by rw [Pj.vset_other _ _ (by decide)]; exact hi5 (fun q => h ((hL 5).2 (.inr q))), fun h => (hL 0).2 (((hL 5).1 h).elim (fun e => absurd e (by decide)) (fun q => .inr (hl5_0 q))), fun h => absurd ((hL 6).2 (.inl rfl)) h, fun _ => (hL 3).2 (.inr hd6_3)⟩
          | n + 7, ho => simp at ho
        case ehe =>
          rintro L a w ⟨V, rfl, hJ, hi5, hl5_0, hi6, hl6_3⟩ hall
          obtain ⟨g9, e5, hg9⟩ := hJ.h 5 (hall 5 (by decide))
          have e6 : V 6 = .string (r.extract 2 r.size) := hJ.h 6 (hall 6 (by decide))
          have HKj := Lib.hid hJ.kp
          clear hJ hall hi5 hl5_0 hi6 hl6_3
          simp only [Pj.puts, List.foldl_cons, List.foldl_nil, Act.put, List.setIfInBounds_toArray, List.set_cons_zero, List.set_cons_succ, e5, e6]
          clear e5 e6
          have HB9 := Lib.hid hg9
          have HKn := Lib.hid (HK.out.trans HKj.out)
          clear HKj hg9
          go_wp2
          go_roundw
          case rel => exact ⟨r.extract 2 r.size, g9, n, _, rfl, rfl, HB9.out, by rw [drop_data, ← HNX.out]; exact HG.out, HKn.out⟩
          case measure => show (r.extract 2 r.size).size < r.size; rw [ByteArray.size_extract]; omega
      | false =>
        rw [hb2] at HPF
        have q42 : (r[0] == (42 : UInt8)) = decide (r[0].toNat = 42) := byte_eq _ 42 (by omega)
        by_cases h42 : r[0].toNat = 42
        · have HNX := Lib.hid (globF_one s r.data.toList F HNE.out hb2 (by rw [← HR0.out, q42, decide_eq_true h42]))
          have HST := Lib.hid (fun w hb => star_nm s false g n c F w HN.out hs hb)
          have e1 : ((r[0].toNat : Int) == 42) = true := beq_iff_eq.2 (by omega)
          have h1 : 1 ≤ r.size := h0
          have HLE := Lib.hid (show (1 : Int) ≤ (r.size : Int) by omega)
          clear hrl hb2 h42 q42
          go_wp2_with fail
          refine (HPF.out _).mono ?_
          rintro e wq ⟨rfl, rfl⟩
          go_wp2_with fail
          refine Pj.wp_region_step (fun a0 L a w => ∃ V : Nat → Value, a = Pj.puts [(44, 0), (45, 1), (46, 2), (47, 3), (48, 4), (6, 5), (7, 6)] V a0 ∧ Pj.J wq [Pj.Is (.slice (some ⟨g, 0, none⟩) n c), Pj.Is (.string s), (fun w v => ∃ g9, v = .slice (some ⟨g9, 0, none⟩) n n ∧ Bs w g9 n (starF s false F)), Pj.Is (.string r), Pj.Is (.string (r.extract 1 r.size)), (fun w v => ∃ g9, v = .slice (some ⟨g9, 0, none⟩) n n ∧ Bs w g9 n (starF s false F)), Pj.Is (.string (r.extract 1 r.size))] L V w ∧ (¬ L 5 → V 5 = .slice (some ⟨g, 0, none⟩) n c) ∧ (L 5 → L 0) ∧ (¬ L 6 → V 6 = .string r) ∧ (L 6 → L 3)) (by as_aux_lemma => kernel_rfl) (by as_aux_lemma => kernel_rfl) ?eh0 ?ehs ?ehe
          case eh0 =>
            intro L hL
            exact ⟨_, Pj.puts_self _ (fun j => ([44, 45, 46, 47, 48, 6, 7] : List Nat).getD j 0) [0, 1, 2, 3, 4, 5, 6], Pj.J.none (n := 7) (Nat.le_refl _) hL ((Kept.refl _).drew), fun _ => rfl, fun h => absurd h (hL 5 (by decide)), fun _ => rfl, fun h => absurd h (hL 6 (by decide))⟩
          case ehs =>
            rintro L L' a w i op K ⟨V, rfl, hJ, hi5, hl5_0, hi6, hl6_3⟩ ho hopen hdep hL hK
            have hP : Pj.AllStay [Pj.Is (.slice (some ⟨g, 0, none⟩) n c), Pj.Is (.string s), (fun w v => ∃ g9, v = .slice (some ⟨g9, 0, none⟩) n n ∧ Bs w g9 n (starF s false F)), Pj.Is (.string r), Pj.Is (.string (r.extract 1 r.size)), (fun w v => ∃ g9, v = .slice (some ⟨g9, 0, none⟩) n n ∧ Bs w g9 n (starF s false F)), Pj.Is (.string (r.extract 1 r.size))] := ⟨Pj.Is.stays _, Pj.Is.stays _, fun _ _ _ ⟨g9, e, h⟩ k => ⟨g9, e, h.kept k⟩, Pj.Is.stays _, Pj.Is.stays _, fun _ _ _ ⟨g9, e, h⟩ k => ⟨g9, e, h.kept k⟩, Pj.Is.stays _, trivial⟩
            have HP := Lib.hid hP
            clear hP
            match i, ho with
            | 0, ho =>
              simp only [List.getElem?_toArray, List.getElem?_cons_zero, Option.some.injEq] at ho
              have ei5 : V 5 = .slice (some ⟨g, 0, none⟩) n c := hi5 (fun h => hopen (hl5_0 h))
              have HJ := Lib.hid hJ
              clear hJ
              subst ho
              refine Pj.Step.free rfl ?_
              simp only [Pj.puts, List.foldl_cons, List.foldl_nil, Act.put, List.setIfInBounds_toArray, List.set_cons_zero, List.set_cons_succ, ei5]
              go_simp
              exact hK _ _ ⟨Pj.vset V 0 (.slice (some ⟨g, 0, none⟩) n c), by simp only [Pj.puts, List.foldl_cons, List.foldl_nil, Act.put, List.setIfInBounds_toArray, List.set_cons_zero, List.set_cons_succ, Pj.vset, Nat.reduceEqDiff, if_true, if_false, ei5], HJ.out.more HP.out hL (Kept.refl _) (rfl), fun h => by rw [Pj.vset_other _ _ (by decide)]; exact hi5 (fun q => h ((hL 5).2 (.inr q))), fun h => (hL 0).2 (((hL 5).1 h).elim (fun e => absurd e (by decide)) (fun q => .inr (hl5_0 q))), fun h => by rw [Pj.vset_other _ _ (by decide)]; exact hi6 (fun q => h ((hL 6).2 (.inr q))), fun h => (hL 3).2 (((hL 6).1 h).elim (fun e => absurd e (by decide)) (fun q => .inr (hl6_3 q)))⟩
            | 1, ho =>
              simp only [List.getElem?_toArray, List.getElem?_cons_zero, List.getElem?_cons_succ, Option.some.injEq] at ho
              have HJ := Lib.hid hJ
              clear hJ
              subst ho
              refine Pj.Step.free rfl ?_
              simp only [Pj.puts, List.foldl_cons, List.foldl_nil, Act.put, List.setIfInBounds_toArray, List.set_cons_zero, List.set_cons_succ]
              go_simp
              exact hK _ _ ⟨Pj.vset V 1 (.string s), by simp only [Pj.puts, List.foldl_cons, List.foldl_nil, Act.put, List.setIfInBounds_toArray, List.set_cons_zero, List.set_cons_succ, Pj.vset, Nat.reduceEqDiff, if_true, if_false], HJ.out.more HP.out hL (Kept.refl _) (rfl), fun h => by rw [Pj.vset_other _ _ (by decide)]; exact hi5 (fun q => h ((hL 5).2 (.inr q))), fun h => (hL 0).2 (((hL 5).1 h).elim (fun e => absurd e (by decide)) (fun q => .inr (hl5_0 q))), fun h => by rw [Pj.vset_other _ _ (by decide)]; exact hi6 (fun q => h ((hL 6).2 (.inr q))), fun h => (hL 3).2 (((hL 6).1 h).elim (fun e => absurd e (by decide)) (fun q => .inr (hl6_3 q)))⟩
            | 2, ho =>
              simp only [List.getElem?_toArray, List.getElem?_cons_zero, List.getElem?_cons_succ, Option.some.injEq] at ho
              have e0 : V 0 = .slice (some ⟨g, 0, none⟩) n c := hJ.h 0 (hdep 0 (by rw [← ho]; kernel_rfl))
              have e1 : V 1 = .string s := hJ.h 1 (hdep 1 (by rw [← ho]; kernel_rfl))
              have hbx := HB.out.kept hJ.kp
              have HJ := Lib.hid hJ
              clear hJ
              subst ho
              refine Pj.Step.free rfl ?_
              simp only [Pj.puts, List.foldl_cons, List.foldl_nil, Act.put, List.setIfInBounds_toArray, List.set_cons_zero, List.set_cons_succ, e0, e1]
              go_simp
              refine (HST.out w hbx).mono ?_
              rintro e w' ⟨⟨g9, rfl, hb9⟩, hk9⟩
              exact hK _ _ ⟨Pj.vset V 2 (.slice (some ⟨g9, 0, none⟩) n n), by simp only [Pj.puts, List.foldl_cons, List.foldl_nil, Act.put, List.setIfInBounds_toArray, List.set_cons_zero, List.set_cons_succ, Pj.vset, Nat.reduceEqDiff, if_true, if_false, e0, e1], HJ.out.more HP.out hL (hk9) (⟨_, rfl, hb9⟩), fun h => by rw [Pj.vset_other _ _ (by decide)]; exact hi5 (fun q => h ((hL 5).2 (.inr q))), fun h => (hL 0).2 (((hL 5).1 h).elim (fun e => absurd e (by decide)) (fun q => .inr (hl5_0 q))), fun h => by rw [Pj.vset_other _ _ (by decide)]; exact hi6 (fun q => h ((hL 6).2 (.inr q))), fun h => (hL 3).2 (((hL 6).1 h).elim (fun e => absurd e (by decide)) (fun q => .inr (hl6_3 q)))⟩
            | 3, ho =>
              simp only [List.getElem?_toArray, List.getElem?_cons_zero, List.getElem?_cons_succ, Option.some.injEq] at ho
              have ei6 : V 6 = .string r := hi6 (fun h => hopen (hl6_3 h))
              have HJ := Lib.hid hJ
              clear hJ
              subst ho
              refine Pj.Step.free rfl ?_
              simp only [Pj.puts, List.foldl_cons, List.foldl_nil, Act.put, List.setIfInBounds_toArray, List.set_cons_zero, List.set_cons_succ, ei6]
              go_simp
              exact hK _ _ ⟨Pj.vset V 3 (.string r), by simp only [Pj.puts, List.foldl_cons, List.foldl_nil, Act.put, List.setIfInBounds_toArray, List.set_cons_zero, List.set_cons_succ, Pj.vset, Nat.reduceEqDiff, if_true, if_false, ei6], HJ.out.more HP.out hL (Kept.refl _) (rfl), fun h => by rw [Pj.vset_other _ _ (by decide)]; exact hi5 (fun q => h ((hL 5).2 (.inr q))), fun h => (hL 0).2 (((hL 5).1 h).elim (fun e => absurd e (by decide)) (fun q => .inr (hl5_0 q))), fun h => by rw [Pj.vset_other _ _ (by decide)]; exact hi6 (fun q => h ((hL 6).2 (.inr q))), fun h => (hL 3).2 (((hL 6).1 h).elim (fun e => absurd e (by decide)) (fun q => .inr (hl6_3 q)))⟩
            | 4, ho =>
              simp only [List.getElem?_toArray, List.getElem?_cons_zero, List.getElem?_cons_succ, Option.some.injEq] at ho
              have e3 : V 3 = .string r := hJ.h 3 (hdep 3 (by rw [← ho]; kernel_rfl))
              have HJ := Lib.hid hJ
              clear hJ
              subst ho
              refine Pj.Step.free rfl ?_
              simp only [Pj.puts, List.foldl_cons, List.foldl_nil, Act.put, List.setIfInBounds_toArray, List.set_cons_zero, List.set_cons_succ, e3]
              go_simp
              rw [if_pos HLE.out]
              go_simp
              exact hK _ _ ⟨Pj.vset V 4 (.string (r.extract 1 r.size)), by simp only [Pj.puts, List.foldl_cons, List.foldl_nil, Act.put, List.setIfInBounds_toArray, List.set_cons_zero, List.set_cons_succ, Pj.vset, Nat.reduceEqDiff, if_true, if_false, e3], HJ.out.more HP.out hL (Kept.refl _) (rfl), fun h => by rw [Pj.vset_other _ _ (by decide)]; exact hi5 (fun q => h ((hL 5).2 (.inr q))), fun h => (hL 0).2 (((hL 5).1 h).elim (fun e => absurd e (by decide)) (fun q => .inr (hl5_0 q))), fun h => by rw [Pj.vset_other _ _ (by decide)]; exact hi6 (fun q => h ((hL 6).2 (.inr q))), fun h => (hL 3).2 (((hL 6).1 h).elim (fun e => absurd e (by decide)) (fun q => .inr (hl6_3 q)))⟩
            | 5, ho =>
              simp only [List.getElem?_toArray, List.getElem?_cons_zero, List.getElem?_cons_succ, Option.some.injEq] at ho
              obtain ⟨g9, e2, hg9⟩ := hJ.h 2 (hdep 2 (by rw [← ho]; kernel_rfl))
              have hd5_0 := hdep 0 (by rw [← ho]; kernel_rfl)
              have HJ := Lib.hid hJ
              clear hJ
              subst ho
              refine Pj.Step.free rfl ?_
              simp only [Pj.puts, List.foldl_cons, List.foldl_nil, Act.put, List.setIfInBounds_toArray, List.set_cons_zero, List.set_cons_succ, e2]
              go_simp
              exact hK _ _ ⟨Pj.vset V 5 (.slice (some ⟨g9, 0, none⟩) n n), by simp only [Pj.puts, List.foldl_cons, List.foldl_nil, Act.put, List.setIfInBounds_toArray, List.set_cons_zero, List.set_cons_succ, Pj.vset, Nat.reduceEqDiff, if_true, if_false, e2], HJ.out.more HP.out hL (Kept.refl _) (⟨_, rfl, hg9⟩), fun h => absurd ((hL 5).2 (.inl rfl)) h, fun _ => (hL 0).2 (.inr hd5_0), fun h => by rw [Pj.vset_other _ _ (by decide)]; exact hi6 (fun q => h ((hL 6).2 (.inr q))), fun h => (hL 3).2 (((hL 6).1 h).elim (fun e => absurd e (by decide)) (fun q => .inr (hl6_3 q)))⟩
            | 6, ho =>
              simp only [List.getElem?_toArray, List.getElem?_cons_zero, List.getElem?_cons_succ, Option.some.injEq] at ho
              have e4 : V 4 = .string (r.extract 1 r.size) := hJ.h 4 (hdep 4 (by rw [← ho]; kernel_rfl))
              have hd6_3 := hdep 3 (by rw [← ho]; kernel_rfl)
              have HJ := Lib.hid hJ
              clear hJ
              subst ho
              refine Pj.Step.free rfl ?_
              simp only [Pj.puts, List.foldl_cons, List.foldl_nil, Act.put, List.setIfInBounds_toArray, List.set_cons_zero, List.set_cons_succ, e4]
              go_simp
              exact hK _ _ ⟨Pj.vset V 6 (.string (r.extract 1 r.size)), by simp only [Pj.puts, List.foldl_cons, List.foldl_nil, Act.put, List.setIfInBounds_toArray, List.set_cons_zero, List.set_cons_succ, Pj.vset, Nat.reduceEqDiff, if_true, if_false, e4], HJ.out.more HP.out hL (Kept.refl _) (rfl), fun h => by rw [Pj.vset_other _ _ (by decide)]; exact hi5 (fun q => h ((hL 5).2 (.inr q))), fun h => (hL 0).2 (((hL 5).1 h).elim (fun e => absurd e (by decide)) (fun q => .inr (hl5_0 q))), fun h => absurd ((hL 6).2 (.inl rfl)) h, fun _ => (hL 3).2 (.inr hd6_3)⟩
            | n + 7, ho => simp at ho
          case ehe =>
            rintro L a w ⟨V, rfl, hJ, hi5, hl5_0, hi6, hl6_3⟩ hall
            obtain ⟨g9, e5, hg9⟩ := hJ.h 5 (hall 5 (by decide))
            have e6 : V 6 = .string (r.extract 1 r.size) := hJ.h 6 (hall 6 (by decide))
            have HKj := Lib.hid hJ.kp
            clear hJ hall hi5 hl5_0 hi6 hl6_3
            simp only [Pj.puts, List.foldl_cons, List.foldl_nil, Act.put, List.setIfInBounds_toArray, List.set_cons_zero, List.set_cons_succ, e5, e6]
            clear e5 e6
            have HB9 := Lib.hid hg9
            have HKn := Lib.hid (HK.out.trans HKj.out)
            clear HKj hg9
            go_wp2
            go_roundw
            case rel => exact ⟨r.extract 1 r.size, g9, n, _, rfl, rfl, HB9.out, by rw [drop_data, ← HNX.out]; exact HG.out, HKn.out⟩
            case measure => show (r.extract 1 r.size).size < r.size; rw [ByteArray.size_extract]; omega
        · have HNX := Lib.hid (globF_let s r.data.toList F HNE.out hb2 (by rw [← HR0.out, q42, decide_eq_false h42]))
          rw [← HR0.out] at HNX
          have HST := Lib.hid (fun w hb => letter_nm s r[0] g n c F w HN.out hs hb)
          have e1 : ((r[0].toNat : Int) == 42) = false := beq_eq_false_iff_ne.2 (by omega)
          have h1 : 1 ≤ r.size := h0
          have HLE := Lib.hid (show (1 : Int) ≤ (r.size : Int) by omega)
          clear hrl hb2 h42 q42
          go_wp2_with fail
          refine (HPF.out _).mono ?_
          rintro e wq ⟨rfl, rfl⟩
          go_wp2_with fail
          refine Pj.wp_region_step (fun a0 L a w => ∃ V : Nat → Value, a = Pj.puts [(25, 0), (26, 1), (27, 2), (28, 3), (29, 4), (30, 5), (31, 6), (6, 7), (7, 8)] V a0 ∧ Pj.J wq [Pj.Is (.slice (some ⟨g, 0, none⟩) n c), Pj.Is (.string s), Pj.Is (.string r), Pj.Is (.int .u8 (r[0].toNat : Int)), (fun w v => ∃ g9, v = .slice (some ⟨g9, 0, none⟩) n n ∧ Bs w g9 n (letF s r[0] F)), Pj.Is (.string r), Pj.Is (.string (r.extract 1 r.size)), (fun w v => ∃ g9, v = .slice (some ⟨g9, 0, none⟩) n n ∧ Bs w g9 n (letF s r[0] F)), Pj.Is (.string (r.extract 1 r.size))] L V w ∧ (¬ L 7 → V 7 = .slice (some ⟨g, 0, none⟩) n c) ∧ (L 7 → L 0) ∧ (¬ L 8 → V 8 = .string r) ∧ (L 8 → L 2) ∧ (L 8 → L 5)) (by as_aux_lemma => kernel_rfl) (by as_aux_lemma => kernel_rfl) ?eh0 ?ehs ?ehe
          case eh0 =>
            intro L hL
            exact ⟨_, Pj.puts_self _ (fun j => ([25, 26, 27, 28, 29, 30, 31, 6, 7] : List Nat).getD j 0) [0, 1, 2, 3, 4, 5, 6, 7, 8], Pj.J.none (n := 9) (Nat.le_refl _) hL ((Kept.refl _).drew), fun _ => rfl, fun h => absurd h (hL 7 (by decide)), fun _ => rfl, fun h => absurd h (hL 8 (by decide)), fun h => absurd h (hL 8 (by decide))⟩
          case ehs =>
            rintro L L' a w i op K ⟨V, rfl, hJ, hi7, hl7_0, hi8, hl8_2, hl8_5⟩ ho hopen hdep hL hK
            have hP : Pj.AllStay [Pj.Is (.slice (some ⟨g, 0, none⟩) n c), Pj.Is (.string s), Pj.Is (.string r), Pj.Is (.int .u8 (r[0].toNat : Int)), (fun w v => ∃ g9, v = .slice (some ⟨g9, 0, none⟩) n n ∧ Bs w g9 n (letF s r[0] F)), Pj.Is (.string r), Pj.Is (.string (r.extract 1 r.size)), (fun w v => ∃ g9, v = .slice (some ⟨g9, 0, none⟩) n n ∧ Bs w g9 n (letF s r[0] F)), Pj.Is (.string (r.extract 1 r.size))] := ⟨Pj.Is.stays _, Pj.Is.stays _, Pj.Is.stays _, Pj.Is.stays _, fun _ _ _ ⟨g9, e, h⟩ k => ⟨g9, e, h.kept k⟩, Pj.Is.stays _, Pj.Is.stays _, fun _ _ _ ⟨g9, e, h⟩ k => ⟨g9, e, h.kept k⟩, Pj.Is.stays _, trivial⟩
            have HP := Lib.hid hP
            clear hP
            match i, ho with
            | 0, ho =>
              simp only [List.getElem?_toArray, List.getElem?_cons_zero, Option.some.injEq] at ho
              have ei7 : V 7 = .slice (some ⟨g, 0, none⟩) n c := hi7 (fun h => hopen (hl7_0 h))
              have HJ := Lib.hid hJ
              clear hJ
              subst ho
              refine Pj.Step.free rfl ?_
              simp only [Pj.puts, List.foldl_cons, List.foldl_nil, Act.put, List.setIfInBounds_toArray, List.set_cons_zero, List.set_cons_succ, ei7]
              go_simp
              exact hK _ _ ⟨Pj.vset V 0 (.slice (some ⟨g, 0, none⟩) n c), by simp only [Pj.puts, List.foldl_cons, List.foldl_nil, Act.put, List.setIfInBounds_toArray, List.set_cons_zero, List.set_cons_succ, Pj.vset, Nat.reduceEqDiff, if_true, if_false, ei7], HJ.out.more HP.out hL (Kept.refl _) (rfl), fun h => by rw [Pj.vset_other _ _ (by decide)]; exact hi7 (fun q => h ((hL 7).2 (.inr q))), fun h => (hL 0).2 (((hL 7).1 h).elim (fun e => absurd e (by decide)) (fun q => .inr (hl7_0 q))), fun h => by rw [Pj.vset_other _ _ (by decide)]; exact hi8 (fun q => h ((hL 8).2 (.inr q))), fun h => (hL 2).2 (((hL 8).1 h).elim (fun e => absurd e (by decide)) (fun q => .inr (hl8_2 q))), fun h => (hL 5).2 (((hL 8).1 h).elim (fun e => absurd e (by decide)) (fun q => .inr (hl8_5 q)))⟩
            | 1, ho =>
              simp only [List.getElem?_toArray, List.getElem?_cons_zero, List.getElem?_cons_succ, Option.some.injEq] at ho
              have HJ := Lib.hid hJ
              clear hJ
              subst ho
              refine Pj.Step.free rfl ?_
              simp only [Pj.puts, List.foldl_cons, List.foldl_nil, Act.put, List.setIfInBounds_toArray, List.set_cons_zero, List.set_cons_succ]
              go_simp
              exact hK _ _ ⟨Pj.vset V 1 (.string s), by simp only [Pj.puts, List.foldl_cons, List.foldl_nil, Act.put, List.setIfInBounds_toArray, List.set_cons_zero, List.set_cons_succ, Pj.vset, Nat.reduceEqDiff, if_true, if_false], HJ.out.more HP.out hL (Kept.refl _) (rfl), fun h => by rw [Pj.vset_other _ _ (by decide)]; exact hi7 (fun q => h ((hL 7).2 (.inr q))), fun h => (hL 0).2 (((hL 7).1 h).elim (fun e => absurd e (by decide)) (fun q => .inr (hl7_0 q))), fun h => by rw [Pj.vset_other _ _ (by decide)]; exact hi8 (fun q => h ((hL 8).2 (.inr q))), fun h => (hL 2).2 (((hL 8).1 h).elim (fun e => absurd e (by decide)) (fun q => .inr (hl8_2 q))), fun h => (hL 5).2 (((hL 8).1 h).elim (fun e => absurd e (by decide)) (fun q => .inr (hl8_5 q)))⟩
            | 2, ho =>
              simp only [List.getElem?_toArray, List.getElem?_cons_zero, List.getElem?_cons_succ, Option.some.injEq] at ho
              have ei8 : V 8 = .string r := hi8 (fun h => hopen (hl8_2 h))
              have HJ := Lib.hid hJ
              clear hJ
              subst ho
              refine Pj.Step.free rfl ?_
              simp only [Pj.puts, List.foldl_cons, List.foldl_nil, Act.put, List.setIfInBounds_toArray, List.set_cons_zero, List.set_cons_succ, ei8]
              go_simp
              exact hK _ _ ⟨Pj.vset V 2 (.string r), by simp only [Pj.puts, List.foldl_cons, List.foldl_nil, Act.put, List.setIfInBounds_toArray, List.set_cons_zero, List.set_cons_succ, Pj.vset, Nat.reduceEqDiff, if_true, if_false, ei8], HJ.out.more HP.out hL (Kept.refl _) (rfl), fun h => by rw [Pj.vset_other _ _ (by decide)]; exact hi7 (fun q => h ((hL 7).2 (.inr q))), fun h => (hL 0).2 (((hL 7).1 h).elim (fun e => absurd e (by decide)) (fun q => .inr (hl7_0 q))), fun h => by rw [Pj.vset_other _ _ (by decide)]; exact hi8 (fun q => h ((hL 8).2 (.inr q))), fun h => (hL 2).2 (((hL 8).1 h).elim (fun e => absurd e (by decide)) (fun q => .inr (hl8_2 q))), fun h => (hL 5).2 (((hL 8).1 h).elim (fun e => absurd e (by decide)) (fun q => .inr (hl8_5 q)))⟩
            | 3, ho =>
              simp only [List.getElem?_toArray, List.getElem?_cons_zero, List.getElem?_cons_succ, Option.some.injEq] at ho
              have e2 : V 2 = .string r := hJ.h 2 (hdep 2 (by rw [← ho]; kernel_rfl))
              have HJ := Lib.hid hJ
              clear hJ
              subst ho
              refine Pj.Step.free rfl ?_
              simp only [Pj.puts, List.foldl_cons, List.foldl_nil, Act.put, List.setIfInBounds_toArray, List.set_cons_zero, List.set_cons_succ, e2]
              go_simp
              exact hK _ _ ⟨Pj.vset V 3 (.int .u8 (r[0].toNat : Int)), by simp only [Pj.puts, List.foldl_cons, List.foldl_nil, Act.put, List.setIfInBounds_toArray, List.set_cons_zero, List.set_cons_succ, Pj.vset, Nat.reduceEqDiff, if_true, if_false, e2], HJ.out.more HP.out hL (Kept.refl _) (rfl), fun h => by rw [Pj.vset_other _ _ (by decide)]; exact hi7 (fun q => h ((hL 7).2 (.inr q))), fun h => (hL 0).2 (((hL 7).1 h).elim (fun e => absurd e (by decide)) (fun q => .inr (hl7_0 q))), fun h => by rw [Pj.vset_other _ _ (by decide)]; exact hi8 (fun q => h ((hL 8).2 (.inr q))), fun h => (hL 2).2 (((hL 8).1 h).elim (fun e => absurd e (by decide)) (fun q => .inr (hl8_2 q))), fun h => (hL 5).2 (((hL 8).1 h).elim (fun e => absurd e (by decide)) (fun q => .inr (hl8_5 q)))⟩
            | 4, ho =>
              simp only [List.getElem?_toArray, List.getElem?_cons_zero, List.getElem?_cons_succ, Option.some.injEq] at ho
              have e0 : V 0 = .slice (some ⟨g, 0, none⟩) n c := hJ.h 0 (hdep 0 (by rw [← ho]; kernel_rfl))
              have e1 : V 1 = .string s := hJ.h 1 (hdep 1 (by rw [← ho]; kernel_rfl))
              have e3 : V 3 = .int .u8 (r[0].toNat : Int) := hJ.h 3 (hdep 3 (by rw [← ho]; kernel_rfl))
              have hbx := HB.out.kept hJ.kp
              have HJ := Lib.hid hJ
              clear hJ
              subst ho
              refine Pj.Step.free rfl ?_
              simp only [Pj.puts, List.foldl_cons, List.foldl_nil, Act.put, List.setIfInBounds_toArray, List.set_cons_zero, List.set_cons_succ, e0, e1, e3]
              go_simp
              refine (HST.out w hbx).mono ?_
              rintro e w' ⟨⟨g9, rfl, hb9⟩, hk9⟩
              exact hK _ _ ⟨Pj.vset V 4 (.slice (some ⟨g9, 0, none⟩) n n), by simp only [Pj.puts, List.foldl_cons, List.foldl_nil, Act.put, List.setIfInBounds_toArray, List.set_cons_zero, List.set_cons_succ, Pj.vset, Nat.reduceEqDiff, if_true, if_false, e0, e1, e3], HJ.out.more HP.out hL (hk9) (⟨_, rfl, hb9⟩), fun h => by rw [Pj.vset_other _ _ (by decide)]; exact hi7 (fun q => h ((hL 7).2 (.inr q))), fun h => (hL 0).2 (((hL 7).1 h).elim (fun e => absurd e (by decide)) (fun q => .inr (hl7_0 q))), fun h => by rw [Pj.vset_other _ _ (by decide)]; exact hi8 (fun q => h ((hL 8).2 (.inr q))), fun h => (hL 2).2 (((hL 8).1 h).elim (fun e => absurd e (by decide)) (fun q => .inr (hl8_2 q))), fun h => (hL 5).2 (((hL 8).1 h).elim (fun e => absurd e (by decide)) (fun q => .inr (hl8_5 q)))⟩
            | 5, ho =>
              simp only [List.getElem?_toArray, List.getElem?_cons_zero, List.getElem?_cons_succ, Option.some.injEq] at ho
              have ei8 : V 8 = .string r := hi8 (fun h => hopen (hl8_5 h))
              have HJ := Lib.hid hJ
              clear hJ
              subst ho
              refine Pj.Step.free rfl ?_
              simp only [Pj.puts, List.foldl_cons, List.foldl_nil, Act.put, List.setIfInBounds_toArray, List.set_cons_zero, List.set_cons_succ, ei8]
              go_simp
              exact hK _ _ ⟨Pj.vset V 5 (.string r), by simp only [Pj.puts, List.foldl_cons, List.foldl_nil, Act.put, List.setIfInBounds_toArray, List.set_cons_zero, List.set_cons_succ, Pj.vset, Nat.reduceEqDiff, if_true, if_false, ei8], HJ.out.more HP.out hL (Kept.refl _) (rfl), fun h => by rw [Pj.vset_other _ _ (by decide)]; exact hi7 (fun q => h ((hL 7).2 (.inr q))), fun h => (hL 0).2 (((hL 7).1 h).elim (fun e => absurd e (by decide)) (fun q => .inr (hl7_0 q))), fun h => by rw [Pj.vset_other _ _ (by decide)]; exact hi8 (fun q => h ((hL 8).2 (.inr q))), fun h => (hL 2).2 (((hL 8).1 h).elim (fun e => absurd e (by decide)) (fun q => .inr (hl8_2 q))), fun h => (hL 5).2 (((hL 8).1 h).elim (fun e => absurd e (by decide)) (fun q => .inr (hl8_5 q)))⟩
            | 6, ho =>
              simp only [List.getElem?_toArray, List.getElem?_cons_zero, List.getElem?_cons_succ, Option.some.injEq] at ho
              have e5 : V 5 = .string r := hJ.h 5 (hdep 5 (by rw [← ho]; kernel_rfl))
              have HJ := Lib.hid hJ
              clear hJ
              subst ho
              refine Pj.Step.free rfl ?_
              simp only [Pj.puts, List.foldl_cons, List.foldl_nil, Act.put, List.setIfInBounds_toArray, List.set_cons_zero, List.set_cons_succ, e5]
              go_simp
              rw [if_pos HLE.out]
              go_simp
              exact hK _ _ ⟨Pj.vset V 6 (.string (r.extract 1 r.size)), by simp only [Pj.puts, List.foldl_cons, List.foldl_nil, Act.put, List.setIfInBounds_toArray, List.set_cons_zero, List.set_cons_succ, Pj.vset, Nat.reduceEqDiff, if_true, if_false, e5], HJ.out.more HP.out hL (Kept.refl _) (rfl), fun h => by rw [Pj.vset_other _ _ (by decide)]; exact hi7 (fun q => h ((hL 7).2 (.inr q))), fun h => (hL 0).2 (((hL 7).1 h).elim (fun e => absurd e (by decide)) (fun q => .inr (hl7_0 q))), fun h => by rw [Pj.vset_other _ _ (by decide)]; exact hi8 (fun q => h ((hL 8).2 (.inr q))), fun h => (hL 2).2 (((hL 8).1 h).elim (fun e => absurd e (by decide)) (fun q => .inr (hl8_2 q))), fun h => (hL 5).2 (((hL 8).1 h).elim (fun e => absurd e (by decide)) (fun q => .inr (hl8_5 q)))⟩
            | 7, ho =>
              simp only [List.getElem?_toArray, List.getElem?_cons_zero, List.getElem?_cons_succ, Option.some.injEq] at ho
              obtain ⟨g9, e4, hg9⟩ := hJ.h 4 (hdep 4 (by rw [← ho]; kernel_rfl))
              have hd7_0 := hdep 0 (by rw [← ho]; kernel_rfl)
              have HJ := Lib.hid hJ
              clear hJ
              subst ho
              refine Pj.Step.free rfl ?_
              simp only [Pj.puts, List.foldl_cons, List.foldl_nil, Act.put, List.setIfInBounds_toArray, List.set_cons_zero, List.set_cons_succ, e4]
              go_simp
              exact hK _ _ ⟨Pj.vset V 7 (.slice (some ⟨g9, 0, none⟩) n n), by simp only [Pj.puts, List.foldl_cons, List.foldl_nil, Act.put, List.setIfInBounds_toArray, List.set_cons_zero, List.set_cons_succ, Pj.vset, Nat.reduceEqDiff, if_true, if_false, e4], HJ.out.more HP.out hL (Kept.refl _) (⟨_, rfl, hg9⟩), fun h => absurd ((hL 7).2 (.inl rfl)) h, fun _ => (hL 0).2 (.inr hd7_0), fun h => by rw [Pj.vset_other _ _ (by decide)]; exact hi8 (fun q => h ((hL 8).2 (.inr q))), fun h => (hL 2).2 (((hL 8).1 h).elim (fun e => absurd e (by decide)) (fun q => .inr (hl8_2 q))), fun h => (hL 5).2 (((hL 8).1 h).elim (fun e => absurd e (by decide)) (fun q => .inr (hl8_5 q)))⟩
            | 8, ho =>
              simp only [List.getElem?_toArray, List.getElem?_cons_zero, List.getElem?_cons_succ, Option.some.injEq] at ho
              have e6 : V 6 = .string (r.extract 1 r.size) := hJ.h 6 (hdep 6 (by rw [← ho]; kernel_rfl))
              have hd8_2 := hdep 2 (by rw [← ho]; kernel_rfl)
              have hd8_5 := hdep 5 (by rw [← ho]; kernel_rfl)
              have HJ := Lib.hid hJ
              clear hJ
              subst ho
              refine Pj.Step.free rfl ?_
              simp only [Pj.puts, List.foldl_cons, List.foldl_nil, Act.put, List.setIfInBounds_toArray, List.set_cons_zero, List.set_cons_succ, e6]
              go_simp
              exact hK _ _ ⟨Pj.vset V 8 (.string (r.extract 1 r.size)), by simp only [Pj.puts, List.foldl_cons, List.foldl_nil, Act.put, List.setIfInBounds_toArray, List.set_cons_zero, List.set_cons_succ, Pj.vset, Nat.reduceEqDiff, if_true, if_false, e6], HJ.out.more HP.out hL (Kept.refl _) (rfl), fun h => by rw [Pj.vset_other _ _ (by decide)]; exact hi7 (fun q => h ((hL 7).2 (.inr q))), fun h => (hL 0).2 (((hL 7).1 h).elim (fun e => absurd e (by decide)) (fun q => .inr (hl7_0 q))), fun h => absurd ((hL 8).2 (.inl rfl)) h, fun _ => (hL 2).2 (.inr hd8_2), fun _ => (hL 5).2 (.inr hd8_5)⟩
            | n + 9, ho => simp at ho
          case ehe =>
            rintro L a w ⟨V, rfl, hJ, hi7, hl7_0, hi8, hl8_2, hl8_5⟩ hall
            obtain ⟨g9, e7, hg9⟩ := hJ.h 7 (hall 7 (by decide))
            have e8 : V 8 = .string (r.extract 1 r.size) := hJ.h 8 (hall 8 (by decide))
            have HKj := Lib.hid hJ.kp
            clear hJ hall hi7 hl7_0 hi8 hl8_2 hl8_5
            simp only [Pj.puts, List.foldl_cons, List.foldl_nil, Act.put, List.setIfInBounds_toArray, List.set_cons_zero, List.set_cons_succ, e7, e8]
            clear e7 e8
            have HB9 := Lib.hid hg9
            have HKn := Lib.hid (HK.out.trans HKj.out)
            clear HKj hg9
            go_wp2
            go_roundw
            case rel => exact ⟨r.extract 1 r.size, g9, n, _, rfl, rfl, HB9.out, by rw [drop_data, ← HNX.out]; exact HG.out, HKn.out⟩
            case measure => show (r.extract 1 r.size).size < r.size; rw [ByteArray.size_extract]; omega
    · have hz : r.data.toList = [] := List.eq_nil_of_length_eq_zero (by omega)
      have hne : r.toList.isEmpty = true := by rw [← toList_data, hz]; rfl
      have HV := Lib.hid (show globF s p.data.toList atZero s.size = F s.size by rw [← HG.out, hz, globF_nil])
      have hcx := HB.out.cell s.size hn1
      clear hrl h0 hz
      go_wp2
      go_ret2
      exact ⟨by rw [HV.out]; rfl, HK.out⟩
end Go.Proofs.YtjiefcjjgadjiaaDoor
