/- names.read, whatever it is asked (a text of no great length; bytealg's limit lies as a number). -/
import Derived.Test.YtjiefcjjgadjiaaDoorNm4
import Derived.Test.YtjiefcjjgadjiaaDoorPj
namespace Go.Proofs.YtjiefcjjgadjiaaDoor
open Go.RowKit Go.Shelf
attribute [local go_sem] Oper.semAt_some
theorem Cells3.own {wo : World} {p : Nat} {a b : ByteArray} {c : Bool} {n : Nat} (hb : wo.heap.size ≤ n) {β : Type} : OwnFrom n (fun (_ : β) W => Cells3 wo p a b c W) := fun _ _ _ _ hs hg hr =>
  ⟨block_own hs.x hg (fun k e => (hr k e).2), block_own hs.y hg (fun k e => (hr k e).2), block_own hs.z hg (fun k e => (hr k e).2), hs.k.grown hg hs.k.size (fun k e => Nat.le_trans hb (hr k e).1), hs.p⟩
theorem Cells3.put {wo W : World} {p D : Nat} {a b : ByteArray} {c : Bool} (h : Cells3 wo p a b c W) (hD : wo.heap.size ≤ D) (hK : W.heap[D]? = some (.deferred (some []))) : Cells3 wo p a b c (W.putObj D (.deferred none)) :=
  ⟨block_own h.x (grown_put W D _) (fun k e => by cases e; exact ⟨_, hK, rfl⟩), block_own h.y (grown_put W D _) (fun k e => by cases e; exact ⟨_, hK, rfl⟩), block_own h.z (grown_put W D _) (fun k e => by cases e; exact ⟨_, hK, rfl⟩), h.k.grown (grown_put W D _) h.k.size (fun k e => by cases e; exact hD), h.p⟩
theorem heap_set {W : World} {D b : Nat} {o : Obj} {v : Value} (h : W.heap[D]? = some o) (hne : D ≠ b) : (W.setCell ⟨b, 0, none⟩ v).heap[D]? = some o := (Below.heap_setCell W ⟨b, 0, none⟩ v D hne).trans h
theorem goodTo_all (l : List UInt8) (k : Nat) : goodTo l k = (List.range k).all (fun i => partB (pieceAt l i)) := rfl
set_option maxRecDepth 100000 in
set_option maxHeartbeats 8000000 in
theorem read_late (s : ByteArray) (m : Int) (wo : World) (hs : s.size ≤ 40) (hm : wo.cell? ⟨0, 0, none⟩ = some (.int .i64 m)) (hg : 0 < wo.heap.size) (hv : hasB s = true → versB (rawV s).data.toList = true) :
    Calls Tryd.prog 24 #[.string s] wo fun e w' => e = .returned (readV s) ∧ Kept wo w' := by
  have HNB := Lib.hid (show nameB s = goodP s by
    unfold nameB
    rw [decide_eq_true hs]
    cases hh : hasB s with
    | false => rfl
    | true => rw [hv hh]; rfl)
  have HPS := Lib.hid (show (pathB s).size ≤ 40 from Nat.le_trans (pathB_size s) hs)
  have HRB := Lib.hid (fun h => readV_bad s h)
  have HRG := Lib.hid (fun h => readV_good s h)
  have HCN := Lib.hid (cntN_le (pathB s).data.toList)
  have HG := Lib.hid (fun w (k : Kept wo w) => show w.cell? ⟨0, 0, none⟩ = some (.int .i64 m) from k.cell hg hm)
  have HVL := Lib.hid (fun w => version_nm (rawV s) w (by have := rawV_size s; omega))
  have HC1 := Lib.hid (Cells3.new wo)
  clear hm hg
  refine callsIn_wide.1 (callsIn_of_wp_marks (n := 8) Tryd.func24 rfl trivial ?_ rfl)
  simp only [Tryd.ntmps24, List.size_toArray, List.length_nil, List.length_cons, Nat.reduceAdd, Nat.reduceSub, Array.replicate_succ, Array.replicate_zero, List.push_toArray, List.append_toArray, List.nil_append, List.cons_append]
  refine wpIn_wide.2 ?_
  go_upto_region 1 with (fail)
  generalize ((wo.alloc (.cells #[.string ⟨#[]⟩] 9)).alloc (.cells #[.string ⟨#[]⟩] 9)).alloc (.cells #[.bool false] 4) = w1 at *
  have hp12 : wo.heap.size + 1 + 1 = wo.heap.size + 2 := rfl
  rw [hp12]
  clear hp12
  generalize hp : wo.heap.size = p at HC1 ⊢
  clear hp
  go_wp2_with fail
  refine (cut_nm s m _ (by omega) (HG.out _ HC1.out.k)).mono ?_
  rintro e w2 ⟨rfl, hk2⟩
  have HC2 := Lib.hid (HC1.out.kept hk2)
  clear hk2
  obtain ⟨⟨c0, c1, c2⟩, f0, f1, f2⟩ := HC2.out.cells
  go_upto_region 2 with (fail)
  have HC3 := Lib.hid ((HC2.out.setX (pathB s)).setY (rawV s))
  clear c0 c1 c2 f0 f1 f2
  generalize (w2.setCell ⟨p, 0, none⟩ (.string (pathB s))).setCell ⟨p + 1, 0, none⟩ (.string (rawV s)) = w3 at *
  have hd1 : decide ((40 : Int) < s.size) = false := decide_eq_false (by omega)
  cases hh : hasB s with
  | true =>
    have HV := Lib.hid (hv hh)
    have HVO := Lib.hid (show verOf s = rawV s by unfold verOf; rw [if_pos hh])
    clear hv
    obtain ⟨⟨c0, c1, c2⟩, f0, f1, f2⟩ := HC3.out.cells
    go_wp2_with fail
    refine (HVL.out _).mono ?_
    rintro e w4 ⟨rfl, rfl⟩
    rw [HV.out]
    go_wp2_with fail
    refine (parts_nm _ _).mono ?_
    rintro e w5 ⟨rfl, hw5⟩
    have hk5 : Kept w3 w5 := by rw [hw5]; exact (Kept.refl _).alloc _
    have HX := Lib.hid (show BlockAt w5 w3.heap.size #[.string (pathB s)] 9 by rw [hw5]; exact BlockAt.new _ _ _)
    have HC5 := Lib.hid (HC3.out.kept hk5)
    have hx5 : w3.heap.size < w5.heap.size := by rw [hw5]; simp
    have hx3 : p + 2 < w3.heap.size := HC3.out.z.lt
    have hwp := HC3.out.p
    clear hk5 hw5 c0 c1 c2 f0 f1 f2 hd1
    generalize w3.heap.size = x at *
    go_wp2_with fail
    refine wp_of_in 8 ?_
    obtain ⟨R, hR⟩ : ∃ R : Nat → Prop, R = fun g => wo.heap.size ≤ g ∧ g ≠ x := ⟨_, rfl⟩
    have hrx : ¬ R x := by rw [hR]; exact fun h => h.2 rfl
    have HRP := Lib.hid (show R p ∧ R (p + 1) ∧ R (p + 2) by rw [hR]; exact ⟨⟨by omega, by omega⟩, ⟨by omega, by omega⟩, ⟨by omega, by omega⟩⟩)
    clear hR
    refine wpIn_rangeFunc_S rfl (by omega) (gf := 33) (lb := #[.pointer (some ⟨x, 0, none⟩)]) rfl trivial (enters_of Tryd.func33 (by kernel_rfl) rfl)
      (parts_stops 7 (by omega) R (pathB s) (by have := HPS.out; omega) x w5 hrx HX.out) (CellsBut.refl _) CellsBut.trans CellsBut.putObj (Below.refl _ _) (fun _ => rfl)
      (fun pre W => (ixs pre).all (fun i => partB (pieceAt (pathB s).data.toList i)) = true ∧ Cells3 wo p (pathB s) (rawV s) false W)
      (fun c pre W => (c = .ret ∧ ∃ i, pre.getLast? = some i ∧ partB (pieceAt (pathB s).data.toList i.1) = false) ∧ Cells3 wo p ⟨#[]⟩ ⟨#[]⟩ false W)
      (OwnFrom.and (Own.from (fun s A B row hs hg hr => hs) _) (Cells3.own (by omega))) (fun c => OwnFrom.and (Own.from (fun s A B row hs hg hr => hs) _) (Cells3.own (by omega))) ?h0 ?round ?done ?stop
    case h0 => exact ⟨rfl, HC5.out⟩
    case round =>
      rintro l ⟨ii, hi⟩ W K hK
      have HK := Lib.hid hK
      clear hK
      have HPB := Lib.hid (fun W => part_nm (pcN (pathB s) ii) W (by have := pcN_size (pathB s) ii; have := HPS.out; omega))
      rw [pcN_list] at HPB
      have HAL := Lib.hid (fun pre => show (ixs (pre ++ [(⟨ii, hi⟩ : { k : Nat // k < cntN (pathB s).data.toList })])).all (fun i => partB (pieceAt (pathB s).data.toList i)) = ((ixs pre).all (fun i => partB (pieceAt (pathB s).data.toList i)) && partB (pieceAt (pathB s).data.toList ii)) by rw [ixs_snoc, List.all_append]; simp)
      gi_wp2
      refine HK.out _ ?_
      clear HK
      rintro l pre W ⟨hall, hc3⟩ hlen
      have HC := Lib.hid hc3
      have HA := Lib.hid hall
      clear hc3 hall
      gi_wp2_with fail
      refine ⟨trivial, (CallsIn.inRound l (callsIn_wide.2 (HPB.out _))).mono ?_⟩
      rintro e W5 ⟨rfl, hk5⟩
      have HCW := Lib.hid (HC.out.kept hk5)
      have HKW := Lib.hid hk5
      clear hk5
      cases hpb : partB (pieceAt (pathB s).data.toList ii) with
      | true =>
        gi_wp2
        exact ⟨others_kept HKW.out, CellsBut.of_kept HKW.out, by rw [HAL.out, HA.out, hpb]; rfl, HCW.out⟩
      | false =>
        obtain ⟨⟨c0, c1, c2⟩, f0, f1, f2⟩ := HCW.out.cells
        gi_wp2
        exact ⟨(((others_kept HKW.out).trans (KeepsOthers.setCell _ ⟨p, 0, none⟩ _)).trans (KeepsOthers.setCell _ ⟨p + 1, 0, none⟩ _)).trans (KeepsOthers.setCell _ ⟨p + 2, 0, none⟩ _), ⟨rfl, ⟨ii, hi⟩, by simp, hpb⟩, ((HCW.out.setX ⟨#[]⟩).setY ⟨#[]⟩).setZ false⟩
    case done =>
      rintro D ys W hD hys ⟨hall, hc3⟩ hK
      have hgp : goodP s = true := by unfold goodP; rw [goodTo_all, ← hys]; exact hall
      have HRV := Lib.hid (HRG.out (by rw [HNB.out]; exact hgp))
      rw [HVO.out] at HRV
      have HC := Lib.hid hc3
      have HKD := Lib.hid hK
      have hDx : x < D := by omega
      clear hgp hall hc3 hK hys
      obtain ⟨⟨c0, c1, c2⟩, f0, f1, f2⟩ := HC.out.cells
      have HCR := HC
      have HDR := HKD
      clear c0 c1 c2 f0 f1 f2
      go_wp2_with fail
      refine Pj.wp_region_step (fun a0 L a w => ∃ (V : Nat → Value) (c : Bool), a = Pj.puts [(32, 0), (33, 1)] V a0 ∧ (L 0 → V 0 = .string (pathB s)) ∧ (L 1 → V 1 = .string (rawV s)) ∧ (L 4 → c = true) ∧ Cells3 wo p (pathB s) (rawV s) c w ∧ w.heap[D]? = some (.deferred (some []))) (by as_aux_lemma => kernel_rfl) (by as_aux_lemma => kernel_rfl) ?eh0 ?ehs ?ehe
      case eh0 =>
        intro L hL
        exact ⟨_, false, Pj.puts_self _ (fun j => ([32, 33] : List Nat).getD j 0) [0, 1], fun h => absurd h (hL 0 (by decide)), fun h => absurd h (hL 1 (by decide)), fun h => absurd h (hL 4 (by decide)), HCR.out.kept ((Kept.refl _).drew), HDR.out⟩
      case ehs =>
        rintro L L' a w i op K ⟨V, c, rfl, hV0, hV1, hcc, hC, hD9⟩ ho hopen hdep hL hK
        match i, ho with
        | 0, ho =>
          simp only [List.getElem?_toArray, List.getElem?_cons_zero, Option.some.injEq] at ho
          subst ho
          obtain ⟨⟨c0, c1, c2⟩, f0, f1, f2⟩ := hC.cells
          have HCx := Lib.hid hC
          have HVx := Lib.hid hV1
          have HCC := Lib.hid hcc
          clear hC hV0 hV1 hcc
          refine Pj.Step.free rfl ?_
          simp only [Pj.puts, List.foldl_cons, List.foldl_nil, Act.put, List.setIfInBounds_toArray, List.set_cons_zero, List.set_cons_succ]
          go_simp
          exact hK _ _ ⟨Pj.vset V 0 (.string (pathB s)), c, by simp only [Pj.puts, List.foldl_cons, List.foldl_nil, Act.put, List.setIfInBounds_toArray, List.set_cons_zero, List.set_cons_succ, Pj.vset, Nat.reduceEqDiff, if_true, if_false], fun _ => Pj.vset_same _ _ _, fun h => (Pj.vset_other _ _ (by decide)).trans (HVx.out (((hL 1).1 h).resolve_left (by decide))), fun h => HCC.out (((hL 4).1 h).resolve_left (by decide)), HCx.out, hD9⟩
        | 1, ho =>
          simp only [List.getElem?_toArray, List.getElem?_cons_zero, List.getElem?_cons_succ, Option.some.injEq] at ho
          subst ho
          obtain ⟨⟨c0, c1, c2⟩, f0, f1, f2⟩ := hC.cells
          have HCx := Lib.hid hC
          have HVx := Lib.hid hV0
          have HCC := Lib.hid hcc
          clear hC hV0 hV1 hcc
          refine Pj.Step.free rfl ?_
          simp only [Pj.puts, List.foldl_cons, List.foldl_nil, Act.put, List.setIfInBounds_toArray, List.set_cons_zero, List.set_cons_succ]
          go_simp
          exact hK _ _ ⟨Pj.vset V 1 (.string (rawV s)), c, by simp only [Pj.puts, List.foldl_cons, List.foldl_nil, Act.put, List.setIfInBounds_toArray, List.set_cons_zero, List.set_cons_succ, Pj.vset, Nat.reduceEqDiff, if_true, if_false], fun h => (Pj.vset_other _ _ (by decide)).trans (HVx.out (((hL 0).1 h).resolve_left (by decide))), fun _ => Pj.vset_same _ _ _, fun h => HCC.out (((hL 4).1 h).resolve_left (by decide)), HCx.out, hD9⟩
        | 2, ho =>
          simp only [List.getElem?_toArray, List.getElem?_cons_zero, List.getElem?_cons_succ, Option.some.injEq] at ho
          have e0 : V 0 = _ := hV0 (hdep 0 (by rw [← ho]; kernel_rfl))
          subst ho
          obtain ⟨⟨c0, c1, c2⟩, f0, f1, f2⟩ := hC.cells
          have HCx := Lib.hid (hC.setX (pathB s))
          have HV0 := Lib.hid hV0
          have HV1 := Lib.hid hV1
          have HCC := Lib.hid hcc
          have HDx := Lib.hid (fun v => heap_set (v := v) (b := p) hD9 (by omega))
          clear hC hV0 hV1 hcc hD9
          refine Pj.Step.free rfl ?_
          simp only [Pj.puts, List.foldl_cons, List.foldl_nil, Act.put, List.setIfInBounds_toArray, List.set_cons_zero, List.set_cons_succ, e0]
          go_simp
          exact hK _ _ ⟨V, c, by simp only [Pj.puts, List.foldl_cons, List.foldl_nil, Act.put, List.setIfInBounds_toArray, List.set_cons_zero, List.set_cons_succ, e0], fun h => HV0.out (((hL 0).1 h).resolve_left (by decide)), fun h => HV1.out (((hL 1).1 h).resolve_left (by decide)), fun h => HCC.out (((hL 4).1 h).resolve_left (by decide)), HCx.out, HDx.out _⟩
        | 3, ho =>
          simp only [List.getElem?_toArray, List.getElem?_cons_zero, List.getElem?_cons_succ, Option.some.injEq] at ho
          have e1 : V 1 = _ := hV1 (hdep 1 (by rw [← ho]; kernel_rfl))
          subst ho
          obtain ⟨⟨c0, c1, c2⟩, f0, f1, f2⟩ := hC.cells
          have HCx := Lib.hid (hC.setY (rawV s))
          have HV0 := Lib.hid hV0
          have HV1 := Lib.hid hV1
          have HCC := Lib.hid hcc
          have HDx := Lib.hid (fun v => heap_set (v := v) (b := p + 1) hD9 (by omega))
          clear hC hV0 hV1 hcc hD9
          refine Pj.Step.free rfl ?_
          simp only [Pj.puts, List.foldl_cons, List.foldl_nil, Act.put, List.setIfInBounds_toArray, List.set_cons_zero, List.set_cons_succ, e1]
          go_simp
          exact hK _ _ ⟨V, c, by simp only [Pj.puts, List.foldl_cons, List.foldl_nil, Act.put, List.setIfInBounds_toArray, List.set_cons_zero, List.set_cons_succ, e1], fun h => HV0.out (((hL 0).1 h).resolve_left (by decide)), fun h => HV1.out (((hL 1).1 h).resolve_left (by decide)), fun h => HCC.out (((hL 4).1 h).resolve_left (by decide)), HCx.out, HDx.out _⟩
        | 4, ho =>
          simp only [List.getElem?_toArray, List.getElem?_cons_zero, List.getElem?_cons_succ, Option.some.injEq] at ho
          subst ho
          obtain ⟨⟨c0, c1, c2⟩, f0, f1, f2⟩ := hC.cells
          have HCx := Lib.hid (hC.setZ true)
          have HV0 := Lib.hid hV0
          have HV1 := Lib.hid hV1
          have HCC := Lib.hid hcc
          have HDx := Lib.hid (fun v => heap_set (v := v) (b := p + 2) hD9 (by omega))
          clear hC hV0 hV1 hcc hD9
          refine Pj.Step.free rfl ?_
          simp only [Pj.puts, List.foldl_cons, List.foldl_nil, Act.put, List.setIfInBounds_toArray, List.set_cons_zero, List.set_cons_succ]
          go_simp
          exact hK _ _ ⟨V, true, by simp only [Pj.puts, List.foldl_cons, List.foldl_nil, Act.put, List.setIfInBounds_toArray, List.set_cons_zero, List.set_cons_succ], fun h => HV0.out (((hL 0).1 h).resolve_left (by decide)), fun h => HV1.out (((hL 1).1 h).resolve_left (by decide)), fun _ => rfl, HCx.out, HDx.out _⟩
        | n + 5, ho => simp at ho
      case ehe =>
        rintro L a w ⟨V, c, rfl, hV0, hV1, hcc, hC, hD9⟩ hall
        obtain rfl := hcc (hall 4 (by decide))
        have HCE := Lib.hid (hC.put (by omega) hD9)
        have HDE := Lib.hid hD9
        clear hC hD9 hV0 hV1 hcc hall
        go_wp2
        refine ⟨by simp, .inl ⟨_, _, rfl, run_takeDeferred HDE.out, ?_⟩⟩
        obtain ⟨⟨c0, c1, c2⟩, f0, f1, f2⟩ := HCE.out.cells
        refine ⟨.tuple #[.string (pathB s), .string (rawV s), .bool true], ?_, by rw [HRV.out], HCE.out.k⟩
        simp [results, Tryd.f24, go_sem, c0, c1, c2, Pj.puts, Act.put]
    case stop =>
      rintro D c pre W hD ⟨k, hk, hpre⟩ ⟨⟨rfl, i, hil, hbad⟩, hc3⟩ hK
      have hgp : goodP s = false := goodTo_bad _ i.1 hbad _ i.2
      have HRV := Lib.hid (HRB.out (by rw [HNB.out]; exact hgp))
      have HC := Lib.hid (hc3.put (by omega) hK)
      have HKD := Lib.hid hK
      clear hgp hbad hc3 hK hil hpre
      gi_wp2
      refine ⟨by simp, .inl ⟨_, _, rfl, run_takeDeferred HKD.out, ?_⟩⟩
      obtain ⟨⟨c0, c1, c2⟩, f0, f1, f2⟩ := HC.out.cells
      refine ⟨.tuple #[.string ⟨#[]⟩, .string ⟨#[]⟩, .bool false], ?_, by rw [HRV.out], HC.out.k⟩
      simp [results, Tryd.f24, go_sem, c0, c1, c2]
  | false =>
    have HVO := Lib.hid (show verOf s = latB by unfold verOf; rw [if_neg (by rw [hh]; exact Bool.false_ne_true)])
    clear hv
    obtain ⟨⟨c0, c1, c2⟩, f0, f1, f2⟩ := HC3.out.cells
    go_wp2_with fail
    refine (parts_nm _ _).mono ?_
    rintro e w5 ⟨rfl, hw5⟩
    have hk5 : Kept w3 w5 := by rw [hw5]; exact (Kept.refl _).alloc _
    have HX := Lib.hid (show BlockAt w5 w3.heap.size #[.string (pathB s)] 9 by rw [hw5]; exact BlockAt.new _ _ _)
    have HC5 := Lib.hid (HC3.out.kept hk5)
    have hx5 : w3.heap.size < w5.heap.size := by rw [hw5]; simp
    have hx3 : p + 2 < w3.heap.size := HC3.out.z.lt
    have hwp := HC3.out.p
    clear hk5 hw5 c0 c1 c2 f0 f1 f2 hd1
    generalize w3.heap.size = x at *
    go_wp2_with fail
    refine wp_of_in 8 ?_
    obtain ⟨R, hR⟩ : ∃ R : Nat → Prop, R = fun g => wo.heap.size ≤ g ∧ g ≠ x := ⟨_, rfl⟩
    have hrx : ¬ R x := by rw [hR]; exact fun h => h.2 rfl
    have HRP := Lib.hid (show R p ∧ R (p + 1) ∧ R (p + 2) by rw [hR]; exact ⟨⟨by omega, by omega⟩, ⟨by omega, by omega⟩, ⟨by omega, by omega⟩⟩)
    clear hR
    refine wpIn_rangeFunc_S rfl (by omega) (gf := 33) (lb := #[.pointer (some ⟨x, 0, none⟩)]) rfl trivial (enters_of Tryd.func33 (by kernel_rfl) rfl)
      (parts_stops 7 (by omega) R (pathB s) (by have := HPS.out; omega) x w5 hrx HX.out) (CellsBut.refl _) CellsBut.trans CellsBut.putObj (Below.refl _ _) (fun _ => rfl)
      (fun pre W => (ixs pre).all (fun i => partB (pieceAt (pathB s).data.toList i)) = true ∧ Cells3 wo p (pathB s) (rawV s) false W)
      (fun c pre W => (c = .ret ∧ ∃ i, pre.getLast? = some i ∧ partB (pieceAt (pathB s).data.toList i.1) = false) ∧ Cells3 wo p ⟨#[]⟩ ⟨#[]⟩ false W)
      (OwnFrom.and (Own.from (fun s A B row hs hg hr => hs) _) (Cells3.own (by omega))) (fun c => OwnFrom.and (Own.from (fun s A B row hs hg hr => hs) _) (Cells3.own (by omega))) ?h0 ?round ?done ?stop
    case h0 => exact ⟨rfl, HC5.out⟩
    case round =>
      rintro l ⟨ii, hi⟩ W K hK
      have HK := Lib.hid hK
      clear hK
      have HPB := Lib.hid (fun W => part_nm (pcN (pathB s) ii) W (by have := pcN_size (pathB s) ii; have := HPS.out; omega))
      rw [pcN_list] at HPB
      have HAL := Lib.hid (fun pre => show (ixs (pre ++ [(⟨ii, hi⟩ : { k : Nat // k < cntN (pathB s).data.toList })])).all (fun i => partB (pieceAt (pathB s).data.toList i)) = ((ixs pre).all (fun i => partB (pieceAt (pathB s).data.toList i)) && partB (pieceAt (pathB s).data.toList ii)) by rw [ixs_snoc, List.all_append]; simp)
      gi_wp2
      refine HK.out _ ?_
      clear HK
      rintro l pre W ⟨hall, hc3⟩ hlen
      have HC := Lib.hid hc3
      have HA := Lib.hid hall
      clear hc3 hall
      gi_wp2_with fail
      refine ⟨trivial, (CallsIn.inRound l (callsIn_wide.2 (HPB.out _))).mono ?_⟩
      rintro e W5 ⟨rfl, hk5⟩
      have HCW := Lib.hid (HC.out.kept hk5)
      have HKW := Lib.hid hk5
      clear hk5
      cases hpb : partB (pieceAt (pathB s).data.toList ii) with
      | true =>
        gi_wp2
        exact ⟨others_kept HKW.out, CellsBut.of_kept HKW.out, by rw [HAL.out, HA.out, hpb]; rfl, HCW.out⟩
      | false =>
        obtain ⟨⟨c0, c1, c2⟩, f0, f1, f2⟩ := HCW.out.cells
        gi_wp2
        exact ⟨(((others_kept HKW.out).trans (KeepsOthers.setCell _ ⟨p, 0, none⟩ _)).trans (KeepsOthers.setCell _ ⟨p + 1, 0, none⟩ _)).trans (KeepsOthers.setCell _ ⟨p + 2, 0, none⟩ _), ⟨rfl, ⟨ii, hi⟩, by simp, hpb⟩, ((HCW.out.setX ⟨#[]⟩).setY ⟨#[]⟩).setZ false⟩
    case done =>
      rintro D ys W hD hys ⟨hall, hc3⟩ hK
      have hgp : goodP s = true := by unfold goodP; rw [goodTo_all, ← hys]; exact hall
      have HRV := Lib.hid (HRG.out (by rw [HNB.out]; exact hgp))
      rw [HVO.out] at HRV
      have HC := Lib.hid hc3
      have HKD := Lib.hid hK
      have hDx : x < D := by omega
      clear hgp hall hc3 hK hys
      obtain ⟨⟨c0, c1, c2⟩, f0, f1, f2⟩ := HC.out.cells
      go_upto_region 10 with (fail)
      have HCR := Lib.hid (HC.out.setY latB)
      have HDR := Lib.hid (heap_set (v := .string latB) (b := p + 1) HKD.out (by omega))
      clear c0 c1 c2 f0 f1 f2
      refine Pj.wp_region_step (fun a0 L a w => ∃ (V : Nat → Value) (c : Bool), a = Pj.puts [(32, 0), (33, 1)] V a0 ∧ (L 0 → V 0 = .string (pathB s)) ∧ (L 1 → V 1 = .string (latB)) ∧ (L 4 → c = true) ∧ Cells3 wo p (pathB s) (latB) c w ∧ w.heap[D]? = some (.deferred (some []))) (by as_aux_lemma => kernel_rfl) (by as_aux_lemma => kernel_rfl) ?eh0 ?ehs ?ehe
      case eh0 =>
        intro L hL
        exact ⟨_, false, Pj.puts_self _ (fun j => ([32, 33] : List Nat).getD j 0) [0, 1], fun h => absurd h (hL 0 (by decide)), fun h => absurd h (hL 1 (by decide)), fun h => absurd h (hL 4 (by decide)), HCR.out.kept ((Kept.refl _).drew), HDR.out⟩
      case ehs =>
        rintro L L' a w i op K ⟨V, c, rfl, hV0, hV1, hcc, hC, hD9⟩ ho hopen hdep hL hK
        match i, ho with
        | 0, ho =>
          simp only [List.getElem?_toArray, List.getElem?_cons_zero, Option.some.injEq] at ho
          subst ho
          obtain ⟨⟨c0, c1, c2⟩, f0, f1, f2⟩ := hC.cells
          have HCx := Lib.hid hC
          have HVx := Lib.hid hV1
          have HCC := Lib.hid hcc
          clear hC hV0 hV1 hcc
          refine Pj.Step.free rfl ?_
          simp only [Pj.puts, List.foldl_cons, List.foldl_nil, Act.put, List.setIfInBounds_toArray, List.set_cons_zero, List.set_cons_succ]
          go_simp
          exact hK _ _ ⟨Pj.vset V 0 (.string (pathB s)), c, by simp only [Pj.puts, List.foldl_cons, List.foldl_nil, Act.put, List.setIfInBounds_toArray, List.set_cons_zero, List.set_cons_succ, Pj.vset, Nat.reduceEqDiff, if_true, if_false], fun _ => Pj.vset_same _ _ _, fun h => (Pj.vset_other _ _ (by decide)).trans (HVx.out (((hL 1).1 h).resolve_left (by decide))), fun h => HCC.out (((hL 4).1 h).resolve_left (by decide)), HCx.out, hD9⟩
        | 1, ho =>
          simp only [List.getElem?_toArray, List.getElem?_cons_zero, List.getElem?_cons_succ, Option.some.injEq] at ho
          subst ho
          obtain ⟨⟨c0, c1, c2⟩, f0, f1, f2⟩ := hC.cells
          have HCx := Lib.hid hC
          have HVx := Lib.hid hV0
          have HCC := Lib.hid hcc
          clear hC hV0 hV1 hcc
          refine Pj.Step.free rfl ?_
          simp only [Pj.puts, List.foldl_cons, List.foldl_nil, Act.put, List.setIfInBounds_toArray, List.set_cons_zero, List.set_cons_succ]
          go_simp
          exact hK _ _ ⟨Pj.vset V 1 (.string (latB)), c, by simp only [Pj.puts, List.foldl_cons, List.foldl_nil, Act.put, List.setIfInBounds_toArray, List.set_cons_zero, List.set_cons_succ, Pj.vset, Nat.reduceEqDiff, if_true, if_false], fun h => (Pj.vset_other _ _ (by decide)).trans (HVx.out (((hL 0).1 h).resolve_left (by decide))), fun _ => Pj.vset_same _ _ _, fun h => HCC.out (((hL 4).1 h).resolve_left (by decide)), HCx.out, hD9⟩
        | 2, ho =>
          simp only [List.getElem?_toArray, List.getElem?_cons_zero, List.getElem?_cons_succ, Option.some.injEq] at ho
          have e0 : V 0 = _ := hV0 (hdep 0 (by rw [← ho]; kernel_rfl))
          subst ho
          obtain ⟨⟨c0, c1, c2⟩, f0, f1, f2⟩ := hC.cells
          have HCx := Lib.hid (hC.setX (pathB s))
          have HV0 := Lib.hid hV0
          have HV1 := Lib.hid hV1
          have HCC := Lib.hid hcc
          have HDx := Lib.hid (fun v => heap_set (v := v) (b := p) hD9 (by omega))
          clear hC hV0 hV1 hcc hD9
          refine Pj.Step.free rfl ?_
          simp only [Pj.puts, List.foldl_cons, List.foldl_nil, Act.put, List.setIfInBounds_toArray, List.set_cons_zero, List.set_cons_succ, e0]
          go_simp
          exact hK _ _ ⟨V, c, by simp only [Pj.puts, List.foldl_cons, List.foldl_nil, Act.put, List.setIfInBounds_toArray, List.set_cons_zero, List.set_cons_succ, e0], fun h => HV0.out (((hL 0).1 h).resolve_left (by decide)), fun h => HV1.out (((hL 1).1 h).resolve_left (by decide)), fun h => HCC.out (((hL 4).1 h).resolve_left (by decide)), HCx.out, HDx.out _⟩
        | 3, ho =>
          simp only [List.getElem?_toArray, List.getElem?_cons_zero, List.getElem?_cons_succ, Option.some.injEq] at ho
          have e1 : V 1 = _ := hV1 (hdep 1 (by rw [← ho]; kernel_rfl))
          subst ho
          obtain ⟨⟨c0, c1, c2⟩, f0, f1, f2⟩ := hC.cells
          have HCx := Lib.hid (hC.setY (latB))
          have HV0 := Lib.hid hV0
          have HV1 := Lib.hid hV1
          have HCC := Lib.hid hcc
          have HDx := Lib.hid (fun v => heap_set (v := v) (b := p + 1) hD9 (by omega))
          clear hC hV0 hV1 hcc hD9
          refine Pj.Step.free rfl ?_
          simp only [Pj.puts, List.foldl_cons, List.foldl_nil, Act.put, List.setIfInBounds_toArray, List.set_cons_zero, List.set_cons_succ, e1]
          go_simp
          exact hK _ _ ⟨V, c, by simp only [Pj.puts, List.foldl_cons, List.foldl_nil, Act.put, List.setIfInBounds_toArray, List.set_cons_zero, List.set_cons_succ, e1], fun h => HV0.out (((hL 0).1 h).resolve_left (by decide)), fun h => HV1.out (((hL 1).1 h).resolve_left (by decide)), fun h => HCC.out (((hL 4).1 h).resolve_left (by decide)), HCx.out, HDx.out _⟩
        | 4, ho =>
          simp only [List.getElem?_toArray, List.getElem?_cons_zero, List.getElem?_cons_succ, Option.some.injEq] at ho
          subst ho
          obtain ⟨⟨c0, c1, c2⟩, f0, f1, f2⟩ := hC.cells
          have HCx := Lib.hid (hC.setZ true)
          have HV0 := Lib.hid hV0
          have HV1 := Lib.hid hV1
          have HCC := Lib.hid hcc
          have HDx := Lib.hid (fun v => heap_set (v := v) (b := p + 2) hD9 (by omega))
          clear hC hV0 hV1 hcc hD9
          refine Pj.Step.free rfl ?_
          simp only [Pj.puts, List.foldl_cons, List.foldl_nil, Act.put, List.setIfInBounds_toArray, List.set_cons_zero, List.set_cons_succ]
          go_simp
          exact hK _ _ ⟨V, true, by simp only [Pj.puts, List.foldl_cons, List.foldl_nil, Act.put, List.setIfInBounds_toArray, List.set_cons_zero, List.set_cons_succ], fun h => HV0.out (((hL 0).1 h).resolve_left (by decide)), fun h => HV1.out (((hL 1).1 h).resolve_left (by decide)), fun _ => rfl, HCx.out, HDx.out _⟩
        | n + 5, ho => simp at ho
      case ehe =>
        rintro L a w ⟨V, c, rfl, hV0, hV1, hcc, hC, hD9⟩ hall
        obtain rfl := hcc (hall 4 (by decide))
        have HCE := Lib.hid (hC.put (by omega) hD9)
        have HDE := Lib.hid hD9
        clear hC hD9 hV0 hV1 hcc hall
        go_wp2
        refine ⟨by simp, .inl ⟨_, _, rfl, run_takeDeferred HDE.out, ?_⟩⟩
        obtain ⟨⟨c0, c1, c2⟩, f0, f1, f2⟩ := HCE.out.cells
        refine ⟨.tuple #[.string (pathB s), .string (latB), .bool true], ?_, by rw [HRV.out], HCE.out.k⟩
        simp [results, Tryd.f24, go_sem, c0, c1, c2, Pj.puts, Act.put]
    case stop =>
      rintro D c pre W hD ⟨k, hk, hpre⟩ ⟨⟨rfl, i, hil, hbad⟩, hc3⟩ hK
      have hgp : goodP s = false := goodTo_bad _ i.1 hbad _ i.2
      have HRV := Lib.hid (HRB.out (by rw [HNB.out]; exact hgp))
      have HC := Lib.hid (hc3.put (by omega) hK)
      have HKD := Lib.hid hK
      clear hgp hbad hc3 hK hil hpre
      gi_wp2
      refine ⟨by simp, .inl ⟨_, _, rfl, run_takeDeferred HKD.out, ?_⟩⟩
      obtain ⟨⟨c0, c1, c2⟩, f0, f1, f2⟩ := HC.out.cells
      refine ⟨.tuple #[.string ⟨#[]⟩, .string ⟨#[]⟩, .bool false], ?_, by rw [HRV.out], HC.out.k⟩
      simp [results, Tryd.f24, go_sem, c0, c1, c2]
theorem read_nm (s : ByteArray) (m : Int) (wo : World) (hs : s.size ≤ 1000000) (hm : wo.cell? ⟨0, 0, none⟩ = some (.int .i64 m)) (hg : 0 < wo.heap.size) :
    Calls Tryd.prog 24 #[.string s] wo fun e w' => e = .returned (readV s) ∧ Kept wo w' := by
  by_cases h40 : s.size ≤ 40
  · cases hv : versB (rawV s).data.toList with
    | true => exact read_late s m wo h40 hm hg (fun _ => hv)
    | false =>
      cases hh : hasB s with
      | false => exact read_late s m wo h40 hm hg (fun h => by rw [hh] at h; cases h)
      | true => exact read_early s m wo hs hm hg (by unfold nameB; rw [hh, hv]; simp) (.inr ⟨hh, hv⟩)
  · exact read_early s m wo hs hm hg (by unfold nameB; rw [decide_eq_false h40]; rfl) (.inl (by omega))
end Go.Proofs.YtjiefcjjgadjiaaDoor
