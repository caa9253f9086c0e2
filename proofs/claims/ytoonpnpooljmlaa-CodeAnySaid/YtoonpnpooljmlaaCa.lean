/- The walk of the law CodeAny: it answers true and changes nothing that was there (no conditions). -/
import Derived.Test.YtoonpnpooljmlaaUn
import Derived.Test.YtoonpnpooljmlaaQa11
import Derived.Test.YtoonpnpooljmlaaCo
namespace Go.Proofs.Ytoonpnpooljmlaa
open Go.RowKit Go.Shelf
attribute [local go_sem] Oper.semAt_some

/-- a row of n truths of which the first k are written -/
structure Bd (w : World) (g n k : Nat) (T : Nat → Bool) : Prop where
  block : ∃ cs, BlockAt w g cs 4
  cell : ∀ i, i < n → w.cell? ⟨g, i, none⟩ = some (.bool (if i < k then T i else false))
theorem Bd.lt {w : World} {g n k : Nat} {T : Nat → Bool} (h : Bd w g n k T) : g < w.heap.size := by obtain ⟨cs, hb⟩ := h.block; exact hb.lt
theorem Bd.free {w : World} {g n k : Nat} {T : Nat → Bool} (h : Bd w g n k T) (i : Nat) : w.frozen? ⟨g, i, none⟩ = false := by obtain ⟨cs, hb⟩ := h.block; exact hb.free i
theorem Bd.kept {w w' : World} {g n k : Nat} {T : Nat → Bool} (h : Bd w g n k T) (q : Kept w w') : Bd w' g n k T := by
  obtain ⟨cs, hb⟩ := h.block
  exact ⟨⟨cs, hb.kept q⟩, fun i hi => q.cell hb.lt (h.cell i hi)⟩
theorem Bd.set {w : World} {g n k : Nat} {T : Nat → Bool} (h : Bd w g n k T) (hk : k < n) : Bd (w.setCell ⟨g, k, none⟩ (.bool (T k))) g n (k + 1) T := by
  obtain ⟨cs, hb⟩ := h.block
  refine ⟨⟨_, hb.set _⟩, fun i hi => ?_⟩
  by_cases e : i = k
  · subst e
    rw [World.cell?_setCell_same _ _ _ (h.cell i hk), if_pos (by omega)]
  · have hne : (⟨g, i, none⟩ : Addr) ≠ ⟨g, k, none⟩ := fun h => e (Addr.mk.inj h).2.1
    rw [World.cell?_setCell_other (h := hne.symm), h.cell i hi]
    by_cases h2 : i < k
    · rw [if_pos h2, if_pos (by omega)]
    · rw [if_neg h2, if_neg (by omega)]
theorem made_bools4 (u : World) (n : Nat) (T : Nat → Bool) : Bd (u.alloc (.cells (madeCells #[.bool false] n) 4)) u.heap.size n 0 T := by
  refine ⟨⟨_, BlockAt.new _ _ _⟩, fun i hi => ?_⟩
  rw [cell_new]
  simp [madeCells, hi, Nat.mod_one]
theorem Bd.bools {w : World} {g n : Nat} {T : Nat → Bool} (h : Bd w g n n T) : BoolsIn w (some ⟨g, 0, none⟩) n T :=
  ⟨g, 0, fun _ => rfl, fun i hi => ⟨h.lt, by rw [Nat.zero_add, h.cell i hi, if_pos hi]⟩⟩
theorem mkBools4 (n : Nat) (hn : n ≤ 1000000) : ∀ u : World, (Instr.makeSlice 24 (.int .i64 n) (.int .i64 n)).run Try.prog u =
    .ok (.slice (some ⟨u.heap.size, 0, none⟩) n n) (u.alloc (.cells (madeCells #[.bool false] n) 4)) := fun u => by
  obtain ⟨i0, hi, hz0, hz1, hz2⟩ := info_parts Try.infoBo
  have h := run_make (P := Try.prog) u 24 4 i0 (.bool false) Try.underlying24 hi hz0 .i64 .i64 (n : Int) (n : Int) (by omega) (Int.le_refl _) (by rw [hz2]; omega) (by omega)
  simpa [hz1, Value.cells] using h
theorem sizedB_all4 {X : List ByteArray} {H S : Nat} (hl : X.length = H) (h : ∀ x ∈ X, x.size = S) : sizedB X H S = true := by
  unfold sizedB
  rw [Bool.and_eq_true, List.all_eq_true]
  exact ⟨decide_eq_true hl, fun x hx => decide_eq_true (h x hx)⟩
theorem lstS_size4 {X : List ByteArray} {T : Nat → Bool} {K H S : Nat} (hz : sizedT X H S T = true) (hl : (lst T K H).length = K) (j : Nat) (hj : j < K) : ((lstS T K H X).getD j ByteArray.empty).size = S := by
  have hi' : j < (lst T K H).length := by omega
  have hm := List.getElem_mem hi'
  simp only [lstS, List.getD_eq_getElem?_getD, List.getElem?_map, List.getElem?_eq_getElem hi', Option.map_some, Option.getD_some]
  have := sizedT_size hz (lst_lt hm) (lst_there hm)
  simpa [List.getD_eq_getElem?_getD] using this
theorem Bd.congr {w : World} {g n k : Nat} {T T' : Nat → Bool} (h : Bd w g n k T) (e : ∀ q, q < k → T q = T' q) : Bd w g n k T' :=
  ⟨h.block, fun i hi => by
    rw [h.cell i hi]
    by_cases h2 : i < k
    · rw [if_pos h2, if_pos h2, e i h2]
    · rw [if_neg h2, if_neg h2]⟩
theorem cntT_congr {T T' : Nat → Bool} : ∀ n, (∀ q, q < n → T q = T' q) → cntT T n = cntT T' n
  | 0, _ => rfl
  | n + 1, h => by
    simp only [cntT]
    rw [cntT_congr n (fun q hq => h q (by omega)), h n (by omega)]
/-- one more is told -/
def putT (T : Nat → Bool) (i : Nat) (y : Bool) : Nat → Bool := fun q => if q = i then y else T q
theorem putT_at (T : Nat → Bool) (i : Nat) (y : Bool) : putT T i y i = y := if_pos rfl
theorem putT_lt (T : Nat → Bool) (i : Nat) (y : Bool) (q : Nat) (h : q < i) : T q = putT T i y q := (if_neg (by omega)).symm
theorem cnt_put (T : Nat → Bool) (i : Nat) (y : Bool) : cntT (putT T i y) (i + 1) = cntT T i + if y = true then 1 else 0 := by
  simp only [cntT]
  rw [putT_at, ← cntT_congr i (fun q hq => putT_lt T i y q hq)]
theorem sizedT_all {X : List ByteArray} {H S : Nat} (hl : X.length = H) (h : ∀ q, q < H → (X.getD q ByteArray.empty).size = S) (T : Nat → Bool) : sizedT X H S T = true := by
  unfold sizedT
  rw [Bool.and_eq_true, List.all_eq_true]
  refine ⟨decide_eq_true hl, fun q hq => ?_⟩
  rw [h q (List.mem_range.1 hq), decide_eq_true rfl, Bool.or_true]
theorem refmul11 (w : World) : Calls Try.prog 31 #[.int .u8 1, .int .u8 1] w fun e w' => e = .returned (.int .u8 1) ∧ w = w' := by
  have h := refmul_any 1 1 (by omega) (by omega) w
  have e : Gf.mul 1 1 = 1 := by decide +kernel
  rw [e] at h
  exact h
set_option maxRecDepth 100000 in
set_option maxHeartbeats 8000000 in
theorem code_any (ax : Option Addr) (ls cs : Nat) (al : Option Addr) (ll cl : Nat) (ss : List ByteArray) (ab : Option Addr) (lb cb : Nat) (W : World) (h : AskC W ax ls cs al ll cl ss) :
    Calls Try.prog 5 #[.agg #[.slice ax ls cs, .slice al ll cl, .slice ab lb cb]] W fun e W' => e = .returned (.bool true) ∧ Kept W W' := by
  have HA := Lib.hid h
  clear h
  have HK1 := Lib.hid ((Kept.refl W).alloc (.cells #[.slice ax ls cs, .slice al ll cl, .slice ab lb cb] 26))
  have hB1 := BlockAt.new W #[.slice ax ls cs, .slice al ll cl, .slice ab lb cb] 26
  go_enter Try.func5, Try.ntmps5
  go_upto_region 1 with (fail)
  generalize W.alloc (.cells #[.slice ax ls cs, .slice al ll cl, .slice ab lb cb] 26) = w1 at *
  have HREAD := Lib.hid (show ∀ w, Kept w1 w → w.cell? ⟨W.heap.size, 0, none⟩ = some (.slice ax ls cs) ∧ w.cell? ⟨W.heap.size, 1, none⟩ = some (.slice al ll cl) ∧ w.cell? ⟨W.heap.size, 2, none⟩ = some (.slice ab lb cb) from fun w k => box3c (hB1.kept k))
  clear hB1
  obtain ⟨a0, a1, a2⟩ := HREAD.out _ (Kept.refl _)
  go_wp2_with fail
  refine (heavy4_any ax ls cs al ll cl ss ab lb cb _ (HA.out.kept HK1.out)).mono ?_
  rintro e w2 ⟨he, hk2⟩
  have HK2 := Lib.hid hk2
  clear hk2 a0 a1 a2
  rcases he with rfl | ⟨rfl, hll, hls, hsz⟩
  · go_wp2
    go_ret
    exact ⟨rfl, HK1.out.trans HK2.out⟩
  · have HSZ := Lib.hid hsz
    clear hsz
    go_wp2_with fail
    go_loopw [3] (fun i wr => ∃ j : Nat, j ≤ ls ∧ i = .int .i64 j ∧ Kept w1 wr) (fun i _ => ls - (intOf i).toNat)
    case atStart => exact ⟨0, by omega, rfl, HK2.out⟩
    case round =>
      obtain ⟨j, hj, rfl, hK⟩ := hrel
      have HK := Lib.hid hK
      clear hK
      obtain ⟨a0, a1, a2⟩ := HREAD.out _ HK.out
      by_cases hjl : j < ls
      · by_cases hj4 : j < 2
        · obtain ⟨b, off, rfl, hc⟩ := HA.out.shapes.cell (by omega)
          obtain ⟨k, m, s, hkb, hcell⟩ := hc j hjl
          obtain ⟨c0, c1, c2⟩ := hcell _ (HK1.out.trans HK.out)
          clear hc hcell
          have hd1 : decide ((j : Int) < ls) = true := decide_eq_true (by omega)
          have hd2 : decide ((j : Int) < 2) = true := decide_eq_true (by omega)
          go_upto_region 7 with (fail)
          have HB4 := Lib.hid (BlockAt.new wr #[.int .i64 k, .int .i64 m, .int .i64 s] 29)
          have k4 : Kept wr (wr.alloc (.cells #[.int .i64 k, .int .i64 m, .int .i64 s] 29)) := (Kept.refl wr).alloc _
          generalize wr.alloc (.cells #[.int .i64 k, .int .i64 m, .int .i64 s] 29) = wa at *
          have HKa := Lib.hid (HK.out.trans k4)
          clear k4 a0 a1 a2 c0 c1 c2
          have HP4 := Lib.hid (show w1.heap.size ≤ wr.heap.size from HK.out.size)
          generalize wr.heap.size = p4 at *
          obtain ⟨c0, c1, c2⟩ := box3c HB4.out
          go_wp2_with fail
          refine (shape_ref k m s _).mono ?_
          rintro e wb ⟨rfl, hkb7⟩
          have HKb := Lib.hid hkb7
          have HB5 := Lib.hid (HB4.out.kept hkb7)
          obtain ⟨c0, c1, c2⟩ := box3c HB5.out
          clear hkb7 HB4
          by_cases hB : shpB k m s = true
          · obtain ⟨K, M, S, rfl, rfl, rfl, hK1, hS1⟩ := shape_nat hB
            have HSB := Lib.hid hB
            rw [hB]
            clear hB
            obtain ⟨H, hH⟩ : ∃ H, H = K + M := ⟨_, rfl⟩
            have HH := Lib.hid hH
            have eH : (K : Int) + (M : Int) = (H : Int) := by omega
            have hH14 : 1 ≤ H ∧ H ≤ 14 := by omega
            clear hH
            have f2 := HB5.out.free 2
            go_upto_region 9 with (fail)
            obtain ⟨R, hR⟩ : ∃ R, R = min S 4 := ⟨_, rfl⟩
            have eR : min (S : Int) 4 = (R : Int) := by omega
            have hR4 : 1 ≤ R ∧ R ≤ 4 := by omega
            rw [eR]
            have HB6 := Lib.hid (show BlockAt (wb.setCell ⟨p4, 2, none⟩ (.int .i64 (R : Int))) p4 #[.int .i64 K, .int .i64 M, .int .i64 R] 29 by have := HB5.out.set (i := 2) (.int .i64 (R : Int)); simpa using this)
            have HK6 := Lib.hid (show Kept w1 (wb.setCell ⟨p4, 2, none⟩ (.int .i64 (R : Int))) from (HKa.out.trans HKb.out).setCell (p := ⟨p4, 2, none⟩) HP4.out _)
            generalize wb.setCell ⟨p4, 2, none⟩ (.int .i64 (R : Int)) = w6 at *
            clear f2 c0 c1 c2 hR eR
            have HBW := Lib.hid (show ∀ w, Kept w6 w → w.cell? ⟨p4, 0, none⟩ = some (.int .i64 K) ∧ w.cell? ⟨p4, 1, none⟩ = some (.int .i64 M) ∧ w.cell? ⟨p4, 2, none⟩ = some (.int .i64 R) from fun w q => box3c (HB6.out.kept q))
            have HRW := Lib.hid (show ∀ w, Kept w6 w → w.cell? ⟨W.heap.size, 1, none⟩ = some (.slice al ll cl) from fun w q => (HREAD.out _ (HK6.out.trans q)).2.1)
            obtain ⟨c0, c1, c2⟩ := HBW.out _ (Kept.refl _)
            have hrw := HRW.out _ (Kept.refl _)
            go_wp2_with fail
            refine (fitted_any al ll cl ss K R _ ((HA.out.kept HK1.out).kept HK6.out).texts.strs (by omega) (fun i hi => Nat.le_trans (HSZ.out i hi) (by decide)) (by omega) ⟨hR4.1, by omega⟩).mono ?_
            rintro e w7 ⟨a6, c6, D, rfl, hc6, hsD, hzD, hk7⟩
            obtain ⟨b6, o6, h6, -⟩ := hsD.cells
            obtain rfl := h6 (by omega)
            have HD := Lib.hid hsD
            have HDZ := Lib.hid hzD
            have HDL := Lib.hid hsD.len_eq
            have HDS := Lib.hid (show ∀ j, j < K → (D.getD j ByteArray.empty).size = R from fun j hj => hzD _ (by simp [List.getD, show j < D.length by rw [hsD.len_eq]; exact hj]))
            have HDB := Lib.hid (sizedB_all4 hsD.len_eq hzD)
            have HK7 := Lib.hid hk7
            clear c0 c1 c2 hrw hsD hzD h6 hk7
            obtain ⟨c0, c1, c2⟩ := HBW.out _ HK7.out
            go_wp2_with fail
            refine (encode_any K M H R HH.out hK1 ⟨hR4.1, by omega⟩ (some ⟨b6, o6, none⟩) c6 D _ HD.out hc6 HDB.out).mono ?_
            rintro e w8 ⟨a7, rfl, -, ht7, ha7, hk8⟩
            have HX := Lib.hid (txt_strs4 (q := R) ht7 ha7 (HDS.out 0 (by omega)) (by omega) (by omega))
            have HK8 := Lib.hid hk8
            clear ht7 ha7 hk8 c0 c1 c2
            go_wp2_with fail
            refine (copy_strings_own (some ⟨b6, o6, none⟩) K c6 D _ (HD.out.kept HK8.out) (by omega)).mono ?_
            rintro e w9 ⟨a9, c9, rfl, hown, hk9⟩
            obtain ⟨g9, cur, rfl, hb9, hg9, hkc, hcur⟩ : ∃ g9 cur, a9 = some ⟨g9, 0, none⟩ ∧ w8.heap.size ≤ g9 ∧ BlockAt w9 g9 cur 9 ∧ K ≤ c9 ∧ ∀ q, q < K → cur[q]? = some (.string (D.getD q ByteArray.empty)) := by
              rcases hown.2 with ⟨e, h0⟩ | ⟨g, c2, cur, e, h1, h2, h3, h4, h5, h6⟩
              · exact absurd h0 (by omega)
              · injection e with e1 e2 e3
                subst e3
                refine ⟨g, cur, e1, h1, h2, h3, fun q hq => ?_⟩
                have h7 := congrArg (fun l => l[q]?) h6
                simp only [List.getElem?_take, Nat.mul_one, if_pos hq, List.getElem?_map, Array.getElem?_toList] at h7
                rw [h7]
                have : q < D.length := by rw [HDL.out]; exact hq
                simp [List.getD, this]
            have HG9 := Lib.hid hg9
            have HCUR := Lib.hid hcur
            have HK9 := Lib.hid hk9
            have HGE := Lib.hid hb9
            obtain ⟨z, hz, hwi⟩ : ∃ z, z < K ∧ ∀ w, Calls Try.prog 29 #[.int .i64 ll, .int .i64 K] w fun e w' => e = .returned (.int .i64 (z : Nat)) ∧ w = w' := ⟨wthn4 (ll : Int) K, wthn4_lt _ _ (by omega), fun w => within_ref4 (ll : Int) K (by omega) w⟩
            have HWI := Lib.hid hwi
            obtain ⟨R1, hR1⟩ : ∃ R1, R = R1 + 1 := ⟨R - 1, by omega⟩
            have eR1 : (R : Int) - 1 = (R1 : Int) := by omega
            have HR1 := Lib.hid hR1
            have HWR9 := Lib.hid (show IntKind.i64.wrap ((R : Int) - 1) = (R1 : Int) by rw [IntWalk.i64_in _ (by omega)]; exact eR1)
            have hmk := makeB R1 (by omega)
            have hbf := fun u => madeB u R1
            generalize madeCells #[.int .u8 0] R1 = Zc at hmk hbf
            have HMK := Lib.hid hmk
            have HBF := Lib.hid hbf
            obtain ⟨zs, hzs⟩ : ∃ zs : ByteArray, zs = zb R1 := ⟨_, rfl⟩
            have hzz : zs.size = R1 := by rw [hzs, zb_size]
            have HCV := Lib.hid (show ∀ w g, Buf w g (List.replicate R1 0) → (convert 31 9 (.slice (some ⟨g, 0, none⟩) R1 R1)).run Try.prog w = .ok (.string zs) w from fun w g hb => by
              have h := hb.string (P := Try.prog) 31 9 5 Try.underlying31 Try.underlying5 Try.underlying9 R1
              rw [List.length_replicate] at h
              rw [hzs]
              exact h)
            obtain ⟨t, ht⟩ : ∃ t : ByteArray, t = zs ++ ⟨#[7]⟩ := ⟨_, rfl⟩
            have hts : t.size = R := by
              rw [ht, ByteArray.size_append, hzz, hR1]
              rfl
            have HAD := Lib.hid (show ∀ w : World, (Op.stringOp .add zs ⟨#[7]⟩).run Try.prog w = .ok (.string t) w from fun w => by rw [ht]; exact run_string_add_sum _ _ _ (by rw [hzz]; show R1 + 1 ≤ _; omega))
            have HTS := Lib.hid hts
            clear hown hb9 hg9 hcur hk9 hwi hR1 eR1 hmk hbf hzs hzz ht hts
            go_wp2_with fail
            refine Pj.wp_region_step (fun az0 L az w => ∃ V : Nat → Value, az = Pj.puts [(63, 0), (64, 1), (65, 2), (66, 3), (67, 4), (68, 5), (69, 6), (70, 7), (71, 8), (72, 9), (73, 10), (74, 11), (75, 12), (76, 13)] V az0 ∧ Pj.J w8 [Pj.Is (.slice (some ⟨g9, 0, none⟩) K c9), Pj.Is (.pointer (some ⟨W.heap.size, 1, none⟩)), Pj.Is (.slice al ll cl), Pj.Is (.int .i64 ll), Pj.Is (.pointer (some ⟨p4, 0, none⟩)), Pj.Is (.int .i64 K), Pj.Is (.int .i64 (z : Nat)), Pj.Is (.pointer (some ⟨p4, 2, none⟩)), Pj.Is (.int .i64 R), Pj.Is (.int .i64 R1), (fun _ v => ∃ g : Nat, v = .slice (some ⟨g, 0, none⟩) R1 R1), Pj.Is (.string zs), Pj.Is (.string t), Pj.Is (.pointer (some ⟨g9, z, none⟩)), (fun _ _ => True)] L V w ∧ Pj.Fld g9 9 cur z 12 14 L V w ∧ (L 10 → ¬ L 11 → ∃ g, V 10 = .slice (some ⟨g, 0, none⟩) R1 R1 ∧ Buf w g (List.replicate R1 0)) ∧ (L 12 → L 11)) (by as_aux_lemma => kernel_rfl) (by as_aux_lemma => kernel_rfl) ?eh0 ?ehs ?ehe
            case eh0 =>
              intro L hL
              exact ⟨_, Pj.puts_self _ (fun j => ([63, 64, 65, 66, 67, 68, 69, 70, 71, 72, 73, 74, 75, 76, 0] : List Nat).getD j 0) [0, 1, 2, 3, 4, 5, 6, 7, 8, 9, 10, 11, 12, 13], Pj.J.none (n := 15) (Nat.le_refl _) hL ((show Kept w8 w9 from HK9.out).drew), Pj.Fld.start (HG9.out.kept (Kept.refl _).drew) (hL 14 (by decide)), fun h => absurd h (hL 10 (by decide)), fun h => absurd h (hL 12 (by decide))⟩
            case ehs =>
              rintro L L' az w iz opz Kq ⟨V, rfl, hJ, hFF, hZ, hm12_11⟩ ho hopen hdep hL hKq
              have hP : Pj.AllFlat [Pj.Is (.slice (some ⟨g9, 0, none⟩) K c9), Pj.Is (.pointer (some ⟨W.heap.size, 1, none⟩)), Pj.Is (.slice al ll cl), Pj.Is (.int .i64 ll), Pj.Is (.pointer (some ⟨p4, 0, none⟩)), Pj.Is (.int .i64 K), Pj.Is (.int .i64 (z : Nat)), Pj.Is (.pointer (some ⟨p4, 2, none⟩)), Pj.Is (.int .i64 R), Pj.Is (.int .i64 R1), (fun _ v => ∃ g : Nat, v = .slice (some ⟨g, 0, none⟩) R1 R1), Pj.Is (.string zs), Pj.Is (.string t), Pj.Is (.pointer (some ⟨g9, z, none⟩)), (fun _ _ => True)] := ⟨Pj.Is.flat _, Pj.Is.flat _, Pj.Is.flat _, Pj.Is.flat _, Pj.Is.flat _, Pj.Is.flat _, Pj.Is.flat _, Pj.Is.flat _, Pj.Is.flat _, Pj.Is.flat _, (fun _ _ _ h _ => h), Pj.Is.flat _, Pj.Is.flat _, Pj.Is.flat _, (fun _ _ _ _ _ => trivial), trivial⟩
              have HP := Lib.hid hP
              clear hP
              match iz, ho with
              | 0, ho =>
                simp only [List.getElem?_toArray, List.getElem?_cons_zero, Option.some.injEq] at ho
                have HJ := Lib.hid hJ
                clear hJ
                have HFF := Lib.hid hFF
                clear hFF
                have HXhZ := Lib.hid hZ
                clear hZ
                subst ho
                refine Pj.Step.free rfl ?_
                simp only [Pj.puts, List.foldl_cons, List.foldl_nil, Act.put, List.setIfInBounds_toArray, List.set_cons_zero, List.set_cons_succ]
                go_simp
                exact hKq _ _ ⟨Pj.vset V 0 (.slice (some ⟨g9, 0, none⟩) K c9), by simp only [Pj.puts, List.foldl_cons, List.foldl_nil, Act.put, List.setIfInBounds_toArray, List.set_cons_zero, List.set_cons_succ, Pj.vset, Nat.reduceEqDiff, if_true, if_false], HJ.out.flat HP.out hL (HJ.out.kp.trans (Kept.refl _)) (Kept.size (Kept.refl _)) (rfl), HFF.out.same (by decide) hopen hL (Kept.refl _), fun q r => by
                  obtain ⟨g, e, hb⟩ := HXhZ.out (((hL 10).1 q).resolve_left (by decide)) (fun s => r ((hL 11).2 (.inr s)))
                  exact ⟨g, (Pj.vset_other _ _ (by decide)).trans e, hb⟩, fun h => (hL 11).2 (((hL 12).1 h).elim (fun e => absurd e (by decide)) (fun q => .inr (hm12_11 q)))⟩
              | 1, ho =>
                simp only [List.getElem?_toArray, List.getElem?_cons_zero, List.getElem?_cons_succ, Option.some.injEq] at ho
                have HJ := Lib.hid hJ
                clear hJ
                have HFF := Lib.hid hFF
                clear hFF
                have HXhZ := Lib.hid hZ
                clear hZ
                subst ho
                refine Pj.Step.free rfl ?_
                simp only [Pj.puts, List.foldl_cons, List.foldl_nil, Act.put, List.setIfInBounds_toArray, List.set_cons_zero, List.set_cons_succ]
                go_simp
                exact hKq _ _ ⟨Pj.vset V 1 (.pointer (some ⟨W.heap.size, 1, none⟩)), by simp only [Pj.puts, List.foldl_cons, List.foldl_nil, Act.put, List.setIfInBounds_toArray, List.set_cons_zero, List.set_cons_succ, Pj.vset, Nat.reduceEqDiff, if_true, if_false], HJ.out.flat HP.out hL (HJ.out.kp.trans (Kept.refl _)) (Kept.size (Kept.refl _)) (rfl), HFF.out.same (by decide) hopen hL (Kept.refl _), fun q r => by
                  obtain ⟨g, e, hb⟩ := HXhZ.out (((hL 10).1 q).resolve_left (by decide)) (fun s => r ((hL 11).2 (.inr s)))
                  exact ⟨g, (Pj.vset_other _ _ (by decide)).trans e, hb⟩, fun h => (hL 11).2 (((hL 12).1 h).elim (fun e => absurd e (by decide)) (fun q => .inr (hm12_11 q)))⟩
              | 2, ho =>
                simp only [List.getElem?_toArray, List.getElem?_cons_zero, List.getElem?_cons_succ, Option.some.injEq] at ho
                have e1 : V 1 = .pointer (some ⟨W.heap.size, 1, none⟩) := hJ.h 1 (hdep 1 (by rw [← ho]; kernel_rfl))
                have hrw := HRW.out _ ((HK7.out.trans HK8.out).trans hJ.kp)
                have HJ := Lib.hid hJ
                clear hJ
                have HFF := Lib.hid hFF
                clear hFF
                have HXhZ := Lib.hid hZ
                clear hZ
                subst ho
                refine Pj.Step.free rfl ?_
                simp only [Pj.puts, List.foldl_cons, List.foldl_nil, Act.put, List.setIfInBounds_toArray, List.set_cons_zero, List.set_cons_succ, e1]
                go_simp
                exact hKq _ _ ⟨Pj.vset V 2 (.slice al ll cl), by simp only [Pj.puts, List.foldl_cons, List.foldl_nil, Act.put, List.setIfInBounds_toArray, List.set_cons_zero, List.set_cons_succ, Pj.vset, Nat.reduceEqDiff, if_true, if_false, e1], HJ.out.flat HP.out hL (HJ.out.kp.trans (Kept.refl _)) (Kept.size (Kept.refl _)) (rfl), HFF.out.same (by decide) hopen hL (Kept.refl _), fun q r => by
                  obtain ⟨g, e, hb⟩ := HXhZ.out (((hL 10).1 q).resolve_left (by decide)) (fun s => r ((hL 11).2 (.inr s)))
                  exact ⟨g, (Pj.vset_other _ _ (by decide)).trans e, hb⟩, fun h => (hL 11).2 (((hL 12).1 h).elim (fun e => absurd e (by decide)) (fun q => .inr (hm12_11 q)))⟩
              | 3, ho =>
                simp only [List.getElem?_toArray, List.getElem?_cons_zero, List.getElem?_cons_succ, Option.some.injEq] at ho
                have e2 : V 2 = .slice al ll cl := hJ.h 2 (hdep 2 (by rw [← ho]; kernel_rfl))
                have HJ := Lib.hid hJ
                clear hJ
                have HFF := Lib.hid hFF
                clear hFF
                have HXhZ := Lib.hid hZ
                clear hZ
                subst ho
                refine Pj.Step.free rfl ?_
                simp only [Pj.puts, List.foldl_cons, List.foldl_nil, Act.put, List.setIfInBounds_toArray, List.set_cons_zero, List.set_cons_succ, e2]
                go_simp
                exact hKq _ _ ⟨Pj.vset V 3 (.int .i64 ll), by simp only [Pj.puts, List.foldl_cons, List.foldl_nil, Act.put, List.setIfInBounds_toArray, List.set_cons_zero, List.set_cons_succ, Pj.vset, Nat.reduceEqDiff, if_true, if_false, e2], HJ.out.flat HP.out hL (HJ.out.kp.trans (Kept.refl _)) (Kept.size (Kept.refl _)) (rfl), HFF.out.same (by decide) hopen hL (Kept.refl _), fun q r => by
                  obtain ⟨g, e, hb⟩ := HXhZ.out (((hL 10).1 q).resolve_left (by decide)) (fun s => r ((hL 11).2 (.inr s)))
                  exact ⟨g, (Pj.vset_other _ _ (by decide)).trans e, hb⟩, fun h => (hL 11).2 (((hL 12).1 h).elim (fun e => absurd e (by decide)) (fun q => .inr (hm12_11 q)))⟩
              | 4, ho =>
                simp only [List.getElem?_toArray, List.getElem?_cons_zero, List.getElem?_cons_succ, Option.some.injEq] at ho
                have HJ := Lib.hid hJ
                clear hJ
                have HFF := Lib.hid hFF
                clear hFF
                have HXhZ := Lib.hid hZ
                clear hZ
                subst ho
                refine Pj.Step.free rfl ?_
                simp only [Pj.puts, List.foldl_cons, List.foldl_nil, Act.put, List.setIfInBounds_toArray, List.set_cons_zero, List.set_cons_succ]
                go_simp
                exact hKq _ _ ⟨Pj.vset V 4 (.pointer (some ⟨p4, 0, none⟩)), by simp only [Pj.puts, List.foldl_cons, List.foldl_nil, Act.put, List.setIfInBounds_toArray, List.set_cons_zero, List.set_cons_succ, Pj.vset, Nat.reduceEqDiff, if_true, if_false], HJ.out.flat HP.out hL (HJ.out.kp.trans (Kept.refl _)) (Kept.size (Kept.refl _)) (rfl), HFF.out.same (by decide) hopen hL (Kept.refl _), fun q r => by
                  obtain ⟨g, e, hb⟩ := HXhZ.out (((hL 10).1 q).resolve_left (by decide)) (fun s => r ((hL 11).2 (.inr s)))
                  exact ⟨g, (Pj.vset_other _ _ (by decide)).trans e, hb⟩, fun h => (hL 11).2 (((hL 12).1 h).elim (fun e => absurd e (by decide)) (fun q => .inr (hm12_11 q)))⟩
              | 5, ho =>
                simp only [List.getElem?_toArray, List.getElem?_cons_zero, List.getElem?_cons_succ, Option.some.injEq] at ho
                have e4 : V 4 = .pointer (some ⟨p4, 0, none⟩) := hJ.h 4 (hdep 4 (by rw [← ho]; kernel_rfl))
                obtain ⟨d0, d1, d2⟩ := HBW.out _ ((HK7.out.trans HK8.out).trans hJ.kp)
                have HJ := Lib.hid hJ
                clear hJ
                have HFF := Lib.hid hFF
                clear hFF
                have HXhZ := Lib.hid hZ
                clear hZ
                subst ho
                refine Pj.Step.free rfl ?_
                simp only [Pj.puts, List.foldl_cons, List.foldl_nil, Act.put, List.setIfInBounds_toArray, List.set_cons_zero, List.set_cons_succ, e4]
                go_simp
                exact hKq _ _ ⟨Pj.vset V 5 (.int .i64 K), by simp only [Pj.puts, List.foldl_cons, List.foldl_nil, Act.put, List.setIfInBounds_toArray, List.set_cons_zero, List.set_cons_succ, Pj.vset, Nat.reduceEqDiff, if_true, if_false, e4], HJ.out.flat HP.out hL (HJ.out.kp.trans (Kept.refl _)) (Kept.size (Kept.refl _)) (rfl), HFF.out.same (by decide) hopen hL (Kept.refl _), fun q r => by
                  obtain ⟨g, e, hb⟩ := HXhZ.out (((hL 10).1 q).resolve_left (by decide)) (fun s => r ((hL 11).2 (.inr s)))
                  exact ⟨g, (Pj.vset_other _ _ (by decide)).trans e, hb⟩, fun h => (hL 11).2 (((hL 12).1 h).elim (fun e => absurd e (by decide)) (fun q => .inr (hm12_11 q)))⟩
              | 6, ho =>
                simp only [List.getElem?_toArray, List.getElem?_cons_zero, List.getElem?_cons_succ, Option.some.injEq] at ho
                have e3 : V 3 = .int .i64 ll := hJ.h 3 (hdep 3 (by rw [← ho]; kernel_rfl))
                have e5 : V 5 = .int .i64 K := hJ.h 5 (hdep 5 (by rw [← ho]; kernel_rfl))
                have hwi := HWI.out w
                have HJ := Lib.hid hJ
                clear hJ
                have HFF := Lib.hid hFF
                clear hFF
                have HXhZ := Lib.hid hZ
                clear hZ
                subst ho
                refine Pj.Step.free rfl ?_
                simp only [Pj.puts, List.foldl_cons, List.foldl_nil, Act.put, List.setIfInBounds_toArray, List.set_cons_zero, List.set_cons_succ, e3, e5]
                go_simp
                refine hwi.mono ?_
                rintro e w' ⟨rfl, rfl⟩
                have hk9 := Kept.refl w
                exact hKq _ _ ⟨Pj.vset V 6 (.int .i64 (z : Nat)), by simp only [Pj.puts, List.foldl_cons, List.foldl_nil, Act.put, List.setIfInBounds_toArray, List.set_cons_zero, List.set_cons_succ, Pj.vset, Nat.reduceEqDiff, if_true, if_false, e3, e5], HJ.out.flat HP.out hL (HJ.out.kp.trans (hk9)) (Kept.size (hk9)) (rfl), HFF.out.same (by decide) hopen hL (hk9), fun q r => by
                  obtain ⟨g, e, hb⟩ := HXhZ.out (((hL 10).1 q).resolve_left (by decide)) (fun s => r ((hL 11).2 (.inr s)))
                  exact ⟨g, (Pj.vset_other _ _ (by decide)).trans e, hb⟩, fun h => (hL 11).2 (((hL 12).1 h).elim (fun e => absurd e (by decide)) (fun q => .inr (hm12_11 q)))⟩
              | 7, ho =>
                simp only [List.getElem?_toArray, List.getElem?_cons_zero, List.getElem?_cons_succ, Option.some.injEq] at ho
                have HJ := Lib.hid hJ
                clear hJ
                have HFF := Lib.hid hFF
                clear hFF
                have HXhZ := Lib.hid hZ
                clear hZ
                subst ho
                refine Pj.Step.free rfl ?_
                simp only [Pj.puts, List.foldl_cons, List.foldl_nil, Act.put, List.setIfInBounds_toArray, List.set_cons_zero, List.set_cons_succ]
                go_simp
                exact hKq _ _ ⟨Pj.vset V 7 (.pointer (some ⟨p4, 2, none⟩)), by simp only [Pj.puts, List.foldl_cons, List.foldl_nil, Act.put, List.setIfInBounds_toArray, List.set_cons_zero, List.set_cons_succ, Pj.vset, Nat.reduceEqDiff, if_true, if_false], HJ.out.flat HP.out hL (HJ.out.kp.trans (Kept.refl _)) (Kept.size (Kept.refl _)) (rfl), HFF.out.same (by decide) hopen hL (Kept.refl _), fun q r => by
                  obtain ⟨g, e, hb⟩ := HXhZ.out (((hL 10).1 q).resolve_left (by decide)) (fun s => r ((hL 11).2 (.inr s)))
                  exact ⟨g, (Pj.vset_other _ _ (by decide)).trans e, hb⟩, fun h => (hL 11).2 (((hL 12).1 h).elim (fun e => absurd e (by decide)) (fun q => .inr (hm12_11 q)))⟩
              | 8, ho =>
                simp only [List.getElem?_toArray, List.getElem?_cons_zero, List.getElem?_cons_succ, Option.some.injEq] at ho
                have e7 : V 7 = .pointer (some ⟨p4, 2, none⟩) := hJ.h 7 (hdep 7 (by rw [← ho]; kernel_rfl))
                obtain ⟨d0, d1, d2⟩ := HBW.out _ ((HK7.out.trans HK8.out).trans hJ.kp)
                have HJ := Lib.hid hJ
                clear hJ
                have HFF := Lib.hid hFF
                clear hFF
                have HXhZ := Lib.hid hZ
                clear hZ
                subst ho
                refine Pj.Step.free rfl ?_
                simp only [Pj.puts, List.foldl_cons, List.foldl_nil, Act.put, List.setIfInBounds_toArray, List.set_cons_zero, List.set_cons_succ, e7]
                go_simp
                exact hKq _ _ ⟨Pj.vset V 8 (.int .i64 R), by simp only [Pj.puts, List.foldl_cons, List.foldl_nil, Act.put, List.setIfInBounds_toArray, List.set_cons_zero, List.set_cons_succ, Pj.vset, Nat.reduceEqDiff, if_true, if_false, e7], HJ.out.flat HP.out hL (HJ.out.kp.trans (Kept.refl _)) (Kept.size (Kept.refl _)) (rfl), HFF.out.same (by decide) hopen hL (Kept.refl _), fun q r => by
                  obtain ⟨g, e, hb⟩ := HXhZ.out (((hL 10).1 q).resolve_left (by decide)) (fun s => r ((hL 11).2 (.inr s)))
                  exact ⟨g, (Pj.vset_other _ _ (by decide)).trans e, hb⟩, fun h => (hL 11).2 (((hL 12).1 h).elim (fun e => absurd e (by decide)) (fun q => .inr (hm12_11 q)))⟩
              | 9, ho =>
                simp only [List.getElem?_toArray, List.getElem?_cons_zero, List.getElem?_cons_succ, Option.some.injEq] at ho
                have e8 : V 8 = .int .i64 R := hJ.h 8 (hdep 8 (by rw [← ho]; kernel_rfl))
                have hwr : IntKind.i64.wrap ((R : Int) - 1) = (R1 : Int) := HWR9.out
                have HJ := Lib.hid hJ
                clear hJ
                have HFF := Lib.hid hFF
                clear hFF
                have HXhZ := Lib.hid hZ
                clear hZ
                subst ho
                refine Pj.Step.free rfl ?_
                simp only [Pj.puts, List.foldl_cons, List.foldl_nil, Act.put, List.setIfInBounds_toArray, List.set_cons_zero, List.set_cons_succ, e8]
                go_simp
                exact hKq _ _ ⟨Pj.vset V 9 (.int .i64 R1), by simp only [Pj.puts, List.foldl_cons, List.foldl_nil, Act.put, List.setIfInBounds_toArray, List.set_cons_zero, List.set_cons_succ, Pj.vset, Nat.reduceEqDiff, if_true, if_false, e8], HJ.out.flat HP.out hL (HJ.out.kp.trans (Kept.refl _)) (Kept.size (Kept.refl _)) (rfl), HFF.out.same (by decide) hopen hL (Kept.refl _), fun q r => by
                  obtain ⟨g, e, hb⟩ := HXhZ.out (((hL 10).1 q).resolve_left (by decide)) (fun s => r ((hL 11).2 (.inr s)))
                  exact ⟨g, (Pj.vset_other _ _ (by decide)).trans e, hb⟩, fun h => (hL 11).2 (((hL 12).1 h).elim (fun e => absurd e (by decide)) (fun q => .inr (hm12_11 q)))⟩
              | 10, ho =>
                simp only [List.getElem?_toArray, List.getElem?_cons_zero, List.getElem?_cons_succ, Option.some.injEq] at ho
                have e9 : V 9 = .int .i64 R1 := hJ.h 9 (hdep 9 (by rw [← ho]; kernel_rfl))
                have hmk := HMK.out w
                have HJ := Lib.hid hJ
                clear hJ
                have HFF := Lib.hid hFF
                clear hFF
                have HXhZ := Lib.hid hZ
                clear hZ
                subst ho
                refine Pj.Step.free rfl ?_
                simp only [Pj.puts, List.foldl_cons, List.foldl_nil, Act.put, List.setIfInBounds_toArray, List.set_cons_zero, List.set_cons_succ, e9]
                go_simp
                exact hKq _ _ ⟨Pj.vset V 10 (.slice (some ⟨w.heap.size, 0, none⟩) R1 R1), by simp only [Pj.puts, List.foldl_cons, List.foldl_nil, Act.put, List.setIfInBounds_toArray, List.set_cons_zero, List.set_cons_succ, Pj.vset, Nat.reduceEqDiff, if_true, if_false, e9], HJ.out.flat HP.out hL (HJ.out.kp.trans ((Kept.refl _).alloc _)) (Kept.size ((Kept.refl _).alloc _)) (⟨_, rfl⟩), HFF.out.same (by decide) hopen hL ((Kept.refl _).alloc _), fun _ _ => ⟨w.heap.size, Pj.vset_same _ _ _, HBF.out w⟩, fun h => (hL 11).2 (((hL 12).1 h).elim (fun e => absurd e (by decide)) (fun q => .inr (hm12_11 q)))⟩
              | 11, ho =>
                simp only [List.getElem?_toArray, List.getElem?_cons_zero, List.getElem?_cons_succ, Option.some.injEq] at ho
                have l10 := hdep 10 (by rw [← ho]; kernel_rfl)
                obtain ⟨g10, e10⟩ := hJ.h 10 l10
                obtain ⟨g, eg, hgb⟩ := hZ l10 hopen
                rw [e10] at eg
                cases eg
                have hcv := HCV.out w g10 hgb
                have HJ := Lib.hid hJ
                clear hJ
                have HFF := Lib.hid hFF
                clear hFF
                have HXhZ := Lib.hid hZ
                clear hZ
                subst ho
                refine Pj.Step.free rfl ?_
                simp only [Pj.puts, List.foldl_cons, List.foldl_nil, Act.put, List.setIfInBounds_toArray, List.set_cons_zero, List.set_cons_succ, e10]
                go_simp
                exact hKq _ _ ⟨Pj.vset V 11 (.string zs), by simp only [Pj.puts, List.foldl_cons, List.foldl_nil, Act.put, List.setIfInBounds_toArray, List.set_cons_zero, List.set_cons_succ, Pj.vset, Nat.reduceEqDiff, if_true, if_false, e10], HJ.out.flat HP.out hL (HJ.out.kp.trans (Kept.refl _)) (Kept.size (Kept.refl _)) (rfl), HFF.out.same (by decide) hopen hL (Kept.refl _), fun _ q => absurd ((hL 11).2 (.inl rfl)) q, fun h => (hL 11).2 (((hL 12).1 h).elim (fun e => absurd e (by decide)) (fun q => .inr (hm12_11 q)))⟩
              | 12, ho =>
                simp only [List.getElem?_toArray, List.getElem?_cons_zero, List.getElem?_cons_succ, Option.some.injEq] at ho
                have e11 : V 11 = .string zs := hJ.h 11 (hdep 11 (by rw [← ho]; kernel_rfl))
                have l11 := hdep 11 (by rw [← ho]; kernel_rfl)
                have had := HAD.out
                have HJ := Lib.hid hJ
                clear hJ
                have HFF := Lib.hid hFF
                clear hFF
                have HXhZ := Lib.hid hZ
                clear hZ
                subst ho
                refine Pj.Step.free rfl ?_
                simp only [Pj.puts, List.foldl_cons, List.foldl_nil, Act.put, List.setIfInBounds_toArray, List.set_cons_zero, List.set_cons_succ, e11]
                go_simp
                exact hKq _ _ ⟨Pj.vset V 12 (.string t), by simp only [Pj.puts, List.foldl_cons, List.foldl_nil, Act.put, List.setIfInBounds_toArray, List.set_cons_zero, List.set_cons_succ, Pj.vset, Nat.reduceEqDiff, if_true, if_false, e11], HJ.out.flat HP.out hL (HJ.out.kp.trans (Kept.refl _)) (Kept.size (Kept.refl _)) (rfl), HFF.out.same (by decide) hopen hL (Kept.refl _), fun q r => by
                  obtain ⟨g, e, hb⟩ := HXhZ.out (((hL 10).1 q).resolve_left (by decide)) (fun s => r ((hL 11).2 (.inr s)))
                  exact ⟨g, (Pj.vset_other _ _ (by decide)).trans e, hb⟩, fun _ => (hL 11).2 (.inr l11)⟩
              | 13, ho =>
                simp only [List.getElem?_toArray, List.getElem?_cons_zero, List.getElem?_cons_succ, Option.some.injEq] at ho
                have e0 : V 0 = .slice (some ⟨g9, 0, none⟩) K c9 := hJ.h 0 (hdep 0 (by rw [← ho]; kernel_rfl))
                have e6 : V 6 = .int .i64 (z : Nat) := hJ.h 6 (hdep 6 (by rw [← ho]; kernel_rfl))
                have HJ := Lib.hid hJ
                clear hJ
                have HFF := Lib.hid hFF
                clear hFF
                have HXhZ := Lib.hid hZ
                clear hZ
                subst ho
                refine Pj.Step.free rfl ?_
                simp only [Pj.puts, List.foldl_cons, List.foldl_nil, Act.put, List.setIfInBounds_toArray, List.set_cons_zero, List.set_cons_succ, e0, e6]
                go_simp
                exact hKq _ _ ⟨Pj.vset V 13 (.pointer (some ⟨g9, z, none⟩)), by simp only [Pj.puts, List.foldl_cons, List.foldl_nil, Act.put, List.setIfInBounds_toArray, List.set_cons_zero, List.set_cons_succ, Pj.vset, Nat.reduceEqDiff, if_true, if_false, e0, e6], HJ.out.flat HP.out hL (HJ.out.kp.trans (Kept.refl _)) (Kept.size (Kept.refl _)) (rfl), HFF.out.same (by decide) hopen hL (Kept.refl _), fun q r => by
                  obtain ⟨g, e, hb⟩ := HXhZ.out (((hL 10).1 q).resolve_left (by decide)) (fun s => r ((hL 11).2 (.inr s)))
                  exact ⟨g, (Pj.vset_other _ _ (by decide)).trans e, hb⟩, fun h => (hL 11).2 (((hL 12).1 h).elim (fun e => absurd e (by decide)) (fun q => .inr (hm12_11 q)))⟩
              | 14, ho =>
                simp only [List.getElem?_toArray, List.getElem?_cons_zero, List.getElem?_cons_succ, Option.some.injEq] at ho
                have e13 : V 13 = .pointer (some ⟨g9, z, none⟩) := hJ.h 13 (hdep 13 (by rw [← ho]; kernel_rfl))
                have e12 : V 12 = .string t := hJ.h 12 (hdep 12 (by rw [← ho]; kernel_rfl))
                have l12 := hdep 12 (by rw [← ho]; kernel_rfl)
                have hbF := hFF.b0 hopen
                have hcF : w.cell? ⟨g9, z, none⟩ = some (.string (D.getD z ByteArray.empty)) := by rw [hbF.cell z]; exact HCUR.out z hz
                have hfF := hbF.free z
                have HJ := Lib.hid hJ
                clear hJ
                have HFF := Lib.hid hFF
                clear hFF
                have HXhZ := Lib.hid hZ
                clear hZ
                subst ho
                refine Pj.Step.free rfl ?_
                simp only [Pj.puts, List.foldl_cons, List.foldl_nil, Act.put, List.setIfInBounds_toArray, List.set_cons_zero, List.set_cons_succ, e13, e12]
                go_simp
                exact hKq _ _ ⟨Pj.vset V 14 (undef), by simp only [Pj.puts, List.foldl_cons, List.foldl_nil, Act.put, List.setIfInBounds_toArray, List.set_cons_zero, List.set_cons_succ, Pj.vset, Nat.reduceEqDiff, if_false, e13, e12], HJ.out.flat HP.out hL (HJ.out.kp.setCell (HGE.out) _) (by simp) (trivial), HFF.out.stored hopen l12 hL e12, fun _ q => absurd ((hL 11).2 (.inr (hm12_11 l12))) q, fun h => (hL 11).2 (((hL 12).1 h).elim (fun e => absurd e (by decide)) (fun q => .inr (hm12_11 q)))⟩
              | n + 15, ho => simp at ho
            case ehe =>
              rintro L az w ⟨V, rfl, hJ, hFF, hZ, hm12_11⟩ hall
              have e12 : V 12 = .string t := hJ.h 12 (hall 12 (by decide))
              have hBF := hFF.b1 (hall 14 (by decide))
              have HKj := Lib.hid hJ.kp
              clear hJ hall hFF hZ hm12_11
              simp only [Pj.puts, List.foldl_cons, List.foldl_nil, Act.put, List.setIfInBounds_toArray, List.set_cons_zero, List.set_cons_succ, e12]
              rw [e12] at hBF
              clear e12
              have HBF9 := Lib.hid hBF
              clear hBF
              have HKN := Lib.hid HKj.out
              obtain ⟨E, hE⟩ : ∃ E, E = D.set z t := ⟨_, rfl⟩
              have hEL : E.length = K := by rw [hE, List.length_set, HDL.out]
              have hEat : ∀ q, q < K → E.getD q ByteArray.empty = if q = z then t else D.getD q ByteArray.empty := fun q hq => by
                rw [hE]
                have hq' : q < D.length := by rw [HDL.out]; exact hq
                by_cases e : q = z
                · subst e
                  simp [List.getD, hq']
                · simp [List.getD, Ne.symm e, e]
              have hES : ∀ q, q < K → (E.getD q ByteArray.empty).size = R := fun q hq => by
                rw [hEat q hq]
                split
                · exact HTS.out
                · exact HDS.out q hq
              have hEA : ∀ x ∈ E, x.size = R := fun x hx => by
                obtain ⟨q, hq, rfl⟩ := List.getElem_of_mem hx
                have := hES q (by omega)
                simpa [List.getD, hq] using this
              have hEI : StrsIn w (some ⟨g9, 0, none⟩) K E := ⟨hEL, by omega, fun x hx => by rw [hEA x hx]; omega, g9, 0, fun _ => rfl, fun q hq => ⟨HBF9.out.lt, by
                rw [Nat.zero_add, HBF9.out.cell q, hEat q hq]
                by_cases e : q = z
                · subst e
                  have hlt : q < cur.size := by
                    have := HCUR.out q hq
                    exact (Array.getElem?_eq_some_iff.1 this).1
                  rw [if_pos rfl]
                  simp [hlt]
                · rw [if_neg e]
                  have := HCUR.out q hq
                  simp [Ne.symm e, this]⟩⟩
              have HE := Lib.hid hEI
              have HEL := Lib.hid hEL
              have HES := Lib.hid hES
              have HEB := Lib.hid (sizedB_all4 hEL hEA)
              obtain ⟨w13, hw13⟩ : ∃ w13, w13 = w := ⟨_, rfl⟩
              subst hw13
              have hc9K : K ≤ c9 := hkc
              obtain ⟨c0, c1, c2⟩ := HBW.out _ ((HK7.out.trans HK8.out).trans HKN.out)
              clear hE hEL hEat hES hEA hEI
              go_wp2_with fail
              refine (encode_any K M H R HH.out hK1 ⟨hR4.1, by omega⟩ (some ⟨g9, 0, none⟩) c9 E _ HE.out hc9K HEB.out).mono ?_
              rintro e w14 ⟨a10, rfl, -, ht10, ha10, hk14⟩
              have HY := Lib.hid (txt_strs4 (q := R) ht10 ha10 (HES.out 0 (by omega)) (by omega) (by omega))
              have HK14 := Lib.hid hk14
              clear ht10 ha10 hk14 c0 c1 c2
              go_wp2_with fail
              refine (num4_any _ _).mono ?_
              rintro e w' ⟨rfl, rfl⟩
              go_wp2_with fail
              refine (num4_any _ _).mono ?_
              rintro e w' ⟨rfl, rfl⟩
              obtain ⟨X, hX⟩ : ∃ X, X = appS (genF K) D H K := ⟨_, rfl⟩
              obtain ⟨Y, hY⟩ : ∃ Y, Y = appS (genF K) E H K := ⟨_, rfl⟩
              rw [← hX] at HX
              rw [← hY] at HY
              have HXE := Lib.hid hX
              have HXT := Lib.hid (show ∀ T, sizedT X H R T = true from fun T => sizedT_all (by rw [hX]; simp [appS]) (fun q hq => by rw [hX, appS_getD _ _ _ _ _ hq, appTo_size, HDS.out 0 (by omega)]) T)
              have HPB := Lib.hid (show ∀ T, (lst T K H).length = K → appS (allB T K H) (lstS T K H X) H K = X from fun T hl => by rw [hX]; exact pieces_back ⟨by omega, by omega⟩ (by omega) hl HDS.out HDL.out)
              have HM9 := Lib.hid (show ¬ D = E → M < cntT (unl X Y) H from fun hne => by
                rw [hX, hY]
                exact unlike_more ⟨by omega, by omega⟩ HH.out (by omega) HDS.out HDL.out HES.out HEL.out hne)
              have HD14 := Lib.hid (show ∀ w, Kept w14 w → StrsIn w (some ⟨b6, o6, none⟩) K D from fun w kk => HD.out.kept (((HK8.out.trans HKN.out).trans HK14.out).trans kk))
              have HE14 := Lib.hid (show ∀ w, Kept w14 w → StrsIn w (some ⟨g9, 0, none⟩) K E from fun w kk => HE.out.kept (HK14.out.trans kk))
              have HX14 := Lib.hid (show ∀ w, Kept w14 w → StrsIn w a7 H X from fun w kk => HX.out.kept ((HKN.out.trans HK14.out).trans kk))
              have HY14 := Lib.hid (show ∀ w, Kept w14 w → StrsIn w a10 H Y from fun w kk => HY.out.kept kk)
              have HB14 := Lib.hid (show ∀ w, Kept w14 w → w.cell? ⟨p4, 0, none⟩ = some (.int .i64 K) ∧ w.cell? ⟨p4, 1, none⟩ = some (.int .i64 M) ∧ w.cell? ⟨p4, 2, none⟩ = some (.int .i64 R) from fun w kk => HBW.out _ ((((HK7.out.trans HK8.out).trans HKN.out).trans HK14.out).trans kk))
              have HKX := Lib.hid ((((HK6.out.trans HK7.out).trans HK8.out).trans HKN.out).trans HK14.out)
              clear hX hY
              go_wp2_with fail
              by_cases hDE : D = E
              · have HEQ := Lib.hid (show ∀ w, Kept w14 w → Calls Try.prog 22 #[.slice (some ⟨b6, o6, none⟩) K c6, .slice (some ⟨g9, 0, none⟩) K c9] w fun e w' => e = .returned (.bool true) ∧ Kept w w' from fun w kk => by
                  have := eq_strings2 (some ⟨b6, o6, none⟩) (some ⟨g9, 0, none⟩) K K c6 c9 D E w (HD14.out _ kk) (HE14.out _ kk)
                  rwa [decide_eq_true hDE] at this)
                clear hDE
                go_wp2_with fail
                refine Pj.wp_region_step (fun az0 L az w => ∃ V : Nat → Value, az = Pj.puts [(103, 0), (104, 1), (105, 2), (106, 3), (107, 4), (108, 5), (109, 6), (110, 7), (111, 8), (112, 9), (113, 10), (114, 11), (115, 12)] V az0 ∧ Pj.J w14 [Pj.Is (.slice (some ⟨b6, o6, none⟩) K c6), Pj.Is (.slice (some ⟨g9, 0, none⟩) K c9), Pj.Is (.bool true), Pj.Is (.bool false), Pj.Is (.bool false), Pj.Is (undef), Pj.Is (undef), Pj.Is (undef), Pj.Is (undef), Pj.Is (undef), Pj.Is (undef), Pj.Is (undef), Pj.Is (.bool false)] L V w) (by as_aux_lemma => kernel_rfl) (by as_aux_lemma => kernel_rfl) ?eh0 ?ehs ?ehe
                case eh0 =>
                  intro L hL
                  exact ⟨_, Pj.puts_self _ (fun j => ([103, 104, 105, 106, 107, 108, 109, 110, 111, 112, 113, 114, 115] : List Nat).getD j 0) [0, 1, 2, 3, 4, 5, 6, 7, 8, 9, 10, 11, 12], Pj.J.none (n := 13) (Nat.le_refl _) hL ((Kept.refl _).drew)⟩
                case ehs =>
                  rintro L L' az w iz opz Kq ⟨V, rfl, hJ⟩ ho hopen hdep hL hKq
                  have hP : Pj.AllStay [Pj.Is (.slice (some ⟨b6, o6, none⟩) K c6), Pj.Is (.slice (some ⟨g9, 0, none⟩) K c9), Pj.Is (.bool true), Pj.Is (.bool false), Pj.Is (.bool false), Pj.Is (undef), Pj.Is (undef), Pj.Is (undef), Pj.Is (undef), Pj.Is (undef), Pj.Is (undef), Pj.Is (undef), Pj.Is (.bool false)] := ⟨Pj.Is.stays _, Pj.Is.stays _, Pj.Is.stays _, Pj.Is.stays _, Pj.Is.stays _, Pj.Is.stays _, Pj.Is.stays _, Pj.Is.stays _, Pj.Is.stays _, Pj.Is.stays _, Pj.Is.stays _, Pj.Is.stays _, Pj.Is.stays _, trivial⟩
                  have HP := Lib.hid hP
                  clear hP
                  match iz, ho with
                  | 0, ho =>
                    simp only [List.getElem?_toArray, List.getElem?_cons_zero, Option.some.injEq] at ho
                    have HJ := Lib.hid hJ
                    clear hJ
                    subst ho
                    refine Pj.Step.free rfl ?_
                    simp only [Pj.puts, List.foldl_cons, List.foldl_nil, Act.put, List.setIfInBounds_toArray, List.set_cons_zero, List.set_cons_succ]
                    go_simp
                    exact hKq _ _ ⟨Pj.vset V 0 (.slice (some ⟨b6, o6, none⟩) K c6), by simp only [Pj.puts, List.foldl_cons, List.foldl_nil, Act.put, List.setIfInBounds_toArray, List.set_cons_zero, List.set_cons_succ, Pj.vset, Nat.reduceEqDiff, if_true, if_false], HJ.out.more HP.out hL (Kept.refl _) (rfl)⟩
                  | 1, ho =>
                    simp only [List.getElem?_toArray, List.getElem?_cons_zero, List.getElem?_cons_succ, Option.some.injEq] at ho
                    have HJ := Lib.hid hJ
                    clear hJ
                    subst ho
                    refine Pj.Step.free rfl ?_
                    simp only [Pj.puts, List.foldl_cons, List.foldl_nil, Act.put, List.setIfInBounds_toArray, List.set_cons_zero, List.set_cons_succ]
                    go_simp
                    exact hKq _ _ ⟨Pj.vset V 1 (.slice (some ⟨g9, 0, none⟩) K c9), by simp only [Pj.puts, List.foldl_cons, List.foldl_nil, Act.put, List.setIfInBounds_toArray, List.set_cons_zero, List.set_cons_succ, Pj.vset, Nat.reduceEqDiff, if_true, if_false], HJ.out.more HP.out hL (Kept.refl _) (rfl)⟩
                  | 2, ho =>
                    simp only [List.getElem?_toArray, List.getElem?_cons_zero, List.getElem?_cons_succ, Option.some.injEq] at ho
                    have e0 : V 0 = .slice (some ⟨b6, o6, none⟩) K c6 := hJ.h 0 (hdep 0 (by rw [← ho]; kernel_rfl))
                    have e1 : V 1 = .slice (some ⟨g9, 0, none⟩) K c9 := hJ.h 1 (hdep 1 (by rw [← ho]; kernel_rfl))
                    have heq := HEQ.out _ hJ.kp
                    have HJ := Lib.hid hJ
                    clear hJ
                    subst ho
                    refine Pj.Step.free rfl ?_
                    simp only [Pj.puts, List.foldl_cons, List.foldl_nil, Act.put, List.setIfInBounds_toArray, List.set_cons_zero, List.set_cons_succ, e0, e1]
                    go_simp
                    refine heq.mono ?_
                    rintro e w' ⟨rfl, hk9⟩
                    exact hKq _ _ ⟨Pj.vset V 2 (.bool true), by simp only [Pj.puts, List.foldl_cons, List.foldl_nil, Act.put, List.setIfInBounds_toArray, List.set_cons_zero, List.set_cons_succ, Pj.vset, Nat.reduceEqDiff, if_true, if_false, e0, e1], HJ.out.more HP.out hL (hk9) (rfl)⟩
                  | 3, ho =>
                    simp only [List.getElem?_toArray, List.getElem?_cons_zero, List.getElem?_cons_succ, Option.some.injEq] at ho
                    have e2 : V 2 = .bool true := hJ.h 2 (hdep 2 (by rw [← ho]; kernel_rfl))
                    have HJ := Lib.hid hJ
                    clear hJ
                    subst ho
                    refine Pj.Step.free rfl ?_
                    simp only [Pj.puts, List.foldl_cons, List.foldl_nil, Act.put, List.setIfInBounds_toArray, List.set_cons_zero, List.set_cons_succ, e2]
                    go_simp
                    exact hKq _ _ ⟨Pj.vset V 3 (.bool false), by simp only [Pj.puts, List.foldl_cons, List.foldl_nil, Act.put, List.setIfInBounds_toArray, List.set_cons_zero, List.set_cons_succ, Pj.vset, Nat.reduceEqDiff, if_true, if_false, e2], HJ.out.more HP.out hL (Kept.refl _) (rfl)⟩
                  | 4, ho =>
                    simp only [List.getElem?_toArray, List.getElem?_cons_zero, List.getElem?_cons_succ, Option.some.injEq] at ho
                    have e3 : V 3 = .bool false := hJ.h 3 (hdep 3 (by rw [← ho]; kernel_rfl))
                    have HJ := Lib.hid hJ
                    clear hJ
                    subst ho
                    refine Pj.Step.free rfl ?_
                    simp only [Pj.puts, List.foldl_cons, List.foldl_nil, Act.put, List.setIfInBounds_toArray, List.set_cons_zero, List.set_cons_succ, e3]
                    go_simp
                    exact hKq _ _ ⟨Pj.vset V 4 (.bool false), by simp only [Pj.puts, List.foldl_cons, List.foldl_nil, Act.put, List.setIfInBounds_toArray, List.set_cons_zero, List.set_cons_succ, Pj.vset, Nat.reduceEqDiff, if_true, if_false, e3], HJ.out.more HP.out hL (Kept.refl _) (rfl)⟩
                  | 5, ho =>
                    simp only [List.getElem?_toArray, List.getElem?_cons_zero, List.getElem?_cons_succ, Option.some.injEq] at ho
                    have e4 : V 4 = .bool false := hJ.h 4 (hdep 4 (by rw [← ho]; kernel_rfl))
                    have HJ := Lib.hid hJ
                    clear hJ
                    subst ho
                    refine Pj.Step.not (g := 4) (b := true) rfl ?hy ?_
                    case hy =>
                      simp only [Pj.puts, List.foldl_cons, List.foldl_nil, Act.put, List.setIfInBounds_toArray, List.set_cons_zero, List.set_cons_succ, e4]
                      rfl
                    simp only [Pj.puts, List.foldl_cons, List.foldl_nil, Act.put, List.setIfInBounds_toArray, List.set_cons_zero, List.set_cons_succ, e4]
                    exact hKq _ _ ⟨Pj.vset V 5 (undef), by simp only [Pj.puts, List.foldl_cons, List.foldl_nil, Act.put, List.setIfInBounds_toArray, List.set_cons_zero, List.set_cons_succ, Pj.vset, Nat.reduceEqDiff, if_true, if_false, e4], HJ.out.more HP.out hL (Kept.refl _) (rfl)⟩
                  | 6, ho =>
                    simp only [List.getElem?_toArray, List.getElem?_cons_zero, List.getElem?_cons_succ, Option.some.injEq] at ho
                    have e4 : V 4 = .bool false := hJ.h 4 (hdep 4 (by rw [← ho]; kernel_rfl))
                    have HJ := Lib.hid hJ
                    clear hJ
                    subst ho
                    refine Pj.Step.not (g := 4) (b := true) rfl ?hy ?_
                    case hy =>
                      simp only [Pj.puts, List.foldl_cons, List.foldl_nil, Act.put, List.setIfInBounds_toArray, List.set_cons_zero, List.set_cons_succ, e4]
                      rfl
                    simp only [Pj.puts, List.foldl_cons, List.foldl_nil, Act.put, List.setIfInBounds_toArray, List.set_cons_zero, List.set_cons_succ, e4]
                    exact hKq _ _ ⟨Pj.vset V 6 (undef), by simp only [Pj.puts, List.foldl_cons, List.foldl_nil, Act.put, List.setIfInBounds_toArray, List.set_cons_zero, List.set_cons_succ, Pj.vset, Nat.reduceEqDiff, if_true, if_false, e4], HJ.out.more HP.out hL (Kept.refl _) (rfl)⟩
                  | 7, ho =>
                    simp only [List.getElem?_toArray, List.getElem?_cons_zero, List.getElem?_cons_succ, Option.some.injEq] at ho
                    have e5 : V 5 = undef := hJ.h 5 (hdep 5 (by rw [← ho]; kernel_rfl))
                    have e6 : V 6 = undef := hJ.h 6 (hdep 6 (by rw [← ho]; kernel_rfl))
                    have e4 : V 4 = .bool false := hJ.h 4 (hdep 4 (by rw [← ho]; kernel_rfl))
                    have HJ := Lib.hid hJ
                    clear hJ
                    subst ho
                    refine Pj.Step.not (g := 4) (b := true) rfl ?hy ?_
                    case hy =>
                      simp only [Pj.puts, List.foldl_cons, List.foldl_nil, Act.put, List.setIfInBounds_toArray, List.set_cons_zero, List.set_cons_succ, e5, e6, e4]
                      rfl
                    simp only [Pj.puts, List.foldl_cons, List.foldl_nil, Act.put, List.setIfInBounds_toArray, List.set_cons_zero, List.set_cons_succ, e5, e6, e4]
                    exact hKq _ _ ⟨Pj.vset V 7 (undef), by simp only [Pj.puts, List.foldl_cons, List.foldl_nil, Act.put, List.setIfInBounds_toArray, List.set_cons_zero, List.set_cons_succ, Pj.vset, Nat.reduceEqDiff, if_true, if_false, e5, e6, e4], HJ.out.more HP.out hL (Kept.refl _) (rfl)⟩
                  | 8, ho =>
                    simp only [List.getElem?_toArray, List.getElem?_cons_zero, List.getElem?_cons_succ, Option.some.injEq] at ho
                    have e7 : V 7 = undef := hJ.h 7 (hdep 7 (by rw [← ho]; kernel_rfl))
                    have e4 : V 4 = .bool false := hJ.h 4 (hdep 4 (by rw [← ho]; kernel_rfl))
                    have HJ := Lib.hid hJ
                    clear hJ
                    subst ho
                    refine Pj.Step.not (g := 4) (b := true) rfl ?hy ?_
                    case hy =>
                      simp only [Pj.puts, List.foldl_cons, List.foldl_nil, Act.put, List.setIfInBounds_toArray, List.set_cons_zero, List.set_cons_succ, e7, e4]
                      rfl
                    simp only [Pj.puts, List.foldl_cons, List.foldl_nil, Act.put, List.setIfInBounds_toArray, List.set_cons_zero, List.set_cons_succ, e7, e4]
                    exact hKq _ _ ⟨Pj.vset V 8 (undef), by simp only [Pj.puts, List.foldl_cons, List.foldl_nil, Act.put, List.setIfInBounds_toArray, List.set_cons_zero, List.set_cons_succ, Pj.vset, Nat.reduceEqDiff, if_true, if_false, e7, e4], HJ.out.more HP.out hL (Kept.refl _) (rfl)⟩
                  | 9, ho =>
                    simp only [List.getElem?_toArray, List.getElem?_cons_zero, List.getElem?_cons_succ, Option.some.injEq] at ho
                    have e4 : V 4 = .bool false := hJ.h 4 (hdep 4 (by rw [← ho]; kernel_rfl))
                    have HJ := Lib.hid hJ
                    clear hJ
                    subst ho
                    refine Pj.Step.not (g := 4) (b := true) rfl ?hy ?_
                    case hy =>
                      simp only [Pj.puts, List.foldl_cons, List.foldl_nil, Act.put, List.setIfInBounds_toArray, List.set_cons_zero, List.set_cons_succ, e4]
                      rfl
                    simp only [Pj.puts, List.foldl_cons, List.foldl_nil, Act.put, List.setIfInBounds_toArray, List.set_cons_zero, List.set_cons_succ, e4]
                    exact hKq _ _ ⟨Pj.vset V 9 (undef), by simp only [Pj.puts, List.foldl_cons, List.foldl_nil, Act.put, List.setIfInBounds_toArray, List.set_cons_zero, List.set_cons_succ, Pj.vset, Nat.reduceEqDiff, if_true, if_false, e4], HJ.out.more HP.out hL (Kept.refl _) (rfl)⟩
                  | 10, ho =>
                    simp only [List.getElem?_toArray, List.getElem?_cons_zero, List.getElem?_cons_succ, Option.some.injEq] at ho
                    have e9 : V 9 = undef := hJ.h 9 (hdep 9 (by rw [← ho]; kernel_rfl))
                    have e4 : V 4 = .bool false := hJ.h 4 (hdep 4 (by rw [← ho]; kernel_rfl))
                    have HJ := Lib.hid hJ
                    clear hJ
                    subst ho
                    refine Pj.Step.not (g := 4) (b := true) rfl ?hy ?_
                    case hy =>
                      simp only [Pj.puts, List.foldl_cons, List.foldl_nil, Act.put, List.setIfInBounds_toArray, List.set_cons_zero, List.set_cons_succ, e9, e4]
                      rfl
                    simp only [Pj.puts, List.foldl_cons, List.foldl_nil, Act.put, List.setIfInBounds_toArray, List.set_cons_zero, List.set_cons_succ, e9, e4]
                    exact hKq _ _ ⟨Pj.vset V 10 (undef), by simp only [Pj.puts, List.foldl_cons, List.foldl_nil, Act.put, List.setIfInBounds_toArray, List.set_cons_zero, List.set_cons_succ, Pj.vset, Nat.reduceEqDiff, if_true, if_false, e9, e4], HJ.out.more HP.out hL (Kept.refl _) (rfl)⟩
                  | 11, ho =>
                    simp only [List.getElem?_toArray, List.getElem?_cons_zero, List.getElem?_cons_succ, Option.some.injEq] at ho
                    have e8 : V 8 = undef := hJ.h 8 (hdep 8 (by rw [← ho]; kernel_rfl))
                    have e10 : V 10 = undef := hJ.h 10 (hdep 10 (by rw [← ho]; kernel_rfl))
                    have e4 : V 4 = .bool false := hJ.h 4 (hdep 4 (by rw [← ho]; kernel_rfl))
                    have HJ := Lib.hid hJ
                    clear hJ
                    subst ho
                    refine Pj.Step.not (g := 4) (b := true) rfl ?hy ?_
                    case hy =>
                      simp only [Pj.puts, List.foldl_cons, List.foldl_nil, Act.put, List.setIfInBounds_toArray, List.set_cons_zero, List.set_cons_succ, e8, e10, e4]
                      rfl
                    simp only [Pj.puts, List.foldl_cons, List.foldl_nil, Act.put, List.setIfInBounds_toArray, List.set_cons_zero, List.set_cons_succ, e8, e10, e4]
                    exact hKq _ _ ⟨Pj.vset V 11 (undef), by simp only [Pj.puts, List.foldl_cons, List.foldl_nil, Act.put, List.setIfInBounds_toArray, List.set_cons_zero, List.set_cons_succ, Pj.vset, Nat.reduceEqDiff, if_true, if_false, e8, e10, e4], HJ.out.more HP.out hL (Kept.refl _) (rfl)⟩
                  | 12, ho =>
                    simp only [List.getElem?_toArray, List.getElem?_cons_zero, List.getElem?_cons_succ, Option.some.injEq] at ho
                    have e4 : V 4 = .bool false := hJ.h 4 (hdep 4 (by rw [← ho]; kernel_rfl))
                    have e11 : V 11 = undef := hJ.h 11 (hdep 11 (by rw [← ho]; kernel_rfl))
                    have HJ := Lib.hid hJ
                    clear hJ
                    subst ho
                    refine Pj.Step.free rfl ?_
                    simp only [Pj.puts, List.foldl_cons, List.foldl_nil, Act.put, List.setIfInBounds_toArray, List.set_cons_zero, List.set_cons_succ, e4, e11]
                    go_simp
                    exact hKq _ _ ⟨Pj.vset V 12 (.bool false), by simp only [Pj.puts, List.foldl_cons, List.foldl_nil, Act.put, List.setIfInBounds_toArray, List.set_cons_zero, List.set_cons_succ, Pj.vset, Nat.reduceEqDiff, if_true, if_false, e4, e11], HJ.out.more HP.out hL (Kept.refl _) (rfl)⟩
                  | n + 13, ho => simp at ho
                case ehe =>
                  rintro L az w ⟨V, rfl, hJ⟩ hall
                  have e0 : V 0 = .slice (some ⟨b6, o6, none⟩) K c6 := hJ.h 0 (hall 0 (by decide))
                  have e1 : V 1 = .slice (some ⟨g9, 0, none⟩) K c9 := hJ.h 1 (hall 1 (by decide))
                  have e2 : V 2 = .bool true := hJ.h 2 (hall 2 (by decide))
                  have e3 : V 3 = .bool false := hJ.h 3 (hall 3 (by decide))
                  have e4 : V 4 = .bool false := hJ.h 4 (hall 4 (by decide))
                  have e5 : V 5 = undef := hJ.h 5 (hall 5 (by decide))
                  have e6 : V 6 = undef := hJ.h 6 (hall 6 (by decide))
                  have e7 : V 7 = undef := hJ.h 7 (hall 7 (by decide))
                  have e8 : V 8 = undef := hJ.h 8 (hall 8 (by decide))
                  have e9 : V 9 = undef := hJ.h 9 (hall 9 (by decide))
                  have e10 : V 10 = undef := hJ.h 10 (hall 10 (by decide))
                  have e11 : V 11 = undef := hJ.h 11 (hall 11 (by decide))
                  have e12 : V 12 = .bool false := hJ.h 12 (hall 12 (by decide))
                  have HKj := Lib.hid hJ.kp
                  clear hJ hall
                  simp only [Pj.puts, List.foldl_cons, List.foldl_nil, Act.put, List.setIfInBounds_toArray, List.set_cons_zero, List.set_cons_succ, e0, e1, e2, e3, e4, e5, e6, e7, e8, e9, e10, e11, e12]
                  clear e0 e1 e2 e3 e4 e5 e6 e7 e8 e9 e10 e11 e12
                  have HK17 := Lib.hid HKj.out
                  obtain ⟨w17, hw17⟩ : ∃ w17, w17 = w := ⟨_, rfl⟩
                  subst hw17
                  go_wp2_with fail
                  go_loopw [12] (fun cv wx => ∃ c : Nat, c ≤ 4096 ∧ cv = .int .i64 c ∧ Kept w17 wx) (fun cv _ => 4096 - (intOf cv).toNat)
                  case atStart => exact ⟨0, by omega, rfl, Kept.refl _⟩
                  case round =>
                    rename World => wx
                    obtain ⟨c, hc, rfl, hkx⟩ := hrel
                    have HKC := Lib.hid hkx
                    clear hkx
                    by_cases hcs : (c : Int) < wrap64 (2 ^ H)
                    · by_cases hc4 : c < 4096
                      · have hd4 : decide ((c : Int) < 4096) = true := decide_eq_true (by omega)
                        have hmk := mkBools4 H (by omega) wx
                        go_upto_region 23 with (fail)
                        have HC0 := Lib.hid (made_bools4 wx H (fun _ => false))
                        have HK5 := Lib.hid ((Kept.refl wx).alloc (.cells (madeCells #[.bool false] H) 4))
                        generalize wx.alloc (.cells (madeCells #[.bool false] H) 4) = w5 at *
                        obtain ⟨pt, hpt⟩ : ∃ p, p = wx.heap.size := ⟨_, rfl⟩
                        rw [← hpt] at HC0 ⊢
                        have HPT := Lib.hid hpt
                        clear hpt hmk hcs
                        go_wp2_with fail
                        go_loopw [14, 15] (fun mv iv wy => ∃ i m : Nat, ∃ T : Nat → Bool, Hid (m = cntT T i) ∧ m ≤ i ∧ i ≤ H ∧ mv = .int .i64 m ∧ iv = .int .i64 i ∧ Bd wy pt H i T ∧ Kept wx wy) (fun _ iv _ => H - (intOf iv).toNat)
                        case atStart => exact ⟨0, 0, fun _ => false, Lib.hid rfl, by omega, by omega, rfl, rfl, HC0.out, HK5.out⟩
                        case round =>
                          rename World => wy
                          obtain ⟨i, m, T, HMC, hmi, hi, rfl, rfl, hbc, hky⟩ := hrel
                          have HBC := Lib.hid hbc
                          have HKY := Lib.hid hky
                          clear hbc hky
                          by_cases hiH : i < H
                          · have hcell := HBC.out.cell i hiH
                            have hfree := HBC.out.free i
                            go_upto_region 28 with (fail)
                            obtain ⟨y, hy⟩ : ∃ y, y = (bits BinOp.and IntKind.i64 ((c : Int) / 2 ^ i) 1 == 1) := ⟨_, rfl⟩
                            rw [← hy]
                            clear hy
                            have hbs := (HBC.out.congr (T' := putT T i y) (putT_lt T i y)).set hiH
                            rw [putT_at] at hbs
                            have HBS := Lib.hid hbs
                            have HKS := Lib.hid (HKY.out.setCell (p := ⟨pt, i, none⟩) (by have := HPT.out; show wx.heap.size ≤ pt; omega) (.bool y))
                            have hcy := hbs.cell i hiH
                            rw [if_pos (Nat.lt_succ_self i), putT_at] at hcy
                            have HCP := Lib.hid (cnt_put T i y)
                            clear hbs hcell hfree
                            generalize wy.setCell ⟨pt, i, none⟩ (.bool y) = wz at *
                            cases y with
                            | true =>
                              have HC9 := Lib.hid (show m + 1 = cntT (putT T i true) (i + 1) by rw [HCP.out, ← HMC.out]; rfl)
                              go_wp2_with fail
                              go_roundw
                              case rel => exact ⟨i + 1, m + 1, putT T i true, HC9, by omega, by omega, by go_num, by go_num, HBS.out, HKS.out⟩
                              case measure => simp [intOf]; omega
                            | false =>
                              have HC9 := Lib.hid (show m = cntT (putT T i false) (i + 1) by rw [HCP.out, ← HMC.out]; simp)
                              go_wp2_with fail
                              go_roundw
                              case rel => exact ⟨i + 1, m, putT T i false, HC9, by omega, by omega, rfl, by go_num, HBS.out, HKS.out⟩
                              case measure => simp [intOf]; omega
                          · obtain rfl : H = i := by omega
                            have HCY := Lib.hid ((HK17.out.trans HKC.out).trans HKY.out)
                            obtain ⟨c0, c1, c2⟩ := HB14.out _ HCY.out
                            by_cases hmK : m = K
                            · obtain rfl : K = m := hmK.symm
                              have hlst : (lst T K H).length = K := by rw [lst_count, ← HMC.out]; omega
                              have hsz := HXT.out T
                              have HPL := Lib.hid (HPB.out T hlst)
                              have HL0 := Lib.hid (lstS_size4 hsz hlst 0 (by omega))
                              have HLN := Lib.hid (show ¬ (lst T K H).length < K by omega)
                              have HBL := Lib.hid HBC.out.bools
                              have HSZT := Lib.hid hsz
                              clear hsz hlst
                              go_wp2_with fail
                              refine (rebuild_any K M H R HH.out hK1 ⟨hR4.1, by omega⟩ a7 (some ⟨pt, 0, none⟩) H H H X T _ (HX14.out _ HCY.out) HBL.out HSZT.out).mono ?_
                              rintro e w31 ⟨-, hgo, hk31⟩
                              obtain ⟨a31, rfl, ht31, ha31⟩ := hgo HLN.out
                              have HS31 := Lib.hid (HPL.out ▸ txt_strs4 (q := R) ht31 ha31 HL0.out (by omega) (by omega))
                              have HK31 := Lib.hid (HCY.out.trans hk31)
                              have HK32 := Lib.hid ((HKC.out.trans HKY.out).trans hk31)
                              clear hgo ht31 ha31 hk31 c0 c1 c2
                              go_wp2_with fail
                              refine (num4_any _ _).mono ?_
                              rintro e w' ⟨rfl, rfl⟩
                              go_wp2_with fail
                              refine (eq_strings a31 a7 H H H X _ HS31.out (HX14.out _ HK31.out)).mono ?_
                              rintro e w32 ⟨rfl, hk32⟩
                              have HK33 := Lib.hid (HK32.out.trans hk32)
                              clear hk32
                              go_wp2_with fail
                              go_roundw
                              case rel => exact ⟨c + 1, by omega, by go_num, HK33.out⟩
                              case measure => simp [intOf]; omega
                            · have hdm : ((m : Int) != (K : Int)) = true := by rw [bne_iff_ne]; omega
                              have HK33 := Lib.hid (HKC.out.trans HKY.out)
                              go_wp2_with fail
                              go_roundw
                              case rel => exact ⟨c + 1, by omega, by go_num, HK33.out⟩
                              case measure => simp [intOf]; omega
                      · have hd4 : decide ((c : Int) < 4096) = false := decide_eq_false (by omega)
                        have HKL := Lib.hid (((HKX.out.trans HK17.out)).trans HKC.out)
                        go_wp2_with fail
                        go_roundw
                        case rel => exact ⟨j + 1, by omega, by go_num, HKL.out⟩
                        case measure => simp [intOf]; omega
                    · have HKL := Lib.hid (((HKX.out.trans HK17.out)).trans HKC.out)
                      go_wp2_with fail
                      go_roundw
                      case rel => exact ⟨j + 1, by omega, by go_num, HKL.out⟩
                      case measure => simp [intOf]; omega
              · have HEQ := Lib.hid (show ∀ w, Kept w14 w → Calls Try.prog 22 #[.slice (some ⟨b6, o6, none⟩) K c6, .slice (some ⟨g9, 0, none⟩) K c9] w fun e w' => e = .returned (.bool false) ∧ Kept w w' from fun w kk => by
                  have := eq_strings2 (some ⟨b6, o6, none⟩) (some ⟨g9, 0, none⟩) K K c6 c9 D E w (HD14.out _ kk) (HE14.out _ kk)
                  rwa [decide_eq_false hDE] at this)
                have hMn := HM9.out hDE
                have HUN := Lib.hid (show ∀ w, Kept w14 w → Calls Try.prog 30 #[.slice a7 H H, .slice a10 H H] w fun e w' => ∃ x c, e = .returned (.slice x (cntT (unl X Y) H) c) ∧ Kept w w' from fun w kk => unlike_any a7 a10 H H H X Y w (by omega) (HX14.out _ kk) (HY14.out _ kk))
                generalize cntT (unl X Y) H = nU at *
                have hdU : decide ((nU : Int) ≤ (M : Int)) = false := decide_eq_false (by omega)
                clear hDE
                go_wp2_with fail
                refine Pj.wp_region_step (fun az0 L az w => ∃ V : Nat → Value, az = Pj.puts [(103, 0), (104, 1), (105, 2), (106, 3), (107, 4), (108, 5), (109, 6), (110, 7), (111, 8), (112, 9), (113, 10), (114, 11), (115, 12)] V az0 ∧ Pj.J w14 [Pj.Is (.slice (some ⟨b6, o6, none⟩) K c6), Pj.Is (.slice (some ⟨g9, 0, none⟩) K c9), Pj.Is (.bool false), Pj.Is (.bool true), Pj.Is (.bool true), Pj.Is (.slice a7 H H), Pj.Is (.slice a10 H H), (fun _ v => ∃ x c, v = .slice x nU c), Pj.Is (.int .i64 nU), Pj.Is (.pointer (some ⟨p4, 1, none⟩)), Pj.Is (.int .i64 M), Pj.Is (.bool false), Pj.Is (.bool false)] L V w) (by as_aux_lemma => kernel_rfl) (by as_aux_lemma => kernel_rfl) ?eh0 ?ehs ?ehe
                case eh0 =>
                  intro L hL
                  exact ⟨_, Pj.puts_self _ (fun j => ([103, 104, 105, 106, 107, 108, 109, 110, 111, 112, 113, 114, 115] : List Nat).getD j 0) [0, 1, 2, 3, 4, 5, 6, 7, 8, 9, 10, 11, 12], Pj.J.none (n := 13) (Nat.le_refl _) hL ((Kept.refl _).drew)⟩
                case ehs =>
                  rintro L L' az w iz opz Kq ⟨V, rfl, hJ⟩ ho hopen hdep hL hKq
                  have hP : Pj.AllStay [Pj.Is (.slice (some ⟨b6, o6, none⟩) K c6), Pj.Is (.slice (some ⟨g9, 0, none⟩) K c9), Pj.Is (.bool false), Pj.Is (.bool true), Pj.Is (.bool true), Pj.Is (.slice a7 H H), Pj.Is (.slice a10 H H), (fun _ v => ∃ x c, v = .slice x nU c), Pj.Is (.int .i64 nU), Pj.Is (.pointer (some ⟨p4, 1, none⟩)), Pj.Is (.int .i64 M), Pj.Is (.bool false), Pj.Is (.bool false)] := ⟨Pj.Is.stays _, Pj.Is.stays _, Pj.Is.stays _, Pj.Is.stays _, Pj.Is.stays _, Pj.Is.stays _, Pj.Is.stays _, fun _ _ _ h _ => h, Pj.Is.stays _, Pj.Is.stays _, Pj.Is.stays _, Pj.Is.stays _, Pj.Is.stays _, trivial⟩
                  have HP := Lib.hid hP
                  clear hP
                  match iz, ho with
                  | 0, ho =>
                    simp only [List.getElem?_toArray, List.getElem?_cons_zero, Option.some.injEq] at ho
                    have HJ := Lib.hid hJ
                    clear hJ
                    subst ho
                    refine Pj.Step.free rfl ?_
                    simp only [Pj.puts, List.foldl_cons, List.foldl_nil, Act.put, List.setIfInBounds_toArray, List.set_cons_zero, List.set_cons_succ]
                    go_simp
                    exact hKq _ _ ⟨Pj.vset V 0 (.slice (some ⟨b6, o6, none⟩) K c6), by simp only [Pj.puts, List.foldl_cons, List.foldl_nil, Act.put, List.setIfInBounds_toArray, List.set_cons_zero, List.set_cons_succ, Pj.vset, Nat.reduceEqDiff, if_true, if_false], HJ.out.more HP.out hL (Kept.refl _) (rfl)⟩
                  | 1, ho =>
                    simp only [List.getElem?_toArray, List.getElem?_cons_zero, List.getElem?_cons_succ, Option.some.injEq] at ho
                    have HJ := Lib.hid hJ
                    clear hJ
                    subst ho
                    refine Pj.Step.free rfl ?_
                    simp only [Pj.puts, List.foldl_cons, List.foldl_nil, Act.put, List.setIfInBounds_toArray, List.set_cons_zero, List.set_cons_succ]
                    go_simp
                    exact hKq _ _ ⟨Pj.vset V 1 (.slice (some ⟨g9, 0, none⟩) K c9), by simp only [Pj.puts, List.foldl_cons, List.foldl_nil, Act.put, List.setIfInBounds_toArray, List.set_cons_zero, List.set_cons_succ, Pj.vset, Nat.reduceEqDiff, if_true, if_false], HJ.out.more HP.out hL (Kept.refl _) (rfl)⟩
                  | 2, ho =>
                    simp only [List.getElem?_toArray, List.getElem?_cons_zero, List.getElem?_cons_succ, Option.some.injEq] at ho
                    have e0 : V 0 = .slice (some ⟨b6, o6, none⟩) K c6 := hJ.h 0 (hdep 0 (by rw [← ho]; kernel_rfl))
                    have e1 : V 1 = .slice (some ⟨g9, 0, none⟩) K c9 := hJ.h 1 (hdep 1 (by rw [← ho]; kernel_rfl))
                    have heq := HEQ.out _ hJ.kp
                    have HJ := Lib.hid hJ
                    clear hJ
                    subst ho
                    refine Pj.Step.free rfl ?_
                    simp only [Pj.puts, List.foldl_cons, List.foldl_nil, Act.put, List.setIfInBounds_toArray, List.set_cons_zero, List.set_cons_succ, e0, e1]
                    go_simp
                    refine heq.mono ?_
                    rintro e w' ⟨rfl, hk9⟩
                    exact hKq _ _ ⟨Pj.vset V 2 (.bool false), by simp only [Pj.puts, List.foldl_cons, List.foldl_nil, Act.put, List.setIfInBounds_toArray, List.set_cons_zero, List.set_cons_succ, Pj.vset, Nat.reduceEqDiff, if_true, if_false, e0, e1], HJ.out.more HP.out hL (hk9) (rfl)⟩
                  | 3, ho =>
                    simp only [List.getElem?_toArray, List.getElem?_cons_zero, List.getElem?_cons_succ, Option.some.injEq] at ho
                    have e2 : V 2 = .bool false := hJ.h 2 (hdep 2 (by rw [← ho]; kernel_rfl))
                    have HJ := Lib.hid hJ
                    clear hJ
                    subst ho
                    refine Pj.Step.free rfl ?_
                    simp only [Pj.puts, List.foldl_cons, List.foldl_nil, Act.put, List.setIfInBounds_toArray, List.set_cons_zero, List.set_cons_succ, e2]
                    go_simp
                    exact hKq _ _ ⟨Pj.vset V 3 (.bool true), by simp only [Pj.puts, List.foldl_cons, List.foldl_nil, Act.put, List.setIfInBounds_toArray, List.set_cons_zero, List.set_cons_succ, Pj.vset, Nat.reduceEqDiff, if_true, if_false, e2], HJ.out.more HP.out hL (Kept.refl _) (rfl)⟩
                  | 4, ho =>
                    simp only [List.getElem?_toArray, List.getElem?_cons_zero, List.getElem?_cons_succ, Option.some.injEq] at ho
                    have e3 : V 3 = .bool true := hJ.h 3 (hdep 3 (by rw [← ho]; kernel_rfl))
                    have HJ := Lib.hid hJ
                    clear hJ
                    subst ho
                    refine Pj.Step.free rfl ?_
                    simp only [Pj.puts, List.foldl_cons, List.foldl_nil, Act.put, List.setIfInBounds_toArray, List.set_cons_zero, List.set_cons_succ, e3]
                    go_simp
                    exact hKq _ _ ⟨Pj.vset V 4 (.bool true), by simp only [Pj.puts, List.foldl_cons, List.foldl_nil, Act.put, List.setIfInBounds_toArray, List.set_cons_zero, List.set_cons_succ, Pj.vset, Nat.reduceEqDiff, if_true, if_false, e3], HJ.out.more HP.out hL (Kept.refl _) (rfl)⟩
                  | 5, ho =>
                    simp only [List.getElem?_toArray, List.getElem?_cons_zero, List.getElem?_cons_succ, Option.some.injEq] at ho
                    have e4 : V 4 = .bool true := hJ.h 4 (hdep 4 (by rw [← ho]; kernel_rfl))
                    have HJ := Lib.hid hJ
                    clear hJ
                    subst ho
                    refine Pj.Step.at (g := 4) (b := true) rfl ?hy ?_
                    case hy =>
                      simp only [Pj.puts, List.foldl_cons, List.foldl_nil, Act.put, List.setIfInBounds_toArray, List.set_cons_zero, List.set_cons_succ, e4]
                      rfl
                    simp only [Pj.puts, List.foldl_cons, List.foldl_nil, Act.put, List.setIfInBounds_toArray, List.set_cons_zero, List.set_cons_succ, e4]
                    go_simp
                    exact hKq _ _ ⟨Pj.vset V 5 (.slice a7 H H), by simp only [Pj.puts, List.foldl_cons, List.foldl_nil, Act.put, List.setIfInBounds_toArray, List.set_cons_zero, List.set_cons_succ, Pj.vset, Nat.reduceEqDiff, if_true, if_false, e4], HJ.out.more HP.out hL (Kept.refl _) (rfl)⟩
                  | 6, ho =>
                    simp only [List.getElem?_toArray, List.getElem?_cons_zero, List.getElem?_cons_succ, Option.some.injEq] at ho
                    have e4 : V 4 = .bool true := hJ.h 4 (hdep 4 (by rw [← ho]; kernel_rfl))
                    have HJ := Lib.hid hJ
                    clear hJ
                    subst ho
                    refine Pj.Step.at (g := 4) (b := true) rfl ?hy ?_
                    case hy =>
                      simp only [Pj.puts, List.foldl_cons, List.foldl_nil, Act.put, List.setIfInBounds_toArray, List.set_cons_zero, List.set_cons_succ, e4]
                      rfl
                    simp only [Pj.puts, List.foldl_cons, List.foldl_nil, Act.put, List.setIfInBounds_toArray, List.set_cons_zero, List.set_cons_succ, e4]
                    go_simp
                    exact hKq _ _ ⟨Pj.vset V 6 (.slice a10 H H), by simp only [Pj.puts, List.foldl_cons, List.foldl_nil, Act.put, List.setIfInBounds_toArray, List.set_cons_zero, List.set_cons_succ, Pj.vset, Nat.reduceEqDiff, if_true, if_false, e4], HJ.out.more HP.out hL (Kept.refl _) (rfl)⟩
                  | 7, ho =>
                    simp only [List.getElem?_toArray, List.getElem?_cons_zero, List.getElem?_cons_succ, Option.some.injEq] at ho
                    have e5 : V 5 = .slice a7 H H := hJ.h 5 (hdep 5 (by rw [← ho]; kernel_rfl))
                    have e6 : V 6 = .slice a10 H H := hJ.h 6 (hdep 6 (by rw [← ho]; kernel_rfl))
                    have e4 : V 4 = .bool true := hJ.h 4 (hdep 4 (by rw [← ho]; kernel_rfl))
                    have hun := HUN.out _ hJ.kp
                    have HJ := Lib.hid hJ
                    clear hJ
                    subst ho
                    refine Pj.Step.at (g := 4) (b := true) rfl ?hy ?_
                    case hy =>
                      simp only [Pj.puts, List.foldl_cons, List.foldl_nil, Act.put, List.setIfInBounds_toArray, List.set_cons_zero, List.set_cons_succ, e5, e6, e4]
                      rfl
                    simp only [Pj.puts, List.foldl_cons, List.foldl_nil, Act.put, List.setIfInBounds_toArray, List.set_cons_zero, List.set_cons_succ, e5, e6, e4]
                    go_simp
                    refine hun.mono ?_
                    rintro e w' ⟨x9, c9z, rfl, hk9⟩
                    exact hKq _ _ ⟨Pj.vset V 7 (.slice x9 nU c9z), by simp only [Pj.puts, List.foldl_cons, List.foldl_nil, Act.put, List.setIfInBounds_toArray, List.set_cons_zero, List.set_cons_succ, Pj.vset, Nat.reduceEqDiff, if_true, if_false, e5, e6, e4], HJ.out.more HP.out hL (hk9) (⟨_, _, rfl⟩)⟩
                  | 8, ho =>
                    simp only [List.getElem?_toArray, List.getElem?_cons_zero, List.getElem?_cons_succ, Option.some.injEq] at ho
                    obtain ⟨x7, c7, e7⟩ := hJ.h 7 (hdep 7 (by rw [← ho]; kernel_rfl))
                    have e4 : V 4 = .bool true := hJ.h 4 (hdep 4 (by rw [← ho]; kernel_rfl))
                    have HJ := Lib.hid hJ
                    clear hJ
                    subst ho
                    refine Pj.Step.at (g := 4) (b := true) rfl ?hy ?_
                    case hy =>
                      simp only [Pj.puts, List.foldl_cons, List.foldl_nil, Act.put, List.setIfInBounds_toArray, List.set_cons_zero, List.set_cons_succ, e7, e4]
                      rfl
                    simp only [Pj.puts, List.foldl_cons, List.foldl_nil, Act.put, List.setIfInBounds_toArray, List.set_cons_zero, List.set_cons_succ, e7, e4]
                    go_simp
                    exact hKq _ _ ⟨Pj.vset V 8 (.int .i64 nU), by simp only [Pj.puts, List.foldl_cons, List.foldl_nil, Act.put, List.setIfInBounds_toArray, List.set_cons_zero, List.set_cons_succ, Pj.vset, Nat.reduceEqDiff, if_true, if_false, e7, e4], HJ.out.more HP.out hL (Kept.refl _) (rfl)⟩
                  | 9, ho =>
                    simp only [List.getElem?_toArray, List.getElem?_cons_zero, List.getElem?_cons_succ, Option.some.injEq] at ho
                    have e4 : V 4 = .bool true := hJ.h 4 (hdep 4 (by rw [← ho]; kernel_rfl))
                    have HJ := Lib.hid hJ
                    clear hJ
                    subst ho
                    refine Pj.Step.at (g := 4) (b := true) rfl ?hy ?_
                    case hy =>
                      simp only [Pj.puts, List.foldl_cons, List.foldl_nil, Act.put, List.setIfInBounds_toArray, List.set_cons_zero, List.set_cons_succ, e4]
                      rfl
                    simp only [Pj.puts, List.foldl_cons, List.foldl_nil, Act.put, List.setIfInBounds_toArray, List.set_cons_zero, List.set_cons_succ, e4]
                    go_simp
                    exact hKq _ _ ⟨Pj.vset V 9 (.pointer (some ⟨p4, 1, none⟩)), by simp only [Pj.puts, List.foldl_cons, List.foldl_nil, Act.put, List.setIfInBounds_toArray, List.set_cons_zero, List.set_cons_succ, Pj.vset, Nat.reduceEqDiff, if_true, if_false, e4], HJ.out.more HP.out hL (Kept.refl _) (rfl)⟩
                  | 10, ho =>
                    simp only [List.getElem?_toArray, List.getElem?_cons_zero, List.getElem?_cons_succ, Option.some.injEq] at ho
                    have e9 : V 9 = .pointer (some ⟨p4, 1, none⟩) := hJ.h 9 (hdep 9 (by rw [← ho]; kernel_rfl))
                    have e4 : V 4 = .bool true := hJ.h 4 (hdep 4 (by rw [← ho]; kernel_rfl))
                    obtain ⟨d0, d1, d2⟩ := HB14.out _ hJ.kp
                    have HJ := Lib.hid hJ
                    clear hJ
                    subst ho
                    refine Pj.Step.at (g := 4) (b := true) rfl ?hy ?_
                    case hy =>
                      simp only [Pj.puts, List.foldl_cons, List.foldl_nil, Act.put, List.setIfInBounds_toArray, List.set_cons_zero, List.set_cons_succ, e9, e4]
                      rfl
                    simp only [Pj.puts, List.foldl_cons, List.foldl_nil, Act.put, List.setIfInBounds_toArray, List.set_cons_zero, List.set_cons_succ, e9, e4]
                    go_simp
                    exact hKq _ _ ⟨Pj.vset V 10 (.int .i64 M), by simp only [Pj.puts, List.foldl_cons, List.foldl_nil, Act.put, List.setIfInBounds_toArray, List.set_cons_zero, List.set_cons_succ, Pj.vset, Nat.reduceEqDiff, if_true, if_false, e9, e4], HJ.out.more HP.out hL (Kept.refl _) (rfl)⟩
                  | 11, ho =>
                    simp only [List.getElem?_toArray, List.getElem?_cons_zero, List.getElem?_cons_succ, Option.some.injEq] at ho
                    have e8 : V 8 = .int .i64 nU := hJ.h 8 (hdep 8 (by rw [← ho]; kernel_rfl))
                    have e10 : V 10 = .int .i64 M := hJ.h 10 (hdep 10 (by rw [← ho]; kernel_rfl))
                    have e4 : V 4 = .bool true := hJ.h 4 (hdep 4 (by rw [← ho]; kernel_rfl))
                    have hdu : decide (nU ≤ M) = false := decide_eq_false (by omega)
                    have HJ := Lib.hid hJ
                    clear hJ
                    subst ho
                    refine Pj.Step.at (g := 4) (b := true) rfl ?hy ?_
                    case hy =>
                      simp only [Pj.puts, List.foldl_cons, List.foldl_nil, Act.put, List.setIfInBounds_toArray, List.set_cons_zero, List.set_cons_succ, e8, e10, e4]
                      rfl
                    simp only [Pj.puts, List.foldl_cons, List.foldl_nil, Act.put, List.setIfInBounds_toArray, List.set_cons_zero, List.set_cons_succ, e8, e10, e4]
                    go_simp
                    exact hKq _ _ ⟨Pj.vset V 11 (.bool false), by simp only [Pj.puts, List.foldl_cons, List.foldl_nil, Act.put, List.setIfInBounds_toArray, List.set_cons_zero, List.set_cons_succ, Pj.vset, Nat.reduceEqDiff, if_true, if_false, e8, e10, e4], HJ.out.more HP.out hL (Kept.refl _) (rfl)⟩
                  | 12, ho =>
                    simp only [List.getElem?_toArray, List.getElem?_cons_zero, List.getElem?_cons_succ, Option.some.injEq] at ho
                    have e4 : V 4 = .bool true := hJ.h 4 (hdep 4 (by rw [← ho]; kernel_rfl))
                    have e11 : V 11 = .bool false := hJ.h 11 (hdep 11 (by rw [← ho]; kernel_rfl))
                    have HJ := Lib.hid hJ
                    clear hJ
                    subst ho
                    refine Pj.Step.free rfl ?_
                    simp only [Pj.puts, List.foldl_cons, List.foldl_nil, Act.put, List.setIfInBounds_toArray, List.set_cons_zero, List.set_cons_succ, e4, e11]
                    go_simp
                    exact hKq _ _ ⟨Pj.vset V 12 (.bool false), by simp only [Pj.puts, List.foldl_cons, List.foldl_nil, Act.put, List.setIfInBounds_toArray, List.set_cons_zero, List.set_cons_succ, Pj.vset, Nat.reduceEqDiff, if_true, if_false, e4, e11], HJ.out.more HP.out hL (Kept.refl _) (rfl)⟩
                  | n + 13, ho => simp at ho
                case ehe =>
                  rintro L az w ⟨V, rfl, hJ⟩ hall
                  have e0 : V 0 = .slice (some ⟨b6, o6, none⟩) K c6 := hJ.h 0 (hall 0 (by decide))
                  have e1 : V 1 = .slice (some ⟨g9, 0, none⟩) K c9 := hJ.h 1 (hall 1 (by decide))
                  have e2 : V 2 = .bool false := hJ.h 2 (hall 2 (by decide))
                  have e3 : V 3 = .bool true := hJ.h 3 (hall 3 (by decide))
                  have e4 : V 4 = .bool true := hJ.h 4 (hall 4 (by decide))
                  have e5 : V 5 = .slice a7 H H := hJ.h 5 (hall 5 (by decide))
                  have e6 : V 6 = .slice a10 H H := hJ.h 6 (hall 6 (by decide))
                  obtain ⟨x7, c7, e7⟩ := hJ.h 7 (hall 7 (by decide))
                  have e8 : V 8 = .int .i64 nU := hJ.h 8 (hall 8 (by decide))
                  have e9 : V 9 = .pointer (some ⟨p4, 1, none⟩) := hJ.h 9 (hall 9 (by decide))
                  have e10 : V 10 = .int .i64 M := hJ.h 10 (hall 10 (by decide))
                  have e11 : V 11 = .bool false := hJ.h 11 (hall 11 (by decide))
                  have e12 : V 12 = .bool false := hJ.h 12 (hall 12 (by decide))
                  have HKj := Lib.hid hJ.kp
                  clear hJ hall
                  simp only [Pj.puts, List.foldl_cons, List.foldl_nil, Act.put, List.setIfInBounds_toArray, List.set_cons_zero, List.set_cons_succ, e0, e1, e2, e3, e4, e5, e6, e7, e8, e9, e10, e11, e12]
                  clear e0 e1 e2 e3 e4 e5 e6 e7 e8 e9 e10 e11 e12
                  have HK17 := Lib.hid HKj.out
                  obtain ⟨w17, hw17⟩ : ∃ w17, w17 = w := ⟨_, rfl⟩
                  subst hw17
                  go_wp2_with fail
                  go_loopw [12] (fun cv wx => ∃ c : Nat, c ≤ 4096 ∧ cv = .int .i64 c ∧ Kept w17 wx) (fun cv _ => 4096 - (intOf cv).toNat)
                  case atStart => exact ⟨0, by omega, rfl, Kept.refl _⟩
                  case round =>
                    rename World => wx
                    obtain ⟨c, hc, rfl, hkx⟩ := hrel
                    have HKC := Lib.hid hkx
                    clear hkx
                    by_cases hcs : (c : Int) < wrap64 (2 ^ H)
                    · by_cases hc4 : c < 4096
                      · have hd4 : decide ((c : Int) < 4096) = true := decide_eq_true (by omega)
                        have hmk := mkBools4 H (by omega) wx
                        go_upto_region 23 with (fail)
                        have HC0 := Lib.hid (made_bools4 wx H (fun _ => false))
                        have HK5 := Lib.hid ((Kept.refl wx).alloc (.cells (madeCells #[.bool false] H) 4))
                        generalize wx.alloc (.cells (madeCells #[.bool false] H) 4) = w5 at *
                        obtain ⟨pt, hpt⟩ : ∃ p, p = wx.heap.size := ⟨_, rfl⟩
                        rw [← hpt] at HC0 ⊢
                        have HPT := Lib.hid hpt
                        clear hpt hmk hcs
                        go_wp2_with fail
                        go_loopw [14, 15] (fun mv iv wy => ∃ i m : Nat, ∃ T : Nat → Bool, Hid (m = cntT T i) ∧ m ≤ i ∧ i ≤ H ∧ mv = .int .i64 m ∧ iv = .int .i64 i ∧ Bd wy pt H i T ∧ Kept wx wy) (fun _ iv _ => H - (intOf iv).toNat)
                        case atStart => exact ⟨0, 0, fun _ => false, Lib.hid rfl, by omega, by omega, rfl, rfl, HC0.out, HK5.out⟩
                        case round =>
                          rename World => wy
                          obtain ⟨i, m, T, HMC, hmi, hi, rfl, rfl, hbc, hky⟩ := hrel
                          have HBC := Lib.hid hbc
                          have HKY := Lib.hid hky
                          clear hbc hky
                          by_cases hiH : i < H
                          · have hcell := HBC.out.cell i hiH
                            have hfree := HBC.out.free i
                            go_upto_region 28 with (fail)
                            obtain ⟨y, hy⟩ : ∃ y, y = (bits BinOp.and IntKind.i64 ((c : Int) / 2 ^ i) 1 == 1) := ⟨_, rfl⟩
                            rw [← hy]
                            clear hy
                            have hbs := (HBC.out.congr (T' := putT T i y) (putT_lt T i y)).set hiH
                            rw [putT_at] at hbs
                            have HBS := Lib.hid hbs
                            have HKS := Lib.hid (HKY.out.setCell (p := ⟨pt, i, none⟩) (by have := HPT.out; show wx.heap.size ≤ pt; omega) (.bool y))
                            have hcy := hbs.cell i hiH
                            rw [if_pos (Nat.lt_succ_self i), putT_at] at hcy
                            have HCP := Lib.hid (cnt_put T i y)
                            clear hbs hcell hfree
                            generalize wy.setCell ⟨pt, i, none⟩ (.bool y) = wz at *
                            cases y with
                            | true =>
                              have HC9 := Lib.hid (show m + 1 = cntT (putT T i true) (i + 1) by rw [HCP.out, ← HMC.out]; rfl)
                              go_wp2_with fail
                              go_roundw
                              case rel => exact ⟨i + 1, m + 1, putT T i true, HC9, by omega, by omega, by go_num, by go_num, HBS.out, HKS.out⟩
                              case measure => simp [intOf]; omega
                            | false =>
                              have HC9 := Lib.hid (show m = cntT (putT T i false) (i + 1) by rw [HCP.out, ← HMC.out]; simp)
                              go_wp2_with fail
                              go_roundw
                              case rel => exact ⟨i + 1, m, putT T i false, HC9, by omega, by omega, rfl, by go_num, HBS.out, HKS.out⟩
                              case measure => simp [intOf]; omega
                          · obtain rfl : H = i := by omega
                            have HCY := Lib.hid ((HK17.out.trans HKC.out).trans HKY.out)
                            obtain ⟨c0, c1, c2⟩ := HB14.out _ HCY.out
                            by_cases hmK : m = K
                            · obtain rfl : K = m := hmK.symm
                              have hlst : (lst T K H).length = K := by rw [lst_count, ← HMC.out]; omega
                              have hsz := HXT.out T
                              have HPL := Lib.hid (HPB.out T hlst)
                              have HL0 := Lib.hid (lstS_size4 hsz hlst 0 (by omega))
                              have HLN := Lib.hid (show ¬ (lst T K H).length < K by omega)
                              have HBL := Lib.hid HBC.out.bools
                              have HSZT := Lib.hid hsz
                              clear hsz hlst
                              go_wp2_with fail
                              refine (rebuild_any K M H R HH.out hK1 ⟨hR4.1, by omega⟩ a7 (some ⟨pt, 0, none⟩) H H H X T _ (HX14.out _ HCY.out) HBL.out HSZT.out).mono ?_
                              rintro e w31 ⟨-, hgo, hk31⟩
                              obtain ⟨a31, rfl, ht31, ha31⟩ := hgo HLN.out
                              have HS31 := Lib.hid (HPL.out ▸ txt_strs4 (q := R) ht31 ha31 HL0.out (by omega) (by omega))
                              have HK31 := Lib.hid (HCY.out.trans hk31)
                              have HK32 := Lib.hid ((HKC.out.trans HKY.out).trans hk31)
                              clear hgo ht31 ha31 hk31 c0 c1 c2
                              go_wp2_with fail
                              refine (num4_any _ _).mono ?_
                              rintro e w' ⟨rfl, rfl⟩
                              go_wp2_with fail
                              refine (eq_strings a31 a7 H H H X _ HS31.out (HX14.out _ HK31.out)).mono ?_
                              rintro e w32 ⟨rfl, hk32⟩
                              have HK33 := Lib.hid (HK32.out.trans hk32)
                              clear hk32
                              go_wp2_with fail
                              go_roundw
                              case rel => exact ⟨c + 1, by omega, by go_num, HK33.out⟩
                              case measure => simp [intOf]; omega
                            · have hdm : ((m : Int) != (K : Int)) = true := by rw [bne_iff_ne]; omega
                              have HK33 := Lib.hid (HKC.out.trans HKY.out)
                              go_wp2_with fail
                              go_roundw
                              case rel => exact ⟨c + 1, by omega, by go_num, HK33.out⟩
                              case measure => simp [intOf]; omega
                      · have hd4 : decide ((c : Int) < 4096) = false := decide_eq_false (by omega)
                        have HKL := Lib.hid (((HKX.out.trans HK17.out)).trans HKC.out)
                        go_wp2_with fail
                        go_roundw
                        case rel => exact ⟨j + 1, by omega, by go_num, HKL.out⟩
                        case measure => simp [intOf]; omega
                    · have HKL := Lib.hid (((HKX.out.trans HK17.out)).trans HKC.out)
                      go_wp2_with fail
                      go_roundw
                      case rel => exact ⟨j + 1, by omega, by go_num, HKL.out⟩
                      case measure => simp [intOf]; omega
          · have hBf : shpB k m s = false := by simpa using hB
            rw [hBf]
            have HKd := Lib.hid (HKa.out.trans HKb.out)
            clear hB hBf c0 c1 c2
            go_wp2_with fail
            go_roundw
            case rel => exact ⟨j + 1, by omega, by go_num, HKd.out⟩
            case measure => simp [intOf]; omega
        · have hd1 : decide ((j : Int) < ls) = true := decide_eq_true (by omega)
          have hd2 : decide ((j : Int) < 2) = false := decide_eq_false (by omega)
          go_wp2_with fail
          refine (refmul11 _).mono ?_
          rintro e w' ⟨rfl, rfl⟩
          go_wp2_with fail
          refine (wakes4_any _).mono ?_
          rintro e w' ⟨rfl, hk9⟩
          have HK9 := Lib.hid ((HK1.out.trans HK.out).trans hk9)
          clear hk9
          go_wp2
          go_ret
          exact ⟨rfl, HK9.out⟩
      · have hd1 : decide ((j : Int) < ls) = false := decide_eq_false (by omega)
        go_wp2_with fail
        refine (refmul11 _).mono ?_
        rintro e w' ⟨rfl, rfl⟩
        go_wp2_with fail
        refine (wakes4_any _).mono ?_
        rintro e w' ⟨rfl, hk9⟩
        have HK9 := Lib.hid ((HK1.out.trans HK.out).trans hk9)
        clear hk9
        go_wp2
        go_ret
        exact ⟨rfl, HK9.out⟩

end Go.Proofs.Ytoonpnpooljmlaa
