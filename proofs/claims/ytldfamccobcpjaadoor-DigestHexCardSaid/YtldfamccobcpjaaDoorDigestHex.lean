/- The walk of the law DigestHex: it answers true and changes nothing that was there (no condition but that both tables lie as they are laid). -/
import Derived.Test.YtldfamccobcpjaaDoorBl15
import Derived.Test.YtldfamccobcpjaaDoorAsk6
namespace Go.Proofs.YtldfamccobcpjaaDoor
open Go.RowKit Go.Shelf
attribute [local go_sem] Oper.semAt_some
theorem Tryd.infoStr : (Tryd.prog.info? 9).map (fun i => (i.zero, i.size, i.bytes)) = some (some (.string ByteArray.empty), 1, 16) := by kernel_rfl
theorem take_snoc (ss : List ByteArray) (k : Nat) (h : k < ss.length) : ss.take (k + 1) = ss.take k ++ [ss.getD k ByteArray.empty] := by
  rw [List.take_succ_eq_append_getElem h]
  simp [List.getD, h]
theorem three_cells (w : World) (x0 x1 x2 : Value) (t : TypeId) : ∀ j u, [x0, x1, x2][j]? = some u → (w.alloc (.cells #[x0, x1, x2] t)).cell? ((⟨w.heap.size, 0, none⟩ : Addr).add j) = some u := by
  intro j u hj
  rw [add_none, Nat.zero_add, cell_new]
  match j, hj with
  | 0, hj => simpa using hj
  | 1, hj => simpa using hj
  | 2, hj => simpa using hj
  | n + 3, hj => simp at hj
set_option maxRecDepth 100000 in
set_option maxHeartbeats 2000000 in
theorem copy_own (a : Option Addr) (l cap : Nat) (ss : List ByteArray) (w : World) (h : StrsIn w a l ss) (hl : l ≤ 8796093021952) :
    Calls Tryd.prog 18 #[.slice a l cap] w fun e w' => ∃ v, e = .returned v ∧ w'.ownsRow w.heap.size 9 1 v l (ss.map Value.string) ∧ Kept w w' := by
  obtain ⟨i0, hi, hz0, hz1, hz2⟩ := info_parts Tryd.infoStr
  have HL := Lib.hid h.len_eq
  have HI := Lib.hid (And.intro hi (And.intro hz0 (And.intro hz1 hz2)))
  clear hi hz0 hz1 hz2
  go_enter Tryd.func18, Tryd.ntmps18
  go_wp2_with fail
  go_loopw [3, 4] (fun v i wr => ∃ k : Nat, k ≤ l ∧ i = .int .i64 k ∧ wr.ownsRow w.heap.size 9 1 v k ((ss.take k).map Value.string) ∧ Kept w wr) (fun _ i _ => l - (intOf i).toNat)
  case atStart => exact ⟨0, by omega, rfl, World.ownsRow_nil _ _ _ _, Kept.refl _⟩
  case round =>
    obtain ⟨k, hk, rfl, hown, hK⟩ := hrel
    have HK := Lib.hid hK
    have HO := Lib.hid hown
    by_cases hlt : k < l
    · obtain ⟨b, off, ha, hc⟩ := h.cells
      obtain rfl := ha (by omega)
      have hck := hK.cell (hc k hlt).1 (hc k hlt).2
      have htk := take_snoc ss k (by have := HL.out; omega)
      generalize ss.getD k ByteArray.empty = t at hck htk
      have HT := Lib.hid htk
      clear h hc ha hK htk hown
      go_wp2_with (at_builtin; refine wpList_append_own_at _ rfl _ _ 22 rfl w.heap.size 9 i0 (.string ByteArray.empty) 1 16 Tryd.underlying22 HI.out.1 HI.out.2.1 HI.out.2.2.1 HI.out.2.2.2 rfl (by decide) _ _ _ rfl (HO.out.alloc _) ⟨wr.heap.size, 0, none⟩ 1 1 [.string t] rfl rfl (cell_one_new _ _ _) (by intro u hu; simp at hu; subst hu; rfl) (by unfold maxLen; omega) (by omega) (by have := HK.out.size; simp; omega) ?_)
      intro v' w1 hown' hgrow _ _
      have HO' := Lib.hid hown'
      have HK' := Lib.hid (show Kept w w1 from kept_gr1 (HK.out.alloc _) hgrow (fun g e => (HO.out.lt g e).1) (Nat.le_refl _))
      clear hown' hgrow
      go_wp2
      go_roundw
      case rel => exact ⟨k + 1, by omega, by go_num, by rw [HT.out, List.map_append, List.map_take]; exact HO'.out, HK'.out⟩
      case measure => simp [intOf]; omega
    · obtain rfl : k = l := by omega
      rw [List.take_of_length_le (Nat.le_of_eq HL.out)] at hown
      have HF := Lib.hid hown
      clear h hK hown HO
      go_wp2
      go_ret
      exact ⟨_, rfl, HF.out, HK.out⟩
set_option maxRecDepth 100000 in
theorem num6_any (n : Int) (w : World) : Calls Tryd.prog 23 #[.int .i64 n] w fun e w' => e = .returned (.int .i64 n) ∧ w' = w := by
  go_enter Tryd.func23, Tryd.ntmps23
  go_wp2
  go_ret
  exact ⟨rfl, rfl⟩
set_option maxRecDepth 100000 in
set_option maxHeartbeats 4000000 in
theorem digestHex_walk {W : World} {v : Value} {a : Option Addr} {l cap : Nat} {ss : List ByteArray} (h : AskS W v a l cap ss) (hB : Begins W) (hO : Orders W) :
    Calls Tryd.prog 6 #[v] W fun e W' => e = .returned (.bool true) ∧ Below W.heap.size W W' := by
  obtain ⟨i0, hi, hz0, hz1, hz2⟩ := info_parts Tryd.infoStr
  have HI := Lib.hid (And.intro hi (And.intro hz0 (And.intro hz1 hz2)))
  clear hi hz0 hz1 hz2
  obtain ⟨rfl, hT⟩ := h
  have k1 : Kept W (W.alloc (.cells #[.slice a l cap] 24)) := (Kept.refl W).alloc _
  have HB := Lib.hid (BlockAt.new W #[.slice a l cap] 24)
  have HT := Lib.hid (hT.kept k1)
  have HBG := Lib.hid (hB.kept k1)
  have HOR := Lib.hid (hO.kept k1)
  have HK1 := Lib.hid k1
  clear hT k1 hB hO
  go_enter Tryd.func6, Tryd.ntmps6
  go_wp2_with fail
  generalize W.alloc (.cells #[.slice a l cap] 24) = w0 at *
  have a0 := box1 HB.out
  go_wp2_with fail
  refine (heavy6_any _ _ _ ss _ HT.out).mono ?_
  rintro e w1 ⟨hbv, hk⟩
  have HB1 := Lib.hid (HB.out.kept hk)
  have HT1 := Lib.hid (HT.out.kept hk)
  have HBG1 := Lib.hid (HBG.out.kept hk)
  have HOR1 := Lib.hid (HOR.out.kept hk)
  have HK2 := Lib.hid (HK1.out.trans hk)
  clear hk HB HT HBG HOR HK1 a0
  rcases hbv with rfl | ⟨rfl, hl6, hs6⟩
  · go_wp2
    go_ret
    exact ⟨rfl, HK2.out⟩
  have HS6 := Lib.hid hs6
  clear hs6
  have a0 := box1 HB1.out
  go_wp2_with fail
  refine (copy_own _ _ _ ss _ HT1.out.strs HT1.out.few).mono ?_
  rintro e w2 ⟨v2, rfl, hown2, hk2⟩
  have HO2 := Lib.hid hown2
  have HKc := Lib.hid hk2
  have hss : ss.length = l := HT1.out.strs.len_eq
  have HSA := Lib.hid (show ∀ s ∈ ss, s.size ≤ 6000 from fun s q => by
    obtain ⟨i, hi, rfl⟩ := List.getElem_of_mem q
    have := HS6.out i (by omega)
    simpa [List.getD, hi] using this)
  clear hown2 hk2 a0
  go_wp2_with fail
  go_loopw [3, 4] (fun v i wx => ∃ (k n : Nat) (ts : List ByteArray), k ≤ 6 ∧ i = .int .i64 k ∧ n ≤ 6000 + 3 * k ∧ Hid (ts.length = n) ∧ (∀ s ∈ ts, s.size ≤ 6000) ∧ wx.ownsRow w1.heap.size 9 1 v n (ts.map Value.string) ∧ Kept w1 wx) (fun _ i _ => 6 - (intOf i).toNat)
  case atStart => exact ⟨0, l, ss, by omega, rfl, by omega, Lib.hid hss, HSA.out, HO2.out, HKc.out⟩
  case round =>
    obtain ⟨k, n, ts, hk, rfl, hn, htl, hts, hown, hK⟩ := hrel
    have HTL := Lib.hid htl.out
    have HTS := Lib.hid hts
    have HO := Lib.hid hown
    have HK := Lib.hid hK
    have HN := Lib.hid hn
    clear htl hts hown hK hn
    have a0 := box1 (HB1.out.kept HK.out)
    by_cases hin : k < l ∧ k < 6
    · as_aux_lemma =>
        obtain ⟨hlt, h6⟩ := hin
        obtain ⟨b, off, rfl, hc⟩ := HT1.out.cell (by omega)
        have hcell := hc k hlt wr HK.out
        have hs := HS6.out k hlt
        generalize ss.getD k ByteArray.empty = s at hcell hs
        clear hc
        have HRD := Lib.hid (rdigest_any s (by omega) wr)
        have hdz := dg_size s.data.toList
        generalize dg s.data.toList = D at HRD hdz
        obtain ⟨v9, hv9⟩ := slice_of_own1 HO.out
        obtain ⟨c9, rfl⟩ := hv9
        go_wp2_with fail
        refine HRD.out.mono ?_
        rintro e w3 ⟨rfl, k3⟩
        have K3 := Lib.hid (HK.out.trans k3)
        have HO3 := Lib.hid (own_kept HO.out k3)
        clear k3 hcell a0
        have hxz := hexB_size D
        have HRH := Lib.hid (fun w => rhex_any D (by omega) w)
        generalize hexB D = X at HRH hxz
        have hx63 : 63 ≤ X.size := by omega
        have h063 : (0 : Nat) ≤ 63 := by omega
        obtain ⟨z, hz⟩ : ∃ z : ByteArray, z = X.extract 0 63 ++ ⟨#[70]⟩ := ⟨_, rfl⟩
        have hzz : z.size ≤ 6000 := by
          rw [hz, ByteArray.size_append, ByteArray.size_extract]
          show _ + 1 ≤ _
          omega
        have hadd : ∀ u : World, (Op.stringOp .add (X.extract 0 63) ⟨#[70]⟩).run Tryd.prog u = .ok (.string z) u := fun u => by
          rw [hz]
          exact run_string_add_sum _ _ _ (by rw [ByteArray.size_extract]; show _ + 1 ≤ _; omega)
        clear hz
        go_wp2_with fail
        refine (HRH.out _).mono ?_
        rintro e w4 ⟨rfl, k4⟩
        have K4 := Lib.hid (K3.out.trans k4)
        have HO4 := Lib.hid (own_kept HO3.out k4)
        clear k4
        go_wp2_with fail
        refine (HRH.out _).mono ?_
        rintro e w5 ⟨rfl, k5⟩
        have K5 := Lib.hid (K4.out.trans k5)
        have HO5 := Lib.hid (own_kept HO4.out k5)
        have hn6 := HN.out
        clear k5
        go_wp2_with (at_builtin; refine wpList_append_own_at _ rfl _ _ 22 rfl w1.heap.size 9 i0 (.string ByteArray.empty) 1 16 Tryd.underlying22 HI.out.1 HI.out.2.1 HI.out.2.2.1 HI.out.2.2.2 rfl (by decide) _ _ _ rfl (HO5.out.alloc _) ⟨w5.heap.size, 0, none⟩ 3 3 [.string D, .string X, .string z] rfl rfl (three_cells _ _ _ _ _) (by intro u hu; simp at hu; rcases hu with rfl | rfl | rfl <;> rfl) (by unfold maxLen; omega) (by omega) (by have := K5.out.size; simp; omega) ?_)
        intro v' w6 hown' hgrow _ _
        have HO' := Lib.hid hown'
        have HK' := Lib.hid (show Kept w1 w6 from kept_gr1 (K5.out.alloc _) hgrow (fun g e => (HO5.out.lt g e).1) (Nat.le_refl _))
        have HDZ := Lib.hid (show D.size ≤ 6000 ∧ X.size ≤ 6000 ∧ z.size ≤ 6000 by omega)
        clear hown' hgrow hadd hdz hxz hx63 hzz
        go_wp2
        go_roundw
        case rel =>
          refine ⟨k + 1, n + 3, ts ++ [D, X, z], by omega, by go_num, by omega, Lib.hid (by rw [List.length_append, HTL.out]; rfl), fun s q => ?_, by rw [List.map_append]; exact HO'.out, HK'.out⟩
          have hz := HDZ.out
          rcases List.mem_append.1 q with q | q
          · exact HTS.out s q
          · simp at q
            rcases q with rfl | rfl | rfl <;> omega
        case measure => simp [intOf]; omega
    · have hn6 := HN.out
      have hout : (¬ k < l) ∨ (k < l ∧ ¬ k < 6) := by
        by_cases q : k < l
        · exact .inr ⟨q, fun r => hin ⟨q, r⟩⟩
        · exact .inl q
      clear hin
      rcases hout with hnl | ⟨hlt, hnk6⟩
      · as_aux_lemma =>
          obtain ⟨a9, c9, rfl, hc9, hst⟩ := strs_own HO.out HTL.out (fun s q => by have := HTS.out s q; omega)
          have HCE0 := Lib.hid (hst.at)
          obtain ⟨w9, hw9⟩ : ∃ w9, w9 = wr := ⟨_, rfl⟩
          rw [← hw9] at HK HCE0 a0 ⊢
          clear hw9 hst HO
          go_wp2_with fail
          clear a0
          go_loopw [6] (fun i wx => ∃ j : Nat, j ≤ n ∧ i = .int .i64 j ∧ Kept w9 wx) (fun i _ => n - (intOf i).toNat)
          case atStart => exact ⟨0, by omega, rfl, Kept.refl _⟩
          case round =>
            obtain ⟨j, hj, rfl, hk9⟩ := hrel
            have HK0 := HK
            have HK := Lib.hid hk9
            clear hk9
            by_cases hjn : j < n
            · obtain ⟨b9, o9, rfl, hce⟩ := HCE0.out (by omega)
              have HCE := Lib.hid (hce j hjn)
              have hT6 : (ts.getD j ByteArray.empty).size ≤ 6000 := by
                have hl : j < ts.length := by rw [HTL.out]; exact hjn
                refine HTS.out _ ?_
                simp [List.getD, hl]
              generalize ts.getD j ByteArray.empty = T at HCE hT6
              clear hce
              by_cases h32 : T.size = 32
              · as_aux_lemma =>
                  have ht : tk T = none := tk_bad (by omega)
                  have HTA := Lib.hid (fun w (_ : Kept w9 w) => take_any T hT6 w)
                  have HUN := Lib.hid (fun w (_ : Kept w9 w) => unhex_any T w)
                  rw [ht] at HUN
                  have he : tkE T = 7 := by unfold tkE; rw [ht]
                  rw [he] at HTA
                  clear he ht
                  generalize tkB T = B0 at HTA HUN
                  have HHX := Lib.hid (fun w (_ : Kept w9 w) => hex_good T h32 w)
                  have HRH := Lib.hid (fun w (_ : Kept w9 w) => rhex_any T hT6 w)
                  generalize hexB T = X at HHX HRH
                  have hd1 : ((T.size : Int) == 32) = true := by rw [beq_iff_eq]; omega
                  have c0 := HCE.out wr HK.out
                  go_wp2_with fail
                  refine (HHX.out wr HK.out).mono ?_
                  rintro e x1 ⟨rfl, k1⟩
                  have K1 := Lib.hid (HK.out.trans k1)
                  have c1 := HCE.out x1 K1.out
                  clear k1
                  go_wp2_with fail
                  refine (HRH.out x1 K1.out).mono ?_
                  rintro e x2 ⟨rfl, k2⟩
                  have K2 := Lib.hid (K1.out.trans k2)
                  have c2 := HCE.out x2 K2.out
                  clear k2
                  go_wp2_with fail
                  refine (HTA.out x2 K2.out).mono ?_
                  rintro e x3 ⟨rfl, k3⟩
                  have K3 := Lib.hid (K2.out.trans k3)
                  have c3 := HCE.out x3 K3.out
                  clear k3
                  go_wp2_with fail
                  refine (HUN.out x3 K3.out).mono ?_
                  rintro e x4 ⟨rfl, k4⟩
                  have K4 := Lib.hid (K3.out.trans k4)
                  have c4 := HCE.out x4 K4.out
                  clear k4
                  go_wp2_with fail
                  refine (num6_any _ _).mono ?_
                  rintro e x' ⟨rfl, rfl⟩
                  go_wp2_with fail
                  refine (num6_any _ _).mono ?_
                  rintro e x' ⟨rfl, rfl⟩
                  go_wp2_with fail
                  refine (num6_any _ _).mono ?_
                  rintro e x' ⟨rfl, rfl⟩
                  go_wp2
                  go_roundw
                  case rel => exact ⟨j + 1, by omega, by go_num, K4.out⟩
                  case measure => simp [intOf]; omega
              · cases ht : tk T with
                | none =>
                  as_aux_lemma =>
                    have HTA := Lib.hid (fun w (_ : Kept w9 w) => take_any T hT6 w)
                    have HUN := Lib.hid (fun w (_ : Kept w9 w) => unhex_any T w)
                    rw [ht] at HUN
                    have he : tkE T = 7 := by unfold tkE; rw [ht]
                    rw [he] at HTA
                    clear he ht
                    generalize tkB T = B0 at HTA HUN
                    have HHX := Lib.hid (fun w (_ : Kept w9 w) => hex_bad T h32 w)
                    have hd1 : ((T.size : Int) == 32) = false := by rw [beq_eq_false_iff_ne]; omega
                    have c0 := HCE.out wr HK.out
                    go_wp2_with fail
                    refine (HHX.out wr HK.out).mono ?_
                    rintro e x1 ⟨rfl, k1⟩
                    have K1 := Lib.hid (HK.out.trans k1)
                    have c1 := HCE.out x1 K1.out
                    clear k1
                    go_wp2_with fail
                    refine (HTA.out x1 K1.out).mono ?_
                    rintro e x2 ⟨rfl, k2⟩
                    have K2 := Lib.hid (K1.out.trans k2)
                    have c2 := HCE.out x2 K2.out
                    clear k2
                    go_wp2_with fail
                    refine (HUN.out x2 K2.out).mono ?_
                    rintro e x3 ⟨rfl, k3⟩
                    have K3 := Lib.hid (K2.out.trans k3)
                    have c3 := HCE.out x3 K3.out
                    clear k3
                    go_wp2_with fail
                    refine (num6_any _ _).mono ?_
                    rintro e x' ⟨rfl, rfl⟩
                    go_wp2_with fail
                    refine (num6_any _ _).mono ?_
                    rintro e x' ⟨rfl, rfl⟩
                    go_wp2_with fail
                    refine (num6_any _ _).mono ?_
                    rintro e x' ⟨rfl, rfl⟩
                    go_wp2
                    go_roundw
                    case rel => exact ⟨j + 1, by omega, by go_num, K3.out⟩
                    case measure => simp [intOf]; omega
                | some L =>
                  as_aux_lemma =>
                    have HTA := Lib.hid (fun w (_ : Kept w9 w) => take_any T hT6 w)
                    have HUN := Lib.hid (fun w (_ : Kept w9 w) => unhex_any T w)
                    rw [ht] at HUN
                    have he : tkE T = 0 := by unfold tkE; rw [ht]
                    rw [he] at HTA
                    clear he ht
                    generalize tkB T = B0 at HTA HUN
                    have HHX := Lib.hid (fun w (_ : Kept w9 w) => hex_bad T h32 w)
                    have hd1 : ((T.size : Int) == 32) = false := by rw [beq_eq_false_iff_ne]; omega
                    have c0 := HCE.out wr HK.out
                    go_wp2_with fail
                    refine (HHX.out wr HK.out).mono ?_
                    rintro e x1 ⟨rfl, k1⟩
                    have K1 := Lib.hid (HK.out.trans k1)
                    have c1 := HCE.out x1 K1.out
                    clear k1
                    go_wp2_with fail
                    refine (HTA.out x1 K1.out).mono ?_
                    rintro e x2 ⟨rfl, k2⟩
                    have K2 := Lib.hid (K1.out.trans k2)
                    have c2 := HCE.out x2 K2.out
                    clear k2
                    go_wp2_with fail
                    refine (HUN.out x2 K2.out).mono ?_
                    rintro e x3 ⟨rfl, k3⟩
                    have K3 := Lib.hid (K2.out.trans k3)
                    have c3 := HCE.out x3 K3.out
                    clear k3
                    go_wp2_with fail
                    refine (num6_any _ _).mono ?_
                    rintro e x' ⟨rfl, rfl⟩
                    go_wp2_with fail
                    refine (num6_any _ _).mono ?_
                    rintro e x' ⟨rfl, rfl⟩
                    go_wp2
                    go_roundw
                    case rel => exact ⟨j + 1, by omega, by go_num, K3.out⟩
                    case measure => simp [intOf]; omega
            · as_aux_lemma =>
                obtain rfl : j = n := by omega
                go_wp2_with fail
                refine (wakes6_any _ ((HBG1.out.kept HK0.out).kept HK.out) ((HOR1.out.kept HK0.out).kept HK.out)).mono ?_
                rintro e w10 ⟨rfl, k10⟩
                have K10 := Lib.hid (((HK2.out.trans HK0.out).trans HK.out).trans k10)
                clear k10
                go_wp2
                go_ret
                exact ⟨rfl, K10.out⟩
      · as_aux_lemma =>
          obtain ⟨a9, c9, rfl, hc9, hst⟩ := strs_own HO.out HTL.out (fun s q => by have := HTS.out s q; omega)
          have HCE0 := Lib.hid (hst.at)
          obtain ⟨w9, hw9⟩ : ∃ w9, w9 = wr := ⟨_, rfl⟩
          rw [← hw9] at HK HCE0 a0 ⊢
          clear hw9 hst HO
          go_wp2_with fail
          clear a0
          go_loopw [6] (fun i wx => ∃ j : Nat, j ≤ n ∧ i = .int .i64 j ∧ Kept w9 wx) (fun i _ => n - (intOf i).toNat)
          case atStart => exact ⟨0, by omega, rfl, Kept.refl _⟩
          case round =>
            obtain ⟨j, hj, rfl, hk9⟩ := hrel
            have HK0 := HK
            have HK := Lib.hid hk9
            clear hk9
            by_cases hjn : j < n
            · obtain ⟨b9, o9, rfl, hce⟩ := HCE0.out (by omega)
              have HCE := Lib.hid (hce j hjn)
              have hT6 : (ts.getD j ByteArray.empty).size ≤ 6000 := by
                have hl : j < ts.length := by rw [HTL.out]; exact hjn
                refine HTS.out _ ?_
                simp [List.getD, hl]
              generalize ts.getD j ByteArray.empty = T at HCE hT6
              clear hce
              by_cases h32 : T.size = 32
              · as_aux_lemma =>
                  have ht : tk T = none := tk_bad (by omega)
                  have HTA := Lib.hid (fun w (_ : Kept w9 w) => take_any T hT6 w)
                  have HUN := Lib.hid (fun w (_ : Kept w9 w) => unhex_any T w)
                  rw [ht] at HUN
                  have he : tkE T = 7 := by unfold tkE; rw [ht]
                  rw [he] at HTA
                  clear he ht
                  generalize tkB T = B0 at HTA HUN
                  have HHX := Lib.hid (fun w (_ : Kept w9 w) => hex_good T h32 w)
                  have HRH := Lib.hid (fun w (_ : Kept w9 w) => rhex_any T hT6 w)
                  generalize hexB T = X at HHX HRH
                  have hd1 : ((T.size : Int) == 32) = true := by rw [beq_iff_eq]; omega
                  have c0 := HCE.out wr HK.out
                  go_wp2_with fail
                  refine (HHX.out wr HK.out).mono ?_
                  rintro e x1 ⟨rfl, k1⟩
                  have K1 := Lib.hid (HK.out.trans k1)
                  have c1 := HCE.out x1 K1.out
                  clear k1
                  go_wp2_with fail
                  refine (HRH.out x1 K1.out).mono ?_
                  rintro e x2 ⟨rfl, k2⟩
                  have K2 := Lib.hid (K1.out.trans k2)
                  have c2 := HCE.out x2 K2.out
                  clear k2
                  go_wp2_with fail
                  refine (HTA.out x2 K2.out).mono ?_
                  rintro e x3 ⟨rfl, k3⟩
                  have K3 := Lib.hid (K2.out.trans k3)
                  have c3 := HCE.out x3 K3.out
                  clear k3
                  go_wp2_with fail
                  refine (HUN.out x3 K3.out).mono ?_
                  rintro e x4 ⟨rfl, k4⟩
                  have K4 := Lib.hid (K3.out.trans k4)
                  have c4 := HCE.out x4 K4.out
                  clear k4
                  go_wp2_with fail
                  refine (num6_any _ _).mono ?_
                  rintro e x' ⟨rfl, rfl⟩
                  go_wp2_with fail
                  refine (num6_any _ _).mono ?_
                  rintro e x' ⟨rfl, rfl⟩
                  go_wp2_with fail
                  refine (num6_any _ _).mono ?_
                  rintro e x' ⟨rfl, rfl⟩
                  go_wp2
                  go_roundw
                  case rel => exact ⟨j + 1, by omega, by go_num, K4.out⟩
                  case measure => simp [intOf]; omega
              · cases ht : tk T with
                | none =>
                  as_aux_lemma =>
                    have HTA := Lib.hid (fun w (_ : Kept w9 w) => take_any T hT6 w)
                    have HUN := Lib.hid (fun w (_ : Kept w9 w) => unhex_any T w)
                    rw [ht] at HUN
                    have he : tkE T = 7 := by unfold tkE; rw [ht]
                    rw [he] at HTA
                    clear he ht
                    generalize tkB T = B0 at HTA HUN
                    have HHX := Lib.hid (fun w (_ : Kept w9 w) => hex_bad T h32 w)
                    have hd1 : ((T.size : Int) == 32) = false := by rw [beq_eq_false_iff_ne]; omega
                    have c0 := HCE.out wr HK.out
                    go_wp2_with fail
                    refine (HHX.out wr HK.out).mono ?_
                    rintro e x1 ⟨rfl, k1⟩
                    have K1 := Lib.hid (HK.out.trans k1)
                    have c1 := HCE.out x1 K1.out
                    clear k1
                    go_wp2_with fail
                    refine (HTA.out x1 K1.out).mono ?_
                    rintro e x2 ⟨rfl, k2⟩
                    have K2 := Lib.hid (K1.out.trans k2)
                    have c2 := HCE.out x2 K2.out
                    clear k2
                    go_wp2_with fail
                    refine (HUN.out x2 K2.out).mono ?_
                    rintro e x3 ⟨rfl, k3⟩
                    have K3 := Lib.hid (K2.out.trans k3)
                    have c3 := HCE.out x3 K3.out
                    clear k3
                    go_wp2_with fail
                    refine (num6_any _ _).mono ?_
                    rintro e x' ⟨rfl, rfl⟩
                    go_wp2_with fail
                    refine (num6_any _ _).mono ?_
                    rintro e x' ⟨rfl, rfl⟩
                    go_wp2_with fail
                    refine (num6_any _ _).mono ?_
                    rintro e x' ⟨rfl, rfl⟩
                    go_wp2
                    go_roundw
                    case rel => exact ⟨j + 1, by omega, by go_num, K3.out⟩
                    case measure => simp [intOf]; omega
                | some L =>
                  as_aux_lemma =>
                    have HTA := Lib.hid (fun w (_ : Kept w9 w) => take_any T hT6 w)
                    have HUN := Lib.hid (fun w (_ : Kept w9 w) => unhex_any T w)
                    rw [ht] at HUN
                    have he : tkE T = 0 := by unfold tkE; rw [ht]
                    rw [he] at HTA
                    clear he ht
                    generalize tkB T = B0 at HTA HUN
                    have HHX := Lib.hid (fun w (_ : Kept w9 w) => hex_bad T h32 w)
                    have hd1 : ((T.size : Int) == 32) = false := by rw [beq_eq_false_iff_ne]; omega
                    have c0 := HCE.out wr HK.out
                    go_wp2_with fail
                    refine (HHX.out wr HK.out).mono ?_
                    rintro e x1 ⟨rfl, k1⟩
                    have K1 := Lib.hid (HK.out.trans k1)
                    have c1 := HCE.out x1 K1.out
                    clear k1
                    go_wp2_with fail
                    refine (HTA.out x1 K1.out).mono ?_
                    rintro e x2 ⟨rfl, k2⟩
                    have K2 := Lib.hid (K1.out.trans k2)
                    have c2 := HCE.out x2 K2.out
                    clear k2
                    go_wp2_with fail
                    refine (HUN.out x2 K2.out).mono ?_
                    rintro e x3 ⟨rfl, k3⟩
                    have K3 := Lib.hid (K2.out.trans k3)
                    have c3 := HCE.out x3 K3.out
                    clear k3
                    go_wp2_with fail
                    refine (num6_any _ _).mono ?_
                    rintro e x' ⟨rfl, rfl⟩
                    go_wp2_with fail
                    refine (num6_any _ _).mono ?_
                    rintro e x' ⟨rfl, rfl⟩
                    go_wp2
                    go_roundw
                    case rel => exact ⟨j + 1, by omega, by go_num, K3.out⟩
                    case measure => simp [intOf]; omega
            · as_aux_lemma =>
                obtain rfl : j = n := by omega
                go_wp2_with fail
                refine (wakes6_any _ ((HBG1.out.kept HK0.out).kept HK.out) ((HOR1.out.kept HK0.out).kept HK.out)).mono ?_
                rintro e w10 ⟨rfl, k10⟩
                have K10 := Lib.hid (((HK2.out.trans HK0.out).trans HK.out).trans k10)
                clear k10
                go_wp2
                go_ret
                exact ⟨rfl, K10.out⟩
end Go.Proofs.YtldfamccobcpjaaDoor
