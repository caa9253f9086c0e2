/- The reference's Name, by what it answers (a text of no great length). -/
import Derived.Test.YtjiefcjjgadjiaaDoorNm5
namespace Go.Proofs.YtjiefcjjgadjiaaDoor
open Go.RowKit Go.Shelf

theorem Tryd.infoStrN : (Tryd.prog.info? 9).map (fun i => (i.zero, i.size, i.bytes)) = some (some (.string ByteArray.empty), 1, 16) := by kernel_rfl
/-- a path's parts -/
noncomputable def pcLP (P : ByteArray) : List ByteArray := (List.range (cntN P.data.toList)).map (pcN P)
theorem pcLP_length (P : ByteArray) : (pcLP P).length = cntN P.data.toList := by simp [pcLP]
theorem pcLP_take (P : ByteArray) (k : Nat) (h : k < cntN P.data.toList) : ((pcLP P).take (k + 1)).map Value.string = ((pcLP P).take k).map Value.string ++ [Value.string (pcN P k)] := by
  rw [List.take_succ_eq_append_getElem (by rw [pcLP_length]; exact h), List.map_append]
  simp [pcLP]
theorem pcLP_size (P : ByteArray) : ∀ x ∈ pcLP P, x.size ≤ P.size := fun x hx => by
  unfold pcLP at hx
  rw [List.mem_map] at hx
  obtain ⟨i, _, rfl⟩ := hx
  exact pcN_size _ _
/-- a name's parts -/
noncomputable def pcL (s : ByteArray) : List ByteArray := pcLP (pathB s)
theorem nameB_ver (s : ByteArray) : nameB s = (decide (s.size ≤ 40) && (versB (verOf s).data.toList && goodP s)) := by
  unfold nameB verOf
  cases hh : hasB s with
  | true => rfl
  | false => rw [if_neg Bool.false_ne_true, show versB latB.data.toList = true from by decide]; rfl
theorem pathB_all (s : ByteArray) (h : hasB s = false) : pathB s = s := by
  unfold hasB at h
  have h1 := colN_le s.data.toList
  have h2 : colN s.data.toList = s.data.toList.length := by have := of_decide_eq_false h; omega
  unfold pathB
  rw [h2]
  apply ByteArray.ext
  apply Array.toList_inj.1
  rw [seg_of]
  unfold seg
  rw [List.drop_zero, Nat.sub_zero, List.take_of_length_le (Nat.le_refl _)]
/-- what the reference tells of a name: its parts, its version, whether it is one -/
def NameRP (ok : Bool) (P V : ByteArray) (e : Ending) (w' : World) : Prop :=
  (ok = true ∧ ∃ a cap, e = .returned (.tuple #[.slice a (cntN P.data.toList) cap, .string V, .bool true]) ∧ cntN P.data.toList ≤ cap ∧ StrsIn w' a (cntN P.data.toList) (pcLP P)) ∨
  (ok = false ∧ e = .returned (.tuple #[.slice none 0 0, .string ⟨#[]⟩, .bool false]))
def NameR (s : ByteArray) (e : Ending) (w' : World) : Prop := NameRP (nameB s) (pathB s) (verOf s) e w'
theorem col_in (s : ByteArray) (i : Nat) (h : i < colN s.data.toList) (hs : i < s.size) : ¬ s[i].toNat = 58 := fun e => by
  have h1 := takeWhile_at (fun c => !(c == 58)) s.data.toList i h
  have hq : (s[i] == (58 : UInt8)) = decide (s[i].toNat = 58) := byte_eq s[i] 58 (by omega)
  rw [← byte_of s i hs, hq, decide_eq_true e] at h1
  cases h1
theorem col_at (s : ByteArray) (h : colN s.data.toList < s.size) : (s[colN s.data.toList]'h).toNat = 58 := by
  have h1 := takeWhile_end (fun c => !(c == 58)) s.data.toList h
  have hq : ((s[colN s.data.toList]'h) == (58 : UInt8)) = decide ((s[colN s.data.toList]'h).toNat = 58) := byte_eq _ 58 (by omega)
  have h2 := byte_of s _ h
  unfold colN at h2 hq h ⊢
  rw [← h2, hq] at h1
  simpa using h1
set_option maxRecDepth 100000 in
set_option maxHeartbeats 8000000 in
theorem name_ref (s : ByteArray) (w : World) (hs : s.size ≤ 1000000) : Calls Tryd.prog 9 #[.string s] w fun e w' => NameR s e w' ∧ Kept w w' := by
  have HNV := Lib.hid (nameB_ver s)
  by_cases h40 : s.size ≤ 40
  · have hd1 : decide ((40 : Int) < s.size) = false := decide_eq_false (by omega)
    have HNW := Lib.hid (show nameB s = (versB (verOf s).data.toList && goodP s) by rw [HNV.out, decide_eq_true h40]; rfl)
    have HPS := Lib.hid (show (pathB s).size ≤ 40 from Nat.le_trans (pathB_size s) h40)
    have HVS := Lib.hid (show (verOf s).size ≤ 40 from by
      unfold verOf
      split
      · exact Nat.le_trans (rawV_size s) h40
      · decide)
    have HCI := Lib.hid (col_in s)
    have HCA := Lib.hid (col_at s)
    have hcl : colN s.data.toList ≤ s.size := colN_le s.data.toList
    have HHB := Lib.hid (show hasB s = decide (colN s.data.toList < s.size) from rfl)
    have HPB := Lib.hid (show pathB s = s.extract 0 (colN s.data.toList) from rfl)
    have HRV := Lib.hid (show hasB s = true → verOf s = s.extract (colN s.data.toList + 1) s.size from fun h => by unfold verOf rawV; rw [if_pos h, if_pos h])
    have HVL := Lib.hid (show hasB s = false → verOf s = latB from fun h => by unfold verOf; rw [if_neg (by rw [h]; exact Bool.false_ne_true)])
    have HPA := Lib.hid (pathB_all s)
    generalize hcn : colN s.data.toList = cn at *
    clear hcn
    obtain ⟨i0, hi, hz0, hz1, hz2⟩ := info_parts Tryd.infoStrN
    have HI := Lib.hid (And.intro hi (And.intro hz0 (And.intro hz1 hz2)))
    clear hi hz0 hz1 hz2
    go_enter Tryd.func9, Tryd.ntmps9
    go_wp2_with fail
    go_loopw [5, 6, 7] (fun v h i wr => ∃ i' : Nat, i' ≤ cn ∧ i = .int .i64 i' ∧ v = .string latB ∧ h = .string s ∧ w = wr) (fun _ _ i _ => s.size - (intOf i).toNat)
    case atStart => exact ⟨0, by omega, rfl, rfl, rfl, by trivial⟩
    case round =>
      obtain ⟨i, hin, rfl, rfl, rfl, rfl⟩ := hrel
      by_cases hlt : i < s.size
      · have hd2 : decide (i < s.size) = true := decide_eq_true hlt
        by_cases hic : i < cn
        · have hb : ((s[i].toNat : Int) == 58) = false := beq_eq_false_iff_ne.2 (by have := HCI.out i hic hlt; omega)
          go_wp2
          go_roundw
          case rel => exact ⟨i + 1, by omega, by go_num, rfl, rfl, by trivial⟩
          case measure => simp [intOf]; omega
        · obtain rfl : i = cn := by omega
          have hb : ((s[i].toNat : Int) == 58) = true := beq_iff_eq.2 (by have := HCA.out hlt; omega)
          have hhb : hasB s = true := by rw [HHB.out]; exact decide_eq_true hlt
          have hpe := HPB.out
          have hve := HRV.out hhb
          have hi1 : (i : Int) + 1 = ((i + 1 : Nat) : Int) := by omega
          obtain ⟨j, hj⟩ : ∃ j, j = i + 1 := ⟨_, rfl⟩
          rw [← hj] at hi1 hve
          have hjs : j ≤ s.size := by omega
          have hpe' := hpe.symm
          have hve' := hve.symm
          have HJ := Lib.hid hj
          have HNR := Lib.hid (fun e w' (h : NameRP (nameB s) (pathB s) (verOf s) e w') => show NameR s e w' from h)
          have HGD := Lib.hid (show goodP s = goodTo (pathB s).data.toList (cntN (pathB s).data.toList) from rfl)
          clear hj hpe hve hhb hin
          go_wp2_with fail
          go_quiet (fail)
          clear hpe' hve' hi1 hb
          have kq : Kept w (w.drewN nq) := (Kept.refl _).drewN nq
          have HKq := Lib.hid kq
          clear kq
          generalize w.drewN nq = wq at *
          have HN1 := Lib.hid (cntN_le (pathB s).data.toList)
          have HLS := Lib.hid (show (pathB s).data.toList.length = (pathB s).size from rfl)
          go_wp2_with fail
          go_loopw [8, 9, 10] (fun l f i wr => ∃ k i' : Nat, f = .int .i64 (posN (pathB s).data.toList k : Nat) ∧ i = .int .i64 i' ∧ ((k < cntN (pathB s).data.toList ∧ posN (pathB s).data.toList k ≤ i' ∧ i' ≤ segEnd (pathB s).data.toList (posN (pathB s).data.toList k)) ∨ (k = cntN (pathB s).data.toList ∧ i' = (pathB s).size + 1)) ∧ goodTo (pathB s).data.toList k = true ∧ wr.ownsRow wq.heap.size 9 1 l k (((pcLP (pathB s)).take k).map Value.string) ∧ Kept wq wr) (fun _ _ i _ => (pathB s).size + 2 - (intOf i).toNat)
          case atStart => exact ⟨0, 0, rfl, rfl, .inl ⟨cntN_pos _, Nat.le_refl _, Nat.zero_le _⟩, rfl, World.ownsRow_nil _ _ _ _, Kept.refl _⟩
          case round =>
            obtain ⟨k, i, rfl, rfl, hki, hgt, hown, hkr⟩ := hrel
            have HGT := Lib.hid hgt
            have HO := Lib.hid hown
            have HKr := Lib.hid hkr
            clear hgt hown hkr
            have hps := HPS.out
            rcases hki with ⟨hkn, hpi, hie⟩ | ⟨rfl, rfl⟩
            · have hpl := (cntN_lt (pathB s).data.toList k).1 hkn
              have hes := segEnd_le (pathB s).data.toList _ hpl
              rw [HLS.out] at hpl hes
              have hk40 : k ≤ 41 := by have := HN1.out; rw [HLS.out] at this; omega
              have HKN := Lib.hid hkn
              have HIN := Lib.hid (fun j (h1 : posN (pathB s).data.toList k ≤ j) (h2 : j < segEnd (pathB s).data.toList (posN (pathB s).data.toList k)) (hj : j < (pathB s).size) => show ¬ (pathB s)[j].toNat = 47 from fun e => by
                have h3 := seg_in (pathB s).data.toList _ j h1 h2
                have hq : ((pathB s)[j] == (47 : UInt8)) = decide ((pathB s)[j].toNat = 47) := byte_eq (pathB s)[j] 47 (by omega)
                rw [← byte_of (pathB s) j hj, hq, decide_eq_true e] at h3
                cases h3)
              have HAT := Lib.hid (fun (h2 : segEnd (pathB s).data.toList (posN (pathB s).data.toList k) < (pathB s).size) => show ((pathB s)[segEnd (pathB s).data.toList (posN (pathB s).data.toList k)]'h2).toNat = 47 from by
                have h3 := seg_at (pathB s).data.toList _ (by rw [HLS.out]; exact hpl) h2
                have hq : (((pathB s)[segEnd (pathB s).data.toList (posN (pathB s).data.toList k)]'h2) == (47 : UInt8)) = decide (((pathB s)[segEnd (pathB s).data.toList (posN (pathB s).data.toList k)]'h2).toNat = 47) := byte_eq _ 47 (by omega)
                rw [← byte_of (pathB s) _ h2, hq] at h3
                exact of_decide_eq_true h3)
              have HPC0 := Lib.hid (show pcN (pathB s) k = (pathB s).extract (posN (pathB s).data.toList k) (segEnd (pathB s).data.toList (posN (pathB s).data.toList k)) from rfl)
              have HPT0 := Lib.hid (fun w => part_ref (pcN (pathB s) k) w (by have := pcN_size (pathB s) k; omega))
              have HSU0 := Lib.hid (posN_succ (pathB s).data.toList k)
              have HNX0 := Lib.hid (show (k + 1 < cntN (pathB s).data.toList ∧ posN (pathB s).data.toList (k + 1) ≤ segEnd (pathB s).data.toList (posN (pathB s).data.toList k) + 1 ∧ segEnd (pathB s).data.toList (posN (pathB s).data.toList k) + 1 ≤ segEnd (pathB s).data.toList (posN (pathB s).data.toList (k + 1))) ∨ (k + 1 = cntN (pathB s).data.toList ∧ segEnd (pathB s).data.toList (posN (pathB s).data.toList k) + 1 = (pathB s).size + 1) from by
                have h1 := cntN_lt (pathB s).data.toList (k + 1)
                rw [posN_succ, HLS.out] at h1
                have h2 := segEnd_ge (pathB s).data.toList (segEnd (pathB s).data.toList (posN (pathB s).data.toList k) + 1)
                rw [posN_succ]
                by_cases h : segEnd (pathB s).data.toList (posN (pathB s).data.toList k) + 1 ≤ (pathB s).size
                · exact .inl ⟨h1.2 h, Nat.le_refl _, h2⟩
                · refine .inr ⟨?_, by omega⟩
                  have : ¬ k + 1 < cntN (pathB s).data.toList := fun e => h (h1.1 e)
                  omega)
              rw [pcN_list] at HPT0
              have HPF := Lib.hid (show ∀ f, posN (pathB s).data.toList k = f → posN (pathB s).data.toList k = f from fun _ h => h)
              obtain ⟨f, hf⟩ : ∃ f, posN (pathB s).data.toList k = f := ⟨_, rfl⟩
              have HFE := Lib.hid hf
              rw [hf] at HIN HAT HPC0 HSU0 HNX0 hpi hie hes hpl ⊢
              obtain ⟨E, hE⟩ : ∃ E, segEnd (pathB s).data.toList f = E := ⟨_, rfl⟩
              have HEE := Lib.hid hE
              rw [hE] at HIN HPC0 HSU0 HNX0 hie hes
              have HAT2 := Lib.hid (show ∀ (h2 : E < (pathB s).size), ((pathB s)[E]'h2).toNat = 47 from by subst hE; exact HAT.out)
              rw [HPC0.out] at HPT0
              clear hf hE HAT hkn HPF
              have hd3 : decide (i ≤ (pathB s).size) = true := decide_eq_true (by omega)
              by_cases hiE : i < E
              · have hil : i < (pathB s).size := by omega
                have hb := HIN.out i hpi hiE hil
                have hb1 : (((pathB s)[i].toNat : Int) == 47) = false := beq_eq_false_iff_ne.2 (by omega)
                have hne : ((i : Int) == ((pathB s).size : Int)) = false := beq_eq_false_iff_ne.2 (by omega)
                clear hb
                go_wp2
                go_roundw
                case rel => exact ⟨k, i + 1, by rw [HFE.out], by go_num, .inl ⟨HKN.out, by rw [HFE.out]; omega, by rw [HFE.out, HEE.out]; omega⟩, HGT.out, HO.out, HKr.out⟩
                case measure => simp [intOf]; omega
              · obtain rfl : i = E := by omega
                have HPT := HPT0
                have HPC := HPC0
                have HSU := HSU0
                have HNX := HNX0
                by_cases hiS : i = (pathB s).size
                · have hne : ((i : Int) == ((pathB s).size : Int)) = true := beq_iff_eq.2 (by omega)
                  clear hiS HPT0 HPC0 HSU0 HNX0
                  go_wp2_with fail
                  refine (HPT.out _).mono ?_
                  rintro e w' ⟨rfl, rfl⟩
                  cases hpb : partB (pieceAt (pathB s).data.toList k) with
                  | false =>
                    have HB := Lib.hid (show nameB s = false by rw [HNW.out, HGD.out, goodTo_bad _ k hpb _ HKN.out, Bool.and_false])
                    go_wp2
                    go_ret3
                    exact ⟨HNR.out _ _ (.inr ⟨HB.out, rfl⟩), HKq.out.trans HKr.out⟩
                  | true =>
                    have HGN := Lib.hid (show goodTo (pathB s).data.toList (k + 1) = true by rw [goodTo_succ, HGT.out, hpb]; rfl)
                    go_wp2_with (at_builtin; refine wpList_append_own_at _ rfl _ _ 22 rfl wq.heap.size 9 i0 (.string ByteArray.empty) 1 16 Tryd.underlying22 HI.out.1 HI.out.2.1 HI.out.2.2.1 HI.out.2.2.2 rfl (by decide) _ _ _ rfl (HO.out.alloc _) ⟨wr.heap.size, 0, none⟩ 1 1 [.string ((pathB s).extract f i)] rfl rfl ?c1 ?c2 ?c3 ?c4 ?c5 ?_)
                    case c1 =>
                      intro j' u hj'
                      match j', hj' with
                      | 0, hj' => simp at hj'; subst hj'; simp [Addr.add]
                    case c2 => intro u hu; simp at hu; subst hu; rfl
                    case c3 => unfold maxLen; omega
                    case c4 => omega
                    case c5 => have := HKr.out.size; simp; omega
                    intro v' w9 hown9 hgrow _ _
                    have HO9 := Lib.hid hown9
                    have HK9 := Lib.hid (show Kept wq w9 from kept_gr1 (HKr.out.alloc (.cells #[.string ((pathB s).extract f i)] 9)) hgrow (fun g e => (HO.out.lt g e).1) (Nat.le_refl _))
                    clear hown9 hgrow
                    go_wp2
                    go_roundw
                    case rel => exact ⟨k + 1, i + 1, by rw [HSU.out]; go_num, by go_num, HNX.out, HGN.out, by rw [pcLP_take (pathB s) k HKN.out, HPC.out, List.map_take]; exact HO9.out, HK9.out⟩
                    case measure => simp [intOf]; omega
                · have hil : i < (pathB s).size := by omega
                  have hb := HAT2.out hil
                  have hb1 : (((pathB s)[i].toNat : Int) == 47) = true := beq_iff_eq.2 (by omega)
                  have hne : ((i : Int) == ((pathB s).size : Int)) = false := beq_eq_false_iff_ne.2 (by omega)
                  clear hb hiS HPT0 HPC0 HSU0 HNX0
                  go_wp2_with fail
                  refine (HPT.out _).mono ?_
                  rintro e w' ⟨rfl, rfl⟩
                  cases hpb : partB (pieceAt (pathB s).data.toList k) with
                  | false =>
                    have HB := Lib.hid (show nameB s = false by rw [HNW.out, HGD.out, goodTo_bad _ k hpb _ HKN.out, Bool.and_false])
                    go_wp2
                    go_ret3
                    exact ⟨HNR.out _ _ (.inr ⟨HB.out, rfl⟩), HKq.out.trans HKr.out⟩
                  | true =>
                    have HGN := Lib.hid (show goodTo (pathB s).data.toList (k + 1) = true by rw [goodTo_succ, HGT.out, hpb]; rfl)
                    go_wp2_with (at_builtin; refine wpList_append_own_at _ rfl _ _ 22 rfl wq.heap.size 9 i0 (.string ByteArray.empty) 1 16 Tryd.underlying22 HI.out.1 HI.out.2.1 HI.out.2.2.1 HI.out.2.2.2 rfl (by decide) _ _ _ rfl (HO.out.alloc _) ⟨wr.heap.size, 0, none⟩ 1 1 [.string ((pathB s).extract f i)] rfl rfl ?c1 ?c2 ?c3 ?c4 ?c5 ?_)
                    case c1 =>
                      intro j' u hj'
                      match j', hj' with
                      | 0, hj' => simp at hj'; subst hj'; simp [Addr.add]
                    case c2 => intro u hu; simp at hu; subst hu; rfl
                    case c3 => unfold maxLen; omega
                    case c4 => omega
                    case c5 => have := HKr.out.size; simp; omega
                    intro v' w9 hown9 hgrow _ _
                    have HO9 := Lib.hid hown9
                    have HK9 := Lib.hid (show Kept wq w9 from kept_gr1 (HKr.out.alloc (.cells #[.string ((pathB s).extract f i)] 9)) hgrow (fun g e => (HO.out.lt g e).1) (Nat.le_refl _))
                    clear hown9 hgrow
                    go_wp2
                    go_roundw
                    case rel => exact ⟨k + 1, i + 1, by rw [HSU.out]; go_num, by go_num, HNX.out, HGN.out, by rw [pcLP_take (pathB s) k HKN.out, HPC.out, List.map_take]; exact HO9.out, HK9.out⟩
                    case measure => simp [intOf]; omega
            · obtain ⟨z, hz⟩ : ∃ z, z = (pathB s).size + 1 := ⟨_, rfl⟩
              rw [← hz]
              have hd3 : decide (z ≤ (pathB s).size) = false := decide_eq_false (by omega)
              have HGP := Lib.hid (show goodP s = true by rw [HGD.out]; exact HGT.out)
              have hown := HO.out
              rw [List.take_of_length_le (by rw [pcLP_length]; exact Nat.le_refl _)] at hown
              obtain ⟨a', cap', rfl, hcl, hst⟩ := strs_own hown (pcLP_length (pathB s)) (fun x hx => by have := pcLP_size (pathB s) x hx; omega)
              have HST := Lib.hid hst
              have HVR := Lib.hid (fun w => version_ref (verOf s) w (by have := HVS.out; omega))
              clear hown hst hz
              go_wp2_with fail
              refine (HVR.out _).mono ?_
              rintro e w' ⟨rfl, rfl⟩
              cases hvb : versB (verOf s).data.toList with
              | false =>
                have HB := Lib.hid (show nameB s = false by rw [HNW.out, hvb]; rfl)
                go_wp2
                go_ret3
                exact ⟨HNR.out _ _ (.inr ⟨HB.out, rfl⟩), HKq.out.trans HKr.out⟩
              | true =>
                have HB := Lib.hid (show nameB s = true by rw [HNW.out, hvb, HGP.out]; rfl)
                go_wp2
                go_ret3
                exact ⟨HNR.out _ _ (.inl ⟨HB.out, _, _, rfl, hcl, HST.out⟩), HKq.out.trans HKr.out⟩
      · obtain rfl : i = s.size := by omega
        have hd2 : decide (s.size < s.size) = false := decide_eq_false (by omega)
        have hhb : hasB s = false := by rw [HHB.out]; exact decide_eq_false (by omega)
        have hpe := HPA.out hhb
        have hve := HVL.out hhb
        have HNR := Lib.hid (fun e w' (h : NameRP (nameB s) s latB e w') => show NameR s e w' from by unfold NameR; rw [hpe, hve]; exact h)
        have HGD := Lib.hid (show goodP s = goodTo s.data.toList (cntN s.data.toList) from by unfold goodP; rw [hpe])
        rw [hpe] at HPS
        rw [hve] at HNW HVS
        clear hpe hve hhb
        have HKq := Lib.hid (Kept.refl w)
        obtain ⟨wq, rfl⟩ : ∃ wq, wq = w := ⟨_, rfl⟩
        have HN1 := Lib.hid (cntN_le s.data.toList)
        have HLS := Lib.hid (show s.data.toList.length = s.size from rfl)
        go_wp2_with fail
        go_loopw [8, 9, 10] (fun l f i wr => ∃ k i' : Nat, f = .int .i64 (posN s.data.toList k : Nat) ∧ i = .int .i64 i' ∧ ((k < cntN s.data.toList ∧ posN s.data.toList k ≤ i' ∧ i' ≤ segEnd s.data.toList (posN s.data.toList k)) ∨ (k = cntN s.data.toList ∧ i' = s.size + 1)) ∧ goodTo s.data.toList k = true ∧ wr.ownsRow wq.heap.size 9 1 l k (((pcLP s).take k).map Value.string) ∧ Kept wq wr) (fun _ _ i _ => s.size + 2 - (intOf i).toNat)
        case atStart => exact ⟨0, 0, rfl, rfl, .inl ⟨cntN_pos _, Nat.le_refl _, Nat.zero_le _⟩, rfl, World.ownsRow_nil _ _ _ _, Kept.refl _⟩
        case round =>
          obtain ⟨k, i, rfl, rfl, hki, hgt, hown, hkr⟩ := hrel
          have HGT := Lib.hid hgt
          have HO := Lib.hid hown
          have HKr := Lib.hid hkr
          clear hgt hown hkr
          have hps := HPS.out
          rcases hki with ⟨hkn, hpi, hie⟩ | ⟨rfl, rfl⟩
          · have hpl := (cntN_lt s.data.toList k).1 hkn
            have hes := segEnd_le s.data.toList _ hpl
            rw [HLS.out] at hpl hes
            have hk40 : k ≤ 41 := by have := HN1.out; rw [HLS.out] at this; omega
            have HKN := Lib.hid hkn
            have HIN := Lib.hid (fun j (h1 : posN s.data.toList k ≤ j) (h2 : j < segEnd s.data.toList (posN s.data.toList k)) (hj : j < s.size) => show ¬ s[j].toNat = 47 from fun e => by
              have h3 := seg_in s.data.toList _ j h1 h2
              have hq : (s[j] == (47 : UInt8)) = decide (s[j].toNat = 47) := byte_eq s[j] 47 (by omega)
              rw [← byte_of s j hj, hq, decide_eq_true e] at h3
              cases h3)
            have HAT := Lib.hid (fun (h2 : segEnd s.data.toList (posN s.data.toList k) < s.size) => show (s[segEnd s.data.toList (posN s.data.toList k)]'h2).toNat = 47 from by
              have h3 := seg_at s.data.toList _ (by rw [HLS.out]; exact hpl) h2
              have hq : ((s[segEnd s.data.toList (posN s.data.toList k)]'h2) == (47 : UInt8)) = decide ((s[segEnd s.data.toList (posN s.data.toList k)]'h2).toNat = 47) := byte_eq _ 47 (by omega)
              rw [← byte_of s _ h2, hq] at h3
              exact of_decide_eq_true h3)
            have HPC0 := Lib.hid (show pcN s k = s.extract (posN s.data.toList k) (segEnd s.data.toList (posN s.data.toList k)) from rfl)
            have HPT0 := Lib.hid (fun w => part_ref (pcN s k) w (by have := pcN_size s k; omega))
            have HSU0 := Lib.hid (posN_succ s.data.toList k)
            have HNX0 := Lib.hid (show (k + 1 < cntN s.data.toList ∧ posN s.data.toList (k + 1) ≤ segEnd s.data.toList (posN s.data.toList k) + 1 ∧ segEnd s.data.toList (posN s.data.toList k) + 1 ≤ segEnd s.data.toList (posN s.data.toList (k + 1))) ∨ (k + 1 = cntN s.data.toList ∧ segEnd s.data.toList (posN s.data.toList k) + 1 = s.size + 1) from by
              have h1 := cntN_lt s.data.toList (k + 1)
              rw [posN_succ, HLS.out] at h1
              have h2 := segEnd_ge s.data.toList (segEnd s.data.toList (posN s.data.toList k) + 1)
              rw [posN_succ]
              by_cases h : segEnd s.data.toList (posN s.data.toList k) + 1 ≤ s.size
              · exact .inl ⟨h1.2 h, Nat.le_refl _, h2⟩
              · refine .inr ⟨?_, by omega⟩
                have : ¬ k + 1 < cntN s.data.toList := fun e => h (h1.1 e)
                omega)
            rw [pcN_list] at HPT0
            have HPF := Lib.hid (show ∀ f, posN s.data.toList k = f → posN s.data.toList k = f from fun _ h => h)
            obtain ⟨f, hf⟩ : ∃ f, posN s.data.toList k = f := ⟨_, rfl⟩
            have HFE := Lib.hid hf
            rw [hf] at HIN HAT HPC0 HSU0 HNX0 hpi hie hes hpl ⊢
            obtain ⟨E, hE⟩ : ∃ E, segEnd s.data.toList f = E := ⟨_, rfl⟩
            have HEE := Lib.hid hE
            rw [hE] at HIN HPC0 HSU0 HNX0 hie hes
            have HAT2 := Lib.hid (show ∀ (h2 : E < s.size), (s[E]'h2).toNat = 47 from by subst hE; exact HAT.out)
            rw [HPC0.out] at HPT0
            clear hf hE HAT hkn HPF
            have hd3 : decide (i ≤ s.size) = true := decide_eq_true (by omega)
            by_cases hiE : i < E
            · have hil : i < s.size := by omega
              have hb := HIN.out i hpi hiE hil
              have hb1 : ((s[i].toNat : Int) == 47) = false := beq_eq_false_iff_ne.2 (by omega)
              have hne : ((i : Int) == (s.size : Int)) = false := beq_eq_false_iff_ne.2 (by omega)
              clear hb
              go_wp2
              go_roundw
              case rel => exact ⟨k, i + 1, by rw [HFE.out], by go_num, .inl ⟨HKN.out, by rw [HFE.out]; omega, by rw [HFE.out, HEE.out]; omega⟩, HGT.out, HO.out, HKr.out⟩
              case measure => simp [intOf]; omega
            · obtain rfl : i = E := by omega
              have HPT := HPT0
              have HPC := HPC0
              have HSU := HSU0
              have HNX := HNX0
              by_cases hiS : i = s.size
              · have hne : ((i : Int) == (s.size : Int)) = true := beq_iff_eq.2 (by omega)
                clear hiS HPT0 HPC0 HSU0 HNX0
                go_wp2_with fail
                refine (HPT.out _).mono ?_
                rintro e w' ⟨rfl, rfl⟩
                cases hpb : partB (pieceAt s.data.toList k) with
                | false =>
                  have HB := Lib.hid (show nameB s = false by rw [HNW.out, HGD.out, goodTo_bad _ k hpb _ HKN.out, Bool.and_false])
                  go_wp2
                  go_ret3
                  exact ⟨HNR.out _ _ (.inr ⟨HB.out, rfl⟩), HKq.out.trans HKr.out⟩
                | true =>
                  have HGN := Lib.hid (show goodTo s.data.toList (k + 1) = true by rw [goodTo_succ, HGT.out, hpb]; rfl)
                  go_wp2_with (at_builtin; refine wpList_append_own_at _ rfl _ _ 22 rfl wq.heap.size 9 i0 (.string ByteArray.empty) 1 16 Tryd.underlying22 HI.out.1 HI.out.2.1 HI.out.2.2.1 HI.out.2.2.2 rfl (by decide) _ _ _ rfl (HO.out.alloc _) ⟨wr.heap.size, 0, none⟩ 1 1 [.string (s.extract f i)] rfl rfl ?c1 ?c2 ?c3 ?c4 ?c5 ?_)
                  case c1 =>
                    intro j' u hj'
                    match j', hj' with
                    | 0, hj' => simp at hj'; subst hj'; simp [Addr.add]
                  case c2 => intro u hu; simp at hu; subst hu; rfl
                  case c3 => unfold maxLen; omega
                  case c4 => omega
                  case c5 => have := HKr.out.size; simp; omega
                  intro v' w9 hown9 hgrow _ _
                  have HO9 := Lib.hid hown9
                  have HK9 := Lib.hid (show Kept wq w9 from kept_gr1 (HKr.out.alloc (.cells #[.string (s.extract f i)] 9)) hgrow (fun g e => (HO.out.lt g e).1) (Nat.le_refl _))
                  clear hown9 hgrow
                  go_wp2
                  go_roundw
                  case rel => exact ⟨k + 1, i + 1, by rw [HSU.out]; go_num, by go_num, HNX.out, HGN.out, by rw [pcLP_take s k HKN.out, HPC.out, List.map_take]; exact HO9.out, HK9.out⟩
                  case measure => simp [intOf]; omega
              · have hil : i < s.size := by omega
                have hb := HAT2.out hil
                have hb1 : ((s[i].toNat : Int) == 47) = true := beq_iff_eq.2 (by omega)
                have hne : ((i : Int) == (s.size : Int)) = false := beq_eq_false_iff_ne.2 (by omega)
                clear hb hiS HPT0 HPC0 HSU0 HNX0
                go_wp2_with fail
                refine (HPT.out _).mono ?_
                rintro e w' ⟨rfl, rfl⟩
                cases hpb : partB (pieceAt s.data.toList k) with
                | false =>
                  have HB := Lib.hid (show nameB s = false by rw [HNW.out, HGD.out, goodTo_bad _ k hpb _ HKN.out, Bool.and_false])
                  go_wp2
                  go_ret3
                  exact ⟨HNR.out _ _ (.inr ⟨HB.out, rfl⟩), HKq.out.trans HKr.out⟩
                | true =>
                  have HGN := Lib.hid (show goodTo s.data.toList (k + 1) = true by rw [goodTo_succ, HGT.out, hpb]; rfl)
                  go_wp2_with (at_builtin; refine wpList_append_own_at _ rfl _ _ 22 rfl wq.heap.size 9 i0 (.string ByteArray.empty) 1 16 Tryd.underlying22 HI.out.1 HI.out.2.1 HI.out.2.2.1 HI.out.2.2.2 rfl (by decide) _ _ _ rfl (HO.out.alloc _) ⟨wr.heap.size, 0, none⟩ 1 1 [.string (s.extract f i)] rfl rfl ?c1 ?c2 ?c3 ?c4 ?c5 ?_)
                  case c1 =>
                    intro j' u hj'
                    match j', hj' with
                    | 0, hj' => simp at hj'; subst hj'; simp [Addr.add]
                  case c2 => intro u hu; simp at hu; subst hu; rfl
                  case c3 => unfold maxLen; omega
                  case c4 => omega
                  case c5 => have := HKr.out.size; simp; omega
                  intro v' w9 hown9 hgrow _ _
                  have HO9 := Lib.hid hown9
                  have HK9 := Lib.hid (show Kept wq w9 from kept_gr1 (HKr.out.alloc (.cells #[.string (s.extract f i)] 9)) hgrow (fun g e => (HO.out.lt g e).1) (Nat.le_refl _))
                  clear hown9 hgrow
                  go_wp2
                  go_roundw
                  case rel => exact ⟨k + 1, i + 1, by rw [HSU.out]; go_num, by go_num, HNX.out, HGN.out, by rw [pcLP_take s k HKN.out, HPC.out, List.map_take]; exact HO9.out, HK9.out⟩
                  case measure => simp [intOf]; omega
          · obtain ⟨z, hz⟩ : ∃ z, z = s.size + 1 := ⟨_, rfl⟩
            rw [← hz]
            have hd3 : decide (z ≤ s.size) = false := decide_eq_false (by omega)
            have HGP := Lib.hid (show goodP s = true by rw [HGD.out]; exact HGT.out)
            have hown := HO.out
            rw [List.take_of_length_le (by rw [pcLP_length]; exact Nat.le_refl _)] at hown
            obtain ⟨a', cap', rfl, hcl, hst⟩ := strs_own hown (pcLP_length s) (fun x hx => by have := pcLP_size s x hx; omega)
            have HST := Lib.hid hst
            have HVR := Lib.hid (fun w => version_ref latB w (by have := HVS.out; omega))
            clear hown hst hz
            go_wp2_with fail
            refine (HVR.out _).mono ?_
            rintro e w' ⟨rfl, rfl⟩
            cases hvb : versB latB.data.toList with
            | false =>
              have HB := Lib.hid (show nameB s = false by rw [HNW.out, hvb]; rfl)
              go_wp2
              go_ret3
              exact ⟨HNR.out _ _ (.inr ⟨HB.out, rfl⟩), HKq.out.trans HKr.out⟩
            | true =>
              have HB := Lib.hid (show nameB s = true by rw [HNW.out, hvb, HGP.out]; rfl)
              go_wp2
              go_ret3
              exact ⟨HNR.out _ _ (.inl ⟨HB.out, _, _, rfl, hcl, HST.out⟩), HKq.out.trans HKr.out⟩
  · have hd1 : decide ((40 : Int) < s.size) = true := decide_eq_true (by omega)
    have hb : nameB s = false := by rw [HNV.out, decide_eq_false h40]; rfl
    have HB := Lib.hid hb
    clear hb HNV
    go_enter Tryd.func9, Tryd.ntmps9
    go_wp2
    go_ret3
    exact ⟨show NameRP _ _ _ _ _ from .inr ⟨HB.out, rfl⟩, Kept.refl _⟩
end Go.Proofs.YtjiefcjjgadjiaaDoor
