/- Contracts of the code and of the reference, laid into one file: part 9 (what each says stands at its head). -/
import Derived.Test.YtoonpnpooljmlaaQa8
import Derived.Deep.Cut

namespace Go.Proofs.Ytoonpnpooljmlaa
open Go.RowKit Go.Shelf
attribute [local go_sem] Oper.semAt_some

theorem appS_size (F : Nat → Nat → Nat) (ss : List ByteArray) (r c q : Nat) (h0 : (ss.getD 0 ByteArray.empty).size = q) (j : Nat) (hj : j < r) : ((appS F ss r c).getD j ByteArray.empty).size = q := by
  rw [appS_getD _ _ _ _ _ hj, appTo_size, h0]
set_option maxRecDepth 100000 in
set_option maxHeartbeats 1000000 in
theorem rencode_any (K M H s : Nat) (hH : H = K + M) (hK : 1 ≤ K ∧ K ≤ 8 ∧ M ≤ 6) (hs : s ≤ 120) (al : Option Addr) (cl : Nat) (ss : List ByteArray) (w : World) (hl : StrsIn w al K ss) (hsz : ∀ j, j < K → (ss.getD j ByteArray.empty).size = s) :
    Calls Try.prog 21 #[.agg #[.int .i64 K, .int .i64 M, .int .i64 s], .slice al K cl] w fun e w' => ∃ a k, e = .returned (.slice a H k) ∧ H ≤ k ∧ StrsIn w' a H (appS (genF K) ss H K) ∧ Kept w w' := by
  have HL := Lib.hid hl
  have HSZ := Lib.hid hsz
  have HH := Lib.hid hH
  have HK0 := Lib.hid ((Kept.refl w).alloc (.cells #[.int .i64 K, .int .i64 M, .int .i64 s] 29))
  have HB0 := Lib.hid (BlockAt.new w #[.int .i64 K, .int .i64 M, .int .i64 s] 29)
  clear hl hsz hH
  go_enter Try.func21, Try.ntmps21
  obtain ⟨c1, c2, c3⟩ := box3 HB0.out
  go_wp2_with fail
  refine (rmatrix_any K M H s HH.out hK _).mono ?_
  rintro e w1 ⟨g, rfl, -, hm, hk1⟩
  have HM := Lib.hid hm
  have HK := Lib.hid (HK0.out.trans hk1)
  clear hm hk1 c1 c2 c3
  go_wp2_with fail
  refine (rapply H K g 0 (H * K) s cl al ss (genF K) (by have := HH.out; omega) ⟨by omega, by omega⟩ (genF_bt K) (by omega) _ HM.out.cell (HL.out.kept HK.out) HSZ.out).mono ?_
  rintro e w2 ⟨a, k, rfl, hk, hs2, hk2⟩
  have HS := Lib.hid hs2
  have HK2 := Lib.hid (HK.out.trans hk2)
  clear hs2 hk2
  go_wp2
  go_ret
  exact ⟨a, k, rfl, hk, HS.out, HK2.out⟩
theorem lst_stay {T : Nat → Bool} {K n : Nat} (h : ¬ (lst T K n).length < K) : ∀ m, lst T K (n + m) = lst T K n
  | 0 => rfl
  | m + 1 => by
    have ih := lst_stay h m
    rw [show n + (m + 1) = (n + m) + 1 by omega, lst_full (by rw [ih]; exact h), ih]
set_option maxRecDepth 100000 in
set_option maxHeartbeats 4000000 in
theorem rrebuild_any (K M H s : Nat) (hH : H = K + M) (hK : 1 ≤ K ∧ K ≤ 8 ∧ M ≤ 6) (hs : 1 ≤ s ∧ s ≤ 120) (al ab : Option Addr) (cl cb : Nat) (ss : List ByteArray) (T : Nat → Bool) (wo : World) (hl : StrsIn wo al H ss) (hb : BoolsIn wo ab H T) (h : sizedT ss H s T = true) :
    Calls Try.prog 27 #[.agg #[.int .i64 K, .int .i64 M, .int .i64 s], .slice al H cl, .slice ab H cb] wo fun e w' =>
      ((lst T K H).length < K → e = .returned (.tuple #[.slice none 0 0, .bool false])) ∧
      (¬ (lst T K H).length < K → ∃ a k, e = .returned (.tuple #[.slice a H k, .bool true]) ∧ StrsIn w' a H (appS (genF K) (appS (backF T K H) (lstS T K H ss) K K) H K)) ∧ Kept wo w' := by
  obtain ⟨iB, hi, hz0, hz1, hz2⟩ := info_parts Try.infoStr
  have HIB := Lib.hid (And.intro hi (And.intro hz0 (And.intro hz1 hz2)))
  obtain ⟨iA, hi2, hz3, hz4, hz5⟩ := info_parts Try.infoIc
  have HIA := Lib.hid (And.intro hi2 (And.intro hz3 (And.intro hz4 hz5)))
  clear hi hz0 hz1 hz2 hi2 hz3 hz4 hz5
  have hH14 : H ≤ 14 := by omega
  have hH1 : 1 ≤ H := by omega
  have HH := Lib.hid hH
  have HST := Lib.hid h
  have HBO := Lib.hid hb
  have HK0 := Lib.hid ((Kept.refl wo).alloc (.cells #[.int .i64 K, .int .i64 M, .int .i64 s] 29))
  have HB0 := Lib.hid (BlockAt.new wo #[.int .i64 K, .int .i64 M, .int .i64 s] 29)
  obtain ⟨bl, ol, hal, hlc⟩ := hl.cells
  obtain rfl := hal (by omega)
  have HLC := Lib.hid hlc
  clear hH h hl hb hal hlc
  go_enter Try.func27, Try.ntmps27
  go_upto_region 1 with (fail)
  generalize wo.alloc (.cells #[.int .i64 K, .int .i64 M, .int .i64 s] 29) = w2 at *
  go_wp2_with fail
  go_loopw [8, 9, 10] (fun va vb i wr => ∃ k n : Nat, Hid (n = (lst T K k).length) ∧ k ≤ H ∧ i = .int .i64 k ∧ wr.ownsRow w2.heap.size 3 1 va n ((lstZ T K k).map (Value.int .i64)) ∧ wr.ownsRow w2.heap.size 9 1 vb n ((lstS T K k ss).map Value.string) ∧ Kept w2 wr) (fun _ _ i _ => H - (intOf i).toNat)
  case atStart => exact ⟨0, 0, Lib.hid rfl, by omega, rfl, World.ownsRow_nil _ _ _ _, World.ownsRow_nil _ _ _ _, Kept.refl _⟩
  case round =>
    obtain ⟨k, n, HN, hk, rfl, hoa, hob, hkr⟩ := hrel
    have HOA := Lib.hid hoa
    have HOB := Lib.hid hob
    have HKR := Lib.hid hkr
    have hlk := lst_len (T := T) (K := K) k
    rw [← HN.out] at hlk
    obtain ⟨xa, ca, rfl⟩ := slice_of_own1 hoa
    obtain ⟨xb, cb', rfl⟩ := slice_of_own1 hob
    obtain ⟨f1, f2, f3⟩ := box3 (HB0.out.kept hkr)
    clear hoa hob hkr
    by_cases hlt : k < H
    · by_cases hln : n < K
      · have hd2 : decide ((n : Int) < (K : Int)) = true := decide_eq_true (by omega)
        obtain ⟨bb, ob, hab, hbc⟩ := HBO.out.cells
        obtain rfl := hab (by omega)
        have hbk := (HK0.out.trans HKR.out).cell (hbc k hlt).1 (hbc k hlt).2
        have hlk2 := (HK0.out.trans HKR.out).cell (HLC.out k hlt).1 (HLC.out k hlt).2
        clear hbc hab
        by_cases hT : T k = true
        · have HT := Lib.hid hT
          rw [hT] at hbk
          clear hT
          have HZA := Lib.hid (lstZ_add HT.out (HN.out ▸ hln))
          have HSA := Lib.hid (lstS_add ss HT.out (HN.out ▸ hln))
          have HLA := Lib.hid (show n + 1 = (lst T K (k + 1)).length by rw [lst_add HT.out (HN.out ▸ hln), List.length_append, ← HN.out]; rfl)
          obtain ⟨t, ht⟩ : ∃ t, t = ss.getD k ByteArray.empty := ⟨_, rfl⟩
          rw [← ht] at HSA hlk2
          have HTT := Lib.hid ht
          clear ht
          go_wp2_with (at_builtin; refine wpList_append_own_at _ rfl _ _ 58 rfl w2.heap.size 3 iA (.int .i64 0) 1 8 Try.underlying58 HIA.out.1 HIA.out.2.1 HIA.out.2.2.1 HIA.out.2.2.2 rfl (by decide) _ _ _ rfl (HOA.out.alloc _) ⟨wr.heap.size, 0, none⟩ 1 1 [.int .i64 (k : Int)] rfl rfl ?c1 ?c2 ?c3 ?c4 ?c5 ?_)
          case c1 =>
            intro j u hj
            match j, hj with
            | 0, hj => simp at hj; subst hj; simp [Addr.add]
          case c2 => intro u hu; simp at hu; subst hu; rfl
          case c3 => unfold maxLen; omega
          case c4 => omega
          case c5 => have := HKR.out.size; simp; omega
          intro v' w9 hown9 hgrow _ hat
          have kx := (Kept.refl wr).alloc (.cells #[.int .i64 (k : Int)] 3)
          have HO9 := Lib.hid hown9
          have HB9 := Lib.hid (Pj.own_row (own_kept HOB.out kx) hgrow (Pj.row_types (own_kept HOA.out kx) (by decide)))
          have HK9 := Lib.hid (show Kept w2 w9 from kept_gr1 (HKR.out.trans kx) hgrow (fun g e => ((own_kept HOA.out kx).lt g e).1) (Nat.le_refl _))
          have hlk9 := (HK0.out.trans HK9.out).cell (HLC.out k hlt).1 (HLC.out k hlt).2
          rw [← HTT.out] at hlk9
          obtain ⟨x9, c9, rfl⟩ := slice_of_own1 hown9
          clear hown9 hgrow hat kx f1 f2 f3 hbk hlk2
          go_wp2_with (at_builtin; refine wpList_append_own_at _ rfl _ _ 23 rfl w2.heap.size 9 iB (.string ByteArray.empty) 1 16 Try.underlying23 HIB.out.1 HIB.out.2.1 HIB.out.2.2.1 HIB.out.2.2.2 rfl (by decide) _ _ _ rfl (HB9.out.alloc _) ⟨w9.heap.size, 0, none⟩ 1 1 [.string t] rfl rfl ?c1 ?c2 ?c3 ?c4 ?c5 ?_)
          case c1 =>
            intro j u hj
            match j, hj with
            | 0, hj => simp at hj; subst hj; simp [Addr.add]
          case c2 => intro u hu; simp at hu; subst hu; rfl
          case c3 => unfold maxLen; omega
          case c4 => omega
          case c5 => have := HK9.out.size; simp; omega
          intro v2 w10 hown10 hgrow _ hat
          have kx := (Kept.refl w9).alloc (.cells #[.string t] 9)
          have HO10 := Lib.hid hown10
          have HA10 := Lib.hid (Pj.own_row (own_kept HO9.out kx) hgrow (Pj.row_types (own_kept HB9.out kx) (by decide)))
          have HK10 := Lib.hid (show Kept w2 w10 from kept_gr1 (HK9.out.trans kx) hgrow (fun g e => ((own_kept HB9.out kx).lt g e).1) (Nat.le_refl _))
          clear hown10 hgrow hat kx
          go_wp2
          go_roundw
          case rel => exact ⟨k + 1, n + 1, HLA, by omega, by go_num, by rw [HZA.out]; exact HA10.out, by rw [HSA.out]; exact HO10.out, HK10.out⟩
          case measure => simp [intOf]; omega
        · have hT : T k = false := by simpa using hT
          have HFL := Lib.hid (lst_no (K := K) hT)
          rw [hT] at hbk
          clear hT hlk2
          go_wp2_with fail
          go_roundw
          case rel => exact ⟨k + 1, n, Lib.hid (by rw [HFL.out, ← HN.out]), by omega, by go_num, by unfold lstZ; rw [HFL.out]; exact HOA.out, by unfold lstS; rw [HFL.out]; exact HOB.out, HKR.out⟩
          case measure => simp [intOf]; omega
      · obtain rfl : K = n := by omega
        have hd2 : decide ((K : Int) < (K : Int)) = false := decide_eq_false (by omega)
        have HEQ := Lib.hid (show lst T K H = lst T K k by
          have := lst_stay (T := T) (K := K) (n := k) (by rw [← HN.out]; exact hln) (H - k)
          rwa [show k + (H - k) = H by omega] at this)
        have HNK := Lib.hid (show ¬ (lst T K H).length < K by rw [HEQ.out, ← HN.out]; exact Nat.lt_irrefl _)
        have HLR := Lib.hid (lst_rank (T := T) (K := K) (H := H) (by omega) (by omega) (by rw [HEQ.out, ← HN.out]))
        have EZ : lstZ T K k = lstZ T K H := by unfold lstZ; rw [HEQ.out]
        have ES : lstS T K k ss = lstS T K H ss := by unfold lstS; rw [HEQ.out]
        rw [EZ] at HOA
        rw [ES] at HOB
        have HZL := Lib.hid (show (lstZ T K H).length = K by unfold lstZ; rw [List.length_map, HEQ.out, ← HN.out])
        have HSL := Lib.hid (show (lstS T K H ss).length = K by unfold lstS; rw [List.length_map, HEQ.out, ← HN.out])
        have HZO := Lib.hid (show pickOk H (lstZ T K H) from fun i hi => by
          have hi' : i < (lst T K H).length := by simpa [lstZ] using hi
          have hm := lst_lt (T := T) (K := K) (n := H) (List.getElem_mem hi')
          simp only [lstZ, List.getD_eq_getElem?_getD, List.getElem?_map, List.getElem?_eq_getElem hi', Option.map_some, Option.getD_some]
          omega)
        have HTS := Lib.hid (show ∀ j, j < K → ((lstS T K H ss).getD j ByteArray.empty).size = s from fun j hj => by
          have hi' : j < (lst T K H).length := by have := HSL.out; simp [lstS] at this; omega
          have hm := List.getElem_mem hi'
          simp only [lstS, List.getD_eq_getElem?_getD, List.getElem?_map, List.getElem?_eq_getElem hi', Option.map_some, Option.getD_some]
          have := sizedT_size HST.out (lst_lt hm) (lst_there hm)
          simpa [List.getD_eq_getElem?_getD] using this)
        obtain ⟨xa', ca', ea, hza⟩ := ints_own4 HOA.out HZL.out (fun x hx => by
          simp only [lstZ, List.mem_map] at hx
          obtain ⟨i, hi, rfl⟩ := hx
          have := lst_lt hi
          omega)
        cases ea
        obtain ⟨xb', cb2, eb, hle2, hsa⟩ := strs_own HOB.out HSL.out (fun x hx => by
          simp only [lstS, List.mem_map] at hx
          obtain ⟨i, hi, rfl⟩ := hx
          have := sizedT_size HST.out (lst_lt hi) (lst_there hi)
          omega)
        cases eb
        have HZA := Lib.hid hza
        have HSA := Lib.hid hsa
        have HKF := Lib.hid (HK0.out.trans HKR.out)
        have HH16 := Lib.hid (show 1 ≤ H ∧ H ≤ 16 by omega)
        clear hza hsa EZ ES
        go_wp2_with fail
        refine (rmatrix_any K M H s HH.out hK _).mono ?_
        rintro e w6 ⟨g6, rfl, -, hm6, hk6⟩
        have HM6 := Lib.hid hm6
        have HK6 := Lib.hid hk6
        clear hm6 hk6 f1 f2 f3
        go_wp2_with fail
        refine (rpick H K g6 0 (H * K) K ca xa (lstZ T K H) (genF K) HH16.out ⟨by omega, by omega⟩ ⟨by omega, by omega⟩ (Nat.le_refl _) _ HM6.out.cell (HZA.out.kept HK6.out) HZO.out).mono ?_
        rintro e w7 ⟨a7, k7, rfl, hby7, ⟨g7, cs7, rfl, hbg7⟩, hk7⟩
        obtain ⟨b8, o8, e8, hm8⟩ := hby7.rect (Nat.mul_pos (by omega) (by omega))
        have HM8 := Lib.hid (show MatR w7 b8 o8 K K (pickF (genF K) (lstZ T K H)) from fun i j hi hj => by
          have h := hm8 i j hi hj
          unfold rect flat at h
          rw [(divmod hj).1, (divmod hj).2] at h
          exact h)
        cases e8
        have HK7 := Lib.hid (HK6.out.trans hk7)
        clear hby7 hbg7 hk7 hm8
        go_wp2_with fail
        refine (rinvert K g7 0 k7 (pickF (genF K) (lstZ T K H)) ⟨by omega, by omega⟩ (fun i j => genF_bt K _ _) _ HM8.out).mono ?_
        rintro e w9 ⟨g9, k9, rfl, hk9c, hg9, hm9, hk9⟩
        have HM9 := Lib.hid hm9
        have HK9 := Lib.hid (HK7.out.trans hk9)
        clear hm9 hk9
        generalize (((rankF K K (pickF (genF K) (lstZ T K H)) : Nat) : Int) == (K : Int)) = BR at *
        go_upto_region 12 with (fail)
        have k10 := (Kept.refl w9).alloc (.cells #[.int .i64 K, .int .i64 K, .slice (some ⟨g9, 0, none⟩) (K * K) k9] 33)
        have HX10 := Lib.hid (BlockAt.new w9 #[.int .i64 K, .int .i64 K, .slice (some ⟨g9, 0, none⟩) (K * K) k9] 33)
        have HM10 := Lib.hid (HM9.out.kept k10)
        have HK10 := Lib.hid (HK9.out.trans k10)
        generalize w9.alloc (.cells #[.int .i64 K, .int .i64 K, .slice (some ⟨g9, 0, none⟩) (K * K) k9] 33) = w10 at *
        generalize w9.heap.size = p9 at *
        have HBX := Lib.hid ((HB0.out.kept HKR.out).kept HK10.out)
        have HSX := Lib.hid (HSA.out.kept HK10.out)
        obtain ⟨Y, hY⟩ : ∃ Y, Y = appS (backF T K H) (lstS T K H ss) K K := ⟨_, rfl⟩
        obtain ⟨Z, hZ⟩ : ∃ Z, Z = appS (genF K) Y H K := ⟨_, rfl⟩
        have HAP := Lib.hid (show ∀ wx, Kept w10 wx → Calls Try.prog 45 #[.agg #[.int .i64 K, .int .i64 K, .slice (some ⟨g9, 0, none⟩) (K * K) k9], .slice xb K cb'] wx fun e w' => ∃ a k, e = .returned (.slice a K k) ∧ K ≤ k ∧ StrsIn w' a K Y ∧ Kept wx w' from fun wx hk => by
          rw [hY]
          exact rapply K K g9 0 k9 s cb' xb (lstS T K H ss) (backF T K H) ⟨by omega, by omega⟩ ⟨by omega, by omega⟩ (invF_bt (fun i j => genF_bt K _ _) K) (by omega) wx (HM10.out.kept hk).cell (HSX.out.kept hk) HTS.out)
        have HYS := Lib.hid (show ∀ j, j < K → (Y.getD j ByteArray.empty).size = s from fun j hj => by
          rw [hY]
          exact appS_size _ _ _ _ _ (HTS.out 0 (by omega)) j hj)
        have HEN := Lib.hid (show ∀ wx a k, StrsIn wx a K Y → Calls Try.prog 21 #[.agg #[.int .i64 K, .int .i64 M, .int .i64 s], .slice a K k] wx fun e w' => ∃ a' k', e = .returned (.slice a' H k') ∧ H ≤ k' ∧ StrsIn w' a' H Z ∧ Kept wx w' from fun wx a k hy => by
          rw [hZ]
          exact rencode_any K M H s HH.out hK (by omega) a k Y wx hy HYS.out)
        have HZZ := Lib.hid (show Z = appS (genF K) (appS (backF T K H) (lstS T K H ss) K K) H K by rw [hZ, hY])
        clear hY hZ k10
        go_wp2_with fail
        refine Pj.wp_region_step (fun a0 L a w => ∃ V : Nat → Value, a = Pj.puts [(54, 0), (55, 1), (56, 2), (57, 3), (58, 4), (6, 5), (7, 6)] V a0 ∧ Pj.J w10 [Pj.Is (.agg #[.int .i64 K, .int .i64 M, .int .i64 s]), Pj.Is (.agg #[.int .i64 K, .int .i64 K, .slice (some ⟨g9, 0, none⟩) (K * K) k9]), Pj.Is (.slice xb K cb'), (fun w v => ∃ a k, v = .slice a K k ∧ StrsIn w a K Y), (fun w v => ∃ a k, v = .slice a H k ∧ StrsIn w a H Z), (fun w v => ∃ a k, v = .slice a H k ∧ StrsIn w a H Z), Pj.Is (.bool true)] L V w) (by as_aux_lemma => kernel_rfl) (by as_aux_lemma => kernel_rfl) ?eh0 ?ehs ?ehe
        case eh0 =>
          intro L hL
          exact ⟨_, Pj.puts_self _ (fun j => ([54, 55, 56, 57, 58, 6, 7] : List Nat).getD j 0) [0, 1, 2, 3, 4, 5, 6], Pj.J.none (n := 7) (Nat.le_refl _) hL ((Kept.refl _).drew)⟩
        case ehs =>
          rintro L L' az w iz opz Kq ⟨V, rfl, hJ⟩ ho hopen hdep hL hKq
          have hP : Pj.AllStay [Pj.Is (.agg #[.int .i64 K, .int .i64 M, .int .i64 s]), Pj.Is (.agg #[.int .i64 K, .int .i64 K, .slice (some ⟨g9, 0, none⟩) (K * K) k9]), Pj.Is (.slice xb K cb'), (fun w v => ∃ a k, v = .slice a K k ∧ StrsIn w a K Y), (fun w v => ∃ a k, v = .slice a H k ∧ StrsIn w a H Z), (fun w v => ∃ a k, v = .slice a H k ∧ StrsIn w a H Z), Pj.Is (.bool true)] := ⟨Pj.Is.stays _, Pj.Is.stays _, Pj.Is.stays _, fun _ _ _ ⟨a, k, e, h⟩ q => ⟨a, k, e, h.kept q⟩, fun _ _ _ ⟨a, k, e, h⟩ q => ⟨a, k, e, h.kept q⟩, fun _ _ _ ⟨a, k, e, h⟩ q => ⟨a, k, e, h.kept q⟩, Pj.Is.stays _, trivial⟩
          have HP := Lib.hid hP
          clear hP
          match iz, ho with
          | 0, ho =>
            simp only [List.getElem?_toArray, List.getElem?_cons_zero, Option.some.injEq] at ho
            obtain ⟨d1, d2, d3⟩ := box3 (HBX.out.kept hJ.kp)
            have HJ := Lib.hid hJ
            clear hJ
            subst ho
            refine Pj.Step.free rfl ?_
            simp only [Pj.puts, List.foldl_cons, List.foldl_nil, Act.put, List.setIfInBounds_toArray, List.set_cons_zero, List.set_cons_succ]
            go_simp
            exact hKq _ _ ⟨Pj.vset V 0 (.agg #[.int .i64 K, .int .i64 M, .int .i64 s]), by simp only [Pj.puts, List.foldl_cons, List.foldl_nil, Act.put, List.setIfInBounds_toArray, List.set_cons_zero, List.set_cons_succ, Pj.vset, Nat.reduceEqDiff, if_true, if_false], HJ.out.more HP.out hL (Kept.refl _) (rfl)⟩
          | 1, ho =>
            simp only [List.getElem?_toArray, List.getElem?_cons_zero, List.getElem?_cons_succ, Option.some.injEq] at ho
            obtain ⟨d1, d2, d3⟩ := box3 (HX10.out.kept hJ.kp)
            have HJ := Lib.hid hJ
            clear hJ
            subst ho
            refine Pj.Step.free rfl ?_
            simp only [Pj.puts, List.foldl_cons, List.foldl_nil, Act.put, List.setIfInBounds_toArray, List.set_cons_zero, List.set_cons_succ]
            go_simp
            exact hKq _ _ ⟨Pj.vset V 1 (.agg #[.int .i64 K, .int .i64 K, .slice (some ⟨g9, 0, none⟩) (K * K) k9]), by simp only [Pj.puts, List.foldl_cons, List.foldl_nil, Act.put, List.setIfInBounds_toArray, List.set_cons_zero, List.set_cons_succ, Pj.vset, Nat.reduceEqDiff, if_true, if_false], HJ.out.more HP.out hL (Kept.refl _) (rfl)⟩
          | 2, ho =>
            simp only [List.getElem?_toArray, List.getElem?_cons_zero, List.getElem?_cons_succ, Option.some.injEq] at ho
            have HJ := Lib.hid hJ
            clear hJ
            subst ho
            refine Pj.Step.free rfl ?_
            simp only [Pj.puts, List.foldl_cons, List.foldl_nil, Act.put, List.setIfInBounds_toArray, List.set_cons_zero, List.set_cons_succ]
            go_simp
            exact hKq _ _ ⟨Pj.vset V 2 (.slice xb K cb'), by simp only [Pj.puts, List.foldl_cons, List.foldl_nil, Act.put, List.setIfInBounds_toArray, List.set_cons_zero, List.set_cons_succ, Pj.vset, Nat.reduceEqDiff, if_true, if_false], HJ.out.more HP.out hL (Kept.refl _) (rfl)⟩
          | 3, ho =>
            simp only [List.getElem?_toArray, List.getElem?_cons_zero, List.getElem?_cons_succ, Option.some.injEq] at ho
            have e1 : V 1 = .agg #[.int .i64 K, .int .i64 K, .slice (some ⟨g9, 0, none⟩) (K * K) k9] := hJ.h 1 (hdep 1 (by rw [← ho]; kernel_rfl))
            have e2 : V 2 = .slice xb K cb' := hJ.h 2 (hdep 2 (by rw [← ho]; kernel_rfl))
            have hap := HAP.out _ hJ.kp
            have HJ := Lib.hid hJ
            clear hJ
            subst ho
            refine Pj.Step.free rfl ?_
            simp only [Pj.puts, List.foldl_cons, List.foldl_nil, Act.put, List.setIfInBounds_toArray, List.set_cons_zero, List.set_cons_succ, e1, e2]
            go_simp
            refine hap.mono ?_
            rintro e w' ⟨a, k, rfl, -, hs9, hk9⟩
            exact hKq _ _ ⟨Pj.vset V 3 (.slice a K k), by simp only [Pj.puts, List.foldl_cons, List.foldl_nil, Act.put, List.setIfInBounds_toArray, List.set_cons_zero, List.set_cons_succ, Pj.vset, Nat.reduceEqDiff, if_true, if_false, e1, e2], HJ.out.more HP.out hL (hk9) (⟨_, _, rfl, hs9⟩)⟩
          | 4, ho =>
            simp only [List.getElem?_toArray, List.getElem?_cons_zero, List.getElem?_cons_succ, Option.some.injEq] at ho
            have e0 : V 0 = .agg #[.int .i64 K, .int .i64 M, .int .i64 s] := hJ.h 0 (hdep 0 (by rw [← ho]; kernel_rfl))
            obtain ⟨a8, k8, e3, hx8⟩ := hJ.h 3 (hdep 3 (by rw [← ho]; kernel_rfl))
            have hap := HEN.out _ _ k8 hx8
            have HJ := Lib.hid hJ
            clear hJ
            subst ho
            refine Pj.Step.free rfl ?_
            simp only [Pj.puts, List.foldl_cons, List.foldl_nil, Act.put, List.setIfInBounds_toArray, List.set_cons_zero, List.set_cons_succ, e0, e3]
            go_simp
            refine hap.mono ?_
            rintro e w' ⟨a, k, rfl, -, hs9, hk9⟩
            exact hKq _ _ ⟨Pj.vset V 4 (.slice a H k), by simp only [Pj.puts, List.foldl_cons, List.foldl_nil, Act.put, List.setIfInBounds_toArray, List.set_cons_zero, List.set_cons_succ, Pj.vset, Nat.reduceEqDiff, if_true, if_false, e0, e3], HJ.out.more HP.out hL (hk9) (⟨_, _, rfl, hs9⟩)⟩
          | 5, ho =>
            simp only [List.getElem?_toArray, List.getElem?_cons_zero, List.getElem?_cons_succ, Option.some.injEq] at ho
            obtain ⟨a9, k9z, e4, hx9⟩ := hJ.h 4 (hdep 4 (by rw [← ho]; kernel_rfl))
            have HJ := Lib.hid hJ
            clear hJ
            subst ho
            refine Pj.Step.free rfl ?_
            simp only [Pj.puts, List.foldl_cons, List.foldl_nil, Act.put, List.setIfInBounds_toArray, List.set_cons_zero, List.set_cons_succ, e4]
            go_simp
            exact hKq _ _ ⟨Pj.vset V 5 (.slice a9 H k9z), by simp only [Pj.puts, List.foldl_cons, List.foldl_nil, Act.put, List.setIfInBounds_toArray, List.set_cons_zero, List.set_cons_succ, Pj.vset, Nat.reduceEqDiff, if_true, if_false, e4], HJ.out.more HP.out hL (Kept.refl _) (⟨_, _, rfl, hx9⟩)⟩
          | 6, ho =>
            simp only [List.getElem?_toArray, List.getElem?_cons_zero, List.getElem?_cons_succ, Option.some.injEq] at ho
            have HJ := Lib.hid hJ
            clear hJ
            subst ho
            refine Pj.Step.free rfl ?_
            simp only [Pj.puts, List.foldl_cons, List.foldl_nil, Act.put, List.setIfInBounds_toArray, List.set_cons_zero, List.set_cons_succ]
            go_simp
            exact hKq _ _ ⟨Pj.vset V 6 (.bool true), by simp only [Pj.puts, List.foldl_cons, List.foldl_nil, Act.put, List.setIfInBounds_toArray, List.set_cons_zero, List.set_cons_succ, Pj.vset, Nat.reduceEqDiff, if_true, if_false], HJ.out.more HP.out hL (Kept.refl _) (rfl)⟩
          | n + 7, ho => simp at ho
        case ehe =>
          rintro L az w ⟨V, rfl, hJ⟩ hall
          have e0 : V 0 = .agg #[.int .i64 K, .int .i64 M, .int .i64 s] := hJ.h 0 (hall 0 (by decide))
          have e1 : V 1 = .agg #[.int .i64 K, .int .i64 K, .slice (some ⟨g9, 0, none⟩) (K * K) k9] := hJ.h 1 (hall 1 (by decide))
          have e2 : V 2 = .slice xb K cb' := hJ.h 2 (hall 2 (by decide))
          obtain ⟨a8, k8, e3, hx8⟩ := hJ.h 3 (hall 3 (by decide))
          obtain ⟨a9, k9z, e4, hx9⟩ := hJ.h 4 (hall 4 (by decide))
          obtain ⟨a9, k9z, e5, hx9⟩ := hJ.h 5 (hall 5 (by decide))
          have e6 : V 6 = .bool true := hJ.h 6 (hall 6 (by decide))
          have HKj := Lib.hid hJ.kp
          clear hJ hall
          simp only [Pj.puts, List.foldl_cons, List.foldl_nil, Act.put, List.setIfInBounds_toArray, List.set_cons_zero, List.set_cons_succ, e0, e1, e2, e3, e4, e5, e6]
          clear e0 e1 e2 e3 e4 e5 e6
          have HFI := Lib.hid hx9
          have HKL := Lib.hid ((HKF.out.trans HK10.out).trans HKj.out)
          clear hx9
          go_wp2
          go_ret2
          exact ⟨fun h => absurd h HNK.out, fun _ => ⟨_, _, rfl, HZZ.out ▸ HFI.out⟩, HKL.out⟩

    · have HEQ := Lib.hid (show lst T K H = lst T K k by rw [show k = H by omega])
      by_cases hln : n < K
      · have hd2 : decide ((n : Int) < (K : Int)) = true := decide_eq_true (by omega)
        have HKF := Lib.hid (HK0.out.trans HKR.out)
        go_wp2
        go_ret2
        exact ⟨fun _ => rfl, fun h => absurd (show (lst T K H).length < K by rw [HEQ.out, ← HN.out]; exact hln) h, HKF.out⟩
      · obtain rfl : K = n := by omega
        have hd2 : decide ((K : Int) < (K : Int)) = false := decide_eq_false (by omega)
        have HNK := Lib.hid (show ¬ (lst T K H).length < K by rw [HEQ.out, ← HN.out]; exact Nat.lt_irrefl _)
        have HLR := Lib.hid (lst_rank (T := T) (K := K) (H := H) (by omega) (by omega) (by rw [HEQ.out, ← HN.out]))
        have EZ : lstZ T K k = lstZ T K H := by unfold lstZ; rw [HEQ.out]
        have ES : lstS T K k ss = lstS T K H ss := by unfold lstS; rw [HEQ.out]
        rw [EZ] at HOA
        rw [ES] at HOB
        have HZL := Lib.hid (show (lstZ T K H).length = K by unfold lstZ; rw [List.length_map, HEQ.out, ← HN.out])
        have HSL := Lib.hid (show (lstS T K H ss).length = K by unfold lstS; rw [List.length_map, HEQ.out, ← HN.out])
        have HZO := Lib.hid (show pickOk H (lstZ T K H) from fun i hi => by
          have hi' : i < (lst T K H).length := by simpa [lstZ] using hi
          have hm := lst_lt (T := T) (K := K) (n := H) (List.getElem_mem hi')
          simp only [lstZ, List.getD_eq_getElem?_getD, List.getElem?_map, List.getElem?_eq_getElem hi', Option.map_some, Option.getD_some]
          omega)
        have HTS := Lib.hid (show ∀ j, j < K → ((lstS T K H ss).getD j ByteArray.empty).size = s from fun j hj => by
          have hi' : j < (lst T K H).length := by have := HSL.out; simp [lstS] at this; omega
          have hm := List.getElem_mem hi'
          simp only [lstS, List.getD_eq_getElem?_getD, List.getElem?_map, List.getElem?_eq_getElem hi', Option.map_some, Option.getD_some]
          have := sizedT_size HST.out (lst_lt hm) (lst_there hm)
          simpa [List.getD_eq_getElem?_getD] using this)
        obtain ⟨xa', ca', ea, hza⟩ := ints_own4 HOA.out HZL.out (fun x hx => by
          simp only [lstZ, List.mem_map] at hx
          obtain ⟨i, hi, rfl⟩ := hx
          have := lst_lt hi
          omega)
        cases ea
        obtain ⟨xb', cb2, eb, hle2, hsa⟩ := strs_own HOB.out HSL.out (fun x hx => by
          simp only [lstS, List.mem_map] at hx
          obtain ⟨i, hi, rfl⟩ := hx
          have := sizedT_size HST.out (lst_lt hi) (lst_there hi)
          omega)
        cases eb
        have HZA := Lib.hid hza
        have HSA := Lib.hid hsa
        have HKF := Lib.hid (HK0.out.trans HKR.out)
        have HH16 := Lib.hid (show 1 ≤ H ∧ H ≤ 16 by omega)
        clear hza hsa EZ ES
        go_wp2_with fail
        refine (rmatrix_any K M H s HH.out hK _).mono ?_
        rintro e w6 ⟨g6, rfl, -, hm6, hk6⟩
        have HM6 := Lib.hid hm6
        have HK6 := Lib.hid hk6
        clear hm6 hk6 f1 f2 f3
        go_wp2_with fail
        refine (rpick H K g6 0 (H * K) K ca xa (lstZ T K H) (genF K) HH16.out ⟨by omega, by omega⟩ ⟨by omega, by omega⟩ (Nat.le_refl _) _ HM6.out.cell (HZA.out.kept HK6.out) HZO.out).mono ?_
        rintro e w7 ⟨a7, k7, rfl, hby7, ⟨g7, cs7, rfl, hbg7⟩, hk7⟩
        obtain ⟨b8, o8, e8, hm8⟩ := hby7.rect (Nat.mul_pos (by omega) (by omega))
        have HM8 := Lib.hid (show MatR w7 b8 o8 K K (pickF (genF K) (lstZ T K H)) from fun i j hi hj => by
          have h := hm8 i j hi hj
          unfold rect flat at h
          rw [(divmod hj).1, (divmod hj).2] at h
          exact h)
        cases e8
        have HK7 := Lib.hid (HK6.out.trans hk7)
        clear hby7 hbg7 hk7 hm8
        go_wp2_with fail
        refine (rinvert K g7 0 k7 (pickF (genF K) (lstZ T K H)) ⟨by omega, by omega⟩ (fun i j => genF_bt K _ _) _ HM8.out).mono ?_
        rintro e w9 ⟨g9, k9, rfl, hk9c, hg9, hm9, hk9⟩
        have HM9 := Lib.hid hm9
        have HK9 := Lib.hid (HK7.out.trans hk9)
        clear hm9 hk9
        generalize (((rankF K K (pickF (genF K) (lstZ T K H)) : Nat) : Int) == (K : Int)) = BR at *
        go_upto_region 12 with (fail)
        have k10 := (Kept.refl w9).alloc (.cells #[.int .i64 K, .int .i64 K, .slice (some ⟨g9, 0, none⟩) (K * K) k9] 33)
        have HX10 := Lib.hid (BlockAt.new w9 #[.int .i64 K, .int .i64 K, .slice (some ⟨g9, 0, none⟩) (K * K) k9] 33)
        have HM10 := Lib.hid (HM9.out.kept k10)
        have HK10 := Lib.hid (HK9.out.trans k10)
        generalize w9.alloc (.cells #[.int .i64 K, .int .i64 K, .slice (some ⟨g9, 0, none⟩) (K * K) k9] 33) = w10 at *
        generalize w9.heap.size = p9 at *
        have HBX := Lib.hid ((HB0.out.kept HKR.out).kept HK10.out)
        have HSX := Lib.hid (HSA.out.kept HK10.out)
        obtain ⟨Y, hY⟩ : ∃ Y, Y = appS (backF T K H) (lstS T K H ss) K K := ⟨_, rfl⟩
        obtain ⟨Z, hZ⟩ : ∃ Z, Z = appS (genF K) Y H K := ⟨_, rfl⟩
        have HAP := Lib.hid (show ∀ wx, Kept w10 wx → Calls Try.prog 45 #[.agg #[.int .i64 K, .int .i64 K, .slice (some ⟨g9, 0, none⟩) (K * K) k9], .slice xb K cb'] wx fun e w' => ∃ a k, e = .returned (.slice a K k) ∧ K ≤ k ∧ StrsIn w' a K Y ∧ Kept wx w' from fun wx hk => by
          rw [hY]
          exact rapply K K g9 0 k9 s cb' xb (lstS T K H ss) (backF T K H) ⟨by omega, by omega⟩ ⟨by omega, by omega⟩ (invF_bt (fun i j => genF_bt K _ _) K) (by omega) wx (HM10.out.kept hk).cell (HSX.out.kept hk) HTS.out)
        have HYS := Lib.hid (show ∀ j, j < K → (Y.getD j ByteArray.empty).size = s from fun j hj => by
          rw [hY]
          exact appS_size _ _ _ _ _ (HTS.out 0 (by omega)) j hj)
        have HEN := Lib.hid (show ∀ wx a k, StrsIn wx a K Y → Calls Try.prog 21 #[.agg #[.int .i64 K, .int .i64 M, .int .i64 s], .slice a K k] wx fun e w' => ∃ a' k', e = .returned (.slice a' H k') ∧ H ≤ k' ∧ StrsIn w' a' H Z ∧ Kept wx w' from fun wx a k hy => by
          rw [hZ]
          exact rencode_any K M H s HH.out hK (by omega) a k Y wx hy HYS.out)
        have HZZ := Lib.hid (show Z = appS (genF K) (appS (backF T K H) (lstS T K H ss) K K) H K by rw [hZ, hY])
        clear hY hZ k10
        go_wp2_with fail
        refine Pj.wp_region_step (fun a0 L a w => ∃ V : Nat → Value, a = Pj.puts [(54, 0), (55, 1), (56, 2), (57, 3), (58, 4), (6, 5), (7, 6)] V a0 ∧ Pj.J w10 [Pj.Is (.agg #[.int .i64 K, .int .i64 M, .int .i64 s]), Pj.Is (.agg #[.int .i64 K, .int .i64 K, .slice (some ⟨g9, 0, none⟩) (K * K) k9]), Pj.Is (.slice xb K cb'), (fun w v => ∃ a k, v = .slice a K k ∧ StrsIn w a K Y), (fun w v => ∃ a k, v = .slice a H k ∧ StrsIn w a H Z), (fun w v => ∃ a k, v = .slice a H k ∧ StrsIn w a H Z), Pj.Is (.bool true)] L V w) (by as_aux_lemma => kernel_rfl) (by as_aux_lemma => kernel_rfl) ?eh0 ?ehs ?ehe
        case eh0 =>
          intro L hL
          exact ⟨_, Pj.puts_self _ (fun j => ([54, 55, 56, 57, 58, 6, 7] : List Nat).getD j 0) [0, 1, 2, 3, 4, 5, 6], Pj.J.none (n := 7) (Nat.le_refl _) hL ((Kept.refl _).drew)⟩
        case ehs =>
          rintro L L' az w iz opz Kq ⟨V, rfl, hJ⟩ ho hopen hdep hL hKq
          have hP : Pj.AllStay [Pj.Is (.agg #[.int .i64 K, .int .i64 M, .int .i64 s]), Pj.Is (.agg #[.int .i64 K, .int .i64 K, .slice (some ⟨g9, 0, none⟩) (K * K) k9]), Pj.Is (.slice xb K cb'), (fun w v => ∃ a k, v = .slice a K k ∧ StrsIn w a K Y), (fun w v => ∃ a k, v = .slice a H k ∧ StrsIn w a H Z), (fun w v => ∃ a k, v = .slice a H k ∧ StrsIn w a H Z), Pj.Is (.bool true)] := ⟨Pj.Is.stays _, Pj.Is.stays _, Pj.Is.stays _, fun _ _ _ ⟨a, k, e, h⟩ q => ⟨a, k, e, h.kept q⟩, fun _ _ _ ⟨a, k, e, h⟩ q => ⟨a, k, e, h.kept q⟩, fun _ _ _ ⟨a, k, e, h⟩ q => ⟨a, k, e, h.kept q⟩, Pj.Is.stays _, trivial⟩
          have HP := Lib.hid hP
          clear hP
          match iz, ho with
          | 0, ho =>
            simp only [List.getElem?_toArray, List.getElem?_cons_zero, Option.some.injEq] at ho
            obtain ⟨d1, d2, d3⟩ := box3 (HBX.out.kept hJ.kp)
            have HJ := Lib.hid hJ
            clear hJ
            subst ho
            refine Pj.Step.free rfl ?_
            simp only [Pj.puts, List.foldl_cons, List.foldl_nil, Act.put, List.setIfInBounds_toArray, List.set_cons_zero, List.set_cons_succ]
            go_simp
            exact hKq _ _ ⟨Pj.vset V 0 (.agg #[.int .i64 K, .int .i64 M, .int .i64 s]), by simp only [Pj.puts, List.foldl_cons, List.foldl_nil, Act.put, List.setIfInBounds_toArray, List.set_cons_zero, List.set_cons_succ, Pj.vset, Nat.reduceEqDiff, if_true, if_false], HJ.out.more HP.out hL (Kept.refl _) (rfl)⟩
          | 1, ho =>
            simp only [List.getElem?_toArray, List.getElem?_cons_zero, List.getElem?_cons_succ, Option.some.injEq] at ho
            obtain ⟨d1, d2, d3⟩ := box3 (HX10.out.kept hJ.kp)
            have HJ := Lib.hid hJ
            clear hJ
            subst ho
            refine Pj.Step.free rfl ?_
            simp only [Pj.puts, List.foldl_cons, List.foldl_nil, Act.put, List.setIfInBounds_toArray, List.set_cons_zero, List.set_cons_succ]
            go_simp
            exact hKq _ _ ⟨Pj.vset V 1 (.agg #[.int .i64 K, .int .i64 K, .slice (some ⟨g9, 0, none⟩) (K * K) k9]), by simp only [Pj.puts, List.foldl_cons, List.foldl_nil, Act.put, List.setIfInBounds_toArray, List.set_cons_zero, List.set_cons_succ, Pj.vset, Nat.reduceEqDiff, if_true, if_false], HJ.out.more HP.out hL (Kept.refl _) (rfl)⟩
          | 2, ho =>
            simp only [List.getElem?_toArray, List.getElem?_cons_zero, List.getElem?_cons_succ, Option.some.injEq] at ho
            have HJ := Lib.hid hJ
            clear hJ
            subst ho
            refine Pj.Step.free rfl ?_
            simp only [Pj.puts, List.foldl_cons, List.foldl_nil, Act.put, List.setIfInBounds_toArray, List.set_cons_zero, List.set_cons_succ]
            go_simp
            exact hKq _ _ ⟨Pj.vset V 2 (.slice xb K cb'), by simp only [Pj.puts, List.foldl_cons, List.foldl_nil, Act.put, List.setIfInBounds_toArray, List.set_cons_zero, List.set_cons_succ, Pj.vset, Nat.reduceEqDiff, if_true, if_false], HJ.out.more HP.out hL (Kept.refl _) (rfl)⟩
          | 3, ho =>
            simp only [List.getElem?_toArray, List.getElem?_cons_zero, List.getElem?_cons_succ, Option.some.injEq] at ho
            have e1 : V 1 = .agg #[.int .i64 K, .int .i64 K, .slice (some ⟨g9, 0, none⟩) (K * K) k9] := hJ.h 1 (hdep 1 (by rw [← ho]; kernel_rfl))
            have e2 : V 2 = .slice xb K cb' := hJ.h 2 (hdep 2 (by rw [← ho]; kernel_rfl))
            have hap := HAP.out _ hJ.kp
            have HJ := Lib.hid hJ
            clear hJ
            subst ho
            refine Pj.Step.free rfl ?_
            simp only [Pj.puts, List.foldl_cons, List.foldl_nil, Act.put, List.setIfInBounds_toArray, List.set_cons_zero, List.set_cons_succ, e1, e2]
            go_simp
            refine hap.mono ?_
            rintro e w' ⟨a, k, rfl, -, hs9, hk9⟩
            exact hKq _ _ ⟨Pj.vset V 3 (.slice a K k), by simp only [Pj.puts, List.foldl_cons, List.foldl_nil, Act.put, List.setIfInBounds_toArray, List.set_cons_zero, List.set_cons_succ, Pj.vset, Nat.reduceEqDiff, if_true, if_false, e1, e2], HJ.out.more HP.out hL (hk9) (⟨_, _, rfl, hs9⟩)⟩
          | 4, ho =>
            simp only [List.getElem?_toArray, List.getElem?_cons_zero, List.getElem?_cons_succ, Option.some.injEq] at ho
            have e0 : V 0 = .agg #[.int .i64 K, .int .i64 M, .int .i64 s] := hJ.h 0 (hdep 0 (by rw [← ho]; kernel_rfl))
            obtain ⟨a8, k8, e3, hx8⟩ := hJ.h 3 (hdep 3 (by rw [← ho]; kernel_rfl))
            have hap := HEN.out _ _ k8 hx8
            have HJ := Lib.hid hJ
            clear hJ
            subst ho
            refine Pj.Step.free rfl ?_
            simp only [Pj.puts, List.foldl_cons, List.foldl_nil, Act.put, List.setIfInBounds_toArray, List.set_cons_zero, List.set_cons_succ, e0, e3]
            go_simp
            refine hap.mono ?_
            rintro e w' ⟨a, k, rfl, -, hs9, hk9⟩
            exact hKq _ _ ⟨Pj.vset V 4 (.slice a H k), by simp only [Pj.puts, List.foldl_cons, List.foldl_nil, Act.put, List.setIfInBounds_toArray, List.set_cons_zero, List.set_cons_succ, Pj.vset, Nat.reduceEqDiff, if_true, if_false, e0, e3], HJ.out.more HP.out hL (hk9) (⟨_, _, rfl, hs9⟩)⟩
          | 5, ho =>
            simp only [List.getElem?_toArray, List.getElem?_cons_zero, List.getElem?_cons_succ, Option.some.injEq] at ho
            obtain ⟨a9, k9z, e4, hx9⟩ := hJ.h 4 (hdep 4 (by rw [← ho]; kernel_rfl))
            have HJ := Lib.hid hJ
            clear hJ
            subst ho
            refine Pj.Step.free rfl ?_
            simp only [Pj.puts, List.foldl_cons, List.foldl_nil, Act.put, List.setIfInBounds_toArray, List.set_cons_zero, List.set_cons_succ, e4]
            go_simp
            exact hKq _ _ ⟨Pj.vset V 5 (.slice a9 H k9z), by simp only [Pj.puts, List.foldl_cons, List.foldl_nil, Act.put, List.setIfInBounds_toArray, List.set_cons_zero, List.set_cons_succ, Pj.vset, Nat.reduceEqDiff, if_true, if_false, e4], HJ.out.more HP.out hL (Kept.refl _) (⟨_, _, rfl, hx9⟩)⟩
          | 6, ho =>
            simp only [List.getElem?_toArray, List.getElem?_cons_zero, List.getElem?_cons_succ, Option.some.injEq] at ho
            have HJ := Lib.hid hJ
            clear hJ
            subst ho
            refine Pj.Step.free rfl ?_
            simp only [Pj.puts, List.foldl_cons, List.foldl_nil, Act.put, List.setIfInBounds_toArray, List.set_cons_zero, List.set_cons_succ]
            go_simp
            exact hKq _ _ ⟨Pj.vset V 6 (.bool true), by simp only [Pj.puts, List.foldl_cons, List.foldl_nil, Act.put, List.setIfInBounds_toArray, List.set_cons_zero, List.set_cons_succ, Pj.vset, Nat.reduceEqDiff, if_true, if_false], HJ.out.more HP.out hL (Kept.refl _) (rfl)⟩
          | n + 7, ho => simp at ho
        case ehe =>
          rintro L az w ⟨V, rfl, hJ⟩ hall
          have e0 : V 0 = .agg #[.int .i64 K, .int .i64 M, .int .i64 s] := hJ.h 0 (hall 0 (by decide))
          have e1 : V 1 = .agg #[.int .i64 K, .int .i64 K, .slice (some ⟨g9, 0, none⟩) (K * K) k9] := hJ.h 1 (hall 1 (by decide))
          have e2 : V 2 = .slice xb K cb' := hJ.h 2 (hall 2 (by decide))
          obtain ⟨a8, k8, e3, hx8⟩ := hJ.h 3 (hall 3 (by decide))
          obtain ⟨a9, k9z, e4, hx9⟩ := hJ.h 4 (hall 4 (by decide))
          obtain ⟨a9, k9z, e5, hx9⟩ := hJ.h 5 (hall 5 (by decide))
          have e6 : V 6 = .bool true := hJ.h 6 (hall 6 (by decide))
          have HKj := Lib.hid hJ.kp
          clear hJ hall
          simp only [Pj.puts, List.foldl_cons, List.foldl_nil, Act.put, List.setIfInBounds_toArray, List.set_cons_zero, List.set_cons_succ, e0, e1, e2, e3, e4, e5, e6]
          clear e0 e1 e2 e3 e4 e5 e6
          have HFI := Lib.hid hx9
          have HKL := Lib.hid ((HKF.out.trans HK10.out).trans HKj.out)
          clear hx9
          go_wp2
          go_ret2
          exact ⟨fun h => absurd h HNK.out, fun _ => ⟨_, _, rfl, HZZ.out ▸ HFI.out⟩, HKL.out⟩

end Go.Proofs.Ytoonpnpooljmlaa

namespace Go.Proofs.Ytoonpnpooljmlaa
open Go.RowKit Go.Shelf
attribute [local go_sem] Oper.semAt_some

theorem num4_any (n : Int) (w : World) : Calls Try.prog 15 #[.int .i64 n] w fun e w' => e = .returned (.int .i64 n) ∧ w = w' := by
  go_enter Try.func15, Try.ntmps15
  go_wp2
  go_ret
  exact ⟨rfl, rfl⟩
set_option maxRecDepth 100000 in
set_option maxHeartbeats 1000000 in
theorem texts4_any (s n : Nat) (al : Option Addr) (ll cl : Nat) (ss : List ByteArray) (hn : n ≤ 1000000) (w : World) (h : StrsIn w al ll ss) :
    Calls Try.prog 20 #[.slice al ll cl, .int .i64 n, .int .i64 s] w fun e w' => e = .returned (.bool (sizedB ss n s)) ∧ w = w' := by
  have HS := Lib.hid h
  have hlen := h.len_eq
  have hll := h.le
  have HSB := Lib.hid (show sizedB ss n s = (decide (ss.length = n) && ss.all fun x => decide (x.size = s)) from rfl)
  generalize sizedB ss n s = B at *
  clear h
  go_enter Try.func20, Try.ntmps20
  go_wp2_with fail
  go_loopw [7] (fun i wr => ∃ j : Nat, j ≤ ll ∧ j ≤ n + 1 ∧ i = .int .i64 j ∧ (∀ q, q < j → (ss.getD q ByteArray.empty).size = s) ∧ w = wr) (fun i _ => ll - (intOf i).toNat)
  case atStart => exact ⟨0, by omega, by omega, rfl, fun q hq => absurd hq (Nat.not_lt_zero q), rfl⟩
  case round =>
    obtain ⟨j, hj, hjn, rfl, hq, rfl⟩ := hrel
    have HQ := Lib.hid hq
    clear hq
    by_cases hlt : j < ll
    · by_cases hle : j ≤ n
      · obtain ⟨b, off, rfl, hcs⟩ := HS.out.at (by omega)
        have hcell := hcs j hlt w (Kept.refl _)
        have hz := HS.out.sizes (ss.getD j ByteArray.empty) (by simp [List.getD, hlen, hlt])
        generalize hts : ss.getD j ByteArray.empty = t at *
        have HTS := Lib.hid hts
        clear hcs hts
        by_cases hsz : t.size = s
        · have hd : ((t.size : Int) != (s : Int)) = false := by rw [bne_eq_false_iff_eq]; omega
          go_wp2_with fail
          go_roundw
          case rel => exact ⟨j + 1, by omega, by omega, by go_num, fun q hq => by
            by_cases e : q = j
            · rw [e, HTS.out, hsz]
            · exact HQ.out q (by omega), by first | rfl | trivial⟩
          case measure => simp [intOf]; omega
        · have hd : ((t.size : Int) != (s : Int)) = true := by rw [bne_iff_ne]; omega
          have hB : B = false := by
            rw [HSB.out]
            have : (ss.all fun x => decide (x.size = s)) = false := by
              rw [List.all_eq_false]
              exact ⟨t, by rw [← HTS.out]; simp [List.getD, hlen, hlt], by simp [hsz]⟩
            rw [this, Bool.and_false]
          clear HSB
          subst hB
          go_wp2
          go_ret
          exact ⟨rfl, rfl⟩
      · have hB : B = false := by rw [HSB.out, decide_eq_false (by omega), Bool.false_and]
        have hd : ((ll : Int) == (n : Int)) = false := by rw [beq_eq_false_iff_ne]; omega
        have hdl : decide ((j : Int) ≤ (n : Int)) = false := decide_eq_false (by omega)
        clear HSB
        subst hB
        go_wp2
        go_ret
        exact ⟨rfl, rfl⟩
    · obtain rfl : j = ll := by omega
      have hall : (ss.all fun x => decide (x.size = s)) = true := by
        rw [List.all_eq_true]
        intro x hx
        obtain ⟨q, hq, rfl⟩ := List.getElem_of_mem hx
        have := HQ.out q (by omega)
        simp [List.getD, hq] at this
        exact decide_eq_true this
      have hB : B = decide (j = n) := by rw [HSB.out, hall, Bool.and_true, hlen]
      by_cases he : j = n
      · have hd : ((j : Int) == (n : Int)) = true := by rw [beq_iff_eq]; omega
        rw [decide_eq_true he] at hB
        clear HSB
        subst hB
        go_wp2
        go_ret
        exact ⟨rfl, rfl⟩
      · have hd : ((j : Int) == (n : Int)) = false := by rw [beq_eq_false_iff_ne]; omega
        rw [decide_eq_false he] at hB
        clear HSB
        subst hB
        go_wp2
        go_ret
        exact ⟨rfl, rfl⟩
theorem gen_one : ∀ i, i < 3 → genF 1 i 0 = 1 := by decide +kernel
def sX : ByteArray := ⟨#[120]⟩
theorem app_one : ∀ i, i < 3 → appTo (genF 1 i) [sX] 1 = sX := fun i hi => by
  have h := gen_one i hi
  show addedS (zeroS 1) (scaledS sX (genF 1 i 0)) = sX
  rw [h]
  decide +kernel
set_option maxRecDepth 100000 in
theorem wakes4_any (w : World) : Calls Try.prog 24 #[] w fun e w' => e = .returned (.bool true) ∧ Kept w w' := by
  go_enter Try.func24, Try.ntmps24
  go_wp2_with fail
  have h1 : StrsIn (w.alloc (.cells #[.string sX] 9)) (some ⟨w.heap.size, 0, none⟩) 1 [sX] :=
    ⟨rfl, by omega, fun s hs => by simp at hs; subst hs; decide, w.heap.size, 0, fun _ => rfl, fun i hi => by
      obtain rfl : i = 0 := by omega
      exact ⟨by simp, (BlockAt.new w #[.string sX] 9).cell 0⟩⟩
  refine (encode_any 1 2 3 1 rfl ⟨by omega, by omega, by omega⟩ ⟨by omega, by omega⟩ (some ⟨w.heap.size, 0, none⟩) 1 [sX] (w.alloc (.cells #[.string sX] 9)) h1 (Nat.le_refl _) (by decide)).mono ?_
  rintro e w1 ⟨a, rfl, -, ht, ha, hk⟩
  have HK := Lib.hid (((Kept.refl w).alloc (.cells #[.string sX] 9)).trans hk)
  have HT := Lib.hid (show StrsIn w1 a 3 [sX, sX, sX] from by
    rw [ha]
    refine ⟨rfl, by omega, fun s hs => ?_, _, 0, fun _ => rfl, fun i hi => ⟨ht.lt, ?_⟩⟩
    · simp at hs
      subst hs
      decide
    · rw [Nat.zero_add, ht.cell i hi, app_one i hi]
      match i, hi with
      | 0, _ => rfl
      | 1, _ => rfl
      | 2, _ => rfl)
  clear h1 ht ha hk
  go_wp2_with fail
  refine (num4_any _ _).mono ?_
  rintro e w2 ⟨rfl, rfl⟩
  go_wp2_with fail
  have k3 : Kept w1 (w1.alloc (.cells #[.string sX, .string sX, .string sX] 9)) := (Kept.refl w1).alloc _
  have h2 : StrsIn (w1.alloc (.cells #[.string sX, .string sX, .string sX] 9)) (some ⟨w1.heap.size, 0, none⟩) 3 [sX, sX, sX] := by
    refine ⟨rfl, by omega, fun s hs => ?_, w1.heap.size, 0, fun _ => rfl, fun i hi => ⟨by simp, ?_⟩⟩
    · simp at hs
      subst hs
      decide
    · match i, hi with
      | 0, _ => exact (BlockAt.new w1 #[.string sX, .string sX, .string sX] 9).cell 0
      | 1, _ => exact (BlockAt.new w1 #[.string sX, .string sX, .string sX] 9).cell 1
      | 2, _ => exact (BlockAt.new w1 #[.string sX, .string sX, .string sX] 9).cell 2
  refine (eq_strings _ _ 3 3 3 [sX, sX, sX] _ (HT.out.kept k3) h2).mono ?_
  rintro e w4 ⟨rfl, hk4⟩
  have HK4 := Lib.hid ((HK.out.trans k3).trans hk4)
  clear h2 k3 hk4
  go_wp2
  go_ret
  exact ⟨rfl, HK4.out⟩
end Go.Proofs.Ytoonpnpooljmlaa

namespace Go.Proofs.Ytoonpnpooljmlaa
open Go.RowKit
theorem Try.infoB8 : (Try.prog.info? 5).map (fun i => (i.zero, i.size, i.bytes)) = some (some (.int .u8 0), 1, 1) := by kernel_rfl
theorem makeB (n : Nat) (hn : n ≤ 281474976710656) : ∀ u : World, (Instr.makeSlice 31 (.int .i64 n) (.int .i64 n)).run Try.prog u =
    .ok (.slice (some ⟨u.heap.size, 0, none⟩) n n) (u.alloc (.cells (madeCells #[.int .u8 0] n) 5)) := fun u => by
  obtain ⟨i0, hi, hz0, hz1, hz2⟩ := info_parts Try.infoB8
  have h := run_make (P := Try.prog) u 31 5 i0 (.int .u8 0) Try.underlying31 hi hz0 .i64 .i64 (n : Int) (n : Int) (by omega) (Int.le_refl _) (by rw [hz2]; omega) (by omega)
  simpa [hz1, Value.cells] using h
theorem madeB (u : World) (n : Nat) : Buf (u.alloc (.cells (madeCells #[.int .u8 0] n) 5)) u.heap.size (List.replicate n 0) := by
  refine ⟨by simp, fun i hi => ?_, fun i hi => ?_⟩
  · rw [cell_new]
    have hi' : i < n := by simpa using hi
    simp [madeCells, hi', Nat.mod_one]
  · exact (BlockAt.new u (madeCells #[.int .u8 0] n) 5).free i
end Go.Proofs.Ytoonpnpooljmlaa

namespace Go.Proofs.Ytoonpnpooljmlaa
open Go.RowKit Go.Shelf
def zb (n : Nat) : ByteArray := ⟨(List.replicate n (0 : UInt8)).toArray⟩
theorem zb_size (n : Nat) : (zb n).size = n := by show (List.replicate n (0 : UInt8)).toArray.size = n; simp
/-- what Fitted hands back -/
def FittedP (w : World) (kn n : Nat) (e : Ending) (w' : World) : Prop := ∃ a cap xs, e = .returned (.slice a kn cap) ∧ kn ≤ cap ∧ StrsIn w' a kn xs ∧ (∀ x ∈ xs, x.size = n) ∧ Kept w w'
set_option maxRecDepth 100000 in
set_option maxHeartbeats 4000000 in
theorem fitted_any (a : Option Addr) (l cap : Nat) (ss : List ByteArray) (kn n : Nat) (w : World) (h : StrsIn w a l ss) (hl : l ≤ 1000000) (hz : ∀ i, i < l → (ss.getD i ByteArray.empty).size ≤ 1000000) (hk : kn ≤ 100) (hn : 1 ≤ n ∧ n ≤ 120) :
    Calls Try.prog 14 #[.slice a l cap, .int .i64 kn, .int .i64 n] w (FittedP w kn n) := by
  obtain ⟨i0, hi, hz0, hz1, hz2⟩ := info_parts Try.infoStr
  have HI := Lib.hid (And.intro hi (And.intro hz0 (And.intro hz1 hz2)))
  obtain ⟨z, hzv⟩ : ∃ z : ByteArray, z = zb n := ⟨_, rfl⟩
  have HZV := Lib.hid hzv
  have hzz : z.size = n := by rw [hzv, zb_size]
  have hmk : ∀ w : World, (Instr.makeSlice 31 (.int .i64 n) (.int .i64 n)).run Try.prog w = .ok (.slice (some ⟨w.heap.size, 0, none⟩) n n) (w.alloc (.cells (madeCells #[.int .u8 0] n) 5)) := makeB n (by omega)
  have hbf := fun w => madeB w n
  generalize madeCells #[.int .u8 0] n = Z at hmk hbf
  have HMK := Lib.hid hmk
  have HBF := Lib.hid hbf
  have HH := Lib.hid h
  have HZ := Lib.hid hz
  obtain ⟨hn1, hn2⟩ := hn
  clear hi hz0 hz1 hz2 hzv hmk hbf h hz
  go_enter Try.func14, Try.ntmps14
  go_wp2
  go_loopw [7, 8, 9, 10] (fun v i t9 b10 wr => ∃ (k : Nat) (xs : List ByteArray), k ≤ kn ∧ i = .int .i64 k ∧ t9 = t9 ∧ b10 = b10 ∧ wr.ownsRow w.heap.size 9 1 v k (xs.map Value.string) ∧ xs.length = k ∧ (∀ x ∈ xs, x.size = n) ∧ Kept w wr) (fun _ i _ _ _ => kn - (intOf i).toNat)
  case atStart => exact ⟨0, [], by omega, rfl, rfl, rfl, World.ownsRow_nil _ _ _ _, rfl, (fun x hx => by cases hx), Kept.refl _⟩
  case round =>
    obtain ⟨k, xs, hk2, rfl, _, _, hown, hlen, hall, hK⟩ := hrel
    have HO := Lib.hid hown
    have HK := Lib.hid hK
    have HALL := Lib.hid hall
    have HLEN := Lib.hid hlen
    clear hown hK hall hlen
    by_cases hlt : k < kn
    · have hd1 : decide ((k : Int) < kn) = true := decide_eq_true (by omega)
      have hmain : ∀ t : ByteArray, t.size ≤ 1000000 → True := fun _ _ => trivial
      clear hmain
      by_cases hl0 : 0 < l
      · have hd2 : decide ((0 : Int) < l) = true := decide_eq_true (by omega)
        obtain ⟨b, off, rfl, hc⟩ := (HH.out.kept HK.out).at hl0
        obtain ⟨p, hp⟩ : ∃ p : Nat, p = k % l := ⟨_, rfl⟩
        have hpl : p < l := by rw [hp]; exact Nat.mod_lt _ hl0
        have e1 : (k : Int) % (l : Int) = (p : Int) := by rw [hp]; simp
        have e1t : (k : Int).tmod (l : Int) = (p : Int) := by rw [Int.tmod_eq_emod_of_nonneg (by omega)]; exact e1
        have hl1 : ((l : Int) == 0) = false := by rw [beq_eq_false_iff_ne]; omega
        have c0 := hc p hpl wr (Kept.refl _)
        have ht := HZ.out p hpl
        generalize ss.getD p ByteArray.empty = t at c0 ht
        clear hc hp
        go_upto_region 8 with (fail)
        clear e1 e1t c0 hd2 hl1
        obtain ⟨u, hu⟩ : ∃ u : ByteArray, u = t ++ z := ⟨_, rfl⟩
        have hus : u.size = t.size + n := by rw [hu, ByteArray.size_append, hzz]
        have hA : ∀ w : World, (Op.stringOp .add t z).run Try.prog w = .ok (.string u) w := fun w => by rw [hu]; exact run_string_add_sum _ _ _ (by omega)
        have hmk := HMK.out wr
        have hcv := (HBF.out wr).string (P := Try.prog) 31 9 5 Try.underlying31 Try.underlying5 Try.underlying9 n
        rw [List.length_replicate, show (⟨(List.replicate n (0 : UInt8)).toArray⟩ : ByteArray) = z by rw [HZV.out]; rfl] at hcv
        clear hu
        go_upto_region 9 with (fail)
        have HK1 := Lib.hid (HK.out.alloc (.cells Z 5))
        have HO1 := Lib.hid (HO.out.alloc (.cells Z 5))
        have hw1 : wr.heap.size ≤ (wr.alloc (.cells Z 5)).heap.size := by simp
        generalize wr.alloc (.cells Z 5) = w1 at *
        clear hcv hmk hA
        obtain ⟨v, hv⟩ : ∃ v : ByteArray, v = u.extract 0 n := ⟨_, rfl⟩
        have hvs : v.size = n := by rw [hv, ByteArray.size_extract]; omega
        have HV := Lib.hid hv.symm
        have hun : n ≤ u.size := by omega
        clear hv
        have hcv := bytes_of (P := Try.prog) 9 31 5 v Try.underlying9 Try.underlying31 Try.underlying5 w1
        have hbf := bytesBehind_buf w1 5 v
        have hkb := bytesBehind_kept w1 5 v
        generalize grownCap w1 v.size 0 5 = cp at hcv
        generalize bytesBehind w1 5 v = wb at hcv hbf hkb
        rw [← HV.out] at hcv hbf
        have hxs : (u.extract 0 n).size = n := by rw [HV.out]; exact hvs
        rw [hxs] at hcv
        obtain ⟨g, hg⟩ : ∃ g, g = w1.heap.size := ⟨_, rfl⟩
        rw [← hg] at hcv hbf
        have HGE := Lib.hid hg
        clear hg
        go_upto_region 10 with (fail)
        rw [HV.out] at hbf
        have hq : 0 < v.data.toList.length := by simp; omega
        have hbc := hbf.cell 0 hq
        have hbfree := hbf.free 0 hq
        obtain ⟨x, hx⟩ : ∃ x : UInt8, v.data.toList[0] = x := ⟨_, rfl⟩
        rw [hx] at hbc
        have hxl := UInt8.toNat_lt x
        obtain ⟨y, hy⟩ : ∃ y : UInt8, IntKind.u8.wrap ((x.toNat : Int) + (k : Int)) = (y.toNat : Int) := by
          refine ⟨UInt8.ofNat (x.toNat + k), ?_⟩
          rw [UInt8.toNat_ofNat']
          show ((x.toNat : Int) + (k : Int)) % 256 = _
          omega
        have e8 : IntKind.u8.wrap (k : Int) = (k : Int) := by show (k : Int) % 256 = _; omega
        have HSL := Lib.hid (show v.data.toList.length = n by simp; exact hvs)
        have HBV := Lib.hid hbf
        have HKB := Lib.hid hkb
        clear hbf hkb hx hcv
        generalize v.data.toList = L at *
        go_upto_region 11 with (fail)
        have hbf2 := HBV.out.set 0 hq y
        have hcv := hbf2.string (P := Try.prog) 31 9 5 Try.underlying31 Try.underlying5 Try.underlying9 cp
        rw [List.length_set, HSL.out] at hcv
        have hts : (⟨(L.set 0 y).toArray⟩ : ByteArray).size = n := by
          show (L.set 0 y).toArray.size = _
          simp [HSL.out]
        generalize (⟨(L.set 0 y).toArray⟩ : ByteArray) = s9 at hcv hts
        have hk3 := HKB.out.setCell (p := ⟨g, 0, none⟩) (by have := HGE.out; show w1.heap.size ≤ g; omega) (.int .u8 (y.toNat : Int))
        have HK3 := Lib.hid (HK1.out.trans hk3)
        have HO3 := Lib.hid (own_kept HO1.out hk3)
        clear hbf2 hk3 hbc hbfree hy e8 HBV HKB
        generalize wb.setCell ⟨g, 0, none⟩ (.int .u8 (y.toNat : Int)) = wc at *
        go_wp2_with (at_builtin; refine wpList_append_own_at _ rfl _ _ 23 rfl w.heap.size 9 i0 (.string ByteArray.empty) 1 16 Try.underlying23 HI.out.1 HI.out.2.1 HI.out.2.2.1 HI.out.2.2.2 rfl (by decide) _ _ _ rfl (HO3.out.alloc _) ⟨wc.heap.size, 0, none⟩ 1 1 [.string s9] rfl rfl (cell_one_new _ _ _) (by intro u hu; simp at hu; subst hu; rfl) (by unfold maxLen; omega) (by omega) (by have := HK3.out.size; simp; omega) ?_)
        intro v' w9 hown9 hgrow _ _
        have HO9 := Lib.hid hown9
        have HK9 := Lib.hid (show Kept w w9 from kept_gr1 (HK3.out.alloc (.cells #[.string s9] 9)) hgrow (fun g e => (HO3.out.lt g e).1) (Nat.le_refl _))
        have HTS := Lib.hid hts
        clear hown9 hgrow hcv hts
        go_wp2
        go_roundw
        case rel => exact ⟨k + 1, xs ++ [s9], by omega, by go_num, by trivial, by trivial, by rw [List.map_append]; exact HO9.out, by rw [List.length_append, HLEN.out]; rfl, fun x hx => by
          rcases List.mem_append.1 hx with h1 | h1
          · exact HALL.out x h1
          · simp at h1; subst h1; exact HTS.out, HK9.out⟩
        case measure => simp [intOf]; omega
      · have hd2 : decide ((0 : Int) < l) = false := decide_eq_false (by omega)
        obtain ⟨t, ht0⟩ : ∃ t : ByteArray, t = ⟨#[]⟩ := ⟨_, rfl⟩
        have ht : t.size ≤ 1000000 := by rw [ht0]; exact (by decide : 0 ≤ 1000000)
        go_upto_region 8 with (fail)
        rw [← ht0]
        clear ht0 hd2
        obtain ⟨u, hu⟩ : ∃ u : ByteArray, u = t ++ z := ⟨_, rfl⟩
        have hus : u.size = t.size + n := by rw [hu, ByteArray.size_append, hzz]
        have hA : ∀ w : World, (Op.stringOp .add t z).run Try.prog w = .ok (.string u) w := fun w => by rw [hu]; exact run_string_add_sum _ _ _ (by omega)
        have hmk := HMK.out wr
        have hcv := (HBF.out wr).string (P := Try.prog) 31 9 5 Try.underlying31 Try.underlying5 Try.underlying9 n
        rw [List.length_replicate, show (⟨(List.replicate n (0 : UInt8)).toArray⟩ : ByteArray) = z by rw [HZV.out]; rfl] at hcv
        clear hu
        go_upto_region 9 with (fail)
        have HK1 := Lib.hid (HK.out.alloc (.cells Z 5))
        have HO1 := Lib.hid (HO.out.alloc (.cells Z 5))
        have hw1 : wr.heap.size ≤ (wr.alloc (.cells Z 5)).heap.size := by simp
        generalize wr.alloc (.cells Z 5) = w1 at *
        clear hcv hmk hA
        obtain ⟨v, hv⟩ : ∃ v : ByteArray, v = u.extract 0 n := ⟨_, rfl⟩
        have hvs : v.size = n := by rw [hv, ByteArray.size_extract]; omega
        have HV := Lib.hid hv.symm
        have hun : n ≤ u.size := by omega
        clear hv
        have hcv := bytes_of (P := Try.prog) 9 31 5 v Try.underlying9 Try.underlying31 Try.underlying5 w1
        have hbf := bytesBehind_buf w1 5 v
        have hkb := bytesBehind_kept w1 5 v
        generalize grownCap w1 v.size 0 5 = cp at hcv
        generalize bytesBehind w1 5 v = wb at hcv hbf hkb
        rw [← HV.out] at hcv hbf
        have hxs : (u.extract 0 n).size = n := by rw [HV.out]; exact hvs
        rw [hxs] at hcv
        obtain ⟨g, hg⟩ : ∃ g, g = w1.heap.size := ⟨_, rfl⟩
        rw [← hg] at hcv hbf
        have HGE := Lib.hid hg
        clear hg
        go_upto_region 10 with (fail)
        rw [HV.out] at hbf
        have hq : 0 < v.data.toList.length := by simp; omega
        have hbc := hbf.cell 0 hq
        have hbfree := hbf.free 0 hq
        obtain ⟨x, hx⟩ : ∃ x : UInt8, v.data.toList[0] = x := ⟨_, rfl⟩
        rw [hx] at hbc
        have hxl := UInt8.toNat_lt x
        obtain ⟨y, hy⟩ : ∃ y : UInt8, IntKind.u8.wrap ((x.toNat : Int) + (k : Int)) = (y.toNat : Int) := by
          refine ⟨UInt8.ofNat (x.toNat + k), ?_⟩
          rw [UInt8.toNat_ofNat']
          show ((x.toNat : Int) + (k : Int)) % 256 = _
          omega
        have e8 : IntKind.u8.wrap (k : Int) = (k : Int) := by show (k : Int) % 256 = _; omega
        have HSL := Lib.hid (show v.data.toList.length = n by simp; exact hvs)
        have HBV := Lib.hid hbf
        have HKB := Lib.hid hkb
        clear hbf hkb hx hcv
        generalize v.data.toList = L at *
        go_upto_region 11 with (fail)
        have hbf2 := HBV.out.set 0 hq y
        have hcv := hbf2.string (P := Try.prog) 31 9 5 Try.underlying31 Try.underlying5 Try.underlying9 cp
        rw [List.length_set, HSL.out] at hcv
        have hts : (⟨(L.set 0 y).toArray⟩ : ByteArray).size = n := by
          show (L.set 0 y).toArray.size = _
          simp [HSL.out]
        generalize (⟨(L.set 0 y).toArray⟩ : ByteArray) = s9 at hcv hts
        have hk3 := HKB.out.setCell (p := ⟨g, 0, none⟩) (by have := HGE.out; show w1.heap.size ≤ g; omega) (.int .u8 (y.toNat : Int))
        have HK3 := Lib.hid (HK1.out.trans hk3)
        have HO3 := Lib.hid (own_kept HO1.out hk3)
        clear hbf2 hk3 hbc hbfree hy e8 HBV HKB
        generalize wb.setCell ⟨g, 0, none⟩ (.int .u8 (y.toNat : Int)) = wc at *
        go_wp2_with (at_builtin; refine wpList_append_own_at _ rfl _ _ 23 rfl w.heap.size 9 i0 (.string ByteArray.empty) 1 16 Try.underlying23 HI.out.1 HI.out.2.1 HI.out.2.2.1 HI.out.2.2.2 rfl (by decide) _ _ _ rfl (HO3.out.alloc _) ⟨wc.heap.size, 0, none⟩ 1 1 [.string s9] rfl rfl (cell_one_new _ _ _) (by intro u hu; simp at hu; subst hu; rfl) (by unfold maxLen; omega) (by omega) (by have := HK3.out.size; simp; omega) ?_)
        intro v' w9 hown9 hgrow _ _
        have HO9 := Lib.hid hown9
        have HK9 := Lib.hid (show Kept w w9 from kept_gr1 (HK3.out.alloc (.cells #[.string s9] 9)) hgrow (fun g e => (HO3.out.lt g e).1) (Nat.le_refl _))
        have HTS := Lib.hid hts
        clear hown9 hgrow hcv hts
        go_wp2
        go_roundw
        case rel => exact ⟨k + 1, xs ++ [s9], by omega, by go_num, by trivial, by trivial, by rw [List.map_append]; exact HO9.out, by rw [List.length_append, HLEN.out]; rfl, fun x hx => by
          rcases List.mem_append.1 hx with h1 | h1
          · exact HALL.out x h1
          · simp at h1; subst h1; exact HTS.out, HK9.out⟩
        case measure => simp [intOf]; omega
    · obtain rfl : k = kn := by omega
      have hd1 : decide ((k : Int) < k) = false := decide_eq_false (by omega)
      obtain ⟨a', cap', rfl, hcl, hst⟩ := strs_own HO.out HLEN.out (fun x hx => by have := HALL.out x hx; omega)
      have HST := Lib.hid hst
      clear hst
      go_wp2
      go_ret
      exact ⟨_, _, xs, rfl, hcl, HST.out, HALL.out, HK.out⟩
end Go.Proofs.Ytoonpnpooljmlaa

namespace Go.Proofs.Ytoonpnpooljmlaa
open Go.RowKit

theorem ks_bounds {k m s : Int} (h : shpB k m s = true) : 1 ≤ k * s ∧ k * s ≤ 960 := by
  obtain ⟨h1, h2, h3, h4, h5, h6⟩ := shpB_true h
  have e1 := Int.mul_le_mul h2 h6 (by omega) (show (0 : Int) ≤ 8 by decide)
  have e2 := Int.mul_le_mul h1 h5 (by decide) (show 0 ≤ k by omega)
  exact ⟨by simpa using e2, by simpa using e1⟩
/-- may so many bytes of this shape be? -/
def stB (k m s n : Int) : Bool := shpB k m s && (decide (0 ≤ n) && decide (n ≤ 2000))
def stE (k m s n : Int) : Int := if stB k m s n = true then 0 else 1
def stN (k m s n : Int) : Int := if stB k m s n = true then (n + k * s - 1) / (k * s) else 0
end Go.Proofs.Ytoonpnpooljmlaa

namespace Go.Proofs.Ytoonpnpooljmlaa
open Go.RowKit

set_option maxRecDepth 100000 in
set_option maxHeartbeats 800000 in
theorem heavy4_any (ax : Option Addr) (ls cs : Nat) (al : Option Addr) (ll cl : Nat) (ss : List ByteArray) (ab : Option Addr) (lb cb : Nat) (w : World) (h : AskC w ax ls cs al ll cl ss) :
    Calls Try.prog 10 #[.agg #[.slice ax ls cs, .slice al ll cl, .slice ab lb cb]] w fun e w' => (e = .returned (.bool true) ∨ (e = .returned (.bool false) ∧ ll ≤ 4000 ∧ ls ≤ 50 ∧ ∀ i, i < ll → (ss.getD i ByteArray.empty).size ≤ 4000)) ∧ Kept w w' := by
  have HS := Lib.hid (h.texts.kept ((Kept.refl w).alloc (.cells #[.slice ax ls cs, .slice al ll cl, .slice ab lb cb] 26)))
  have HK := Lib.hid ((Kept.refl w).alloc (.cells #[.slice ax ls cs, .slice al ll cl, .slice ab lb cb] 26))
  have c0 := BlockAt.new w #[.slice ax ls cs, .slice al ll cl, .slice ab lb cb] 26
  clear h
  go_enter Try.func10, Try.ntmps10
  go_wp2_with fail
  generalize w.alloc (.cells #[.slice ax ls cs, .slice al ll cl, .slice ab lb cb] 26) = w1 at *
  obtain ⟨a0, a1, a2⟩ := box3c c0
  go_wp2_with fail
  refine (texts_sum _ _ _ ss _ HS.out).mono ?_
  rintro e w2 ⟨⟨n, rfl, hn⟩, rfl⟩
  have HN := Lib.hid hn
  have h0 := hn.nonneg
  clear hn c0
  by_cases h4 : n ≤ 4000
  · have hd : decide ((4000 : Int) < n) = false := decide_eq_false (by omega)
    by_cases h5 : lb ≤ 100
    · have hd2 : decide ((100 : Int) < lb) = false := decide_eq_false (by omega)
      by_cases h6 : ls ≤ 50
      · have hd3 : decide ((50 : Int) < ls) = false := decide_eq_false (by omega)
        go_wp2
        go_ret
        exact ⟨.inr ⟨rfl, by have := HN.out.many (by omega); omega, h6, fun i hi => by have := HN.out.each (by omega) i hi; omega⟩, HK.out⟩
      · have hd3 : decide ((50 : Int) < ls) = true := decide_eq_true (by omega)
        go_wp2
        go_ret
        exact ⟨.inl rfl, HK.out⟩
    · have hd2 : decide ((100 : Int) < lb) = true := decide_eq_true (by omega)
      go_wp2
      go_ret
      exact ⟨.inl rfl, HK.out⟩
  · have hd : decide ((4000 : Int) < n) = true := decide_eq_true (by omega)
    go_wp2
    go_ret
    exact ⟨.inl rfl, HK.out⟩
end Go.Proofs.Ytoonpnpooljmlaa
