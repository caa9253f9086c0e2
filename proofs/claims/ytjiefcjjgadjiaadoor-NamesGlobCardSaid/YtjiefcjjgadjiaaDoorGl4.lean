/- siloref19.Glob, by what it answers (texts of no great length). -/
import Derived.Test.YtjiefcjjgadjiaaDoorGl3
import Derived.Test.YtjiefcjjgadjiaaDoorTail
import Derived.Test.YtjiefcjjgadjiaaDoorNm10
namespace Go.Proofs.YtjiefcjjgadjiaaDoor
open Go.RowKit Go.Shelf
theorem Tryd.infoRowsN : (Tryd.prog.info? 51).map (fun i => (i.zero, i.size, i.bytes)) = some (some (.slice none 0 0), 1, 24) := by kernel_rfl
def rowAt (p s : ByteArray) (i : Nat) : Nat → Bool := rowG s (p.data.toList.drop i)
theorem prefix_iff (l : List UInt8) : Lib.hasPrefix l [42, 42] = (decide (1 < l.length) && ((l.getD 0 0 == 42) && (l.getD 1 0 == 42))) := by
  have e : ∀ z : UInt8, ((42 : UInt8) == z) = (z == 42) := fun z => by
    rw [Bool.eq_iff_iff, beq_iff_eq, beq_iff_eq]
    exact eq_comm
  unfold Lib.hasPrefix
  match l with
  | [] => rfl
  | [x] => simp [List.isPrefixOf]
  | x :: y :: r => simp [List.isPrefixOf, e]
theorem rowAt_end (p s : ByteArray) : rowAt p s p.size = fun k => k == s.size := by
  unfold rowAt
  rw [List.drop_eq_nil_of_le (by rw [len_size]; exact Nat.le_refl _), rowG_nil]
section
variable (p s : ByteArray) (i : Nat) (hi : i < p.size)
include hi
theorem drop_ne : p.data.toList.drop i ≠ [] := fun e => by
  have := congrArg List.length e
  rw [List.length_drop, len_size] at this
  simp only [List.length_nil] at this
  omega
theorem drop_hd : (p.data.toList.drop i).getD 0 0 = p[i] := by rw [getD_drop, Nat.add_zero, byte_of p i hi]
theorem rowAt_let (h : ¬ p[i].toNat = 42) : rowAt p s i = letB s p[i] (rowAt p s (i + 1)) := by
  have h1 : ((p.data.toList.drop i).getD 0 0 == 42) = false := by
    rw [drop_hd p i hi]
    exact beq_eq_false_iff_ne.2 (fun e => h (by rw [e]; rfl))
  unfold rowAt
  rw [rowG_let _ _ (drop_ne p i hi) (by rw [prefix_iff, h1, Bool.false_and, Bool.and_false]) h1, drop_hd p i hi, List.drop_drop]
theorem rowAt_two (h : p[i].toNat = 42) (hi2 : i + 1 < p.size) (h2 : p[i + 1].toNat = 42) : rowAt p s i = starB s true (rowAt p s (i + 2)) := by
  have h1 : ((p.data.toList.drop i).getD 0 0 == 42) = true := by
    rw [drop_hd p i hi, beq_iff_eq]
    exact UInt8.toNat_inj.1 h
  have h3 : ((p.data.toList.drop i).getD 1 0 == 42) = true := by
    rw [getD_drop, ← byte_of p (i + 1) hi2, beq_iff_eq]
    exact UInt8.toNat_inj.1 h2
  unfold rowAt
  rw [rowG_two _ _ (drop_ne p i hi) (by rw [prefix_iff, h1, h3, List.length_drop, len_size, decide_eq_true (show 1 < p.size - i by omega)]; rfl), List.drop_drop]
theorem rowAt_one (h : p[i].toNat = 42) (h2 : ∀ hi2 : i + 1 < p.size, ¬ p[i + 1].toNat = 42) : rowAt p s i = starB s false (rowAt p s (i + 1)) := by
  have h1 : ((p.data.toList.drop i).getD 0 0 == 42) = true := by
    rw [drop_hd p i hi, beq_iff_eq]
    exact UInt8.toNat_inj.1 h
  have h3 : Lib.hasPrefix (p.data.toList.drop i) [42, 42] = false := by
    rw [prefix_iff, h1, Bool.true_and, List.length_drop, len_size]
    by_cases e : i + 1 < p.size
    · have : ((p.data.toList.drop i).getD 1 0 == 42) = false := by
        rw [getD_drop, ← byte_of p (i + 1) e]
        exact beq_eq_false_iff_ne.2 (fun q => h2 e (by rw [q]; rfl))
      rw [this, Bool.and_false]
    · rw [decide_eq_false (show ¬ 1 < p.size - i by omega), Bool.false_and]
  unfold rowAt
  rw [rowG_one _ _ (drop_ne p i hi) h3 h1, List.drop_drop]
end
set_option maxRecDepth 100000 in
set_option maxHeartbeats 8000000 in
theorem glob_ref (p s : ByteArray) (w : World) (hp : p.size ≤ 40) (hs : s.size ≤ 40) :
    Calls Tryd.prog 19 #[.string p, .string s] w fun e w' => e = .returned (.bool (rowAt p s 0 0)) ∧ Kept w w' := by
  obtain ⟨n, hn⟩ : ∃ n, n = s.size + 1 := ⟨_, rfl⟩
  obtain ⟨m, hm⟩ : ∃ m, m = p.size + 1 := ⟨_, rfl⟩
  have hmk : ∀ u : World, (Instr.makeSlice 51 (.int .i64 ((s.size : Int) + 1)) (.int .i64 ((s.size : Int) + 1))).run Tryd.prog u =
      .ok (.slice (some ⟨u.heap.size, 0, none⟩) n n) (u.alloc (.cells (madeCells #[.bool false] n) 4)) := fun u => by
    rw [show (s.size : Int) + 1 = (n : Int) by omega]
    exact mkBs n (by omega) u
  have HMK := Lib.hid hmk
  have hn1 : s.size < n := by omega
  have hn2 : n ≤ s.size + 1 := by omega
  have hm1 : p.size < m := by omega
  have hm2 : m ≤ p.size + 1 := by omega
  clear hn hm hmk
  have HI := Lib.hid (info_parts Tryd.infoRowsN)
  obtain ⟨i0, HI⟩ := HI.out
  have HI := Lib.hid HI
  go_enter Tryd.func19, Tryd.ntmps19
  go_wp2_with fail
  go_loopw [5, 6] (fun v i wr => ∃ (k : Nat) (gs : Nat → Nat), k ≤ m ∧ i = .int .i64 k ∧ Tup w.heap.size wr v k n gs ∧ Kept w wr) (fun _ i _ => m - (intOf i).toNat)
  case atStart => exact ⟨0, fun _ => 0, by omega, rfl, Tup.start _ _ _ _, Kept.refl _⟩
  case round =>
    obtain ⟨k, gs, hk, rfl, htu, hkr⟩ := hrel
    have HT := Lib.hid htu
    have HK := Lib.hid hkr
    clear htu hkr
    by_cases hlt : k ≤ p.size
    · have hd1 : decide ((k : Int) ≤ p.size) = true := decide_eq_true (by omega)
      have hmk := HMK.out
      have hwl := HK.out.size
      go_wp2_with (at_builtin; refine wpList_append_own_at _ rfl _ _ 54 rfl w.heap.size 51 i0 (.slice none 0 0) 1 24 Tryd.underlying54 HI.out.1 HI.out.2.1 HI.out.2.2.1 HI.out.2.2.2 rfl (by decide) _ _ _ rfl ((HT.out.own.alloc _).alloc _) ⟨wr.heap.size + 1, 0, none⟩ 1 1 [.slice (some ⟨wr.heap.size, 0, none⟩) n n] rfl rfl ?c1 ?c2 ?c3 ?c4 ?c5 ?_)
      case c1 =>
        intro j' u hj'
        match j', hj' with
        | 0, hj' =>
          simp at hj'
          subst hj'
          have h9 := cell_new (wr.alloc (.cells (madeCells #[.bool false] n) 4)) #[.slice (some ⟨wr.heap.size, 0, none⟩) n n] 51 0
          rw [World.size_alloc] at h9
          exact h9
      case c2 => intro u hu; simp at hu; subst hu; rfl
      case c3 => unfold maxLen; omega
      case c4 => omega
      case c5 => simp; omega
      intro v' w9 hown9 hgrow _ hat
      have HT9 := Lib.hid (HT.out.more hwl rfl hown9 hgrow hat)
      have HK9 := Lib.hid (show Kept w w9 from kept_gr1 ((HK.out.alloc (.cells (madeCells #[.bool false] n) 4)).alloc (.cells #[.slice (some ⟨wr.heap.size, 0, none⟩) n n] 51)) hgrow (fun g e => (HT.out.own.lt g e).1) (Nat.le_refl _))
      clear hown9 hgrow hat hmk
      go_wp2
      go_roundw
      case rel => exact ⟨k + 1, _, by omega, by go_num, HT9.out, HK9.out⟩
      case measure => simp [intOf]; omega
    · obtain rfl : k = m := by omega
      have hd1 : decide ((k : Int) ≤ p.size) = false := decide_eq_false (by omega)
      obtain ⟨T, cap, rfl, htab⟩ := HT.out.tab (by omega)
      have hb := htab.row p.size hm1
      have t0 : wr.cell? ⟨T, p.size, none⟩ = some (.slice (some ⟨gs p.size, 0, none⟩) n (n : Nat)) := htab.top p.size hm1
      have c0 := hb.cell s.size hn1
      have f0 := hb.free s.size
      obtain ⟨M0, hM0⟩ : ∃ M0 : Nat → Nat → Bool, M0 = fun r c => if r = p.size ∧ c = s.size then true else false := ⟨_, rfl⟩
      have HT0 := Lib.hid (htab.set p.size s.size hm1 hn1 true M0 (fun r c _ _ => by rw [hM0]))
      have HK0 := Lib.hid (htab.kept HK.out rfl p.size s.size hm1 true)
      have HM0 := Lib.hid (show ∀ r c, p.size ≤ r → r < k → c < n → M0 r c = rowAt p s r c from fun r c h1 h2 h3 => by
        have e : r = p.size := by omega
        rw [e, hM0, rowAt_end]
        show (if p.size = p.size ∧ c = s.size then true else false) = (c == s.size)
        by_cases e2 : c = s.size
        · rw [if_pos ⟨rfl, e2⟩, e2]; exact (beq_self_eq_true _).symm
        · rw [if_neg (fun q => e2 q.2)]; exact (beq_eq_false_iff_ne.2 e2).symm)
      clear hb htab hM0 HT
      go_wp2_with fail
      clear t0 c0 f0
      generalize wr.setCell ⟨gs p.size, s.size, none⟩ (.bool true) = wo at *
      go_loopw [7] (fun i wr => ∃ (z : Nat) (M : Nat → Nat → Bool), z ≤ p.size ∧ i = .int .i64 ((z : Int) - 1) ∧ Tab w.heap.size wr T k n gs M ∧ (∀ r c, z ≤ r → r < k → c < n → M r c = rowAt p s r c) ∧ Kept w wr) (fun i _ => (intOf i + 1).toNat)
      case atStart => exact ⟨p.size, M0, Nat.le_refl _, rfl, HT0.out, HM0.out, HK0.out⟩
      case round =>
        obtain ⟨z, M, hz, rfl, htz, hMz, hkz⟩ := hrel
        have HTZ := Lib.hid htz
        have HMZ := Lib.hid hMz
        have HKZ := Lib.hid hkz
        clear htz hMz hkz HT0 HM0 HK0 HK
        by_cases hz0 : z = 0
        · have hzi : (z : Int) - 1 = -1 := by omega
          rw [hzi]
          have t0 : wr.cell? ⟨T, 0, none⟩ = some (.slice (some ⟨gs 0, 0, none⟩) n n) := HTZ.out.top 0 (by omega)
          have c0 := (HTZ.out.row 0 (by omega)).cell 0 (by omega)
          rw [HMZ.out 0 0 (by omega) (by omega) (by omega)] at c0
          clear hz0 hzi hz
          go_wp2
          go_ret
          exact ⟨rfl, HKZ.out⟩
        · obtain ⟨i, hi⟩ : ∃ i, i + 1 = z := ⟨z - 1, by omega⟩
          have hip : i < p.size := by omega
          have hzi : (z : Int) - 1 = (i : Int) := by omega
          rw [hzi]
          have hd2 : decide ((0 : Int) ≤ (i : Int)) = true := decide_eq_true (by omega)
          have HZ := Lib.hid hi
          clear hzi hi hz0 hz
          by_cases h42 : p[i].toNat = 42
          · have e42 : ((p[i].toNat : Int) == 42) = true := beq_iff_eq.2 (by omega)
            have n42 : ((p[i].toNat : Int) != 42) = false := by simp [h42]
            by_cases h2 : ∃ hi2 : i + 1 < p.size, p[i + 1].toNat = 42
            · obtain ⟨hi2, h3⟩ := h2
              have HR := Lib.hid (rowAt_two p s i hip h42 hi2 h3)
              have f42 : ((p[i + 1].toNat : Int) == 42) = true := beq_iff_eq.2 (by omega)
              have hd3 : decide ((i : Int) + 1 < p.size) = true := decide_eq_true (by omega)
              clear h42 h3
              as_aux_lemma =>
                go_wp2_with fail
                go_loopw [9] (fun kv wr => ∃ (y : Nat) (M : Nat → Nat → Bool), y ≤ n ∧ kv = .int .i64 ((y : Int) - 1) ∧ Tab w.heap.size wr T k n gs M ∧ (∀ r c, i < r → r < k → c < n → M r c = rowAt p s r c) ∧ (∀ c, y ≤ c → c < n → M i c = rowAt p s i c) ∧ Kept w wr) (fun kv _ => (intOf kv + 1).toNat)
                case atStart => exact ⟨n, M, Nat.le_refl _, by first | (congr 1; omega) | congr 1, HTZ.out, fun r c h1 => HMZ.out r c (by have := HZ.out; omega), fun c h1 h2 => by omega, HKZ.out⟩
                case round =>
                  obtain ⟨y, M, hy, rfl, hty, hMy, hMi, hky⟩ := hrel
                  have HTY := Lib.hid hty
                  have HMY := Lib.hid hMy
                  have HMI := Lib.hid hMi
                  have HKY := Lib.hid hky
                  clear hty hMy hMi hky HTZ HMZ HKZ
                  by_cases hy0 : y = 0
                  · have hyi : (y : Int) - 1 = -1 := by omega
                    rw [hyi]
                    have HMI0 := Lib.hid (fun c (h : c < n) => HMI.out c (by omega) h)
                    clear hyi hy0 hy HMI
                    go_wp2
                    go_roundw
                    case rel => exact ⟨i, M, by omega, by go_num, HTY.out, fun r c h1 h2 h3 => by
                      by_cases e : r = i
                      · rw [e]; exact HMI0.out c h3
                      · exact HMY.out r c (by omega) h2 h3, HKY.out⟩
                    case measure => have := HZ.out; simp [intOf]; try omega
                  · obtain ⟨x, hx⟩ : ∃ x, x + 1 = y := ⟨y - 1, by omega⟩
                    have hxn : x < n := by omega
                    have hxs : x ≤ s.size := by omega
                    have hyi : (y : Int) - 1 = (x : Int) := by omega
                    rw [hyi]
                    have HX := Lib.hid hx
                    have hd4 : decide ((0 : Int) ≤ (x : Int)) = true := decide_eq_true (by omega)
                    have him : i < k := by omega
                    have ti : wr.cell? ⟨T, i, none⟩ = some (.slice (some ⟨gs i, 0, none⟩) n n) := HTY.out.top i him
                    have ci := (HTY.out.row i him).cell x hxn
                    have fi := (HTY.out.row i him).free x
                    have HST := Lib.hid (fun q b => (HTY.out.drew q).set i x him hxn b (setM M i x b) (fun r c _ _ => rfl))
                    have HSK := Lib.hid (fun q b => (HTY.out.drew q).kept (HKY.out.drewN q) rfl i x him b)
                    have HS1 := Lib.hid (fun b r c (h1 : i < r) (h2 : r < k) (h3 : c < n) => show setM M i x b r c = rowAt p s r c by unfold setM; rw [if_neg (fun q => by omega)]; exact HMY.out r c h1 h2 h3)
                    have HS2 := Lib.hid (fun b (hb : rowAt p s i x = b) c (h1 : x ≤ c) (h2 : c < n) => show setM M i x b i c = rowAt p s i c by
                      unfold setM
                      by_cases e : c = x
                      · rw [if_pos ⟨rfl, e⟩, e, hb]
                      · rw [if_neg (fun q => e q.2)]; exact HMI.out c (by have := HX.out; omega) h2)
                    have him1 : i + 1 < k := by omega
                    have him3 : i + 2 < k := by omega
                    have him2 : i + 2 < k := by omega
                    have t2 : wr.cell? ⟨T, i + 2, none⟩ = some (.slice (some ⟨gs (i + 2), 0, none⟩) n n) := HTY.out.top (i + 2) him2
                    have c2 := (HTY.out.row (i + 2) him2).cell x hxn
                    have HQ := Lib.hid (HMY.out (i + 2) x (by omega) him2 hxn)
                    have HV0 := Lib.hid (show rowAt p s i x = starB s true (rowAt p s (i + 2)) x by rw [HR.out])
                    clear hyi hx hy0 hy
                    obtain ⟨q0, hq0⟩ : ∃ q0, M (i + 2) x = q0 := ⟨_, rfl⟩
                    rw [hq0] at c2
                    have HQF := Lib.hid hq0
                    clear hq0
                    cases q0 with
                    | true =>
                      have HV := Lib.hid (show rowAt p s i x = true by
                        rw [HV0.out]
                        by_cases e : x < s.size
                        · rw [starB_at s true _ x e, ← HQ.out, HQF.out]; rfl
                        · obtain rfl : x = s.size := by omega
                          rw [starB_end, ← HQ.out, HQF.out])
                      clear HQ HQF
                      by_cases hxl : x < s.size
                      · have hd5 : decide ((x : Int) < s.size) = true := decide_eq_true (by omega)
                        as_aux_lemma =>
                          go_wp2_with fail
                          refine (wpIn_wide (n := 0)).1 ?_
                          refine wpIn_region_quiet_tail_lit 27 (by kernel_rfl) (by kernel_rfl) (by kernel_rfl) ?_
                          simp only [List.take_succ_cons, List.take_zero, List.drop_succ_cons, List.drop_zero]
                          repeat (gi_big_quiet_step (fail))
                          refine wpQuietIn_nil ?_
                          intro _ hw'
                          obtain ⟨nq, hw''⟩ := hw'
                          subst hw''
                          gi_wp2
                          go_wp2
                          go_roundw
                          case rel => exact ⟨x, _, by omega, by go_num, HST.out nq (true), HS1.out (true), HS2.out (true) HV.out, HSK.out nq (true)⟩
                          case measure => have := HX.out; simp [intOf]; try omega
                      · have hd5 : decide ((x : Int) < s.size) = false := decide_eq_false (by omega)
                        as_aux_lemma =>
                          go_wp2_with fail
                          refine (wpIn_wide (n := 0)).1 ?_
                          refine wpIn_region_quiet_tail_lit 27 (by kernel_rfl) (by kernel_rfl) (by kernel_rfl) ?_
                          simp only [List.take_succ_cons, List.take_zero, List.drop_succ_cons, List.drop_zero]
                          repeat (gi_big_quiet_step (fail))
                          refine wpQuietIn_nil ?_
                          intro _ hw'
                          obtain ⟨nq, hw''⟩ := hw'
                          subst hw''
                          gi_wp2
                          go_wp2
                          go_roundw
                          case rel => exact ⟨x, _, by omega, by go_num, HST.out nq (true), HS1.out (true), HS2.out (true) HV.out, HSK.out nq (true)⟩
                          case measure => have := HX.out; simp [intOf]; try omega
                    | false =>
                      by_cases hxl : x < s.size
                      · have hd5 : decide ((x : Int) < s.size) = true := decide_eq_true (by omega)
                        have c3 := (HTY.out.row i him).cell (x + 1) (by omega)
                        have HQ3 := Lib.hid (HMI.out (x + 1) (by have := HX.out; omega) (by omega))
                        have HV := Lib.hid (show rowAt p s i x = M i (x + 1) by
                          rw [HV0.out, starB_at s true _ x hxl, ← HQ.out, HQF.out, HQ3.out, HR.out]
                          rfl)
                        clear HQ HQ3 HQF
                        generalize M i (x + 1) = q at *
                        as_aux_lemma =>
                          go_wp2_with fail
                          refine (wpIn_wide (n := 0)).1 ?_
                          refine wpIn_region_quiet_tail_lit 27 (by kernel_rfl) (by kernel_rfl) (by kernel_rfl) ?_
                          simp only [List.take_succ_cons, List.take_zero, List.drop_succ_cons, List.drop_zero]
                          repeat (gi_big_quiet_step (fail))
                          refine wpQuietIn_nil ?_
                          intro _ hw'
                          obtain ⟨nq, hw''⟩ := hw'
                          subst hw''
                          gi_wp2
                          go_wp2
                          go_roundw
                          case rel => exact ⟨x, _, by omega, by go_num, HST.out nq (q), HS1.out (q), HS2.out (q) HV.out, HSK.out nq (q)⟩
                          case measure => have := HX.out; simp [intOf]; try omega
                      · have hd5 : decide ((x : Int) < s.size) = false := decide_eq_false (by omega)
                        have HV := Lib.hid (show rowAt p s i x = false by
                          rw [HV0.out]
                          obtain rfl : x = s.size := by omega
                          rw [starB_end, ← HQ.out, HQF.out])
                        clear HQ HQF
                        as_aux_lemma =>
                          go_wp2_with fail
                          refine (wpIn_wide (n := 0)).1 ?_
                          refine wpIn_region_quiet_tail_lit 27 (by kernel_rfl) (by kernel_rfl) (by kernel_rfl) ?_
                          simp only [List.take_succ_cons, List.take_zero, List.drop_succ_cons, List.drop_zero]
                          repeat (gi_big_quiet_step (fail))
                          refine wpQuietIn_nil ?_
                          intro _ hw'
                          obtain ⟨nq, hw''⟩ := hw'
                          subst hw''
                          gi_wp2
                          go_wp2
                          go_roundw
                          case rel => exact ⟨x, _, by omega, by go_num, HST.out nq (false), HS1.out (false), HS2.out (false) HV.out, HSK.out nq (false)⟩
                          case measure => have := HX.out; simp [intOf]; try omega
            · have HR := Lib.hid (rowAt_one p s i hip h42 (fun hi2 q => h2 ⟨hi2, q⟩))
              have HH := Lib.hid h2
              clear h2 h42
              by_cases hi2 : i + 1 < p.size
              · have hd3 : decide ((i : Int) + 1 < p.size) = true := decide_eq_true (by omega)
                have f42 : ((p[i + 1].toNat : Int) == 42) = false := beq_eq_false_iff_ne.2 (fun e => HH.out ⟨hi2, by omega⟩)
                as_aux_lemma =>
                  go_wp2_with fail
                  go_loopw [9] (fun kv wr => ∃ (y : Nat) (M : Nat → Nat → Bool), y ≤ n ∧ kv = .int .i64 ((y : Int) - 1) ∧ Tab w.heap.size wr T k n gs M ∧ (∀ r c, i < r → r < k → c < n → M r c = rowAt p s r c) ∧ (∀ c, y ≤ c → c < n → M i c = rowAt p s i c) ∧ Kept w wr) (fun kv _ => (intOf kv + 1).toNat)
                  case atStart => exact ⟨n, M, Nat.le_refl _, by first | (congr 1; omega) | congr 1, HTZ.out, fun r c h1 => HMZ.out r c (by have := HZ.out; omega), fun c h1 h2 => by omega, HKZ.out⟩
                  case round =>
                    obtain ⟨y, M, hy, rfl, hty, hMy, hMi, hky⟩ := hrel
                    have HTY := Lib.hid hty
                    have HMY := Lib.hid hMy
                    have HMI := Lib.hid hMi
                    have HKY := Lib.hid hky
                    clear hty hMy hMi hky HTZ HMZ HKZ
                    by_cases hy0 : y = 0
                    · have hyi : (y : Int) - 1 = -1 := by omega
                      rw [hyi]
                      have HMI0 := Lib.hid (fun c (h : c < n) => HMI.out c (by omega) h)
                      clear hyi hy0 hy HMI
                      go_wp2
                      go_roundw
                      case rel => exact ⟨i, M, by omega, by go_num, HTY.out, fun r c h1 h2 h3 => by
                        by_cases e : r = i
                        · rw [e]; exact HMI0.out c h3
                        · exact HMY.out r c (by omega) h2 h3, HKY.out⟩
                      case measure => have := HZ.out; simp [intOf]; try omega
                    · obtain ⟨x, hx⟩ : ∃ x, x + 1 = y := ⟨y - 1, by omega⟩
                      have hxn : x < n := by omega
                      have hxs : x ≤ s.size := by omega
                      have hyi : (y : Int) - 1 = (x : Int) := by omega
                      rw [hyi]
                      have HX := Lib.hid hx
                      have hd4 : decide ((0 : Int) ≤ (x : Int)) = true := decide_eq_true (by omega)
                      have him : i < k := by omega
                      have ti : wr.cell? ⟨T, i, none⟩ = some (.slice (some ⟨gs i, 0, none⟩) n n) := HTY.out.top i him
                      have ci := (HTY.out.row i him).cell x hxn
                      have fi := (HTY.out.row i him).free x
                      have HST := Lib.hid (fun q b => (HTY.out.drew q).set i x him hxn b (setM M i x b) (fun r c _ _ => rfl))
                      have HSK := Lib.hid (fun q b => (HTY.out.drew q).kept (HKY.out.drewN q) rfl i x him b)
                      have HS1 := Lib.hid (fun b r c (h1 : i < r) (h2 : r < k) (h3 : c < n) => show setM M i x b r c = rowAt p s r c by unfold setM; rw [if_neg (fun q => by omega)]; exact HMY.out r c h1 h2 h3)
                      have HS2 := Lib.hid (fun b (hb : rowAt p s i x = b) c (h1 : x ≤ c) (h2 : c < n) => show setM M i x b i c = rowAt p s i c by
                        unfold setM
                        by_cases e : c = x
                        · rw [if_pos ⟨rfl, e⟩, e, hb]
                        · rw [if_neg (fun q => e q.2)]; exact HMI.out c (by have := HX.out; omega) h2)
                      have him1 : i + 1 < k := by omega
                      have him2 : i + 1 < k := by omega
                      have t2 : wr.cell? ⟨T, i + 1, none⟩ = some (.slice (some ⟨gs (i + 1), 0, none⟩) n n) := HTY.out.top (i + 1) him2
                      have c2 := (HTY.out.row (i + 1) him2).cell x hxn
                      have HQ := Lib.hid (HMY.out (i + 1) x (by omega) him2 hxn)
                      have HV0 := Lib.hid (show rowAt p s i x = starB s false (rowAt p s (i + 1)) x by rw [HR.out])
                      clear hyi hx hy0 hy
                      obtain ⟨q0, hq0⟩ : ∃ q0, M (i + 1) x = q0 := ⟨_, rfl⟩
                      rw [hq0] at c2
                      have HQF := Lib.hid hq0
                      clear hq0
                      cases q0 with
                      | true =>
                        have HV := Lib.hid (show rowAt p s i x = true by
                          rw [HV0.out]
                          by_cases e : x < s.size
                          · rw [starB_at s false _ x e, ← HQ.out, HQF.out]; rfl
                          · obtain rfl : x = s.size := by omega
                            rw [starB_end, ← HQ.out, HQF.out])
                        clear HQ HQF
                        by_cases hxl : x < s.size
                        · have hd5 : decide ((x : Int) < s.size) = true := decide_eq_true (by omega)
                          as_aux_lemma =>
                            go_wp2_with fail
                            refine (wpIn_wide (n := 0)).1 ?_
                            refine wpIn_region_quiet_tail_lit 39 (by kernel_rfl) (by kernel_rfl) (by kernel_rfl) ?_
                            simp only [List.take_succ_cons, List.take_zero, List.drop_succ_cons, List.drop_zero]
                            repeat (gi_big_quiet_step (fail))
                            refine wpQuietIn_nil ?_
                            intro _ hw'
                            obtain ⟨nq, hw''⟩ := hw'
                            subst hw''
                            gi_wp2
                            go_wp2
                            go_roundw
                            case rel => exact ⟨x, _, by omega, by go_num, HST.out nq (true), HS1.out (true), HS2.out (true) HV.out, HSK.out nq (true)⟩
                            case measure => have := HX.out; simp [intOf]; try omega
                        · have hd5 : decide ((x : Int) < s.size) = false := decide_eq_false (by omega)
                          as_aux_lemma =>
                            go_wp2_with fail
                            refine (wpIn_wide (n := 0)).1 ?_
                            refine wpIn_region_quiet_tail_lit 39 (by kernel_rfl) (by kernel_rfl) (by kernel_rfl) ?_
                            simp only [List.take_succ_cons, List.take_zero, List.drop_succ_cons, List.drop_zero]
                            repeat (gi_big_quiet_step (fail))
                            refine wpQuietIn_nil ?_
                            intro _ hw'
                            obtain ⟨nq, hw''⟩ := hw'
                            subst hw''
                            gi_wp2
                            go_wp2
                            go_roundw
                            case rel => exact ⟨x, _, by omega, by go_num, HST.out nq (true), HS1.out (true), HS2.out (true) HV.out, HSK.out nq (true)⟩
                            case measure => have := HX.out; simp [intOf]; try omega
                      | false =>
                        by_cases hxl : x < s.size
                        · have hd5 : decide ((x : Int) < s.size) = true := decide_eq_true (by omega)
                          by_cases h47 : s[x].toNat = 47
                          ·
                            have HV := Lib.hid (show rowAt p s i x = false by
                              rw [HV0.out, starB_at s false _ x hxl, ← HQ.out, HQF.out, ← byte_of s x hxl]
                              have e : s[x] = 47 := UInt8.toNat_inj.1 h47
                              rw [e]
                              rfl)
                            have g47 : ((s[x].toNat : Int) != 47) = false := by simp [h47]
                            have HC := Lib.hid h47
                            clear h47
                            clear HQ HQF
                            as_aux_lemma =>
                              go_wp2_with fail
                              refine (wpIn_wide (n := 0)).1 ?_
                              refine wpIn_region_quiet_tail_lit 39 (by kernel_rfl) (by kernel_rfl) (by kernel_rfl) ?_
                              simp only [List.take_succ_cons, List.take_zero, List.drop_succ_cons, List.drop_zero]
                              repeat (gi_big_quiet_step (fail))
                              refine wpQuietIn_nil ?_
                              intro _ hw'
                              obtain ⟨nq, hw''⟩ := hw'
                              subst hw''
                              gi_wp2
                              go_wp2
                              go_roundw
                              case rel => exact ⟨x, _, by omega, by go_num, HST.out nq (false), HS1.out (false), HS2.out (false) HV.out, HSK.out nq (false)⟩
                              case measure => have := HX.out; simp [intOf]; try omega
                          · have g47 : ((s[x].toNat : Int) != 47) = true := bne_iff_ne.2 (by omega)
                            by_cases h58 : s[x].toNat = 58
                            ·
                              have HV := Lib.hid (show rowAt p s i x = false by
                                rw [HV0.out, starB_at s false _ x hxl, ← HQ.out, HQF.out, ← byte_of s x hxl]
                                have e : s[x] = 58 := UInt8.toNat_inj.1 h58
                                rw [e]
                                rfl)
                              have g58 : ((s[x].toNat : Int) != 58) = false := by simp [h58]
                              have HC := Lib.hid h58
                              clear h58
                              clear HQ HQF
                              as_aux_lemma =>
                                go_wp2_with fail
                                refine (wpIn_wide (n := 0)).1 ?_
                                refine wpIn_region_quiet_tail_lit 39 (by kernel_rfl) (by kernel_rfl) (by kernel_rfl) ?_
                                simp only [List.take_succ_cons, List.take_zero, List.drop_succ_cons, List.drop_zero]
                                repeat (gi_big_quiet_step (fail))
                                refine wpQuietIn_nil ?_
                                intro _ hw'
                                obtain ⟨nq, hw''⟩ := hw'
                                subst hw''
                                gi_wp2
                                go_wp2
                                go_roundw
                                case rel => exact ⟨x, _, by omega, by go_num, HST.out nq (false), HS1.out (false), HS2.out (false) HV.out, HSK.out nq (false)⟩
                                case measure => have := HX.out; simp [intOf]; try omega
                            · have g58 : ((s[x].toNat : Int) != 58) = true := bne_iff_ne.2 (by omega)
                              have c3 := (HTY.out.row i him).cell (x + 1) (by omega)
                              have HQ3 := Lib.hid (HMI.out (x + 1) (by have := HX.out; omega) (by omega))

                              have HV := Lib.hid (show rowAt p s i x = M i (x + 1) by
                                rw [HV0.out, starB_at s false _ x hxl, ← HQ.out, HQF.out, HQ3.out, HR.out, ← byte_of s x hxl]
                                have e1 : (s[x] == (47 : UInt8)) = false := beq_eq_false_iff_ne.2 (fun e => h47 (by rw [e]; rfl))
                                have e2 : (s[x] == (58 : UInt8)) = false := beq_eq_false_iff_ne.2 (fun e => h58 (by rw [e]; rfl))
                                unfold passB
                                rw [e1, e2]
                                rfl)
                              clear HQ HQ3 HQF h47 h58
                              generalize M i (x + 1) = q at *
                              as_aux_lemma =>
                                go_wp2_with fail
                                refine (wpIn_wide (n := 0)).1 ?_
                                refine wpIn_region_quiet_tail_lit 39 (by kernel_rfl) (by kernel_rfl) (by kernel_rfl) ?_
                                simp only [List.take_succ_cons, List.take_zero, List.drop_succ_cons, List.drop_zero]
                                repeat (gi_big_quiet_step (fail))
                                refine wpQuietIn_nil ?_
                                intro _ hw'
                                obtain ⟨nq, hw''⟩ := hw'
                                subst hw''
                                gi_wp2
                                go_wp2
                                go_roundw
                                case rel => exact ⟨x, _, by omega, by go_num, HST.out nq (q), HS1.out (q), HS2.out (q) HV.out, HSK.out nq (q)⟩
                                case measure => have := HX.out; simp [intOf]; try omega
                        · have hd5 : decide ((x : Int) < s.size) = false := decide_eq_false (by omega)
                          have HV := Lib.hid (show rowAt p s i x = false by
                            rw [HV0.out]
                            obtain rfl : x = s.size := by omega
                            rw [starB_end, ← HQ.out, HQF.out])
                          clear HQ HQF
                          as_aux_lemma =>
                            go_wp2_with fail
                            refine (wpIn_wide (n := 0)).1 ?_
                            refine wpIn_region_quiet_tail_lit 39 (by kernel_rfl) (by kernel_rfl) (by kernel_rfl) ?_
                            simp only [List.take_succ_cons, List.take_zero, List.drop_succ_cons, List.drop_zero]
                            repeat (gi_big_quiet_step (fail))
                            refine wpQuietIn_nil ?_
                            intro _ hw'
                            obtain ⟨nq, hw''⟩ := hw'
                            subst hw''
                            gi_wp2
                            go_wp2
                            go_roundw
                            case rel => exact ⟨x, _, by omega, by go_num, HST.out nq (false), HS1.out (false), HS2.out (false) HV.out, HSK.out nq (false)⟩
                            case measure => have := HX.out; simp [intOf]; try omega
              · have hd3 : decide ((i : Int) + 1 < p.size) = false := decide_eq_false (by omega)
                as_aux_lemma =>
                  go_wp2_with fail
                  go_loopw [9] (fun kv wr => ∃ (y : Nat) (M : Nat → Nat → Bool), y ≤ n ∧ kv = .int .i64 ((y : Int) - 1) ∧ Tab w.heap.size wr T k n gs M ∧ (∀ r c, i < r → r < k → c < n → M r c = rowAt p s r c) ∧ (∀ c, y ≤ c → c < n → M i c = rowAt p s i c) ∧ Kept w wr) (fun kv _ => (intOf kv + 1).toNat)
                  case atStart => exact ⟨n, M, Nat.le_refl _, by first | (congr 1; omega) | congr 1, HTZ.out, fun r c h1 => HMZ.out r c (by have := HZ.out; omega), fun c h1 h2 => by omega, HKZ.out⟩
                  case round =>
                    obtain ⟨y, M, hy, rfl, hty, hMy, hMi, hky⟩ := hrel
                    have HTY := Lib.hid hty
                    have HMY := Lib.hid hMy
                    have HMI := Lib.hid hMi
                    have HKY := Lib.hid hky
                    clear hty hMy hMi hky HTZ HMZ HKZ
                    by_cases hy0 : y = 0
                    · have hyi : (y : Int) - 1 = -1 := by omega
                      rw [hyi]
                      have HMI0 := Lib.hid (fun c (h : c < n) => HMI.out c (by omega) h)
                      clear hyi hy0 hy HMI
                      go_wp2
                      go_roundw
                      case rel => exact ⟨i, M, by omega, by go_num, HTY.out, fun r c h1 h2 h3 => by
                        by_cases e : r = i
                        · rw [e]; exact HMI0.out c h3
                        · exact HMY.out r c (by omega) h2 h3, HKY.out⟩
                      case measure => have := HZ.out; simp [intOf]; try omega
                    · obtain ⟨x, hx⟩ : ∃ x, x + 1 = y := ⟨y - 1, by omega⟩
                      have hxn : x < n := by omega
                      have hxs : x ≤ s.size := by omega
                      have hyi : (y : Int) - 1 = (x : Int) := by omega
                      rw [hyi]
                      have HX := Lib.hid hx
                      have hd4 : decide ((0 : Int) ≤ (x : Int)) = true := decide_eq_true (by omega)
                      have him : i < k := by omega
                      have ti : wr.cell? ⟨T, i, none⟩ = some (.slice (some ⟨gs i, 0, none⟩) n n) := HTY.out.top i him
                      have ci := (HTY.out.row i him).cell x hxn
                      have fi := (HTY.out.row i him).free x
                      have HST := Lib.hid (fun q b => (HTY.out.drew q).set i x him hxn b (setM M i x b) (fun r c _ _ => rfl))
                      have HSK := Lib.hid (fun q b => (HTY.out.drew q).kept (HKY.out.drewN q) rfl i x him b)
                      have HS1 := Lib.hid (fun b r c (h1 : i < r) (h2 : r < k) (h3 : c < n) => show setM M i x b r c = rowAt p s r c by unfold setM; rw [if_neg (fun q => by omega)]; exact HMY.out r c h1 h2 h3)
                      have HS2 := Lib.hid (fun b (hb : rowAt p s i x = b) c (h1 : x ≤ c) (h2 : c < n) => show setM M i x b i c = rowAt p s i c by
                        unfold setM
                        by_cases e : c = x
                        · rw [if_pos ⟨rfl, e⟩, e, hb]
                        · rw [if_neg (fun q => e q.2)]; exact HMI.out c (by have := HX.out; omega) h2)
                      have him1 : i + 1 < k := by omega
                      have him2 : i + 1 < k := by omega
                      have t2 : wr.cell? ⟨T, i + 1, none⟩ = some (.slice (some ⟨gs (i + 1), 0, none⟩) n n) := HTY.out.top (i + 1) him2
                      have c2 := (HTY.out.row (i + 1) him2).cell x hxn
                      have HQ := Lib.hid (HMY.out (i + 1) x (by omega) him2 hxn)
                      have HV0 := Lib.hid (show rowAt p s i x = starB s false (rowAt p s (i + 1)) x by rw [HR.out])
                      clear hyi hx hy0 hy
                      obtain ⟨q0, hq0⟩ : ∃ q0, M (i + 1) x = q0 := ⟨_, rfl⟩
                      rw [hq0] at c2
                      have HQF := Lib.hid hq0
                      clear hq0
                      cases q0 with
                      | true =>
                        have HV := Lib.hid (show rowAt p s i x = true by
                          rw [HV0.out]
                          by_cases e : x < s.size
                          · rw [starB_at s false _ x e, ← HQ.out, HQF.out]; rfl
                          · obtain rfl : x = s.size := by omega
                            rw [starB_end, ← HQ.out, HQF.out])
                        clear HQ HQF
                        by_cases hxl : x < s.size
                        · have hd5 : decide ((x : Int) < s.size) = true := decide_eq_true (by omega)
                          as_aux_lemma =>
                            go_wp2_with fail
                            refine (wpIn_wide (n := 0)).1 ?_
                            refine wpIn_region_quiet_tail_lit 39 (by kernel_rfl) (by kernel_rfl) (by kernel_rfl) ?_
                            simp only [List.take_succ_cons, List.take_zero, List.drop_succ_cons, List.drop_zero]
                            repeat (gi_big_quiet_step (fail))
                            refine wpQuietIn_nil ?_
                            intro _ hw'
                            obtain ⟨nq, hw''⟩ := hw'
                            subst hw''
                            gi_wp2
                            go_wp2
                            go_roundw
                            case rel => exact ⟨x, _, by omega, by go_num, HST.out nq (true), HS1.out (true), HS2.out (true) HV.out, HSK.out nq (true)⟩
                            case measure => have := HX.out; simp [intOf]; try omega
                        · have hd5 : decide ((x : Int) < s.size) = false := decide_eq_false (by omega)
                          as_aux_lemma =>
                            go_wp2_with fail
                            refine (wpIn_wide (n := 0)).1 ?_
                            refine wpIn_region_quiet_tail_lit 39 (by kernel_rfl) (by kernel_rfl) (by kernel_rfl) ?_
                            simp only [List.take_succ_cons, List.take_zero, List.drop_succ_cons, List.drop_zero]
                            repeat (gi_big_quiet_step (fail))
                            refine wpQuietIn_nil ?_
                            intro _ hw'
                            obtain ⟨nq, hw''⟩ := hw'
                            subst hw''
                            gi_wp2
                            go_wp2
                            go_roundw
                            case rel => exact ⟨x, _, by omega, by go_num, HST.out nq (true), HS1.out (true), HS2.out (true) HV.out, HSK.out nq (true)⟩
                            case measure => have := HX.out; simp [intOf]; try omega
                      | false =>
                        by_cases hxl : x < s.size
                        · have hd5 : decide ((x : Int) < s.size) = true := decide_eq_true (by omega)
                          by_cases h47 : s[x].toNat = 47
                          ·
                            have HV := Lib.hid (show rowAt p s i x = false by
                              rw [HV0.out, starB_at s false _ x hxl, ← HQ.out, HQF.out, ← byte_of s x hxl]
                              have e : s[x] = 47 := UInt8.toNat_inj.1 h47
                              rw [e]
                              rfl)
                            have g47 : ((s[x].toNat : Int) != 47) = false := by simp [h47]
                            have HC := Lib.hid h47
                            clear h47
                            clear HQ HQF
                            as_aux_lemma =>
                              go_wp2_with fail
                              refine (wpIn_wide (n := 0)).1 ?_
                              refine wpIn_region_quiet_tail_lit 39 (by kernel_rfl) (by kernel_rfl) (by kernel_rfl) ?_
                              simp only [List.take_succ_cons, List.take_zero, List.drop_succ_cons, List.drop_zero]
                              repeat (gi_big_quiet_step (fail))
                              refine wpQuietIn_nil ?_
                              intro _ hw'
                              obtain ⟨nq, hw''⟩ := hw'
                              subst hw''
                              gi_wp2
                              go_wp2
                              go_roundw
                              case rel => exact ⟨x, _, by omega, by go_num, HST.out nq (false), HS1.out (false), HS2.out (false) HV.out, HSK.out nq (false)⟩
                              case measure => have := HX.out; simp [intOf]; try omega
                          · have g47 : ((s[x].toNat : Int) != 47) = true := bne_iff_ne.2 (by omega)
                            by_cases h58 : s[x].toNat = 58
                            ·
                              have HV := Lib.hid (show rowAt p s i x = false by
                                rw [HV0.out, starB_at s false _ x hxl, ← HQ.out, HQF.out, ← byte_of s x hxl]
                                have e : s[x] = 58 := UInt8.toNat_inj.1 h58
                                rw [e]
                                rfl)
                              have g58 : ((s[x].toNat : Int) != 58) = false := by simp [h58]
                              have HC := Lib.hid h58
                              clear h58
                              clear HQ HQF
                              as_aux_lemma =>
                                go_wp2_with fail
                                refine (wpIn_wide (n := 0)).1 ?_
                                refine wpIn_region_quiet_tail_lit 39 (by kernel_rfl) (by kernel_rfl) (by kernel_rfl) ?_
                                simp only [List.take_succ_cons, List.take_zero, List.drop_succ_cons, List.drop_zero]
                                repeat (gi_big_quiet_step (fail))
                                refine wpQuietIn_nil ?_
                                intro _ hw'
                                obtain ⟨nq, hw''⟩ := hw'
                                subst hw''
                                gi_wp2
                                go_wp2
                                go_roundw
                                case rel => exact ⟨x, _, by omega, by go_num, HST.out nq (false), HS1.out (false), HS2.out (false) HV.out, HSK.out nq (false)⟩
                                case measure => have := HX.out; simp [intOf]; try omega
                            · have g58 : ((s[x].toNat : Int) != 58) = true := bne_iff_ne.2 (by omega)
                              have c3 := (HTY.out.row i him).cell (x + 1) (by omega)
                              have HQ3 := Lib.hid (HMI.out (x + 1) (by have := HX.out; omega) (by omega))

                              have HV := Lib.hid (show rowAt p s i x = M i (x + 1) by
                                rw [HV0.out, starB_at s false _ x hxl, ← HQ.out, HQF.out, HQ3.out, HR.out, ← byte_of s x hxl]
                                have e1 : (s[x] == (47 : UInt8)) = false := beq_eq_false_iff_ne.2 (fun e => h47 (by rw [e]; rfl))
                                have e2 : (s[x] == (58 : UInt8)) = false := beq_eq_false_iff_ne.2 (fun e => h58 (by rw [e]; rfl))
                                unfold passB
                                rw [e1, e2]
                                rfl)
                              clear HQ HQ3 HQF h47 h58
                              generalize M i (x + 1) = q at *
                              as_aux_lemma =>
                                go_wp2_with fail
                                refine (wpIn_wide (n := 0)).1 ?_
                                refine wpIn_region_quiet_tail_lit 39 (by kernel_rfl) (by kernel_rfl) (by kernel_rfl) ?_
                                simp only [List.take_succ_cons, List.take_zero, List.drop_succ_cons, List.drop_zero]
                                repeat (gi_big_quiet_step (fail))
                                refine wpQuietIn_nil ?_
                                intro _ hw'
                                obtain ⟨nq, hw''⟩ := hw'
                                subst hw''
                                gi_wp2
                                go_wp2
                                go_roundw
                                case rel => exact ⟨x, _, by omega, by go_num, HST.out nq (q), HS1.out (q), HS2.out (q) HV.out, HSK.out nq (q)⟩
                                case measure => have := HX.out; simp [intOf]; try omega
                        · have hd5 : decide ((x : Int) < s.size) = false := decide_eq_false (by omega)
                          have HV := Lib.hid (show rowAt p s i x = false by
                            rw [HV0.out]
                            obtain rfl : x = s.size := by omega
                            rw [starB_end, ← HQ.out, HQF.out])
                          clear HQ HQF
                          as_aux_lemma =>
                            go_wp2_with fail
                            refine (wpIn_wide (n := 0)).1 ?_
                            refine wpIn_region_quiet_tail_lit 39 (by kernel_rfl) (by kernel_rfl) (by kernel_rfl) ?_
                            simp only [List.take_succ_cons, List.take_zero, List.drop_succ_cons, List.drop_zero]
                            repeat (gi_big_quiet_step (fail))
                            refine wpQuietIn_nil ?_
                            intro _ hw'
                            obtain ⟨nq, hw''⟩ := hw'
                            subst hw''
                            gi_wp2
                            go_wp2
                            go_roundw
                            case rel => exact ⟨x, _, by omega, by go_num, HST.out nq (false), HS1.out (false), HS2.out (false) HV.out, HSK.out nq (false)⟩
                            case measure => have := HX.out; simp [intOf]; try omega
          · have HR := Lib.hid (rowAt_let p s i hip h42)
            have e42 : ((p[i].toNat : Int) == 42) = false := beq_eq_false_iff_ne.2 (by omega)
            have n42 : ((p[i].toNat : Int) != 42) = true := bne_iff_ne.2 (by omega)
            clear h42
            as_aux_lemma =>
              go_wp2_with fail
              go_loopw [9] (fun kv wr => ∃ (y : Nat) (M : Nat → Nat → Bool), y ≤ n ∧ kv = .int .i64 ((y : Int) - 1) ∧ Tab w.heap.size wr T k n gs M ∧ (∀ r c, i < r → r < k → c < n → M r c = rowAt p s r c) ∧ (∀ c, y ≤ c → c < n → M i c = rowAt p s i c) ∧ Kept w wr) (fun kv _ => (intOf kv + 1).toNat)
              case atStart => exact ⟨n, M, Nat.le_refl _, by first | (congr 1; omega) | congr 1, HTZ.out, fun r c h1 => HMZ.out r c (by have := HZ.out; omega), fun c h1 h2 => by omega, HKZ.out⟩
              case round =>
                obtain ⟨y, M, hy, rfl, hty, hMy, hMi, hky⟩ := hrel
                have HTY := Lib.hid hty
                have HMY := Lib.hid hMy
                have HMI := Lib.hid hMi
                have HKY := Lib.hid hky
                clear hty hMy hMi hky HTZ HMZ HKZ
                by_cases hy0 : y = 0
                · have hyi : (y : Int) - 1 = -1 := by omega
                  rw [hyi]
                  have HMI0 := Lib.hid (fun c (h : c < n) => HMI.out c (by omega) h)
                  clear hyi hy0 hy HMI
                  go_wp2
                  go_roundw
                  case rel => exact ⟨i, M, by omega, by go_num, HTY.out, fun r c h1 h2 h3 => by
                    by_cases e : r = i
                    · rw [e]; exact HMI0.out c h3
                    · exact HMY.out r c (by omega) h2 h3, HKY.out⟩
                  case measure => have := HZ.out; simp [intOf]; try omega
                · obtain ⟨x, hx⟩ : ∃ x, x + 1 = y := ⟨y - 1, by omega⟩
                  have hxn : x < n := by omega
                  have hxs : x ≤ s.size := by omega
                  have hyi : (y : Int) - 1 = (x : Int) := by omega
                  rw [hyi]
                  have HX := Lib.hid hx
                  have hd4 : decide ((0 : Int) ≤ (x : Int)) = true := decide_eq_true (by omega)
                  have him : i < k := by omega
                  have ti : wr.cell? ⟨T, i, none⟩ = some (.slice (some ⟨gs i, 0, none⟩) n n) := HTY.out.top i him
                  have ci := (HTY.out.row i him).cell x hxn
                  have fi := (HTY.out.row i him).free x
                  have HST := Lib.hid (fun q b => (HTY.out.drew q).set i x him hxn b (setM M i x b) (fun r c _ _ => rfl))
                  have HSK := Lib.hid (fun q b => (HTY.out.drew q).kept (HKY.out.drewN q) rfl i x him b)
                  have HS1 := Lib.hid (fun b r c (h1 : i < r) (h2 : r < k) (h3 : c < n) => show setM M i x b r c = rowAt p s r c by unfold setM; rw [if_neg (fun q => by omega)]; exact HMY.out r c h1 h2 h3)
                  have HS2 := Lib.hid (fun b (hb : rowAt p s i x = b) c (h1 : x ≤ c) (h2 : c < n) => show setM M i x b i c = rowAt p s i c by
                    unfold setM
                    by_cases e : c = x
                    · rw [if_pos ⟨rfl, e⟩, e, hb]
                    · rw [if_neg (fun q => e q.2)]; exact HMI.out c (by have := HX.out; omega) h2)
                  have him1 : i + 1 < k := by omega
                  have t1 : wr.cell? ⟨T, i + 1, none⟩ = some (.slice (some ⟨gs (i + 1), 0, none⟩) n n) := HTY.out.top (i + 1) him1
                  have HV0 := Lib.hid (show rowAt p s i x = letB s p[i] (rowAt p s (i + 1)) x by rw [HR.out])
                  clear hyi hx hy0 hy
                  by_cases hxl : x < s.size
                  · have hd5 : decide ((x : Int) < s.size) = true := decide_eq_true (by omega)
                    have c1 := (HTY.out.row (i + 1) him1).cell (x + 1) (by omega)
                    by_cases hc : p[i] = s[x]
                    · have HV := Lib.hid (show rowAt p s i x = M (i + 1) (x + 1) by
                        rw [HV0.out]
                        unfold letB
                        rw [decide_eq_true hxl, hc, byte_of s x hxl, beq_self_eq_true, HMY.out (i + 1) (x + 1) (by omega) him1 (by omega)]
                        rfl)
                      have g1 : ((p[i].toNat : Int) == (s[x].toNat : Int)) = true := by rw [hc]; simp
                      clear hc
                      generalize M (i + 1) (x + 1) = q at *
                      as_aux_lemma =>
                        go_wp2_with fail
                        refine (wpIn_wide (n := 0)).1 ?_
                        refine wpIn_region_quiet_tail_lit 27 (by kernel_rfl) (by kernel_rfl) (by kernel_rfl) ?_
                        simp only [List.take_succ_cons, List.take_zero, List.drop_succ_cons, List.drop_zero]
                        repeat (gi_big_quiet_step (fail))
                        refine wpQuietIn_nil ?_
                        intro _ hw'
                        obtain ⟨nq, hw''⟩ := hw'
                        subst hw''
                        gi_wp2
                        go_wp2
                        go_roundw
                        case rel => exact ⟨x, _, by omega, by go_num, HST.out nq (q), HS1.out (q), HS2.out (q) HV.out, HSK.out nq (q)⟩
                        case measure => have := HX.out; simp [intOf]; try omega
                    · have HV := Lib.hid (show rowAt p s i x = false by
                        rw [HV0.out]
                        unfold letB
                        rw [← byte_of s x hxl, beq_eq_false_iff_ne.2 hc, Bool.false_and, Bool.and_false])
                      have g0 : ¬ p[i].toNat = s[x].toNat := fun e => hc (UInt8.toNat_inj.1 e)
                      have g1 : ((p[i].toNat : Int) == (s[x].toNat : Int)) = false := beq_eq_false_iff_ne.2 (by omega)
                      have g2 : (p[i].toNat == s[x].toNat) = false := beq_eq_false_iff_ne.2 g0
                      clear hc
                      as_aux_lemma =>
                        go_wp2_with fail
                        refine (wpIn_wide (n := 0)).1 ?_
                        refine wpIn_region_quiet_tail_lit 27 (by kernel_rfl) (by kernel_rfl) (by kernel_rfl) ?_
                        simp only [List.take_succ_cons, List.take_zero, List.drop_succ_cons, List.drop_zero]
                        repeat (gi_big_quiet_step (fail))
                        refine wpQuietIn_nil ?_
                        intro _ hw'
                        obtain ⟨nq, hw''⟩ := hw'
                        subst hw''
                        gi_wp2
                        go_wp2
                        go_roundw
                        case rel => exact ⟨x, _, by omega, by go_num, HST.out nq (false), HS1.out (false), HS2.out (false) HV.out, HSK.out nq (false)⟩
                        case measure => have := HX.out; simp [intOf]; try omega
                  · obtain ⟨hxe, hd5⟩ : x = s.size ∧ decide ((x : Int) < s.size) = false := ⟨by omega, decide_eq_false (by omega)⟩
                    have HV := Lib.hid (show rowAt p s i x = false by
                      rw [HV0.out]
                      unfold letB
                      rw [decide_eq_false hxl, Bool.false_and])
                    clear hxe
                    as_aux_lemma =>
                      go_wp2_with fail
                      refine (wpIn_wide (n := 0)).1 ?_
                      refine wpIn_region_quiet_tail_lit 27 (by kernel_rfl) (by kernel_rfl) (by kernel_rfl) ?_
                      simp only [List.take_succ_cons, List.take_zero, List.drop_succ_cons, List.drop_zero]
                      repeat (gi_big_quiet_step (fail))
                      refine wpQuietIn_nil ?_
                      intro _ hw'
                      obtain ⟨nq, hw''⟩ := hw'
                      subst hw''
                      gi_wp2
                      go_wp2
                      go_roundw
                      case rel => exact ⟨x, _, by omega, by go_num, HST.out nq (false), HS1.out (false), HS2.out (false) HV.out, HSK.out nq (false)⟩
                      case measure => have := HX.out; simp [intOf]; try omega
end Go.Proofs.YtjiefcjjgadjiaaDoor
