/- The walk of the law CheckTurned: it answers true and changes nothing that was there (no condition but that the table lies as it is laid). -/
import Derived.Test.YtboheogbllgfjaaDoorChkOf
import Derived.Test.YtboheogbllgfjaaDoorAsk6
import Derived.Test.YtboheogbllgfjaaDoorPj
import Derived.Test.YtboheogbllgfjaaDoorTail
import Derived.Test.YtboheogbllgfjaaDoorBts
namespace Go.Proofs.YtboheogbllgfjaaDoor
open Go.RowKit

/-- one bit turned -/
theorem turn8 (x : UInt8) (r : Nat) (hr : r < 8) : ∃ y : UInt8, bits .xor .u8 (x.toNat : Int) ((2 : Int) ^ r % 256) = (y.toNat : Int) ∧ y ≠ x := by
  have hx := UInt8.toNat_lt x
  have hp : 2 ^ r < 256 := Nat.lt_of_lt_of_le (Nat.pow_lt_pow_right (by decide) hr) (by decide)
  have hp0 : 2 ^ r ≠ 0 := by have := Nat.two_pow_pos r; omega
  have h := u8_xor_nat x.toNat (2 ^ r) hx hp
  have hl : x.toNat ^^^ 2 ^ r < 256 := Nat.xor_lt_two_pow (n := 8) hx hp
  refine ⟨UInt8.ofNat (x.toNat ^^^ 2 ^ r), ?_, fun e => hp0 ?_⟩
  · rw [UInt8.toNat_ofNat', Nat.mod_eq_of_lt hl, ← h]
    congr 1
    have : ((2 ^ r % 256 : Nat) : Int) = (2 : Int) ^ r % 256 := by simp
    rw [← this, Nat.mod_eq_of_lt hp]
  · have e2 := congrArg UInt8.toNat e
    rw [UInt8.toNat_ofNat', Nat.mod_eq_of_lt hl] at e2
    have e3 := congrArg (x.toNat ^^^ ·) e2
    simp [← Nat.xor_assoc] at e3
/-- eight bytes made 0 -/
theorem eight_zero (s z t : ByteArray) (m m8 : Nat) (hz : z = ⟨(List.replicate 8 (0 : UInt8)).toArray⟩) (h8 : m8 = m + 8) (hm : m8 ≤ s.size) (ht : s.extract 0 m ++ z ++ s.extract m8 s.size = t) (hne : ¬ t = s) : Crc.more 0 t.data.toList ≠ Crc.more 0 s.data.toList := by
  have hl : s.data.toList.length = s.size := by simp
  have e1 : t.data.toList = s.data.toList.take m ++ (List.replicate 8 (0 : UInt8) ++ s.data.toList.drop m8) := by
    rw [← ht, hz]
    simp only [ByteArray.data_append, ByteArray.data_extract, Array.toList_append, Array.toList_extract, List.extract_eq_take_drop, List.drop_zero, Nat.sub_zero, List.append_assoc]
    congr 2
    rw [List.take_of_length_le (by rw [List.length_drop]; omega)]
  have e2 : s.data.toList = s.data.toList.take m ++ ((s.data.toList.drop m).take 8 ++ s.data.toList.drop m8) := by
    have : s.data.toList.drop m = (s.data.toList.drop m).take 8 ++ s.data.toList.drop m8 := by
      rw (occs := .pos [1]) [← List.take_append_drop 8 (s.data.toList.drop m)]
      rw [List.drop_drop, h8]
    rw [← this, List.take_append_drop]
  have h := Crc.more_eight (s.data.toList.take m) (List.replicate 8 0) ((s.data.toList.drop m).take 8) (s.data.toList.drop m8) (by simp) (by rw [List.length_take, List.length_drop]; omega) (fun e => hne (by
    have e3 : t.data.toList = s.data.toList := by rw [e1, e, ← e2]
    cases t; cases s
    simp only at e3
    rw [Array.toList_inj.1 e3]))
  rw [e1]
  intro hh
  exact h (by rw [← e2]; exact hh)
set_option maxRecDepth 100000 in
set_option maxHeartbeats 4000000 in
theorem checkTurned_walk {W : World} {v : Value} {a : Option Addr} {l cap : Nat} {ss : List ByteArray} (h : AskS W v a l cap ss) (hf : Fours W) :
    Calls Tryd.prog 5 #[v] W fun e W' => e = .returned (.bool true) ∧ Below W.heap.size W W' := by
  obtain ⟨rfl, hT⟩ := h
  have k1 : Kept W (W.alloc (.cells #[.slice a l cap] 24)) := (Kept.refl W).alloc _
  have HB := Lib.hid (BlockAt.new W #[.slice a l cap] 24)
  have HT := Lib.hid (hT.kept k1)
  have HF := Lib.hid (hf.kept k1)
  have HK1 := Lib.hid k1
  clear hT k1 hf
  go_enter Tryd.func5, Tryd.ntmps5
  go_wp2_with fail
  generalize W.alloc (.cells #[.slice a l cap] 24) = w0 at *
  have a0 := box1 HB.out
  go_wp2_with fail
  refine (heavy6_any _ _ _ ss _ HT.out).mono ?_
  rintro e w1 ⟨hbv, hk⟩
  have HB1 := Lib.hid (HB.out.kept hk)
  have HT1 := Lib.hid (HT.out.kept hk)
  have HF1 := Lib.hid (HF.out.kept hk)
  have HK2 := Lib.hid (HK1.out.trans hk)
  clear hk HB HT HF HK1 a0
  rcases hbv with rfl | ⟨rfl, hl6, hs6⟩
  · go_wp2
    go_ret
    exact ⟨rfl, HK2.out⟩
  have HS6 := Lib.hid hs6
  clear hs6
  go_wp2_with fail
  go_loopw [3] (fun i wr => ∃ k : Nat, k ≤ 6 ∧ i = .int .i64 k ∧ Kept w1 wr) (fun i _ => 6 - (intOf i).toNat)
  case atStart => exact ⟨0, by omega, rfl, Kept.refl _⟩
  case round =>
    obtain ⟨k, hk, rfl, hK⟩ := hrel
    have HK := Lib.hid hK
    clear hK
    have a0 := box1 (HB1.out.kept HK.out)
    by_cases hlt : k < l
    · by_cases h6 : k < 6
      · obtain ⟨b, off, rfl, hc⟩ := HT1.out.cell (by omega)
        have hcell := hc k hlt wr HK.out
        have hs := HS6.out k hlt
        have hd1 : decide ((k : Int) < l) = true := decide_eq_true (by omega)
        have hd6 : decide ((k : Int) < 6) = true := decide_eq_true (by omega)
        generalize ss.getD k ByteArray.empty = s at hcell hs
        clear hc
        by_cases h150 : s.size ≤ 150
        · have hd : decide ((150 : Int) < s.size) = false := decide_eq_false (by omega)
          go_wp2_with fail
          have hof := fun (t : ByteArray) (ht : t.size ≤ 9223372036854775807) (w : World) (kk : Kept w1 w) => of_any t ht w (HF1.out.kept kk)
          have HOF := Lib.hid hof
          refine (hof s (by omega) wr HK.out).mono ?_
          rintro e w' ⟨rfl, rfl⟩
          obtain ⟨c, hc⟩ : ∃ c : Nat, Crc.more 0 s.data.toList = c := ⟨_, rfl⟩
          rw [hc]
          have HC := Lib.hid hc
          clear hof hc hcell a0
          go_wp2_with fail
          obtain ⟨wo, rfl⟩ : ∃ wo : World, wo = wr := ⟨_, rfl⟩
          go_loopw [6] (fun i wr => ∃ j : Nat, j ≤ 8 * s.size ∧ i = .int .i64 j ∧ Kept w1 wr) (fun i _ => 8 * s.size - (intOf i).toNat)
          case atStart => exact ⟨0, by omega, rfl, HK.out⟩
          case round =>
            obtain ⟨j, hj, rfl, hKy⟩ := hrel
            have HKy := Lib.hid hKy
            clear hKy
            by_cases hjl : j < 8 * s.size
            · have hd8 : decide ((j : Int) < 8 * s.size) = true := decide_eq_true (by omega)
              have hcv := bytes_of (P := Tryd.prog) 9 32 5 s Tryd.underlying9 Tryd.underlying32 Tryd.underlying5 wr
              have hbf := bytesBehind_buf wr 5 s
              have hkb := bytesBehind_kept wr 5 s
              generalize grownCap wr s.size 0 5 = cp at hcv
              generalize bytesBehind wr 5 s = wb at hcv hbf hkb
              have hg0 : w1.heap.size ≤ wr.heap.size := HKy.out.size
              generalize wr.heap.size = g at hcv hbf hg0
              have HG := Lib.hid hg0
              clear hg0
              go_wp2_with fail
              obtain ⟨q, r, rfl, hr⟩ : ∃ q r : Nat, j = 8 * q + r ∧ r < 8 := ⟨j / 8, j % 8, by omega, by omega⟩
              have hq : q < s.data.toList.length := by simp; omega
              have hbc := hbf.cell q hq
              have hbfree := hbf.free q hq
              have e1 : ((8 * q + r : Nat) : Int) / 8 = (q : Int) := by omega
              have e2 : ((8 * q + r : Nat) : Int) % 8 = (r : Int) := by omega
              obtain ⟨x, hx⟩ : ∃ x : UInt8, s.data.toList[q] = x := ⟨_, rfl⟩
              obtain ⟨y, hxy, hyx⟩ := turn8 x r hr
              have hmt := Crc.more_turned s.data.toList q hq y (by rw [hx]; exact hyx)
              rw [HC.out] at hmt
              rw [hx] at hbc
              have HBF := Lib.hid hbf
              have HMT := Lib.hid hmt
              have HKB := Lib.hid (HKy.out.trans hkb)
              have hsl : s.data.toList.length = s.size := by simp
              have HSL := Lib.hid hsl
              generalize s.data.toList = L at *
              clear hbf hmt hkb hx hsl hcv
              generalize 8 * q + r = j at *
              refine (wpIn_wide (n := 0)).1 ?_
              refine wpIn_region_quiet_tail_lit 13 (by kernel_rfl) (by kernel_rfl) (by kernel_rfl) ?_
              simp only [List.take_succ_cons, List.take_zero, List.drop_succ_cons, List.drop_zero]
              repeat (gi_big_quiet_step (fail))
              refine wpQuietIn_nil ?_
              intro _ hw'
              obtain ⟨nq, hw''⟩ := hw'
              subst hw''
              have hbf2 := (HBF.out.kept ((Kept.refl wb).drewN nq)).set q hq y
              have hcv := hbf2.string (P := Tryd.prog) 32 9 5 Tryd.underlying32 Tryd.underlying5 Tryd.underlying9 cp
              rw [List.length_set, HSL.out] at hcv
              have hts : (⟨(L.set q y).toArray⟩ : ByteArray).size ≤ 9223372036854775807 := by
                show (L.set q y).toArray.size ≤ _
                simp [HSL.out]; omega
              obtain ⟨t, ht⟩ : ∃ t : ByteArray, t = ⟨(L.set q y).toArray⟩ := ⟨_, rfl⟩
              rw [← ht] at hcv hts
              have hmt := HMT.out
              rw [show L.set q y = t.data.toList by rw [ht]] at hmt
              have HK3 := Lib.hid ((HKB.out.drewN nq).setCell (p := ⟨g, q, none⟩) HG.out (.int .u8 (y.toNat : Int)))
              clear hbf2 ht
              gi_wp2
              go_wp2_with fail
              refine (HOF.out t hts _ HK3.out).mono ?_
              rintro e w' ⟨rfl, rfl⟩
              generalize Crc.more 0 t.data.toList = n at hmt
              have hne : ((n : Int) == (c : Int)) = false := by rw [beq_eq_false_iff_ne]; omega
              clear hcv
              go_wp2_with fail
              go_roundw
              case rel => exact ⟨j + 1, by omega, by go_num, HK3.out⟩
              case measure => simp [intOf]; omega
            · have hd8 : decide ((j : Int) < 8 * s.size) = false := decide_eq_false (by omega)
              go_wp2_with fail
              clear hd8
              obtain ⟨wq, rfl⟩ : ∃ wq : World, wq = wr := ⟨_, rfl⟩
              go_loopw [8, 9] (fun i _ wr => ∃ m : Nat, m ≤ s.size ∧ i = .int .i64 m ∧ Kept w1 wr) (fun i _ _ => s.size - (intOf i).toNat)
              case atStart => exact ⟨0, by omega, rfl, HKy.out⟩
              case round =>
                obtain ⟨m, hm, rfl, hKz⟩ := hrel
                have HKz := Lib.hid hKz
                clear hKz
                by_cases hml : m + 8 ≤ s.size
                · obtain ⟨m8, hm8⟩ : ∃ m8, m8 = m + 8 := ⟨_, rfl⟩
                  have hi8 : (m : Int) + 8 = (m8 : Int) := by omega
                  have hd8 : decide ((m8 : Int) ≤ s.size) = true := decide_eq_true (by omega)
                  have hb8 : m8 ≤ s.size := by omega
                  have HM8 := Lib.hid hm8
                  clear hm8
                  go_wp2_with fail
                  obtain ⟨z, hz⟩ : ∃ z : ByteArray, z = ⟨(List.replicate 8 (0 : UInt8)).toArray⟩ := ⟨_, rfl⟩
                  have hzs : z.size = 8 := by rw [hz]; rfl
                  have HCZ := Lib.hid (fun (b : Nat) (w : World) (hb : Buf w b (List.replicate 8 0)) => by
                    have h := hb.string (P := Tryd.prog) 32 9 5 Tryd.underlying32 Tryd.underlying5 Tryd.underlying9 8
                    rw [List.length_replicate, ← hz] at h
                    exact h)
                  have hmk8 : ∀ u : World, (Instr.makeSlice 32 (.int .i64 8) (.int .i64 8)).run Tryd.prog u = .ok (.slice (some ⟨u.heap.size, 0, none⟩) 8 8) (u.alloc (.cells (madeCells #[.int .u8 0] 8) 5)) := makeB 8 (by omega)
                  have HMK := Lib.hid hmk8
                  have hx1 : (s.extract 0 m).size = m := by rw [ByteArray.size_extract]; omega
                  have hx2 : (s.extract m8 s.size).size = s.size - m8 := by rw [ByteArray.size_extract]; omega
                  obtain ⟨t, ht⟩ : ∃ t : ByteArray, s.extract 0 m ++ z ++ s.extract m8 s.size = t := ⟨_, rfl⟩
                  have hA1 : ∀ w : World, (Op.stringOp .add (s.extract 0 m) z).run Tryd.prog w = .ok (.string (s.extract 0 m ++ z)) w := fun w => run_string_add_sum _ _ _ (by omega)
                  have hA2 : ∀ w : World, (Op.stringOp .add (s.extract 0 m ++ z) (s.extract m8 s.size)).run Tryd.prog w = .ok (.string t) w := fun w => by
                    rw [← ht]
                    exact run_string_add_sum _ _ _ (by rw [ByteArray.size_append]; omega)
                  have HA1 := Lib.hid hA1
                  have HA2 := Lib.hid hA2
                  have hts : t.size ≤ 9223372036854775807 := by rw [← ht, ByteArray.size_append, ByteArray.size_append]; omega
                  have HWR := Lib.hid (show IntKind.i64.wrap (m8 : Int) = (m8 : Int) from IntWalk.i64_in _ (by omega))
                  have HTT := Lib.hid ht
                  have HZ := Lib.hid hz
                  clear hmk8 ht hz hA1 hA2 hx1 hx2
                  refine Pj.wp_region_step (fun a0 L a w => ∃ V : Nat → Value, a = Pj.puts [(67, 0), (68, 1), (69, 2), (70, 3), (71, 4), (72, 5), (73, 6), (74, 7), (75, 8), (76, 9), (77, 10), (9, 11)] V a0 ∧ Pj.J wr [Pj.Is (.string s), Pj.Is (.int .i64 m), Pj.Is (.string (s.extract 0 m)), (fun w v => ∃ b, v = .slice (some ⟨b, 0, none⟩) 8 8 ∧ Buf w b (List.replicate 8 0)), Pj.Is (.string z), Pj.Is (.string (s.extract 0 m ++ z)), Pj.Is (.string s), Pj.Is (.int .i64 m), Pj.Is (.int .i64 m8), Pj.Is (.string (s.extract m8 s.size)), Pj.Is (.string t), Pj.Is (.string t)] L V w) (by as_aux_lemma => kernel_rfl) (by as_aux_lemma => kernel_rfl) ?eh0 ?ehs ?ehe
                  case eh0 =>
                    intro L hL
                    exact ⟨_, Pj.puts_self _ (fun j => ([67, 68, 69, 70, 71, 72, 73, 74, 75, 76, 77, 9] : List Nat).getD j 0) [0, 1, 2, 3, 4, 5, 6, 7, 8, 9, 10, 11], Pj.J.none (n := 12) (Nat.le_refl _) hL ((Kept.refl _).drew)⟩
                  case ehs =>
                    rintro L L' a w i op K ⟨V, rfl, hJ⟩ ho hopen hdep hL hK
                    have hP : Pj.AllStay [Pj.Is (.string s), Pj.Is (.int .i64 m), Pj.Is (.string (s.extract 0 m)), (fun w v => ∃ b, v = .slice (some ⟨b, 0, none⟩) 8 8 ∧ Buf w b (List.replicate 8 0)), Pj.Is (.string z), Pj.Is (.string (s.extract 0 m ++ z)), Pj.Is (.string s), Pj.Is (.int .i64 m), Pj.Is (.int .i64 m8), Pj.Is (.string (s.extract m8 s.size)), Pj.Is (.string t), Pj.Is (.string t)] := ⟨Pj.Is.stays _, Pj.Is.stays _, Pj.Is.stays _, fun _ _ _ ⟨b, e, h⟩ k => ⟨b, e, h.kept k⟩, Pj.Is.stays _, Pj.Is.stays _, Pj.Is.stays _, Pj.Is.stays _, Pj.Is.stays _, Pj.Is.stays _, Pj.Is.stays _, Pj.Is.stays _, trivial⟩
                    have HP := Lib.hid hP
                    clear hP
                    match i, ho with
                    | 0, ho =>
                      simp only [List.getElem?_toArray, List.getElem?_cons_zero, Option.some.injEq] at ho
                      have HJ := Lib.hid hJ
                      clear hJ
                      subst ho
                      refine Pj.Step.free rfl ?_
                      simp only [Pj.puts, List.foldl_cons, List.foldl_nil, Act.put, List.setIfInBounds_toArray, List.set_cons_zero, List.set_cons_succ]
                      go_simp
                      exact hK _ _ ⟨Pj.vset V 0 (.string s), by simp only [Pj.puts, List.foldl_cons, List.foldl_nil, Act.put, List.setIfInBounds_toArray, List.set_cons_zero, List.set_cons_succ, Pj.vset, Nat.reduceEqDiff, if_true, if_false], HJ.out.more HP.out hL (Kept.refl _) (rfl)⟩
                    | 1, ho =>
                      simp only [List.getElem?_toArray, List.getElem?_cons_zero, List.getElem?_cons_succ, Option.some.injEq] at ho
                      have HJ := Lib.hid hJ
                      clear hJ
                      subst ho
                      refine Pj.Step.free rfl ?_
                      simp only [Pj.puts, List.foldl_cons, List.foldl_nil, Act.put, List.setIfInBounds_toArray, List.set_cons_zero, List.set_cons_succ]
                      go_simp
                      exact hK _ _ ⟨Pj.vset V 1 (.int .i64 m), by simp only [Pj.puts, List.foldl_cons, List.foldl_nil, Act.put, List.setIfInBounds_toArray, List.set_cons_zero, List.set_cons_succ, Pj.vset, Nat.reduceEqDiff, if_true, if_false], HJ.out.more HP.out hL (Kept.refl _) (rfl)⟩
                    | 2, ho =>
                      simp only [List.getElem?_toArray, List.getElem?_cons_zero, List.getElem?_cons_succ, Option.some.injEq] at ho
                      have e0 : V 0 = .string s := hJ.h 0 (hdep 0 (by rw [← ho]; kernel_rfl))
                      have e1 : V 1 = .int .i64 m := hJ.h 1 (hdep 1 (by rw [← ho]; kernel_rfl))
                      have HJ := Lib.hid hJ
                      clear hJ
                      subst ho
                      refine Pj.Step.free rfl ?_
                      simp only [Pj.puts, List.foldl_cons, List.foldl_nil, Act.put, List.setIfInBounds_toArray, List.set_cons_zero, List.set_cons_succ, e0, e1]
                      go_simp
                      exact hK _ _ ⟨Pj.vset V 2 (.string (s.extract 0 m)), by simp only [Pj.puts, List.foldl_cons, List.foldl_nil, Act.put, List.setIfInBounds_toArray, List.set_cons_zero, List.set_cons_succ, Pj.vset, Nat.reduceEqDiff, if_true, if_false, e0, e1], HJ.out.more HP.out hL (Kept.refl _) (rfl)⟩
                    | 3, ho =>
                      simp only [List.getElem?_toArray, List.getElem?_cons_zero, List.getElem?_cons_succ, Option.some.injEq] at ho
                      have hmk := HMK.out w
                      have HJ := Lib.hid hJ
                      clear hJ
                      subst ho
                      refine Pj.Step.free rfl ?_
                      simp only [Pj.puts, List.foldl_cons, List.foldl_nil, Act.put, List.setIfInBounds_toArray, List.set_cons_zero, List.set_cons_succ]
                      go_simp
                      exact hK _ _ ⟨Pj.vset V 3 (.slice (some ⟨w.heap.size, 0, none⟩) 8 8), by simp only [Pj.puts, List.foldl_cons, List.foldl_nil, Act.put, List.setIfInBounds_toArray, List.set_cons_zero, List.set_cons_succ, Pj.vset, Nat.reduceEqDiff, if_true, if_false], HJ.out.more HP.out hL ((Kept.refl _).alloc _) (⟨_, rfl, madeB w 8⟩)⟩
                    | 4, ho =>
                      simp only [List.getElem?_toArray, List.getElem?_cons_zero, List.getElem?_cons_succ, Option.some.injEq] at ho
                      obtain ⟨b, e3, hb⟩ := hJ.h 3 (hdep 3 (by rw [← ho]; kernel_rfl))
                      have hcv := HCZ.out b w hb
                      have HJ := Lib.hid hJ
                      clear hJ
                      subst ho
                      refine Pj.Step.free rfl ?_
                      simp only [Pj.puts, List.foldl_cons, List.foldl_nil, Act.put, List.setIfInBounds_toArray, List.set_cons_zero, List.set_cons_succ, e3]
                      go_simp
                      exact hK _ _ ⟨Pj.vset V 4 (.string z), by simp only [Pj.puts, List.foldl_cons, List.foldl_nil, Act.put, List.setIfInBounds_toArray, List.set_cons_zero, List.set_cons_succ, Pj.vset, Nat.reduceEqDiff, if_true, if_false, e3], HJ.out.more HP.out hL (Kept.refl _) (rfl)⟩
                    | 5, ho =>
                      simp only [List.getElem?_toArray, List.getElem?_cons_zero, List.getElem?_cons_succ, Option.some.injEq] at ho
                      have e2 : V 2 = .string (s.extract 0 m) := hJ.h 2 (hdep 2 (by rw [← ho]; kernel_rfl))
                      have e4 : V 4 = .string z := hJ.h 4 (hdep 4 (by rw [← ho]; kernel_rfl))
                      have hadd := HA1.out
                      have HJ := Lib.hid hJ
                      clear hJ
                      subst ho
                      refine Pj.Step.free rfl ?_
                      simp only [Pj.puts, List.foldl_cons, List.foldl_nil, Act.put, List.setIfInBounds_toArray, List.set_cons_zero, List.set_cons_succ, e2, e4]
                      go_simp
                      exact hK _ _ ⟨Pj.vset V 5 (.string (s.extract 0 m ++ z)), by simp only [Pj.puts, List.foldl_cons, List.foldl_nil, Act.put, List.setIfInBounds_toArray, List.set_cons_zero, List.set_cons_succ, Pj.vset, Nat.reduceEqDiff, if_true, if_false, e2, e4], HJ.out.more HP.out hL (Kept.refl _) (rfl)⟩
                    | 6, ho =>
                      simp only [List.getElem?_toArray, List.getElem?_cons_zero, List.getElem?_cons_succ, Option.some.injEq] at ho
                      have HJ := Lib.hid hJ
                      clear hJ
                      subst ho
                      refine Pj.Step.free rfl ?_
                      simp only [Pj.puts, List.foldl_cons, List.foldl_nil, Act.put, List.setIfInBounds_toArray, List.set_cons_zero, List.set_cons_succ]
                      go_simp
                      exact hK _ _ ⟨Pj.vset V 6 (.string s), by simp only [Pj.puts, List.foldl_cons, List.foldl_nil, Act.put, List.setIfInBounds_toArray, List.set_cons_zero, List.set_cons_succ, Pj.vset, Nat.reduceEqDiff, if_true, if_false], HJ.out.more HP.out hL (Kept.refl _) (rfl)⟩
                    | 7, ho =>
                      simp only [List.getElem?_toArray, List.getElem?_cons_zero, List.getElem?_cons_succ, Option.some.injEq] at ho
                      have HJ := Lib.hid hJ
                      clear hJ
                      subst ho
                      refine Pj.Step.free rfl ?_
                      simp only [Pj.puts, List.foldl_cons, List.foldl_nil, Act.put, List.setIfInBounds_toArray, List.set_cons_zero, List.set_cons_succ]
                      go_simp
                      exact hK _ _ ⟨Pj.vset V 7 (.int .i64 m), by simp only [Pj.puts, List.foldl_cons, List.foldl_nil, Act.put, List.setIfInBounds_toArray, List.set_cons_zero, List.set_cons_succ, Pj.vset, Nat.reduceEqDiff, if_true, if_false], HJ.out.more HP.out hL (Kept.refl _) (rfl)⟩
                    | 8, ho =>
                      simp only [List.getElem?_toArray, List.getElem?_cons_zero, List.getElem?_cons_succ, Option.some.injEq] at ho
                      have e7 : V 7 = .int .i64 m := hJ.h 7 (hdep 7 (by rw [← ho]; kernel_rfl))
                      have hwr := HWR.out
                      have HJ := Lib.hid hJ
                      clear hJ
                      subst ho
                      refine Pj.Step.free rfl ?_
                      simp only [Pj.puts, List.foldl_cons, List.foldl_nil, Act.put, List.setIfInBounds_toArray, List.set_cons_zero, List.set_cons_succ, e7]
                      go_simp
                      exact hK _ _ ⟨Pj.vset V 8 (.int .i64 m8), by simp only [Pj.puts, List.foldl_cons, List.foldl_nil, Act.put, List.setIfInBounds_toArray, List.set_cons_zero, List.set_cons_succ, Pj.vset, Nat.reduceEqDiff, if_true, if_false, e7], HJ.out.more HP.out hL (Kept.refl _) (rfl)⟩
                    | 9, ho =>
                      simp only [List.getElem?_toArray, List.getElem?_cons_zero, List.getElem?_cons_succ, Option.some.injEq] at ho
                      have e6 : V 6 = .string s := hJ.h 6 (hdep 6 (by rw [← ho]; kernel_rfl))
                      have e8 : V 8 = .int .i64 m8 := hJ.h 8 (hdep 8 (by rw [← ho]; kernel_rfl))
                      have HJ := Lib.hid hJ
                      clear hJ
                      subst ho
                      refine Pj.Step.free rfl ?_
                      simp only [Pj.puts, List.foldl_cons, List.foldl_nil, Act.put, List.setIfInBounds_toArray, List.set_cons_zero, List.set_cons_succ, e6, e8]
                      go_simp
                      exact hK _ _ ⟨Pj.vset V 9 (.string (s.extract m8 s.size)), by simp only [Pj.puts, List.foldl_cons, List.foldl_nil, Act.put, List.setIfInBounds_toArray, List.set_cons_zero, List.set_cons_succ, Pj.vset, Nat.reduceEqDiff, if_true, if_false, e6, e8], HJ.out.more HP.out hL (Kept.refl _) (rfl)⟩
                    | 10, ho =>
                      simp only [List.getElem?_toArray, List.getElem?_cons_zero, List.getElem?_cons_succ, Option.some.injEq] at ho
                      have e5 : V 5 = .string (s.extract 0 m ++ z) := hJ.h 5 (hdep 5 (by rw [← ho]; kernel_rfl))
                      have e9 : V 9 = .string (s.extract m8 s.size) := hJ.h 9 (hdep 9 (by rw [← ho]; kernel_rfl))
                      have hadd := HA2.out
                      have HJ := Lib.hid hJ
                      clear hJ
                      subst ho
                      refine Pj.Step.free rfl ?_
                      simp only [Pj.puts, List.foldl_cons, List.foldl_nil, Act.put, List.setIfInBounds_toArray, List.set_cons_zero, List.set_cons_succ, e5, e9]
                      go_simp
                      exact hK _ _ ⟨Pj.vset V 10 (.string t), by simp only [Pj.puts, List.foldl_cons, List.foldl_nil, Act.put, List.setIfInBounds_toArray, List.set_cons_zero, List.set_cons_succ, Pj.vset, Nat.reduceEqDiff, if_true, if_false, e5, e9], HJ.out.more HP.out hL (Kept.refl _) (rfl)⟩
                    | 11, ho =>
                      simp only [List.getElem?_toArray, List.getElem?_cons_zero, List.getElem?_cons_succ, Option.some.injEq] at ho
                      have e10 : V 10 = .string t := hJ.h 10 (hdep 10 (by rw [← ho]; kernel_rfl))
                      have HJ := Lib.hid hJ
                      clear hJ
                      subst ho
                      refine Pj.Step.free rfl ?_
                      simp only [Pj.puts, List.foldl_cons, List.foldl_nil, Act.put, List.setIfInBounds_toArray, List.set_cons_zero, List.set_cons_succ, e10]
                      go_simp
                      exact hK _ _ ⟨Pj.vset V 11 (.string t), by simp only [Pj.puts, List.foldl_cons, List.foldl_nil, Act.put, List.setIfInBounds_toArray, List.set_cons_zero, List.set_cons_succ, Pj.vset, Nat.reduceEqDiff, if_true, if_false, e10], HJ.out.more HP.out hL (Kept.refl _) (rfl)⟩
                    | n + 12, ho => simp at ho
                  case ehe =>
                    rintro L a w ⟨V, rfl, hJ⟩ hall
                    have e11 : V 11 = .string t := hJ.h 11 (hall 11 (by decide))
                    have HKj := Lib.hid hJ.kp
                    clear hJ hall
                    simp only [Pj.puts, List.foldl_cons, List.foldl_nil, Act.put, List.setIfInBounds_toArray, List.set_cons_zero, List.set_cons_succ, e11]
                    clear e11
                    by_cases hts2 : t.toList = s.toList
                    · go_wp2_with fail
                      go_roundw
                      case rel => exact ⟨m + 1, by omega, by go_num, HKz.out.trans HKj.out⟩
                      case measure => simp [intOf]; omega
                    · have hmt := eight_zero s z t m m8 HZ.out HM8.out hb8 HTT.out (fun e => hts2 (by rw [e]))
                      rw [HC.out] at hmt
                      go_wp2_with fail
                      refine (HOF.out t hts _ (HKz.out.trans HKj.out)).mono ?_
                      rintro e w' ⟨rfl, rfl⟩
                      generalize Crc.more 0 t.data.toList = n at hmt
                      have hne : ((n : Int) == (c : Int)) = false := by rw [beq_eq_false_iff_ne]; omega
                      go_wp2_with fail
                      go_roundw
                      case rel => exact ⟨m + 1, by omega, by go_num, HKz.out.trans HKj.out⟩
                      case measure => simp [intOf]; omega
                · obtain ⟨m8, hm8⟩ : ∃ m8, m8 = m + 8 := ⟨_, rfl⟩
                  have hi8 : (m : Int) + 8 = (m8 : Int) := by omega
                  have hd8 : decide ((m8 : Int) ≤ s.size) = false := decide_eq_false (by omega)
                  have hb8 : m8 ≤ 158 := by omega
                  clear hm8
                  go_wp2_with fail
                  go_roundw
                  case rel => exact ⟨k + 1, by omega, by go_num, HKz.out⟩
                  case measure => simp [intOf]; omega
        · have hd : decide ((150 : Int) < s.size) = true := decide_eq_true (by omega)
          go_wp2_with fail
          go_roundw
          case rel => exact ⟨k + 1, by omega, by go_num, HK.out⟩
          case measure => simp [intOf]; omega
      · have hd1 : decide ((k : Int) < l) = true := decide_eq_true (by omega)
        have hd6 : decide ((k : Int) < 6) = false := decide_eq_false (by omega)
        go_wp2_with fail
        refine (wakes9_any _ (HF1.out.kept HK.out)).mono ?_
        rintro e w2 ⟨rfl, rfl⟩
        go_wp2
        go_ret
        exact ⟨rfl, HK2.out.trans HK.out⟩
    · have hd1 : decide ((k : Int) < l) = false := decide_eq_false (by omega)
      go_wp2_with fail
      refine (wakes9_any _ (HF1.out.kept HK.out)).mono ?_
      rintro e w2 ⟨rfl, rfl⟩
      go_wp2
      go_ret
      exact ⟨rfl, HK2.out.trans HK.out⟩
end Go.Proofs.YtboheogbllgfjaaDoor
