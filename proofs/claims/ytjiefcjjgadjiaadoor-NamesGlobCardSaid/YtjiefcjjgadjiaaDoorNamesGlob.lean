/- The walk of the law NamesGlob: it answers true and changes nothing that was there (bytealg's limit lies as a number). -/
import Derived.Test.YtjiefcjjgadjiaaDoorGl5
import Derived.Test.YtjiefcjjgadjiaaDoorAsk6
import Derived.Test.YtjiefcjjgadjiaaDoorLater
namespace Go.Proofs.YtjiefcjjgadjiaaDoor
open Go.RowKit Go.Shelf
def patsN : List ByteArray := [⟨#[]⟩, ⟨#[42]⟩, ⟨#[42, 42]⟩, ⟨#[42, 47, 42]⟩, ⟨#[42, 42, 58, 42]⟩, ⟨#[97, 42, 98]⟩, ⟨#[42, 42, 42]⟩, ⟨#[97, 47, 42, 42]⟩]
set_option maxRecDepth 100000 in
set_option maxHeartbeats 8000000 in
/-- behind the patterns -/
theorem names_glob (a : Option Addr) (l cap : Nat) (ss : List ByteArray) (W : World) (h : TextsIn W a l cap ss) (hm : MaxL W)
    (ref_any : ∀ (p s : ByteArray) (w : World), p.size ≤ 40 → s.size ≤ 40 → Calls Tryd.prog 19 #[.string p, .string s] w fun e w' => e = .returned (.bool (globB p s)) ∧ Kept w w') :
    Calls Tryd.prog 4 #[.agg #[.slice a l cap]] W fun e W' => e = .returned (.bool true) ∧ Below W.heap.size W W' := by
  have HK1 := Lib.hid ((Kept.refl W).alloc (.cells #[.slice a l cap] 24))
  have hB1 := BlockAt.new W #[.slice a l cap] 24
  have HT := Lib.hid h
  have HM := Lib.hid (fun w (k : Kept W w) => hm.kept k)
  have HRR := Lib.hid ref_any
  clear h hm ref_any
  have HI := Lib.hid (info_parts Tryd.infoStrN)
  obtain ⟨i0, HI⟩ := HI.out
  have HI := Lib.hid HI
  go_enter Tryd.func4, Tryd.ntmps4
  go_upto_region 1 with (fail)
  generalize W.alloc (.cells #[.slice a l cap] 24) = w1 at *
  have HREAD := Lib.hid (fun w (kk : Kept w1 w) => box1 (hB1.kept kk))
  clear hB1
  generalize W.heap.size = p0 at HREAD ⊢
  have c0 := HREAD.out _ (Kept.refl _)
  go_wp2_with fail
  refine (heavy6_any a l cap ss _ (HT.out.kept HK1.out)).mono ?_
  rintro e w2 ⟨he, hk2⟩
  have HK2 := Lib.hid hk2
  clear hk2 c0
  rcases he with rfl | ⟨rfl, hll, hsz⟩
  · go_wp2
    go_ret
    exact ⟨rfl, HK1.out.trans HK2.out⟩
  · clear hsz
    have c0 := HREAD.out _ (HK2.out.alloc (.cells #[.string ⟨#[]⟩, .string ⟨#[42]⟩, .string ⟨#[42, 42]⟩, .string ⟨#[42, 47, 42]⟩, .string ⟨#[42, 42, 58, 42]⟩, .string ⟨#[97, 42, 98]⟩, .string ⟨#[42, 42, 42]⟩, .string ⟨#[97, 47, 42, 42]⟩] 9))
    have hw12 := HK2.out.size
    have hlit := World.ownsRow_lit (e := 9) (size := 1) (base := w1.heap.size) w2 #[.string ⟨#[]⟩, .string ⟨#[42]⟩, .string ⟨#[42, 42]⟩, .string ⟨#[42, 47, 42]⟩, .string ⟨#[42, 42, 58, 42]⟩, .string ⟨#[97, 42, 98]⟩, .string ⟨#[42, 42, 42]⟩, .string ⟨#[97, 47, 42, 42]⟩] 8 hw12 (by decide) (by rfl)
    cases ha : a with
    | none =>
      subst ha
      have hl0 : l = 0 := by
        obtain ⟨b, off, hab, _⟩ := HT.out.strs.cells
        cases l with
        | zero => rfl
        | succ j => exact absurd (hab (by omega)) (by simp)
      subst hl0
      go_wp2_with (at_builtin; refine wpList_takes_nil rfl _ _ 22 rfl w1.heap.size 9 i0 1 Tryd.underlying22 HI.out.1 cap _ 8 _ rfl hlit rfl ?_)
      have HK3 := Lib.hid (HK2.out.alloc (.cells #[.string ⟨#[]⟩, .string ⟨#[42]⟩, .string ⟨#[42, 42]⟩, .string ⟨#[42, 47, 42]⟩, .string ⟨#[42, 42, 58, 42]⟩, .string ⟨#[97, 42, 98]⟩, .string ⟨#[42, 42, 42]⟩, .string ⟨#[97, 47, 42, 42]⟩] 9))
      clear c0 hlit
      generalize w2.alloc (.cells #[.string ⟨#[]⟩, .string ⟨#[42]⟩, .string ⟨#[42, 42]⟩, .string ⟨#[42, 47, 42]⟩, .string ⟨#[42, 42, 58, 42]⟩, .string ⟨#[97, 42, 98]⟩, .string ⟨#[42, 42, 42]⟩, .string ⟨#[97, 47, 42, 42]⟩] 9) = w3 at *
      generalize w2.heap.size = g at *
      go_loopw [4] (fun i wr => ∃ j : Nat, j ≤ 8 ∧ i = .int .i64 j ∧ Kept w1 wr) (fun i _ => 8 - (intOf i).toNat)
      case atStart => exact ⟨0, by omega, rfl, HK3.out⟩
      case round =>
        obtain ⟨j, hj, rfl, hkr⟩ := hrel
        have HK := Lib.hid hkr
        clear hkr
        by_cases hj8 : j < 8
        · have hd1 : decide ((j : Int) < 8) = true := decide_eq_true (by omega)
          have hd2 : decide ((j : Int) < 18) = true := decide_eq_true (by omega)
          go_wp2_with fail
          obtain ⟨wo, rfl⟩ : ∃ wo, wo = wr := ⟨_, rfl⟩
          go_loopw [5] (fun i wr => i = .int .i64 0 ∧ Kept w1 wr) (fun _ _ => 0)
          case atStart => exact ⟨rfl, HK.out⟩
          case round =>
            obtain ⟨rfl, hkr⟩ := hrel
            have HKr := Lib.hid hkr
            clear hkr
            have c0 := HREAD.out _ HKr.out
            go_wp2
            go_roundw
            case rel => exact ⟨j + 1, by omega, by go_num, HKr.out⟩
            case measure => simp [intOf]; omega
        · have hd1 : decide ((j : Int) < 8) = false := decide_eq_false (by omega)
          obtain rfl : j = 8 := by omega
          go_wp2_with fail
          refine (wakes19_any _ (HM.out _ (HK1.out.trans HK.out))).mono ?_
          rintro e w5 ⟨rfl, hk⟩
          have HK5 := Lib.hid (HK.out.trans hk)
          clear hk
          go_wp2
          go_ret
          exact ⟨rfl, HK1.out.trans HK5.out⟩
    | some ad =>
      subst ha
      have hsl : ss.length = l := HT.out.strs.len_eq
      obtain ⟨b0, off0, hab, hce⟩ := HT.out.strs.cells
      go_wp2_with (at_builtin; refine wpList_append_own_at _ rfl _ _ 22 rfl w1.heap.size 9 i0 (.string ByteArray.empty) 1 16 Tryd.underlying22 HI.out.1 HI.out.2.1 HI.out.2.2.1 HI.out.2.2.2 rfl (by decide) _ _ _ rfl hlit ad l cap (ss.map Value.string) rfl ?c0 ?c1 ?c2 ?c3 ?c4 ?c5 ?_)
      case c0 => simp [hsl]
      case c1 =>
        intro j u hj
        have hjl : j < l := by
          have := (List.getElem?_eq_some_iff.1 hj).1
          simpa [hsl] using this
        have e := Option.some.inj (hab (by omega))
        subst e
        have h9 := (HK1.out.trans (HK2.out.alloc (.cells #[.string ⟨#[]⟩, .string ⟨#[42]⟩, .string ⟨#[42, 42]⟩, .string ⟨#[42, 47, 42]⟩, .string ⟨#[42, 42, 58, 42]⟩, .string ⟨#[97, 42, 98]⟩, .string ⟨#[42, 42, 42]⟩, .string ⟨#[97, 47, 42, 42]⟩] 9))).cell (hce j hjl).1 (hce j hjl).2
        rw [show (⟨b0, off0, none⟩ : Addr).add j = ⟨b0, off0 + j, none⟩ by simp [Addr.add], h9]
        rw [List.getElem?_map, List.getElem?_eq_getElem (by omega)] at hj
        simp only [Option.map_some, Option.some.injEq] at hj
        rw [← hj, List.getD_eq_getElem?_getD, List.getElem?_eq_getElem (by omega)]
        rfl
      case c2 =>
        intro u hu
        obtain ⟨t, _, rfl⟩ := List.mem_map.1 hu
        rfl
      case c3 => unfold maxLen; omega
      case c4 => omega
      case c5 => simp; omega
      intro v' w3 hown hgrow _ _
      have HK3 := Lib.hid (show Kept w1 w3 from kept_gr1 (HK2.out.alloc (.cells #[.string ⟨#[]⟩, .string ⟨#[42]⟩, .string ⟨#[42, 42]⟩, .string ⟨#[42, 47, 42]⟩, .string ⟨#[42, 42, 58, 42]⟩, .string ⟨#[97, 42, 98]⟩, .string ⟨#[42, 42, 42]⟩, .string ⟨#[97, 47, 42, 42]⟩] 9)) hgrow (fun g e => by cases e; exact hw12) (Nat.le_refl _))
      have hown2 : w3.ownsRow w1.heap.size 9 1 v' (8 + l) ((patsN ++ ss).map Value.string) := by rw [List.map_append]; exact hown
      have hlp : ∀ t ∈ patsN, t.size ≤ 9223372036854775807 := by decide
      obtain ⟨ap, cap9, rfl, hcap, hst⟩ := strs_own hown2 (by rw [List.length_append, hsl]; rfl) (fun t ht => by
        rcases List.mem_append.1 ht with q | q
        · exact hlp t q
        · have := HT.out.short t q; omega)
      have HST := Lib.hid hst
      clear hown hown2 hgrow hlit c0 hst hab hce
      clear hlp
      generalize patsN ++ ss = pats at *
      go_wp2_with fail
      go_loopw [4] (fun i wr => ∃ j : Nat, j ≤ 8 + l ∧ i = .int .i64 j ∧ Kept w3 wr) (fun i _ => 8 + l - (intOf i).toNat)
      case atStart => exact ⟨0, by omega, rfl, Kept.refl _⟩
      case round =>
        obtain ⟨i, hi, rfl, hkr⟩ := hrel
        have HKi := Lib.hid hkr
        clear hkr
        by_cases hil : i < 8 + l
        · have hd1 : decide ((i : Int) < 8 + l) = true := decide_eq_true (by omega)
          by_cases hi18 : i < 18
          · have hd2 : decide ((i : Int) < 18) = true := decide_eq_true (by omega)
            obtain ⟨gp, op, rfl, hcp⟩ := HST.out.at (by omega)
            have HCP := Lib.hid (hcp i hil)
            clear hcp
            generalize pats.getD i ByteArray.empty = p at HCP
            go_wp2_with fail
            obtain ⟨wo, rfl⟩ : ∃ wo, wo = wr := ⟨_, rfl⟩
            go_loopw [5] (fun i wr => ∃ j : Nat, j ≤ l ∧ i = .int .i64 j ∧ Kept w3 wr) (fun i _ => l - (intOf i).toNat)
            case atStart => exact ⟨0, by omega, rfl, HKi.out⟩
            case round =>
              obtain ⟨k, hk, rfl, hkr⟩ := hrel
              have HKk := Lib.hid hkr
              clear hkr
              have c0 := HREAD.out _ (HK3.out.trans HKk.out)
              by_cases hkl : k < l
              · have hd3 : decide ((k : Int) < l) = true := decide_eq_true (by omega)
                by_cases hk10 : k < 10
                · have hd4 : decide ((k : Int) < 10) = true := decide_eq_true (by omega)
                  obtain ⟨b, off, he, hc⟩ := HT.out.cell (by omega)
                  have e := Option.some.inj he
                  subst e
                  have HCS := Lib.hid (fun w (kk : Kept w3 w) => hc k hkl w (HK1.out.trans (HK3.out.trans kk)))
                  clear hc he
                  generalize ss.getD k ByteArray.empty = s at HCS
                  have lc0 := later_cell c0
                  have lc1 := later_cell (HCS.out _ HKk.out)
                  have lc2 := later_cell (HCP.out _ HKk.out)
                  have hil' : i < 8 + l := hil
                  go_wp2_with fail
                  by_cases h40 : p.size ≤ 40 ∧ s.size ≤ 40
                  · have hgv : globV p s = .tuple #[.bool (globB p s), .int .i64 0] := by unfold globV; rw [if_pos h40]
                    have HGA := Lib.hid (fun w => glob_any p s w)
                    rw [hgv] at HGA
                    have HRA := Lib.hid (fun w => HRR.out p s w h40.1 h40.2)
                    have hd5 : decide ((p.size : Int) ≤ 40) = true := decide_eq_true (by omega)
                    have hd6 : decide ((s.size : Int) ≤ 40) = true := decide_eq_true (by omega)
                    clear hgv h40
                    generalize globB p s = q at *
                    refine region_later (by kernel_rfl) (by kernel_rfl) ?_
                    repeat (go_big_quiet_step ((go_at_call 18; exact later_call (HGA.out _))))
                    refine wpQuiet_nil ?_
                    intro _ hw'
                    obtain ⟨nq, hw''⟩ := hw'
                    subst hw''
                    have HKa := Lib.hid (HKk.out.trans nq.2)
                    clear lc0 lc1 lc2 c0
                    generalize nq.1 = wa at *
                    have c0 := HREAD.out _ (HK3.out.trans HKa.out)
                    have c1 := HCS.out _ HKa.out
                    have c2 := HCP.out _ HKa.out
                    have lc0 := later_cell c0
                    have lc1 := later_cell c1
                    have lc2 := later_cell c2
                    go_wp2_with fail
                    clear c0 c1 c2
                    refine region_later (by kernel_rfl) (by kernel_rfl) ?_
                    repeat (go_big_quiet_step ((go_at_call 19; exact later_call (HRA.out _))))
                    refine wpQuiet_nil ?_
                    intro _ hw'
                    obtain ⟨nq, hw''⟩ := hw'
                    subst hw''
                    have HKb := Lib.hid (HKa.out.trans nq.2)
                    clear lc0 lc1 lc2
                    generalize nq.1 = wb at *
                    go_wp2_with fail
                    refine (num19_any _ _).mono ?_
                    rintro e w' ⟨rfl, rfl⟩
                    have hqq : (q != q) = false := by simp
                    go_wp2
                    go_roundw
                    case rel => exact ⟨k + 1, by omega, by go_num, HKb.out⟩
                    case measure => simp [intOf]; omega
                  · have hgv : globV p s = .tuple #[.bool false, .int .i64 2] := by unfold globV; rw [if_neg h40]
                    have HGA := Lib.hid (fun w => glob_any p s w)
                    rw [hgv] at HGA
                    clear hgv
                    refine region_later (by kernel_rfl) (by kernel_rfl) ?_
                    repeat (go_big_quiet_step ((go_at_call 18; exact later_call (HGA.out _))))
                    refine wpQuiet_nil ?_
                    intro _ hw'
                    obtain ⟨nq, hw''⟩ := hw'
                    subst hw''
                    have HKa := Lib.hid (HKk.out.trans nq.2)
                    clear lc0 lc1 lc2 c0
                    generalize nq.1 = wa at *
                    have c0 := HREAD.out _ (HK3.out.trans HKa.out)
                    have c1 := HCS.out _ HKa.out
                    have c2 := HCP.out _ HKa.out
                    by_cases hp40 : p.size ≤ 40
                    · have hd5 : decide ((p.size : Int) ≤ 40) = true := decide_eq_true (by omega)
                      have hd6 : decide ((s.size : Int) ≤ 40) = false := decide_eq_false (by omega)
                      clear h40
                      go_wp2_with fail
                      refine (num19_any _ _).mono ?_
                      rintro e w' ⟨rfl, rfl⟩
                      go_wp2
                      go_roundw
                      case rel => exact ⟨k + 1, by omega, by go_num, HKa.out⟩
                      case measure => simp [intOf]; omega
                    · have hd5 : decide ((p.size : Int) ≤ 40) = false := decide_eq_false (by omega)
                      clear h40
                      go_wp2_with fail
                      refine (num19_any _ _).mono ?_
                      rintro e w' ⟨rfl, rfl⟩
                      go_wp2
                      go_roundw
                      case rel => exact ⟨k + 1, by omega, by go_num, HKa.out⟩
                      case measure => simp [intOf]; omega
                · have hd4 : decide ((k : Int) < 10) = false := decide_eq_false (by omega)
                  go_wp2
                  go_roundw
                  case rel => exact ⟨i + 1, by omega, by go_num, HKk.out⟩
                  case measure => simp [intOf]; omega
              · have hd3 : decide ((k : Int) < l) = false := decide_eq_false (by omega)
                go_wp2
                go_roundw
                case rel => exact ⟨i + 1, by omega, by go_num, HKk.out⟩
                case measure => simp [intOf]; omega
          · have hd2 : decide ((i : Int) < 18) = false := decide_eq_false (by omega)
            have HK := Lib.hid (HK3.out.trans HKi.out)
            go_wp2_with fail
            refine (wakes19_any _ (HM.out _ (HK1.out.trans HK.out))).mono ?_
            rintro e w5 ⟨rfl, hk⟩
            have HK5 := Lib.hid (HK.out.trans hk)
            clear hk
            go_wp2
            go_ret
            exact ⟨rfl, HK1.out.trans HK5.out⟩
        · have hd1 : decide ((i : Int) < 8 + l) = false := decide_eq_false (by omega)
          have HK := Lib.hid (HK3.out.trans HKi.out)
          go_wp2_with fail
          refine (wakes19_any _ (HM.out _ (HK1.out.trans HK.out))).mono ?_
          rintro e w5 ⟨rfl, hk⟩
          have HK5 := Lib.hid (HK.out.trans hk)
          clear hk
          go_wp2
          go_ret
          exact ⟨rfl, HK1.out.trans HK5.out⟩
end Go.Proofs.YtjiefcjjgadjiaaDoor
