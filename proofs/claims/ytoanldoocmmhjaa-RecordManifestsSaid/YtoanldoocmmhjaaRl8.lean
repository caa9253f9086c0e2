/- The walk of the law RecordBytes: it answers true and changes nothing that was there (no condition but the form's reach). -/
import Derived.Test.YtoanldoocmmhjaaRl7
namespace Go.Proofs.Ytoanldoocmmhjaa
open Go.RowKit
set_option maxRecDepth 100000 in
set_option maxHeartbeats 8000000 in
theorem record_bytes (ar : Option Addr) (cr : Nat) (aa : Option Addr) (cs : Nat) (an : Option Addr) (nn cn : Nat) (rs : List Rec) (ss : List ByteArray) (w : World) (h : RecsIn w ar rs.length cr rs) (h2 : TextsIn w aa ss.length cs ss) :
    Calls Try.prog 3 #[.agg (askCells ar rs.length cr aa ss.length cs an nn cn)] w fun e w' => e = .returned (.bool true) ∧ Kept w w' := by
  obtain ⟨i0, hi, hz0, hz1, hz2⟩ := info_parts Try.infoStr
  have HI := Lib.hid (And.intro hi (And.intro hz0 (And.intro hz1 hz2)))
  clear hi hz0 hz1 hz2
  unfold askCells
  have k0 := (Kept.refl w).alloc (.cells #[.slice ar rs.length cr, .slice aa ss.length cs, .slice an nn cn] 26)
  have hb := BlockAt.new w #[.slice ar rs.length cr, .slice aa ss.length cs, .slice an nn cn] 26
  have HR := Lib.hid h
  have HT := Lib.hid h2
  have hfew := h2.few
  clear h h2
  go_enter Try.func3, Try.ntmps3
  go_upto_region 1 with (fail)
  generalize w.alloc (.cells #[.slice ar rs.length cr, .slice aa ss.length cs, .slice an nn cn] 26) = wa at *
  obtain ⟨a0, a1, a2⟩ := box3 hb
  go_wp2_with fail
  refine (heavy_any ar _ cr aa _ cs an nn cn rs ss _ (HR.out.kept k0) (HT.out.kept k0)).mono ?_
  rintro e w1 ⟨hv, rfl, hlight, k1⟩
  have HB1 := Lib.hid (hb.kept k1)
  have HK1 := Lib.hid (k0.trans k1)
  clear hb k1 k0 a0 a1 a2
  cases hv with
  | true =>
    go_wp2
    go_ret
    exact ⟨rfl, HK1.out⟩
  | false =>
    have HLT := Lib.hid (hlight rfl)
    clear hlight
    obtain ⟨a0, a1, a2⟩ := box3 HB1.out
    go_wp2_with fail
    refine (copy_strings aa ss.length cs ss _ (HT.out.strs.kept HK1.out) hfew).mono ?_
    rintro e w2 ⟨v0, rfl, hown, k2⟩
    have hL0 : L1 w w2 #[.slice ar rs.length cr, .slice aa ss.length cs, .slice an nn cn] (4000 + 8 * 0) ss v0 := ⟨own_base hown HB1.out.lt, HB1.out.kept k2, HK1.out.trans k2, fun t ht => by
      obtain ⟨i, hi, rfl⟩ := List.getElem_of_mem ht
      have := HLT.out.short i hi
      simp [List.getD, hi] at this
      omega, HLT.out.texts⟩
    have HL0 := Lib.hid hL0
    clear hL0 hown k2 a0 a1 a2 HB1 HK1
    go_wp2_with fail
    go_loopw [3, 4] (fun v' i wr => ∃ (k : Nat) (ts : List ByteArray) (v : Value), v = v' ∧ k ≤ rs.length ∧ k ≤ 8 ∧ i = .int .i64 k ∧ L1 w wr #[.slice ar rs.length cr, .slice aa ss.length cs, .slice an nn cn] (4000 + 8 * k) ts v) (fun _ i _ => 8 - (intOf i).toNat)
    case atStart => exact ⟨0, _, _, rfl, by omega, by omega, rfl, HL0.out⟩
    case round =>
      obtain ⟨k, ts, v, rfl, hk, hk8, rfl, hL1⟩ := hrel
      have HL := Lib.hid hL1
      clear hL1 HL0
      obtain ⟨a0, a1, a2⟩ := box3 HL.out.box
      by_cases hlt : k < rs.length
      · by_cases h8 : k < 8
        ·
          obtain ⟨b', off, rfl, hc⟩ := HR.out.cell (by omega)
          obtain ⟨al, cl, az, cz, hi, hcc⟩ := hc k hlt
          have HC := Lib.hid hcc
          have HIN := Lib.hid hi
          have hrl := HLT.out.each k hlt
          generalize rs.getD k Rec.zero = r at HC HIN hrl
          have hll : r.list.length ≤ 1000000 := by unfold recLen at hrl; omega
          have hsl : r.slots.length ≤ 1000000 := by unfold recLen at hrl; omega
          clear hc hcc hi
          obtain ⟨c0, c1, c2, c3, c4, c5⟩ := HC.out _ HL.out.kept
          go_wp2_with fail
          refine (copy_record r al _ cl az _ cz _ (HIN.out.kept HL.out.kept) hll hsl).mono ?_
          rintro e w3 ⟨al2, cl2, az2, cz2, rfl, hin2, k3⟩
          unfold recCells
          go_upto_region 8 with (fail)
          have kq := (Kept.refl w3).alloc (.cells #[.int .i64 r.kind, .int .i64 r.id, .string r.name, .string r.dig, .slice al2 r.list.length cl2, .slice az2 r.slots.length cz2] 31)
          have HQ := Lib.hid (BlockAt.new w3 #[.int .i64 r.kind, .int .i64 r.id, .string r.name, .string r.dig, .slice al2 r.list.length cl2, .slice az2 r.slots.length cz2] 31)
          have HIN2 := Lib.hid (fun (W : World) (row : Option Nat) (hr : ∀ g, row = some g → g < wr.heap.size) (hW : (w3.alloc (.cells #[.int .i64 r.kind, .int .i64 r.id, .string r.name, .string r.dig, .slice al2 r.list.length cl2, .slice az2 r.slots.length cz2] 31)).grownBy W row) => hin2 W row hr (gr_trans (gr_kept kq row) hW))
          have HQN := Lib.hid (show some w3.heap.size ≠ v.ownBlock from fun e => by have h1 := HL.out.block _ e.symm; have h2 := k3.size; omega)
          have HV0 := Lib.hid (show ∀ g, v.ownBlock = some g → g < wr.heap.size from fun g e => HL.out.block g e)
          replace HL := Lib.hid (HL.out.later (k3.trans kq) (Nat.le_refl _))
          clear hin2 k3 kq a0 a1 a2 c0 c1 c2 c3 c4 c5
          generalize w3.alloc (.cells #[.int .i64 r.kind, .int .i64 r.id, .string r.name, .string r.dig, .slice al2 r.list.length cl2, .slice az2 r.slots.length cz2] 31) = w4 at *
          generalize w3.heap.size = q at *
          generalize wr.heap.size = z0 at *
          obtain ⟨a0, a1, a2⟩ := box3 HL.out.box
          obtain ⟨c0, c1, c2, c3, c4, c5⟩ := HC.out _ HL.out.kept
          go_wp2_with fail
          refine (rrec_any r al _ cl az _ cz _ (HIN.out.kept HL.out.kept)).mono ?_
          rintro e w5 ⟨rfl, k5⟩
          replace HL := Lib.hid (HL.out.later k5 (Nat.le_refl _))
          clear a0 a1 a2 c0 c1 c2 c3 c4 c5
          obtain ⟨x0, x1, x2, x3, x4, x5⟩ := box6 (HQ.out.kept k5)
          go_wp2_with fail
          refine (rbytes2_any r al2 _ cl2 az2 _ cz2 _ (HIN2.out w5 none (fun g e => by cases e) (gr_kept k5 none))).mono ?_
          rintro e w6 ⟨rfl, k6⟩
          replace HL := Lib.hid (HL.out.later k6 (Nat.le_refl _))
          have HF := Lib.hid (FR.start (v0 := v) (k5.trans k6))
          clear k5 k6 x0 x1 x2 x3 x4 x5
          cases hm : Rec.may r with
          | false =>
            rw [show bytesT r = ⟨#[]⟩ by unfold bytesT; rw [hm]; rfl, show errF false = 1 from rfl]
            go_wp2_with fail
            obtain ⟨wz, hwz⟩ : ∃ wz, wz = w6 := ⟨_, rfl⟩
            subst hwz
            have hq9 := HQ.out.gr HF.out.gr HQN.out
            have hin9 := HIN2.out _ _ HV0.out HF.out.gr
            have hir9 := HIN.out.kept HL.out.kept
            obtain ⟨a0, a1, a2⟩ := box3 HL.out.box
            obtain ⟨c0, c1, c2, c3, c4, c5⟩ := HC.out _ HL.out.kept
            obtain ⟨x0, x1, x2, x3, x4, x5⟩ := box6 hq9
            have HIN9 := Lib.hid hin9
            have HIR9 := Lib.hid hir9
            clear hq9 hin9 hir9
            have la0 := later_cell a0
            have lc0 := later_cell c0
            have lc1 := later_cell c1
            have lc2 := later_cell c2
            have lc3 := later_cell c3
            have lc4 := later_cell c4
            have lc5 := later_cell c5
            have lx0 := later_cell x0
            have lx1 := later_cell x1
            have lx2 := later_cell x2
            have lx3 := later_cell x3
            have lx4 := later_cell x4
            have lx5 := later_cell x5
            have HCK := Lib.hid (fun (u : Later wz) => check_any r al2 _ cl2 az2 _ cz2 _ (HIN9.out.kept u.2))
            have HEQ := Lib.hid (fun (u : Later wz) => eq_record r r al2 _ cl2 az2 _ cz2 al _ cl az _ cz _ (HIN9.out.kept u.2) (HIR9.out.kept u.2))
            rw [hm] at HCK
            rw [eqB_self r] at HEQ
            rw [show errF false = 1 from rfl] at HCK
            unfold recCells at HCK HEQ
            clear a0 a1 a2 c0 c1 c2 c3 c4 c5 x0 x1 x2 x3 x4 x5
            refine region_later (by as_aux_lemma => kernel_rfl) (by as_aux_lemma => kernel_rfl) ?_
            repeat (go_big_quiet_step (first | (go_at_call 19; exact later_call (HCK.out _)) | (go_at_call 18; exact later_same (num_law _ _)) | (go_at_call 20; exact later_call (HEQ.out _))))
            refine wpQuiet_nil ?_
            intro _ hw'
            obtain ⟨nq, hw''⟩ := hw'
            subst hw''
            have HL9 := Lib.hid (HL.out.later nq.2 (Nat.le_refl _))
            clear la0 lc0 lc1 lc2 lc3 lc4 lc5 lx0 lx1 lx2 lx3 lx4 lx5
            generalize nq.1 = wd at *
            go_wp2_with fail
            go_roundw
            case rel => exact ⟨k + 1, _, _, rfl, by omega, by omega, by go_num, HL9.out.later (Kept.refl _) (by omega)⟩
            case measure => simp [intOf]; omega
          | true =>
            obtain ⟨want, hw⟩ : ∃ want : ByteArray, want = ⟨r.bytes.toArray⟩ := ⟨_, rfl⟩
            have hws : want.size = r.bytes.length := by rw [hw]; show r.bytes.toArray.size = _; simp
            rw [show bytesT r = want by unfold bytesT; rw [hm, hw]; rfl, show errF true = 0 from rfl]
            obtain ⟨hn1, hn2⟩ := bytes_len r
            rw [← hws] at hn1 hn2
            have HRB := Lib.hid (fun u (hu : RecIn u r al r.list.length az r.slots.length) => rbytes_any r al _ cl az _ cz u hu hm)
            rw [← hw] at HRB
            unfold recCells at HRB
            clear hws hw
            obtain ⟨a0, a1, a2⟩ := box3 HL.out.box
            obtain ⟨c0, c1, c2, c3, c4, c5⟩ := HC.out _ HL.out.kept
            go_wp2_with fail
            refine (HRB.out _ (HIN.out.kept HL.out.kept)).mono ?_
            rintro e w7 ⟨rfl, k7⟩
            replace HL := Lib.hid (HL.out.later k7 (Nat.le_refl _))
            replace HF := Lib.hid (HF.out.later k7)
            clear k7 a0 a1 a2 c0 c1 c2 c3 c4 c5 HRB
            obtain ⟨m, hmn⟩ : ∃ m, want.size = m + 1 := ⟨want.size - 1, by omega⟩
            have hm1 : ((want.size : Nat) : Int) - 1 = (m : Int) := by omega
            have hA1 : ∀ u : World, (Op.stringOp .add want ⟨#[0]⟩).run Try.prog u = .ok (.string (want ++ ⟨#[0]⟩)) u := fun u => run_string_add_sum _ _ _ (by show want.size + 1 ≤ _; omega)
            have hsA : (want ++ (⟨#[0]⟩ : ByteArray)).size ≤ 100000 := by rw [ByteArray.size_append]; show want.size + 1 ≤ _; omega
            have hsB : (want.extract 0 m).size ≤ 100000 := by rw [ByteArray.size_extract]; omega
            go_wp2_with (at_builtin; refine wpList_append_own_at _ rfl _ _ 23 rfl (w.heap.size + 1) 9 i0 (.string ByteArray.empty) 1 16 Try.underlying23 HI.out.1 HI.out.2.1 HI.out.2.2.1 HI.out.2.2.2 rfl (by decide) _ _ _ rfl (HL.out.own.alloc _) ⟨w7.heap.size, 0, none⟩ 3 3 [.string want, .string (want ++ ⟨#[0]⟩), .string (want.extract 0 m)] rfl rfl ?c1 ?c2 ?c3 ?c4 ?c5 ?_)
            case c1 =>
              intro j' u hj'
              match j', hj' with
              | 0, hj' => simp at hj'; subst hj'; simp [Addr.add]
              | 1, hj' => simp at hj'; subst hj'; simp [Addr.add]
              | 2, hj' => simp at hj'; subst hj'; simp [Addr.add]
            case c2 =>
              intro u hu
              simp at hu
              rcases hu with rfl | rfl | rfl
              all_goals rfl
            case c3 => unfold maxLen; have := HL.out.few; omega
            case c4 => have := HL.out.few; omega
            case c5 => have := HL.out.box.lt; simp; omega
            intro v3 w8 hown' hgrow _ hblk
            have kx := (Kept.refl w7).alloc (.cells #[.string want, .string (want ++ ⟨#[0]⟩), .string (want.extract 0 m)] 9)
            have HL8 := Lib.hid (HL.out.app (us := [want, want ++ ⟨#[0]⟩, want.extract 0 m]) kx hgrow hown' rfl (fun t ht => by
              simp only [List.mem_cons, List.not_mem_nil, or_false] at ht
              rcases ht with rfl | rfl | rfl
              · omega
              · exact hsA
              · exact hsB))
            have HF8 := Lib.hid (HF.out.app kx hgrow (by simpa using hblk))
            clear hown' hgrow hblk kx hA1 hsA hsB hm1 hmn HL HF
            generalize ts ++ [want, want ++ ⟨#[0]⟩, want.extract 0 m] = ts3 at *
            go_wp2_with fail
            go_loopw [3, 11] (fun v' i wr => ∃ (j : Nat) (ts' : List ByteArray) (v4 : Value), v4 = v' ∧ j ≤ 5 ∧ i = .int .i64 j ∧ L1 w wr #[.slice (some ⟨b', off, none⟩) rs.length cr, .slice aa ss.length cs, .slice an nn cn] (4000 + 8 * k + 3 + j) ts' v4 ∧ FR w4 wr v v4) (fun _ i _ => 5 - (intOf i).toNat)
            case atStart => exact ⟨0, _, _, rfl, by omega, rfl, HL8.out, HF8.out⟩
            case round =>
              obtain ⟨j, ts', v4, rfl, hj, rfl, hLj, hFj⟩ := hrel
              have HL := Lib.hid hLj
              have HF := Lib.hid hFj
              clear hLj hFj HL8 HF8
              by_cases hj5 : j < 5
              · have hcv := bytes_of (P := Try.prog) 9 38 5 want Try.underlying9 Try.underlying38 Try.underlying5 wr
                have hbf := bytesBehind_buf wr 5 want
                have hkb := bytesBehind_kept wr 5 want
                generalize grownCap wr want.size 0 5 = cp at hcv
                generalize bytesBehind wr 5 want = wb at hcv hbf hkb
                have HKS := Lib.hid (Nat.le_refl wr.heap.size)
                have HG := Lib.hid (show wr.heap.size ≤ wr.heap.size from Nat.le_refl _)
                obtain ⟨g, hg⟩ : ∃ g, g = wr.heap.size := ⟨_, rfl⟩
                rw [← hg] at hcv hbf
                have HGE := Lib.hid hg
                clear hg HG HKS
                obtain ⟨m1, hm1⟩ : ∃ m1 : Nat, m1 = j * want.size := ⟨_, rfl⟩
                have hb1 : m1 ≤ 500000 := by rw [hm1]; exact Nat.le_trans (Nat.mul_le_mul (show j ≤ 5 by omega) (show want.size ≤ 100000 by omega)) (by decide)
                obtain ⟨p, hp⟩ : ∃ p : Nat, p = (m1 / 5 + k) % want.size := ⟨_, rfl⟩
                have hpl : p < want.size := by rw [hp]; exact Nat.mod_lt _ (by omega)
                have e1 : (j : Int) * ((want.size : Nat) : Int) = (m1 : Int) := by rw [hm1]; simp
                obtain ⟨m2, hm2⟩ : ∃ m2 : Nat, m2 = m1 / 5 := ⟨_, rfl⟩
                have e2 : (m1 : Int) / 5 = (m2 : Int) := by omega
                obtain ⟨m3, hm3⟩ : ∃ m3 : Nat, m3 = m2 + k := ⟨_, rfl⟩
                have e3 : (m2 : Int) + (k : Int) = (m3 : Int) := by omega
                have e4 : (m3 : Int) % ((want.size : Nat) : Int) = (p : Int) := by rw [hp, hm3, hm2]; simp
                have e4t : (m3 : Int).tmod ((want.size : Nat) : Int) = (p : Int) := by rw [Int.tmod_eq_emod_of_nonneg (by omega)]; exact e4
                obtain ⟨m5, hm5⟩ : ∃ m5 : Nat, m5 = j + k := ⟨_, rfl⟩
                have e5 : (j : Int) + (k : Int) = (m5 : Int) := by omega
                obtain ⟨rr, hrr⟩ : ∃ rr : Nat, rr = m5 % 8 := ⟨_, rfl⟩
                have hr8 : rr < 8 := by omega
                have e6 : (m5 : Int) % 8 = (rr : Int) := by omega
                have hm3b : m3 ≤ 600000 := by omega
                clear hp hm1 hm2 hm3 hm5 hrr
                go_wp2_with fail
                have hq : p < want.data.toList.length := by simp; exact hpl
                have hbc := hbf.cell p hq
                have hbfree := hbf.free p hq
                obtain ⟨x, hx⟩ : ∃ x : UInt8, want.data.toList[p] = x := ⟨_, rfl⟩
                obtain ⟨y, hxy⟩ := turn8' x rr hr8
                rw [hx] at hbc
                have HBF := Lib.hid hbf
                have HKB := Lib.hid hkb
                have HSL := Lib.hid (show want.data.toList.length = want.size by simp)
                generalize want.data.toList = L at *
                clear hbf hkb hx hcv
                refine (wpIn_wide (n := 0)).1 ?_
                refine wpIn_region_quiet_tail_lit 13 (by kernel_rfl) (by kernel_rfl) (by kernel_rfl) ?_
                simp only [List.take_succ_cons, List.take_zero, List.drop_succ_cons, List.drop_zero]
                repeat (gi_big_quiet_step (fail))
                refine wpQuietIn_nil ?_
                intro _ hw'
                obtain ⟨nq, hw''⟩ := hw'
                subst hw''
                have hbf2 := (HBF.out.kept ((Kept.refl wb).drewN nq)).set p hq y
                have hcv := hbf2.string (P := Try.prog) 38 9 5 Try.underlying38 Try.underlying5 Try.underlying9 cp
                rw [List.length_set, HSL.out] at hcv
                have hts : (⟨(L.set p y).toArray⟩ : ByteArray).size ≤ 100000 := by
                  show (L.set p y).toArray.size ≤ _
                  simp [HSL.out]; omega
                generalize (⟨(L.set p y).toArray⟩ : ByteArray) = t at hcv hts
                have hk3 := (HKB.out.drewN nq).setCell (p := ⟨g, p, none⟩) (by have := HGE.out; show wr.heap.size ≤ g; omega) (.int .u8 (y.toNat : Int))
                have HL3 := Lib.hid (HL.out.later hk3 (Nat.le_refl _))
                have HF3 := Lib.hid (HF.out.later hk3)
                clear hbf2 hk3
                gi_wp2
                clear hbc hbfree hxy HBF HKB e1 e2 e3 e4 e4t e5 e6
                generalize (wb.drewN nq).setCell ⟨g, p, none⟩ (.int .u8 (y.toNat : Int)) = wc at *
                go_wp2_with (at_builtin; refine wpList_append_own_at _ rfl _ _ 23 rfl (w.heap.size + 1) 9 i0 (.string ByteArray.empty) 1 16 Try.underlying23 HI.out.1 HI.out.2.1 HI.out.2.2.1 HI.out.2.2.2 rfl (by decide) _ _ _ rfl (HL3.out.own.alloc _) ⟨wc.heap.size, 0, none⟩ 1 1 [.string t] rfl rfl ?c1 ?c2 ?c3 ?c4 ?c5 ?_)
                case c1 =>
                  intro j' u hj'
                  match j', hj' with
                  | 0, hj' => simp at hj'; subst hj'; simp [Addr.add]
                case c2 =>
                  intro u hu
                  simp at hu
                  subst hu
                  rfl
                case c3 => unfold maxLen; have := HL3.out.few; omega
                case c4 => have := HL3.out.few; omega
                case c5 => have := HL3.out.box.lt; simp; omega
                intro v5 w9 hown' hgrow _ hblk
                have kx := (Kept.refl wc).alloc (.cells #[.string t] 9)
                have HL9 := Lib.hid (HL3.out.app (us := [t]) kx hgrow hown' rfl (fun t' ht => by
                  simp only [List.mem_cons, List.not_mem_nil, or_false] at ht
                  subst ht
                  exact hts))
                have HF9 := Lib.hid (HF3.out.app kx hgrow (by simpa using hblk))
                clear hown' hgrow hblk kx hcv HL3 HF3
                go_wp2_with fail
                go_roundw
                case rel => exact ⟨j + 1, _, _, rfl, by omega, by go_num, HL9.out.later (Kept.refl _) (by omega), HF9.out⟩
                case measure => simp [intOf]; omega
              · obtain rfl : j = 5 := by omega
                go_wp2_with fail
                obtain ⟨wz, hwz⟩ : ∃ wz, wz = wr := ⟨_, rfl⟩
                subst hwz
                have hq9 := HQ.out.gr HF.out.gr HQN.out
                have hin9 := HIN2.out _ _ HV0.out HF.out.gr
                have hir9 := HIN.out.kept HL.out.kept
                obtain ⟨a0, a1, a2⟩ := box3 HL.out.box
                obtain ⟨c0, c1, c2, c3, c4, c5⟩ := HC.out _ HL.out.kept
                obtain ⟨x0, x1, x2, x3, x4, x5⟩ := box6 hq9
                have HIN9 := Lib.hid hin9
                have HIR9 := Lib.hid hir9
                clear hq9 hin9 hir9
                have la0 := later_cell a0
                have lc0 := later_cell c0
                have lc1 := later_cell c1
                have lc2 := later_cell c2
                have lc3 := later_cell c3
                have lc4 := later_cell c4
                have lc5 := later_cell c5
                have lx0 := later_cell x0
                have lx1 := later_cell x1
                have lx2 := later_cell x2
                have lx3 := later_cell x3
                have lx4 := later_cell x4
                have lx5 := later_cell x5
                have HCK := Lib.hid (fun (u : Later wz) => check_any r al2 _ cl2 az2 _ cz2 _ (HIN9.out.kept u.2))
                have HEQ := Lib.hid (fun (u : Later wz) => eq_record r r al2 _ cl2 az2 _ cz2 al _ cl az _ cz _ (HIN9.out.kept u.2) (HIR9.out.kept u.2))
                rw [hm] at HCK
                rw [eqB_self r] at HEQ
                rw [show errF true = 0 from rfl] at HCK
                unfold recCells at HCK HEQ
                clear a0 a1 a2 c0 c1 c2 c3 c4 c5 x0 x1 x2 x3 x4 x5
                refine region_later (by as_aux_lemma => kernel_rfl) (by as_aux_lemma => kernel_rfl) ?_
                repeat (go_big_quiet_step (first | (go_at_call 19; exact later_call (HCK.out _)) | (go_at_call 18; exact later_same (num_law _ _)) | (go_at_call 20; exact later_call (HEQ.out _))))
                refine wpQuiet_nil ?_
                intro _ hw'
                obtain ⟨nq, hw''⟩ := hw'
                subst hw''
                have HL9 := Lib.hid (HL.out.later nq.2 (Nat.le_refl _))
                clear la0 lc0 lc1 lc2 lc3 lc4 lc5 lx0 lx1 lx2 lx3 lx4 lx5
                generalize nq.1 = wd at *
                go_wp2_with fail
                go_roundw
                case rel => exact ⟨k + 1, _, _, rfl, by omega, by omega, by go_num, HL9.out.later (Kept.refl _) (by omega)⟩
                case measure => simp [intOf]; omega
        · obtain ⟨wz, hwz⟩ : ∃ wz, wz = wr := ⟨_, rfl⟩
          subst hwz
          obtain rfl : k = 8 := by omega
          have hN : 4000 + 8 * 8 ≤ 5000 := by omega
          have hL := HL.out
          obtain ⟨av, cv, rfl, hcv, hst⟩ := strs_of_own hL.own rfl (fun s hs => Nat.le_trans (hL.short s hs) (by omega))
          have HST := Lib.hid hst
          have HSH := Lib.hid hL.short
          have hfew := hL.few
          have HK := Lib.hid hL.kept
          clear hL hst
          go_wp2_with fail
          go_loopw [14] (fun i wr => ∃ k : Nat, k ≤ ts.length ∧ i = .int .i64 k ∧ Kept wz wr) (fun i _ => ts.length - (intOf i).toNat)
          case atStart => exact ⟨0, by omega, rfl, Kept.refl _⟩
          case round =>
            obtain ⟨k, hk, rfl, hK⟩ := hrel
            have HK3 := Lib.hid hK
            clear hK
            by_cases hlt : k < ts.length
            · obtain ⟨b, off, ha, hc⟩ := HST.out.cells
              obtain rfl := ha (by omega)
              have HCL := Lib.hid (fun u (ku : Kept wz u) => ku.cell (hc k hlt).1 (hc k hlt).2)
              have hz : (ts.getD k ByteArray.empty).size ≤ 100000 := HSH.out _ (by simp [List.getD, hlt])
              generalize ts.getD k ByteArray.empty = t at HCL hz
              clear ha hc
              have c0 := HCL.out _ HK3.out
              go_wp2_with fail
              have hT := take_any t wr (by omega)
              have HR := Lib.hid (fun u => rtake_all t u (by omega))
              rw [take_alike] at hT
              obtain ⟨pr, hpr⟩ : ∃ pr, pr = takeR t := ⟨_, rfl⟩
              rw [← hpr] at hT HR
              clear hpr
              refine hT.mono ?_
              clear hT
              rintro e w5 ⟨al, cl, az, cz, rfl, hi, k5⟩
              obtain ⟨r, ok⟩ := pr
              unfold recCells errT
              dsimp only at hi ⊢
              cases ok
              all_goals
                try (dsimp only [if_true, if_false, Bool.false_eq_true, ↓reduceIte])
                go_upto_region 27 with (fail)
                have kq := k5.trans ((Kept.refl w5).alloc (.cells #[.int .i64 r.kind, .int .i64 r.id, .string r.name, .string r.dig, .slice al r.list.length cl, .slice az r.slots.length cz] 31))
                have hq := BlockAt.new w5 #[.int .i64 r.kind, .int .i64 r.id, .string r.name, .string r.dig, .slice al r.list.length cl, .slice az r.slots.length cz] 31
                have hi6 := hi.kept ((Kept.refl w5).alloc (.cells #[.int .i64 r.kind, .int .i64 r.id, .string r.name, .string r.dig, .slice al r.list.length cl, .slice az r.slots.length cz] 31))
                clear hi c0
                generalize w5.alloc (.cells #[.int .i64 r.kind, .int .i64 r.id, .string r.name, .string r.dig, .slice al r.list.length cl, .slice az r.slots.length cz] 31) = w6 at *
                generalize w5.heap.size = q at *
                have HK6 := Lib.hid (HK3.out.trans kq)
                have c0 := HCL.out _ HK6.out
                clear kq k5
                go_wp2_with fail
                refine (HR.out _).mono ?_
                clear HR
                rintro e w7 ⟨bl, dl, bz, dz, rfl, hj, k7⟩
                unfold recCells
                dsimp only at hj ⊢
                go_upto_region 28 with (fail)
                have kp := (Kept.refl w7).alloc (.cells #[.int .i64 r.kind, .int .i64 r.id, .string r.name, .string r.dig, .slice bl r.list.length dl, .slice bz r.slots.length dz] 31)
                have hp := BlockAt.new w7 #[.int .i64 r.kind, .int .i64 r.id, .string r.name, .string r.dig, .slice bl r.list.length dl, .slice bz r.slots.length dz] 31
                have HJ8 := Lib.hid (hj.kept kp)
                have HI8 := Lib.hid (hi6.kept (k7.trans kp))
                have hq8 := hq.kept (k7.trans kp)
                have HK8 := Lib.hid (HK6.out.trans (k7.trans kp))
                clear hj hi6 hq kp k7 c0
                generalize w7.alloc (.cells #[.int .i64 r.kind, .int .i64 r.id, .string r.name, .string r.dig, .slice bl r.list.length dl, .slice bz r.slots.length dz] 31) = w8 at *
                generalize w7.heap.size = p at *
                obtain ⟨x0, x1, x2, x3, x4, x5⟩ := box6 hq8
                obtain ⟨y0, y1, y2, y3, y4, y5⟩ := box6 hp
                clear hq8 hp
                have HEQ := Lib.hid (fun u (ku : Kept w8 u) => eq_record r r al _ cl az _ cz bl _ dl bz _ dz u (HI8.out.kept ku) (HJ8.out.kept ku))
                rw [eqB_self r] at HEQ
                unfold recCells at HEQ
                go_wp2_with fail
                refine (num_law _ _).mono ?_
                rintro e w' ⟨rfl, rfl⟩
                go_wp2_with fail
                first
                | (refine (num_law _ _).mono ?_
                   rintro e w' ⟨rfl, rfl⟩
                   go_wp2_with fail)
                | skip
                refine (HEQ.out _ (Kept.refl _)).mono ?_
                rintro e w9 ⟨rfl, k9⟩
                have HK9 := Lib.hid (HK8.out.trans k9)
                clear k9 x0 x1 x2 x3 x4 x5 y0 y1 y2 y3 y4 y5
                go_wp2_with fail
                go_roundw
                case rel => exact ⟨k + 1, by omega, by go_num, HK9.out⟩
                case measure => simp [intOf]; omega
            · obtain rfl : k = ts.length := by omega
              go_wp2_with fail
              refine (wakes_any _).mono ?_
              rintro e w5 ⟨rfl, k5⟩
              have HKE := Lib.hid ((HK.out.trans HK3.out).trans k5)
              clear k5
              go_wp2
              go_ret
              exact ⟨rfl, HKE.out⟩
      · obtain ⟨wz, hwz⟩ : ∃ wz, wz = wr := ⟨_, rfl⟩
        subst hwz
        obtain rfl : k = rs.length := by omega
        have hL := HL.out
        obtain ⟨av, cv, rfl, hcv, hst⟩ := strs_of_own hL.own rfl (fun s hs => Nat.le_trans (hL.short s hs) (by omega))
        have HST := Lib.hid hst
        have HSH := Lib.hid hL.short
        have hfew := hL.few
        have HK := Lib.hid hL.kept
        clear hL hst
        go_wp2_with fail
        go_loopw [14] (fun i wr => ∃ k : Nat, k ≤ ts.length ∧ i = .int .i64 k ∧ Kept wz wr) (fun i _ => ts.length - (intOf i).toNat)
        case atStart => exact ⟨0, by omega, rfl, Kept.refl _⟩
        case round =>
          obtain ⟨k, hk, rfl, hK⟩ := hrel
          have HK3 := Lib.hid hK
          clear hK
          by_cases hlt : k < ts.length
          · obtain ⟨b, off, ha, hc⟩ := HST.out.cells
            obtain rfl := ha (by omega)
            have HCL := Lib.hid (fun u (ku : Kept wz u) => ku.cell (hc k hlt).1 (hc k hlt).2)
            have hz : (ts.getD k ByteArray.empty).size ≤ 100000 := HSH.out _ (by simp [List.getD, hlt])
            generalize ts.getD k ByteArray.empty = t at HCL hz
            clear ha hc
            have c0 := HCL.out _ HK3.out
            go_wp2_with fail
            have hT := take_any t wr (by omega)
            have HR := Lib.hid (fun u => rtake_all t u (by omega))
            rw [take_alike] at hT
            obtain ⟨pr, hpr⟩ : ∃ pr, pr = takeR t := ⟨_, rfl⟩
            rw [← hpr] at hT HR
            clear hpr
            refine hT.mono ?_
            clear hT
            rintro e w5 ⟨al, cl, az, cz, rfl, hi, k5⟩
            obtain ⟨r, ok⟩ := pr
            unfold recCells errT
            dsimp only at hi ⊢
            cases ok
            all_goals
              try (dsimp only [if_true, if_false, Bool.false_eq_true, ↓reduceIte])
              go_upto_region 27 with (fail)
              have kq := k5.trans ((Kept.refl w5).alloc (.cells #[.int .i64 r.kind, .int .i64 r.id, .string r.name, .string r.dig, .slice al r.list.length cl, .slice az r.slots.length cz] 31))
              have hq := BlockAt.new w5 #[.int .i64 r.kind, .int .i64 r.id, .string r.name, .string r.dig, .slice al r.list.length cl, .slice az r.slots.length cz] 31
              have hi6 := hi.kept ((Kept.refl w5).alloc (.cells #[.int .i64 r.kind, .int .i64 r.id, .string r.name, .string r.dig, .slice al r.list.length cl, .slice az r.slots.length cz] 31))
              clear hi c0
              generalize w5.alloc (.cells #[.int .i64 r.kind, .int .i64 r.id, .string r.name, .string r.dig, .slice al r.list.length cl, .slice az r.slots.length cz] 31) = w6 at *
              generalize w5.heap.size = q at *
              have HK6 := Lib.hid (HK3.out.trans kq)
              have c0 := HCL.out _ HK6.out
              clear kq k5
              go_wp2_with fail
              refine (HR.out _).mono ?_
              clear HR
              rintro e w7 ⟨bl, dl, bz, dz, rfl, hj, k7⟩
              unfold recCells
              dsimp only at hj ⊢
              go_upto_region 28 with (fail)
              have kp := (Kept.refl w7).alloc (.cells #[.int .i64 r.kind, .int .i64 r.id, .string r.name, .string r.dig, .slice bl r.list.length dl, .slice bz r.slots.length dz] 31)
              have hp := BlockAt.new w7 #[.int .i64 r.kind, .int .i64 r.id, .string r.name, .string r.dig, .slice bl r.list.length dl, .slice bz r.slots.length dz] 31
              have HJ8 := Lib.hid (hj.kept kp)
              have HI8 := Lib.hid (hi6.kept (k7.trans kp))
              have hq8 := hq.kept (k7.trans kp)
              have HK8 := Lib.hid (HK6.out.trans (k7.trans kp))
              clear hj hi6 hq kp k7 c0
              generalize w7.alloc (.cells #[.int .i64 r.kind, .int .i64 r.id, .string r.name, .string r.dig, .slice bl r.list.length dl, .slice bz r.slots.length dz] 31) = w8 at *
              generalize w7.heap.size = p at *
              obtain ⟨x0, x1, x2, x3, x4, x5⟩ := box6 hq8
              obtain ⟨y0, y1, y2, y3, y4, y5⟩ := box6 hp
              clear hq8 hp
              have HEQ := Lib.hid (fun u (ku : Kept w8 u) => eq_record r r al _ cl az _ cz bl _ dl bz _ dz u (HI8.out.kept ku) (HJ8.out.kept ku))
              rw [eqB_self r] at HEQ
              unfold recCells at HEQ
              go_wp2_with fail
              refine (num_law _ _).mono ?_
              rintro e w' ⟨rfl, rfl⟩
              go_wp2_with fail
              first
              | (refine (num_law _ _).mono ?_
                 rintro e w' ⟨rfl, rfl⟩
                 go_wp2_with fail)
              | skip
              refine (HEQ.out _ (Kept.refl _)).mono ?_
              rintro e w9 ⟨rfl, k9⟩
              have HK9 := Lib.hid (HK8.out.trans k9)
              clear k9 x0 x1 x2 x3 x4 x5 y0 y1 y2 y3 y4 y5
              go_wp2_with fail
              go_roundw
              case rel => exact ⟨k + 1, by omega, by go_num, HK9.out⟩
              case measure => simp [intOf]; omega
          · obtain rfl : k = ts.length := by omega
            go_wp2_with fail
            refine (wakes_any _).mono ?_
            rintro e w5 ⟨rfl, k5⟩
            have HKE := Lib.hid ((HK.out.trans HK3.out).trans k5)
            clear k5
            go_wp2
            go_ret
            exact ⟨rfl, HKE.out⟩
end Go.Proofs.Ytoanldoocmmhjaa
