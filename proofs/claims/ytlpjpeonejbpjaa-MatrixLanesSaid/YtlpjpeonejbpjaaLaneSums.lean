/- The walk of the law LaneSums: it answers true and changes nothing that was there (no conditions). -/
import Derived.Test.YtlpjpeonejbpjaaCopyStr
import Derived.Test.YtlpjpeonejbpjaaLaneTwos
namespace Go.Proofs.Ytlpjpeonejbpjaa
open Go.ChangeShapes Go.WideShapes Go.ChangeAt Go.RowKit Go.Joins

/-- a slice of texts, its capacity too -/
theorem strs_in_cap {H : Type} {enc : TypeId × Value → H} {P : Program} {t e : TypeId} (ht : P.underlying t = some (.slice e)) (he : P.underlying e = some .string) (hc : P.cellsOf e = 1) {W : World} {fuel : Nat} {v : Value} {y : DataW H × List MemPlace}
    (h0 : DataW.trod enc P W 0 (fun _ => true) true fuel t [v] = some y) :
    ∃ a len cap ss, v = .slice a len cap ∧ len ≤ cap ∧ StrsIn W a len ss := by
  obtain ⟨a, len, cap, ss, rfl, hS⟩ := strs_in ht he hc h0
  rcases open_strings ht he hc h0 with ⟨hcs, _⟩ | ⟨a', len', cap', ss', hcs, _, hl, _⟩
  · simp only [List.cons.injEq, and_true, Value.slice.injEq] at hcs
    obtain ⟨rfl, rfl, rfl⟩ := hcs
    exact ⟨_, _, _, ss, rfl, Nat.le_refl _, hS⟩
  · simp only [List.cons.injEq, and_true, Value.slice.injEq] at hcs
    obtain ⟨rfl, rfl, rfl⟩ := hcs
    exact ⟨_, _, _, ss, rfl, hl, hS⟩

set_option maxRecDepth 100000 in
theorem askL_in_cap {H : Type} {enc : TypeId × Value → H} {W : World} {base : Nat} {v : Value} {d : DataW H} {p : List MemPlace} (hv : Value.okWide Try.prog W .any base 24 v)
    (h : DataW.Trod enc Try.prog W 0 (fun _ => true) true 24 v d p) : ∃ a l cap ss c n, AskL W v a l cap ss c n ∧ l ≤ cap := by
  obtain ⟨v0, v1, v2, y0, y1, y2, m, rfl, rfl, rfl, hy0, hy1, hy2⟩ := open_agg3 Try.underlying24 (by kernel_rfl) Try.cellsAsk2 hv h
  obtain ⟨a0, l0, k0, ss, rfl, hlk, h0⟩ := strs_in_cap Try.underlying22 Try.underlying9 Try.cellsStr hy0
  obtain ⟨c, rfl, hc⟩ := trod_int Try.underlying5 hy1
  obtain ⟨n, rfl, hn⟩ := trod_int Try.underlying3 hy2
  have hb := bounds_u8 hc
  exact ⟨a0, l0, k0, ss, c.toNat, n, ⟨by rw [Int.toNat_of_nonneg hb.1], h0, by omega, bounds_i64 hn⟩, hlk⟩

def w300 (n : Int) : Nat := ((IntKind.u64.wrap n).tmod 300).toNat
theorem w300_nonneg (n : Int) : 0 ≤ IntKind.u64.wrap n := by
  show 0 ≤ n % 18446744073709551616
  omega
theorem w300_lt (n : Int) : w300 n < 300 := by
  have h1 := Int.tmod_nonneg 300 (w300_nonneg n)
  have h2 := Int.tmod_lt_of_pos (IntKind.u64.wrap n) (show (0 : Int) < 300 by decide)
  unfold w300
  omega
theorem within_300 (n : Int) (w : World) : Calls Try.prog 28 #[.int .i64 n, .int .i64 300] w fun e w' => e = .returned (.int .i64 (w300 n)) ∧ w = w' := by
  go_enter Try.func28, Try.ntmps28
  go_wp2
  go_ret
  have h1 := Int.tmod_nonneg 300 (w300_nonneg n)
  have h2 := Int.tmod_lt_of_pos (IntKind.u64.wrap n) (show (0 : Int) < 300 by decide)
  have h3 : wrap64 ((IntKind.u64.wrap n).tmod 300) = (IntKind.u64.wrap n).tmod 300 := by
    unfold wrap64
    omega
  refine ⟨?_, rfl⟩
  show Ending.returned (.int .i64 (wrap64 ((IntKind.u64.wrap n).tmod 300))) = _
  unfold w300
  rw [h3, Int.toNat_of_nonneg h1]
theorem StrsIn.take {W : World} {a : Option Addr} {l : Nat} {ss : List ByteArray} (h : StrsIn W a l ss) (k : Nat) (hk : k ≤ l) : StrsIn W a k (ss.take k) := by
  obtain ⟨b, off, ha, hc⟩ := h.cells
  refine ⟨by rw [List.length_take, h.len_eq]; omega, by have := h.le; omega, fun s hs => h.sizes s (List.mem_of_mem_take hs), b, off, fun hp => ha (by omega), fun i hi => ?_⟩
  have := hc i (by omega)
  have e : (ss.take k).getD i ByteArray.empty = ss.getD i ByteArray.empty := by simp [List.getD, hi]
  rw [e]
  exact this

theorem sum_bad' (a : Option Addr) (l cap : Nat) (ss : List ByteArray) (w : World) (h : StrsIn w a l ss) (hf : fitE ss ≠ 0) :
    Calls Try.prog 25 #[.slice a l cap] w fun e w' => e = .returned (.tuple #[.string ⟨#[]⟩, .int .i64 (fitE ss)]) ∧ w = w' := sum_bad a l cap ss w h hf
theorem sum_any' (a : Option Addr) (k cap : Nat) (ss : List ByteArray) (w : World) (hk : 0 < k) (h : StrsIn w a k ss) (hcap : k ≤ cap) (hf : fitE ss = 0) :
    Calls Try.prog 25 #[.slice a k cap] w fun e w' => e = .returned (.tuple #[.string (sumTo ss (k - 1)), .int .i64 0]) ∧ Kept w w' := by
  obtain ⟨m, rfl⟩ : ∃ m, k = m + 1 := ⟨k - 1, by omega⟩
  exact sum_any a m cap ss w h hcap hf
theorem size_drewN' (w : World) (n : Nat) : (w.drewN n).heap.size = w.heap.size := rfl
theorem zero_bad' (n : Int) (h : n < 0 ∨ 8192 < n) (w : World) :
    Calls Try.prog 29 #[.int .i64 n] w fun e w' => e = .returned (.tuple #[.string ⟨#[]⟩, .int .i64 1]) ∧ w = w' := zero_bad n h w
theorem four_cells (u : World) (z : Int) (r : Nat) (hz : -9223372036854775808 ≤ z ∧ z ≤ 9223372036854775807) (hr : r < 300) (j : Nat) (hj : j < 4) :
    ∃ e : Int, -9223372036854775808 ≤ e ∧ e ≤ 9223372036854775807 ∧ (u.alloc (.cells #[.int .i64 z, .int .i64 (r : Int), .int .i64 8192, .int .i64 8193] 3)).cell? ⟨u.heap.size, j, none⟩ = some (.int .i64 e) := by
  match j, hj with
  | 0, _ => exact ⟨z, hz.1, hz.2, cell_new _ _ _ 0⟩
  | 1, _ => exact ⟨r, by omega, by omega, cell_new _ _ _ 1⟩
  | 2, _ => exact ⟨8192, by omega, by omega, cell_new _ _ _ 2⟩
  | 3, _ => exact ⟨8193, by omega, by omega, cell_new _ _ _ 3⟩
theorem sum_none' (a : Option Addr) (cap : Nat) (w : World) (h : StrsIn w a 0 []) :
    Calls Try.prog 25 #[.slice a 0 cap] w fun e w' => e = .returned (.tuple #[.string ⟨#[]⟩, .int .i64 1]) ∧ w = w' := sum_none a cap w h

set_option maxRecDepth 100000 in
set_option maxHeartbeats 4000000 in
theorem laneSums_walk {W : World} {v : Value} {a : Option Addr} {l cap : Nat} {ss : List ByteArray} {c : Nat} {n : Int} (h : AskL W v a l cap ss c n) (hcap : l ≤ cap) :
    Calls Try.prog 4 #[v] W fun e W' => e = .returned (.bool true) ∧ Below W.heap.size W W' := by
  obtain ⟨rfl, hS, hc, hn⟩ := h
  clear hc
  have hle := hS.le
  have HN := Lib.hid hn
  have HS := Lib.hid (hS.kept ((Kept.refl W).alloc (.cells #[.slice a l cap, .int .u8 (c : Int), .int .i64 n] 24)))
  clear hS hn
  have hask : ∀ wr, Kept (W.alloc (.cells #[.slice a l cap, .int .u8 (c : Int), .int .i64 n] 24)) wr → wr.cell? ⟨W.heap.size, 0, none⟩ = some (.slice a l cap) ∧ wr.cell? ⟨W.heap.size, 2, none⟩ = some (.int .i64 n) :=
    fun wr h => ⟨h.cell (by simp) (cell_new _ _ _ 0), h.cell (by simp) (cell_new _ _ _ 2)⟩
  have hend : ∀ wr, Kept (W.alloc (.cells #[.slice a l cap, .int .u8 (c : Int), .int .i64 n] 24)) wr → Below W.heap.size W wr := fun wr h => ((Kept.refl W).alloc _).trans h
  have HE := Lib.hid hend
  have HA := Lib.hid hask
  clear hend hask
  go_enter Try.func4, Try.ntmps4
  go_wp2_with fail
  refine (heavy2_any _ _ _ ss _ _ _ HS.out).mono ?_
  rintro e w1 ⟨⟨b, rfl⟩, hB⟩
  have HB := Lib.hid hB
  clear hB
  cases b
  rotate_left
  · go_wp2
    go_ret
    exact ⟨rfl, HE.out _ HB.out⟩
  go_wp2
  go_loopw [3] (fun i wr => ∃ k : Nat, k ≤ 6 ∧ i = .int .i64 k ∧ Kept w1 wr) (fun i _ => 6 - (intOf i).toNat)
  case atStart => exact ⟨0, by omega, rfl, Kept.refl _⟩
  case round =>
    obtain ⟨k, hk, rfl, hK⟩ := hrel
    obtain ⟨hca, hcn⟩ := HA.out wr (HB.out.trans hK)
    have HSr := Lib.hid (HS.out.kept (HB.out.trans hK))
    have HK := Lib.hid hK
    clear hK
    by_cases hlt : k ≤ l
    · by_cases h5 : k ≤ 5
      · have hkc : k ≤ cap := by omega
        have hd5 : decide ((k : Int) ≤ 5) = true := decide_eq_true (by omega)
        clear hcn
        go_wp2_with fail
        refine (copy_strings a k cap (ss.take k) _ (HSr.out.take k hlt) (by omega)).mono ?_
        rintro e w2 ⟨a', cap', rfl, hcl, hst, hK2⟩
        have HST := Lib.hid hst
        have HK2 := Lib.hid hK2
        clear hst hK2 hca
        by_cases h0 : k = 0
        · subst h0
          go_wp2_with fail
          refine (sum_none' a' cap' _ HST.out).mono ?_
          rintro e w3 ⟨rfl, rfl⟩
          have HK3 := Lib.hid HK2.out
          have HKS := Lib.hid (Kept.refl w2)
          have hca2 := (HA.out _ (HB.out.trans (HK.out.trans HK3.out))).1
          go_wp2_with fail
          refine (lanes_ref a 0 cap (ss.take 0) _ ((HSr.out.kept HK3.out).take 0 (by omega))).mono ?_
          rintro e w4 ⟨rfl, h4⟩
          rw [show fitE (ss.take 0) = 0 from rfl]
          have HK4 := Lib.hid (HKS.out.trans h4)
          have hca3 := (HA.out _ (HB.out.trans (HK.out.trans (HK3.out.trans h4)))).1
          clear h4 hca2
          go_wp2_with fail
          refine (num2_any _ _).mono ?_
          rintro e w' ⟨rfl, rfl⟩
          go_wp2_with fail
          refine (eq_strings a' a 0 cap' cap (ss.take 0) _ (HST.out.kept (HK4.out)) ((HSr.out.kept (HK2.out.trans HK4.out)).take 0 (by omega))).mono ?_
          rintro e w5 ⟨rfl, h5⟩
          have HK5 := Lib.hid (HK.out.trans (HK2.out.trans (HK4.out.trans h5)))
          clear h5
          go_wp2
          go_roundw
          case rel => exact ⟨0 + 1, by omega, by go_num, HK5.out⟩
          case measure => simp [intOf]; try omega
        · by_cases hE : fitE (ss.take k) = 0
          · have hkp : 0 < k := by omega
            obtain ⟨bb, off, ha, hcell⟩ := HSr.out.cells
            obtain rfl := ha (by omega)
            have HCL := Lib.hid hcell
            have HE0 := Lib.hid hE
            have hlen : (ss.take k).length = k := by rw [List.length_take, HSr.out.len_eq]; omega
            have HLN := Lib.hid hlen
            have hget : ∀ q, q < k → (ss.take k).getD q ByteArray.empty = ss.getD q ByteArray.empty := fun q hq => by simp [List.getD, hq]
            have HG := Lib.hid hget
            have hkb : ((k : Int) == 0) = false := by rw [beq_eq_false_iff_ne]; omega
            clear hE h0 ha hcell hlen hget
            go_wp2_with fail
            refine (sum_any' a' k cap' (ss.take k) _ hkp HST.out hcl HE0.out).mono ?_
            rintro e w3 ⟨rfl, h3⟩
            have HK3 := Lib.hid (HK2.out.trans h3)
            have HKS := Lib.hid h3
            clear h3
            have hca2 := (HA.out _ (HB.out.trans (HK.out.trans HK3.out))).1
            go_wp2_with fail
            refine (lanes_ref (some ⟨bb, off, none⟩) k cap (ss.take k) _ ((HSr.out.kept HK3.out).take k (by omega))).mono ?_
            rintro e w4 ⟨rfl, h4⟩
            rw [HE0.out]
            have HK4 := Lib.hid (HKS.out.trans h4)
            have HKW := Lib.hid (HK3.out.trans h4)
            clear h4 hca2
            have hca3 := (HA.out _ (HB.out.trans (HK.out.trans HKW.out))).1
            have hc0 := HKW.out.cell (HCL.out 0 (by omega)).1 (HCL.out 0 (by omega)).2
            rw [Nat.add_zero, ← HG.out 0 hkp] at hc0
            have hz : (ss.take k).getD 0 ByteArray.empty = sumTo (ss.take k) 0 := rfl
            rw [hz] at hc0
            clear hz
            have hl0 : 0 < l := by omega
            generalize hX0 : sumTo (ss.take k) 0 = X0 at hc0
            have HX0 := Lib.hid hX0
            clear hX0
            go_wp2
            clear hc0 hca3
            go_loopw [8, 9] (fun x i wr => ∃ q : Nat, 1 ≤ q ∧ q ≤ k ∧ i = .int .i64 q ∧ x = .string (sumTo (ss.take k) (q - 1)) ∧ Kept w4 wr) (fun _ i _ => k - (intOf i).toNat)
            case atStart => exact ⟨1, Nat.le_refl _, hkp, rfl, by rw [← HX0.out], Kept.refl _⟩
            case round =>
              obtain ⟨q, hq1, hqk, rfl, rfl, hKq⟩ := hrel
              have HKq := Lib.hid hKq
              have hca4 := (HA.out wr (HB.out.trans (HK.out.trans (HKW.out.trans hKq)))).1
              clear hKq
              by_cases hqlt : q < k
              · have hql : q < l := by omega
                have hcq := (HKW.out.trans HKq.out).cell (HCL.out q hql).1 (HCL.out q hql).2
                have hsz := (fitE_zero (ss.take k) HE0.out q (by rw [HLN.out]; exact hqlt))
                rw [HG.out q hqlt] at hsz
                have hss := sumTo_size (ss.take k) (q - 1) (by rw [HLN.out]; omega)
                have hsc := sumTo_succ (ss.take k) (q - 1) (by rw [HLN.out]; omega)
                rw [show q - 1 + 1 = q by omega, HG.out q hqlt] at hsc
                have hle2 : (sumTo (ss.take k) (q - 1)).size ≤ (ss.getD q ByteArray.empty).size := by rw [hss, hsz.2]; exact Nat.le_refl _
                have hle3 : (ss.getD q ByteArray.empty).size ≤ 9223372036854775807 := by omega
                generalize ss.getD q ByteArray.empty = t at hcq hsc hle2 hle3
                generalize sumTo (ss.take k) (q - 1) = X at hsc hle2 ⊢
                have HSC := Lib.hid hsc
                clear hsz hss hsc
                go_wp2_with fail
                refine (refadded_any X t hle2 hle3 _).mono ?_
                rintro e w5 ⟨rfl, h5⟩
                have HK5 := Lib.hid (HKq.out.trans h5)
                clear h5
                go_wp2
                go_roundw
                case rel => exact ⟨q + 1, by omega, by omega, by go_num, by rw [Nat.add_sub_cancel, HSC.out], HK5.out⟩
                case measure => simp [intOf]; omega
              · obtain rfl : q = k := by omega
                generalize sumTo (ss.take q) (q - 1) = X
                go_wp2_with fail
                refine (num2_any _ _).mono ?_
                rintro e w' ⟨rfl, rfl⟩
                go_wp2_with fail
                refine (eq_strings a' (some ⟨bb, off, none⟩) q cap' cap (ss.take q) _ (HST.out.kept (HK4.out.trans HKq.out)) ((HSr.out.kept (HKW.out.trans HKq.out)).take q (by omega))).mono ?_
                rintro e w5 ⟨rfl, h5⟩
                have HK5 := Lib.hid (HK.out.trans (HKW.out.trans (HKq.out.trans h5)))
                clear h5
                go_wp2
                go_roundw
                case rel => exact ⟨q + 1, by omega, by go_num, HK5.out⟩
                case measure => simp [intOf]; try omega
          · have hEb : (fitE (ss.take k) == 0) = false := by rw [beq_eq_false_iff_ne]; exact hE
            have hkb : ((k : Int) == 0) = false := by rw [beq_eq_false_iff_ne]; omega
            go_wp2_with fail
            refine (sum_bad' a' k cap' (ss.take k) _ HST.out hE).mono ?_
            rintro e w3 ⟨rfl, rfl⟩
            clear hE
            have HK3 := Lib.hid HK2.out
            have HKS := Lib.hid (Kept.refl w2)
            have hca2 := (HA.out _ (HB.out.trans (HK.out.trans HK3.out))).1
            go_wp2_with fail
            refine (lanes_ref a k cap (ss.take k) _ ((HSr.out.kept HK3.out).take k (by omega))).mono ?_
            rintro e w4 ⟨rfl, h4⟩
            have HK4 := Lib.hid (HKS.out.trans h4)
            have hca3 := (HA.out _ (HB.out.trans (HK.out.trans (HK3.out.trans h4)))).1
            clear h4 hca2
            go_wp2_with fail
            refine (num2_any _ _).mono ?_
            rintro e w' ⟨rfl, rfl⟩
            go_wp2_with fail
            refine (eq_strings a' a k cap' cap (ss.take k) _ (HST.out.kept (HK4.out)) ((HSr.out.kept (HK2.out.trans HK4.out)).take k (by omega))).mono ?_
            rintro e w5 ⟨rfl, h5⟩
            have HK5 := Lib.hid (HK.out.trans (HK2.out.trans (HK4.out.trans h5)))
            clear h5
            go_wp2
            go_roundw
            case rel => exact ⟨k + 1, by omega, by go_num, HK5.out⟩
            case measure => simp [intOf]; try omega
      · have hd5 : decide ((k : Int) ≤ 5) = false := decide_eq_false (by omega)
        go_wp2_with fail
        refine (wpIn_wide (n := 0)).1 ?_
        refine wpIn_region_quiet_tail_lit 5 (by kernel_rfl) (by kernel_rfl) (by kernel_rfl) ?_
        simp only [List.take_succ_cons, List.take_zero, List.drop_succ_cons, List.drop_zero]
        repeat (gi_big_quiet_step ((gi_at_call 28; exact callsIn_wide.2 (quietly (within_300 n _)))))
        refine wpQuietIn_nil ?_
        intro _ hw'
        obtain ⟨nq, hw''⟩ := hw'
        subst hw''
        gi_wp2
        go_wp2
        have hcl := fun j hj => four_cells (wr.drewN nq) n (w300 n) HN.out (w300_lt n) j hj
        have HK6 := Lib.hid ((HK.out.drewN nq).alloc (.cells #[.int .i64 n, .int .i64 (w300 n : Int), .int .i64 8192, .int .i64 8193] 3))
        have hsz : (wr.drewN nq).heap.size < ((wr.drewN nq).alloc (.cells #[.int .i64 n, .int .i64 (w300 n : Int), .int .i64 8192, .int .i64 8193] 3)).heap.size := by simp
        simp only [size_drewN'] at hcl hsz ⊢
        generalize wr.heap.size = sb at hcl hsz ⊢
        generalize (wr.drewN nq).alloc (.cells #[.int .i64 n, .int .i64 (w300 n : Int), .int .i64 8192, .int .i64 8193] 3) = w6 at hcl hsz HK6 ⊢
        have HCL := Lib.hid hcl
        have HSZ := Lib.hid hsz
        clear hcl hsz hcn
        go_loopw [11] (fun i wr => ∃ j : Nat, j ≤ 4 ∧ i = .int .i64 j ∧ Kept w6 wr) (fun i _ => 4 - (intOf i).toNat)
        case atStart => exact ⟨0, by omega, rfl, Kept.refl _⟩
        case round =>
          obtain ⟨j, hj, rfl, hK7⟩ := hrel
          have HK7 := Lib.hid hK7
          by_cases hj4 : j < 4
          · obtain ⟨z, hz1, hz2, hcz⟩ := HCL.out j hj4
            have hcz := hK7.cell HSZ.out hcz
            clear hK7
            by_cases hbad : z < 0 ∨ 8192 < z
            · have hnum : (decide (0 ≤ z) && decide (z ≤ 8192)) = false := by
                rcases hbad with h | h
                · rw [decide_eq_false (by omega : ¬ 0 ≤ z)]; rfl
                · rw [decide_eq_false (by omega : ¬ z ≤ 8192), Bool.and_false]
              have HBD := Lib.hid hbad
              have HNM := Lib.hid hnum
              clear hbad hnum
              go_wp2_with fail
              refine (zero_bad' z HBD.out _).mono ?_
              rintro e w' ⟨rfl, rfl⟩
              go_wp2_with fail
              refine (num_ref z 8192 _).mono ?_
              rintro e w' ⟨rfl, rfl⟩
              rw [HNM.out]
              go_wp2_with fail
              refine (num2_any _ _).mono ?_
              rintro e w' ⟨rfl, rfl⟩
              go_wp2
              go_roundw
              case rel => exact ⟨j + 1, by omega, by go_num, HK7.out⟩
              case measure => simp [intOf]; omega
            · obtain ⟨m, rfl⟩ : ∃ m : Nat, z = m := ⟨z.toNat, by omega⟩
              have hm : m ≤ 8192 := by omega
              have hnum : (decide (0 ≤ (m : Int)) && decide ((m : Int) ≤ 8192)) = true := by
                rw [decide_eq_true (by omega : 0 ≤ (m : Int)), decide_eq_true (by omega : (m : Int) ≤ 8192)]; rfl
              have hmk := make_bytes m (by omega)
              have hcv : ∀ u : World, (convert 44 9 (.slice (some ⟨u.heap.size, 0, none⟩) m m)).run Try.prog (u.alloc (.cells (madeCells #[.int .u8 0] m) 5)) = .ok (.string (zeroS m)) (u.alloc (.cells (madeCells #[.int .u8 0] m) 5)) := fun u => by
                have hb := (made_buf u m).string (P := Try.prog) 44 9 5 Try.underlying44 Try.underlying5 Try.underlying9 m
                rw [List.length_replicate] at hb
                exact hb
              generalize madeCells #[.int .u8 0] m = Z at hmk hcv
              have HNM := Lib.hid hnum
              have HMK := Lib.hid hmk
              have HCV := Lib.hid hcv
              clear hbad hnum hmk hcv
              go_wp2_with fail
              refine (zero_any m hm _).mono ?_
              rintro e w7 ⟨rfl, h7⟩
              have hcz := h7.cell (cell_lt hcz) hcz
              have HK8 := Lib.hid (HK7.out.trans h7)
              clear h7
              go_wp2_with fail
              refine (num_ref m 8192 _).mono ?_
              rintro e w' ⟨rfl, rfl⟩
              rw [HNM.out]
              go_wp2_with fail
              have hmk := HMK.out
              have hcv : (convert 44 9 (.slice (some ⟨w7.heap.size, 0, none⟩) m m)).run Try.prog (w7.alloc (.cells Z 5)).drew = .ok (.string (zeroS m)) (w7.alloc (.cells Z 5)).drew := HCV.out w7.drew
              go_region
              clear hmk hcv
              have HK9 := Lib.hid ((HK8.out.alloc (.cells Z 5)).drew)
              go_wp2_with fail
              refine (num2_any _ _).mono ?_
              rintro e w' ⟨rfl, rfl⟩
              go_wp2
              go_roundw
              case rel => exact ⟨j + 1, by omega, by go_num, HK9.out⟩
              case measure => simp [intOf]; omega
          · clear hK7
            go_wp2_with (go_at_call 23; refine (wakes2_any _).mono ?_; rintro e w' ⟨rfl, hB⟩)
            go_ret
            exact ⟨rfl, HE.out _ (HB.out.trans (HK6.out.trans (HK7.out.trans hB)))⟩
    · have hkl : ¬ k ≤ l := hlt
      go_wp2_with fail
      refine (wpIn_wide (n := 0)).1 ?_
      refine wpIn_region_quiet_tail_lit 5 (by kernel_rfl) (by kernel_rfl) (by kernel_rfl) ?_
      simp only [List.take_succ_cons, List.take_zero, List.drop_succ_cons, List.drop_zero]
      repeat (gi_big_quiet_step ((gi_at_call 28; exact callsIn_wide.2 (quietly (within_300 n _)))))
      refine wpQuietIn_nil ?_
      intro _ hw'
      obtain ⟨nq, hw''⟩ := hw'
      subst hw''
      gi_wp2
      go_wp2
      have hcl := fun j hj => four_cells (wr.drewN nq) n (w300 n) HN.out (w300_lt n) j hj
      have HK6 := Lib.hid ((HK.out.drewN nq).alloc (.cells #[.int .i64 n, .int .i64 (w300 n : Int), .int .i64 8192, .int .i64 8193] 3))
      have hsz : (wr.drewN nq).heap.size < ((wr.drewN nq).alloc (.cells #[.int .i64 n, .int .i64 (w300 n : Int), .int .i64 8192, .int .i64 8193] 3)).heap.size := by simp
      simp only [size_drewN'] at hcl hsz ⊢
      generalize wr.heap.size = sb at hcl hsz ⊢
      generalize (wr.drewN nq).alloc (.cells #[.int .i64 n, .int .i64 (w300 n : Int), .int .i64 8192, .int .i64 8193] 3) = w6 at hcl hsz HK6 ⊢
      have HCL := Lib.hid hcl
      have HSZ := Lib.hid hsz
      clear hcl hsz hcn
      go_loopw [11] (fun i wr => ∃ j : Nat, j ≤ 4 ∧ i = .int .i64 j ∧ Kept w6 wr) (fun i _ => 4 - (intOf i).toNat)
      case atStart => exact ⟨0, by omega, rfl, Kept.refl _⟩
      case round =>
        obtain ⟨j, hj, rfl, hK7⟩ := hrel
        have HK7 := Lib.hid hK7
        by_cases hj4 : j < 4
        · obtain ⟨z, hz1, hz2, hcz⟩ := HCL.out j hj4
          have hcz := hK7.cell HSZ.out hcz
          clear hK7
          by_cases hbad : z < 0 ∨ 8192 < z
          · have hnum : (decide (0 ≤ z) && decide (z ≤ 8192)) = false := by
              rcases hbad with h | h
              · rw [decide_eq_false (by omega : ¬ 0 ≤ z)]; rfl
              · rw [decide_eq_false (by omega : ¬ z ≤ 8192), Bool.and_false]
            have HBD := Lib.hid hbad
            have HNM := Lib.hid hnum
            clear hbad hnum
            go_wp2_with fail
            refine (zero_bad' z HBD.out _).mono ?_
            rintro e w' ⟨rfl, rfl⟩
            go_wp2_with fail
            refine (num_ref z 8192 _).mono ?_
            rintro e w' ⟨rfl, rfl⟩
            rw [HNM.out]
            go_wp2_with fail
            refine (num2_any _ _).mono ?_
            rintro e w' ⟨rfl, rfl⟩
            go_wp2
            go_roundw
            case rel => exact ⟨j + 1, by omega, by go_num, HK7.out⟩
            case measure => simp [intOf]; omega
          · obtain ⟨m, rfl⟩ : ∃ m : Nat, z = m := ⟨z.toNat, by omega⟩
            have hm : m ≤ 8192 := by omega
            have hnum : (decide (0 ≤ (m : Int)) && decide ((m : Int) ≤ 8192)) = true := by
              rw [decide_eq_true (by omega : 0 ≤ (m : Int)), decide_eq_true (by omega : (m : Int) ≤ 8192)]; rfl
            have hmk := make_bytes m (by omega)
            have hcv : ∀ u : World, (convert 44 9 (.slice (some ⟨u.heap.size, 0, none⟩) m m)).run Try.prog (u.alloc (.cells (madeCells #[.int .u8 0] m) 5)) = .ok (.string (zeroS m)) (u.alloc (.cells (madeCells #[.int .u8 0] m) 5)) := fun u => by
              have hb := (made_buf u m).string (P := Try.prog) 44 9 5 Try.underlying44 Try.underlying5 Try.underlying9 m
              rw [List.length_replicate] at hb
              exact hb
            generalize madeCells #[.int .u8 0] m = Z at hmk hcv
            have HNM := Lib.hid hnum
            have HMK := Lib.hid hmk
            have HCV := Lib.hid hcv
            clear hbad hnum hmk hcv
            go_wp2_with fail
            refine (zero_any m hm _).mono ?_
            rintro e w7 ⟨rfl, h7⟩
            have hcz := h7.cell (cell_lt hcz) hcz
            have HK8 := Lib.hid (HK7.out.trans h7)
            clear h7
            go_wp2_with fail
            refine (num_ref m 8192 _).mono ?_
            rintro e w' ⟨rfl, rfl⟩
            rw [HNM.out]
            go_wp2_with fail
            have hmk := HMK.out
            have hcv : (convert 44 9 (.slice (some ⟨w7.heap.size, 0, none⟩) m m)).run Try.prog (w7.alloc (.cells Z 5)).drew = .ok (.string (zeroS m)) (w7.alloc (.cells Z 5)).drew := HCV.out w7.drew
            go_region
            clear hmk hcv
            have HK9 := Lib.hid ((HK8.out.alloc (.cells Z 5)).drew)
            go_wp2_with fail
            refine (num2_any _ _).mono ?_
            rintro e w' ⟨rfl, rfl⟩
            go_wp2
            go_roundw
            case rel => exact ⟨j + 1, by omega, by go_num, HK9.out⟩
            case measure => simp [intOf]; omega
        · clear hK7
          go_wp2_with (go_at_call 23; refine (wakes2_any _).mono ?_; rintro e w' ⟨rfl, hB⟩)
          go_ret
          exact ⟨rfl, HE.out _ (HB.out.trans (HK6.out.trans (HK7.out.trans hB)))⟩
end Go.Proofs.Ytlpjpeonejbpjaa
