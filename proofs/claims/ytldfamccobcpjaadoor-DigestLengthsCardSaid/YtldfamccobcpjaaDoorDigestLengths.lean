/- The walk of the law DigestLengths: it answers true and changes nothing that was there (no condition but that both tables lie as they are laid). -/
import Derived.Test.YtldfamccobcpjaaDoorBl13
import Derived.Test.YtldfamccobcpjaaDoorAsk6
namespace Go.Proofs.YtldfamccobcpjaaDoor
open Go.RowKit Go.Shelf
attribute [local go_sem] Oper.semAt_some
set_option maxRecDepth 100000 in
set_option maxHeartbeats 2000000 in
theorem digestLengths_walk {W : World} {v : Value} {a : Option Addr} {l cap : Nat} {ss : List ByteArray} (h : AskS W v a l cap ss) (hB : Begins W) (hO : Orders W) :
    Calls Tryd.prog 4 #[v] W fun e W' => e = .returned (.bool true) ∧ Below W.heap.size W W' := by
  obtain ⟨rfl, hT⟩ := h
  have k1 : Kept W (W.alloc (.cells #[.slice a l cap] 24)) := (Kept.refl W).alloc _
  have HB := Lib.hid (BlockAt.new W #[.slice a l cap] 24)
  have HT := Lib.hid (hT.kept k1)
  have HBG := Lib.hid (hB.kept k1)
  have HOR := Lib.hid (hO.kept k1)
  have HK1 := Lib.hid k1
  clear hT k1 hB hO
  go_enter Tryd.func4, Tryd.ntmps4
  go_wp2_with fail
  generalize W.alloc (.cells #[.slice a l cap] 24) = w0 at *
  have a0 := box1 HB.out
  go_wp2_with fail
  refine (heavy6_any _ _ _ ss _ HT.out).mono ?_
  rintro e w1 ⟨hbv, hk⟩
  have HB1 := Lib.hid (HB.out.kept hk)
  have HT1 := Lib.hid (HT.out.kept hk)
  have HBG1 := Lib.hid (HBG.out.kept hk)
  have HOR1 := Lib.hid (HOR.out.kept hk)
  have HK2 := Lib.hid (HK1.out.trans hk)
  clear hk HB HT HBG HOR HK1 a0
  rcases hbv with rfl | ⟨rfl, hl6, hs6⟩
  · go_wp2
    go_ret
    exact ⟨rfl, HK2.out⟩
  have HS6 := Lib.hid hs6
  clear hs6
  have a0 := box1 HB1.out
  by_cases hl0 : 0 < l
  · as_aux_lemma =>
      obtain ⟨b, off, rfl, hc⟩ := HT1.out.cell hl0
      have hcell := hc 0 hl0 w1 (Kept.refl _)
      have hts := HS6.out 0 hl0
      generalize ss.getD 0 ByteArray.empty = t at hcell hts
      rw [Nat.add_zero] at hcell
      clear hc
      go_upto_region 6 with (fail)
      clear hcell a0
      obtain ⟨lt, hlt0⟩ : ∃ lt, lt = t.size := ⟨_, rfl⟩
      go_wp2_with fail
      go_loopw [4] (fun i wr => ∃ n : Nat, n ≤ 132 ∧ i = .int .i64 n ∧ Kept w1 wr) (fun i _ => 132 - (intOf i).toNat)
      case atStart => exact ⟨0, by omega, rfl, Kept.refl _⟩
      case round =>
        obtain ⟨n, hn, rfl, hK⟩ := hrel
        have HK := Lib.hid hK
        clear hK
        by_cases hn1 : n < 132
        · as_aux_lemma =>
            have hmk : ∀ w : World, (Instr.makeSlice 29 (.int .i64 n) (.int .i64 n)).run Tryd.prog w = .ok (.slice (some ⟨w.heap.size, 0, none⟩) n n) (w.alloc (.cells (madeCells #[.int .u8 0] n) 5)) := makeB n (by omega)
            have HBF := Lib.hid (madeB wr n)
            go_upto_region 10 with (fail)
            have HK6 := Lib.hid (HK.out.alloc (.cells (madeCells #[.int .u8 0] n) 5))
            obtain ⟨pd, hpd⟩ : ∃ pd, pd = wr.heap.size := ⟨_, rfl⟩
            have hpw : w1.heap.size ≤ pd := by rw [hpd]; exact HK.out.size
            rw [← hpd] at HBF ⊢
            clear hmk hpd
            generalize wr.alloc (.cells (madeCells #[.int .u8 0] n) 5) = w6 at *
            go_wp2_with fail
            go_loopw [6] (fun i wx => ∃ (k : Nat) (L : List UInt8), k ≤ n ∧ i = .int .i64 k ∧ Hid (L.length = n) ∧ Buf wx pd L ∧ w6.grownBy wx (some pd)) (fun i _ => n - (intOf i).toNat)
            case atStart => exact ⟨0, List.replicate n 0, by omega, rfl, Lib.hid (by simp), HBF.out, gr_refl _ _⟩
            case round =>
              obtain ⟨k, L, hk, rfl, hL, hbf, hgr⟩ := hrel
              have HL := Lib.hid hL.out
              have HBu := Lib.hid hbf
              have HG := Lib.hid hgr
              clear hL hbf hgr
              by_cases hkn : k < n
              · as_aux_lemma =>
                  obtain ⟨q, hq⟩ : ∃ q : Nat, q = n + lt := ⟨_, rfl⟩
                  obtain ⟨p, hp⟩ : ∃ p : Nat, p = k * q := ⟨_, rfl⟩
                  have e1 : (n : Int) + (lt : Int) = (q : Int) := by omega
                  have e2 : (k : Int) * (q : Int) = (p : Int) := by rw [hp]; simp
                  have hpb : p < 9223372036854775808 := by
                    have : k * q ≤ 132 * 10000 := Nat.mul_le_mul (by omega) (by omega)
                    omega
                  obtain ⟨y, hy⟩ : ∃ y : UInt8, y = UInt8.ofNat (p % 256) := ⟨_, rfl⟩
                  have e3 : (p : Int) % 256 = (y.toNat : Int) := by rw [hy, UInt8.toNat_ofNat']; omega
                  have hszs : (t.size : Int) = (lt : Int) := by omega
                  obtain ⟨z0, c0⟩ : ∃ z0, wr.cell? ⟨pd, k, none⟩ = some z0 := ⟨_, HBu.out.cell k (by rw [HL.out]; exact hkn)⟩
                  have f0 := HBu.out.free k (by rw [HL.out]; exact hkn)
                  have HBS := Lib.hid (HBu.out.set k (by rw [HL.out]; exact hkn) y)
                  have HGS := Lib.hid (gr_trans HG.out (gr_set wr pd k (.int .u8 (y.toNat : Int))))
                  have HL2 := Lib.hid (show (L.set k y).length = n by rw [List.length_set]; exact HL.out)
                  have hset : (L.set k y)[k]? = some y := by rw [List.getElem?_set_self (by rw [HL.out]; exact hkn)]
                  have HSET := Lib.hid hset
                  clear hq hp hy hset
                  go_upto_region 14 with (fail)
                  generalize wr.setCell _ _ = w9 at HBS HGS ⊢
                  clear c0 f0 e1 e2 e3 hpb
                  by_cases hl0 : 0 < lt
                  · as_aux_lemma =>
                      have hd1 : decide ((0 : Int) < (lt : Int)) = true := decide_eq_true (by omega)
                      obtain ⟨r, hr⟩ : ∃ r, r = k % lt := ⟨_, rfl⟩
                      have hrl : r < t.size := by rw [hr, ← hlt0]; exact Nat.mod_lt _ hl0
                      have m1 : (k : Int) % (lt : Int) = (r : Int) := by rw [hr]; simp
                      have m2 : (k : Int).tmod (lt : Int) = (r : Int) := by rw [Int.tmod_eq_emod_of_nonneg (by omega)]; exact m1
                      have m3 : ((lt : Int) == 0) = false := by rw [beq_eq_false_iff_ne]; omega
                      have m4 : ¬ lt = 0 := by omega
                      have c1 : w9.cell? ⟨pd, k, none⟩ = some (.int .u8 (y.toNat : Int)) := by
                        have hkl : k < (L.set k y).length := by rw [HL2.out]; exact hkn
                        have q := HBS.out.cell k hkl
                        have q2 := HSET.out
                        rw [List.getElem?_eq_getElem hkl] at q2
                        rw [Option.some.inj q2] at q
                        exact q
                      have f1 := HBS.out.free k (by rw [HL2.out]; exact hkn)
                      obtain ⟨z, hz⟩ : ∃ z : UInt8, z = t[r] := ⟨_, rfl⟩
                      have hzi : ∀ w : World, (Instr.index 9 (.string t) (.int .i64 r)).run Tryd.prog w = .ok (.int .u8 (z.toNat : Int)) w := fun w => by
                        rw [run_index_string _ _ _ _ _ Tryd.underlying9, dif_pos (by omega), hz]
                        rfl
                      have e4 : bits .xor .u8 (y.toNat : Int) (z.toNat : Int) = ((y ^^^ z).toNat : Int) := by
                        have h := u8_xor_nat y.toNat z.toNat (UInt8.toNat_lt y) (UInt8.toNat_lt z)
                        rw [h, UInt8.toNat_xor]
                      have hbs2 : ∀ nq, Buf ((w9.drewN nq).setCell ⟨pd, k, none⟩ (.int .u8 ((y ^^^ z).toNat : Int))) pd ((L.set k y).set k (y ^^^ z)) := fun nq => (HBS.out.kept ((Kept.refl _).drewN nq)).set k (by rw [HL2.out]; exact hkn) (y ^^^ z)
                      have hgs2 : ∀ nq, w6.grownBy ((w9.drewN nq).setCell ⟨pd, k, none⟩ (.int .u8 ((y ^^^ z).toNat : Int))) (some pd) := fun nq => grown_setCell HGS.out nq k _
                      have HBS2 := Lib.hid hbs2
                      have HGS2 := Lib.hid hgs2
                      have HL3 := Lib.hid (show ((L.set k y).set k (y ^^^ z)).length = n by rw [List.length_set]; exact HL2.out)
                      clear hbs2 hgs2 hz hr
                      generalize (L.set k y).set k (y ^^^ z) = L3 at *
                      generalize y ^^^ z = yz at *
                      go_wp2_with fail
                      refine (wpIn_wide (n := 0)).1 ?_
                      refine wpIn_region_quiet_tail_lit 14 (by kernel_rfl) (by kernel_rfl) (by kernel_rfl) ?_
                      simp only [List.take_succ_cons, List.take_zero, List.drop_succ_cons, List.drop_zero]
                      repeat (gi_big_quiet_step (fail))
                      refine wpQuietIn_nil ?_
                      intro _ hw'
                      obtain ⟨nq, hw''⟩ := hw'
                      subst hw''
                      gi_wp2
                      go_wp2
                      go_roundw
                      case rel => exact ⟨k + 1, L3, by omega, by go_num, HL3, HBS2.out nq, HGS2.out nq⟩
                      case measure => simp [intOf]; omega
                  · as_aux_lemma =>
                      have hd1 : decide ((0 : Int) < (lt : Int)) = false := decide_eq_false (by omega)
                      generalize L.set k y = L3 at *
                      go_wp2
                      go_roundw
                      case rel => exact ⟨k + 1, L3, by omega, by go_num, HL2, HBS.out, HGS.out⟩
                      case measure => simp [intOf]; omega
              · obtain rfl : k = n := by omega
                have hcv := HBu.out.string (P := Tryd.prog) 29 9 5 Tryd.underlying29 Tryd.underlying5 Tryd.underlying9 k
                rw [HL.out] at hcv
                obtain ⟨z, hz⟩ : ∃ z : ByteArray, z = ⟨L.toArray⟩ := ⟨_, rfl⟩
                have hzs : z.size ≤ 281474976710656 := by
                  rw [hz]
                  show L.toArray.size ≤ _
                  rw [List.size_toArray, HL.out]
                  omega
                rw [← hz] at hcv
                have HKx := Lib.hid (HK6.out.gr HG.out (fun k e => by cases e; exact hpw))
                have hcu : ∀ u : Later wr, (convert 29 9 (.slice (some ⟨pd, 0, none⟩) k k)).run Tryd.prog u.1 = .ok (.string z) u.1 := fun u => by
                  have q := (HBu.out.kept u.2).string (P := Tryd.prog) 29 9 5 Tryd.underlying29 Tryd.underlying5 Tryd.underlying9 k
                  rw [HL.out, ← hz] at q
                  exact q
                obtain ⟨D, hD⟩ : ∃ D, D = dg z.data.toList := ⟨_, rfl⟩
                have hof : ∀ u : Later wr, Calls Tryd.prog 9 #[.string z] u.1 fun e w' => e = .returned (.string D) ∧ Kept u.1 w' := fun u => by rw [hD]; exact of_any z hzs u.1 ((HBG1.out.kept HKx.out).kept u.2) ((HOR1.out.kept HKx.out).kept u.2)
                have hdg : ∀ u : Later wr, Calls Tryd.prog 10 #[.string z] u.1 fun e w' => e = .returned (.string D) ∧ Kept u.1 w' := fun u => by rw [hD]; exact rdigest_any z (by omega) u.1
                have HOF := Lib.hid hof
                have HDG := Lib.hid hdg
                clear hof hdg hD hz hcv HBu HG
                go_wp2_with fail
                refine region_later (by kernel_rfl) (by kernel_rfl) ?_
                repeat (go_big_quiet_step (first | (go_at_call 9; exact later_call (HOF.out _)) | (go_at_call 10; exact later_call (HDG.out _))))
                refine wpQuiet_nil ?_
                intro _ hw'
                obtain ⟨nq, hw''⟩ := hw'
                subst hw''
                have HKn := Lib.hid (HKx.out.trans nq.2)
                obtain ⟨w9, hw9⟩ : ∃ w9, w9 = nq.1 := ⟨_, rfl⟩
                rw [← hw9] at HKn ⊢
                clear hw9 hcu
                go_wp2
                go_roundw
                case rel => exact ⟨k + 1, by omega, by go_num, HKn.out⟩
                case measure => simp [intOf]; omega
        · as_aux_lemma =>
            obtain rfl : n = 132 := by omega
            go_wp2_with fail
            refine (wakes6_any _ (HBG1.out.kept HK.out) (HOR1.out.kept HK.out)).mono ?_
            rintro e w9 ⟨rfl, k9⟩
            have K9 := Lib.hid ((HK2.out.trans HK.out).trans k9)
            clear k9
            go_wp2
            go_ret
            exact ⟨rfl, K9.out⟩
  · as_aux_lemma =>
      obtain ⟨t, ht⟩ : ∃ t : ByteArray, t = ⟨#[115, 101, 101, 100]⟩ := ⟨_, rfl⟩
      have hts : t.size ≤ 6000 := by rw [ht]; exact (by decide : 4 ≤ 6000)
      go_upto_region 6 with (fail)
      rw [← ht]
      clear ht a0
      obtain ⟨lt, hlt0⟩ : ∃ lt, lt = t.size := ⟨_, rfl⟩
      go_wp2_with fail
      go_loopw [4] (fun i wr => ∃ n : Nat, n ≤ 132 ∧ i = .int .i64 n ∧ Kept w1 wr) (fun i _ => 132 - (intOf i).toNat)
      case atStart => exact ⟨0, by omega, rfl, Kept.refl _⟩
      case round =>
        obtain ⟨n, hn, rfl, hK⟩ := hrel
        have HK := Lib.hid hK
        clear hK
        by_cases hn1 : n < 132
        · as_aux_lemma =>
            have hmk : ∀ w : World, (Instr.makeSlice 29 (.int .i64 n) (.int .i64 n)).run Tryd.prog w = .ok (.slice (some ⟨w.heap.size, 0, none⟩) n n) (w.alloc (.cells (madeCells #[.int .u8 0] n) 5)) := makeB n (by omega)
            have HBF := Lib.hid (madeB wr n)
            go_upto_region 10 with (fail)
            have HK6 := Lib.hid (HK.out.alloc (.cells (madeCells #[.int .u8 0] n) 5))
            obtain ⟨pd, hpd⟩ : ∃ pd, pd = wr.heap.size := ⟨_, rfl⟩
            have hpw : w1.heap.size ≤ pd := by rw [hpd]; exact HK.out.size
            rw [← hpd] at HBF ⊢
            clear hmk hpd
            generalize wr.alloc (.cells (madeCells #[.int .u8 0] n) 5) = w6 at *
            go_wp2_with fail
            go_loopw [6] (fun i wx => ∃ (k : Nat) (L : List UInt8), k ≤ n ∧ i = .int .i64 k ∧ Hid (L.length = n) ∧ Buf wx pd L ∧ w6.grownBy wx (some pd)) (fun i _ => n - (intOf i).toNat)
            case atStart => exact ⟨0, List.replicate n 0, by omega, rfl, Lib.hid (by simp), HBF.out, gr_refl _ _⟩
            case round =>
              obtain ⟨k, L, hk, rfl, hL, hbf, hgr⟩ := hrel
              have HL := Lib.hid hL.out
              have HBu := Lib.hid hbf
              have HG := Lib.hid hgr
              clear hL hbf hgr
              by_cases hkn : k < n
              · as_aux_lemma =>
                  obtain ⟨q, hq⟩ : ∃ q : Nat, q = n + lt := ⟨_, rfl⟩
                  obtain ⟨p, hp⟩ : ∃ p : Nat, p = k * q := ⟨_, rfl⟩
                  have e1 : (n : Int) + (lt : Int) = (q : Int) := by omega
                  have e2 : (k : Int) * (q : Int) = (p : Int) := by rw [hp]; simp
                  have hpb : p < 9223372036854775808 := by
                    have : k * q ≤ 132 * 10000 := Nat.mul_le_mul (by omega) (by omega)
                    omega
                  obtain ⟨y, hy⟩ : ∃ y : UInt8, y = UInt8.ofNat (p % 256) := ⟨_, rfl⟩
                  have e3 : (p : Int) % 256 = (y.toNat : Int) := by rw [hy, UInt8.toNat_ofNat']; omega
                  have hszs : (t.size : Int) = (lt : Int) := by omega
                  obtain ⟨z0, c0⟩ : ∃ z0, wr.cell? ⟨pd, k, none⟩ = some z0 := ⟨_, HBu.out.cell k (by rw [HL.out]; exact hkn)⟩
                  have f0 := HBu.out.free k (by rw [HL.out]; exact hkn)
                  have HBS := Lib.hid (HBu.out.set k (by rw [HL.out]; exact hkn) y)
                  have HGS := Lib.hid (gr_trans HG.out (gr_set wr pd k (.int .u8 (y.toNat : Int))))
                  have HL2 := Lib.hid (show (L.set k y).length = n by rw [List.length_set]; exact HL.out)
                  have hset : (L.set k y)[k]? = some y := by rw [List.getElem?_set_self (by rw [HL.out]; exact hkn)]
                  have HSET := Lib.hid hset
                  clear hq hp hy hset
                  go_upto_region 14 with (fail)
                  generalize wr.setCell _ _ = w9 at HBS HGS ⊢
                  clear c0 f0 e1 e2 e3 hpb
                  by_cases hl0 : 0 < lt
                  · as_aux_lemma =>
                      have hd1 : decide ((0 : Int) < (lt : Int)) = true := decide_eq_true (by omega)
                      obtain ⟨r, hr⟩ : ∃ r, r = k % lt := ⟨_, rfl⟩
                      have hrl : r < t.size := by rw [hr, ← hlt0]; exact Nat.mod_lt _ hl0
                      have m1 : (k : Int) % (lt : Int) = (r : Int) := by rw [hr]; simp
                      have m2 : (k : Int).tmod (lt : Int) = (r : Int) := by rw [Int.tmod_eq_emod_of_nonneg (by omega)]; exact m1
                      have m3 : ((lt : Int) == 0) = false := by rw [beq_eq_false_iff_ne]; omega
                      have m4 : ¬ lt = 0 := by omega
                      have c1 : w9.cell? ⟨pd, k, none⟩ = some (.int .u8 (y.toNat : Int)) := by
                        have hkl : k < (L.set k y).length := by rw [HL2.out]; exact hkn
                        have q := HBS.out.cell k hkl
                        have q2 := HSET.out
                        rw [List.getElem?_eq_getElem hkl] at q2
                        rw [Option.some.inj q2] at q
                        exact q
                      have f1 := HBS.out.free k (by rw [HL2.out]; exact hkn)
                      obtain ⟨z, hz⟩ : ∃ z : UInt8, z = t[r] := ⟨_, rfl⟩
                      have hzi : ∀ w : World, (Instr.index 9 (.string t) (.int .i64 r)).run Tryd.prog w = .ok (.int .u8 (z.toNat : Int)) w := fun w => by
                        rw [run_index_string _ _ _ _ _ Tryd.underlying9, dif_pos (by omega), hz]
                        rfl
                      have e4 : bits .xor .u8 (y.toNat : Int) (z.toNat : Int) = ((y ^^^ z).toNat : Int) := by
                        have h := u8_xor_nat y.toNat z.toNat (UInt8.toNat_lt y) (UInt8.toNat_lt z)
                        rw [h, UInt8.toNat_xor]
                      have hbs2 : ∀ nq, Buf ((w9.drewN nq).setCell ⟨pd, k, none⟩ (.int .u8 ((y ^^^ z).toNat : Int))) pd ((L.set k y).set k (y ^^^ z)) := fun nq => (HBS.out.kept ((Kept.refl _).drewN nq)).set k (by rw [HL2.out]; exact hkn) (y ^^^ z)
                      have hgs2 : ∀ nq, w6.grownBy ((w9.drewN nq).setCell ⟨pd, k, none⟩ (.int .u8 ((y ^^^ z).toNat : Int))) (some pd) := fun nq => grown_setCell HGS.out nq k _
                      have HBS2 := Lib.hid hbs2
                      have HGS2 := Lib.hid hgs2
                      have HL3 := Lib.hid (show ((L.set k y).set k (y ^^^ z)).length = n by rw [List.length_set]; exact HL2.out)
                      clear hbs2 hgs2 hz hr
                      generalize (L.set k y).set k (y ^^^ z) = L3 at *
                      generalize y ^^^ z = yz at *
                      go_wp2_with fail
                      refine (wpIn_wide (n := 0)).1 ?_
                      refine wpIn_region_quiet_tail_lit 14 (by kernel_rfl) (by kernel_rfl) (by kernel_rfl) ?_
                      simp only [List.take_succ_cons, List.take_zero, List.drop_succ_cons, List.drop_zero]
                      repeat (gi_big_quiet_step (fail))
                      refine wpQuietIn_nil ?_
                      intro _ hw'
                      obtain ⟨nq, hw''⟩ := hw'
                      subst hw''
                      gi_wp2
                      go_wp2
                      go_roundw
                      case rel => exact ⟨k + 1, L3, by omega, by go_num, HL3, HBS2.out nq, HGS2.out nq⟩
                      case measure => simp [intOf]; omega
                  · as_aux_lemma =>
                      have hd1 : decide ((0 : Int) < (lt : Int)) = false := decide_eq_false (by omega)
                      generalize L.set k y = L3 at *
                      go_wp2
                      go_roundw
                      case rel => exact ⟨k + 1, L3, by omega, by go_num, HL2, HBS.out, HGS.out⟩
                      case measure => simp [intOf]; omega
              · obtain rfl : k = n := by omega
                have hcv := HBu.out.string (P := Tryd.prog) 29 9 5 Tryd.underlying29 Tryd.underlying5 Tryd.underlying9 k
                rw [HL.out] at hcv
                obtain ⟨z, hz⟩ : ∃ z : ByteArray, z = ⟨L.toArray⟩ := ⟨_, rfl⟩
                have hzs : z.size ≤ 281474976710656 := by
                  rw [hz]
                  show L.toArray.size ≤ _
                  rw [List.size_toArray, HL.out]
                  omega
                rw [← hz] at hcv
                have HKx := Lib.hid (HK6.out.gr HG.out (fun k e => by cases e; exact hpw))
                have hcu : ∀ u : Later wr, (convert 29 9 (.slice (some ⟨pd, 0, none⟩) k k)).run Tryd.prog u.1 = .ok (.string z) u.1 := fun u => by
                  have q := (HBu.out.kept u.2).string (P := Tryd.prog) 29 9 5 Tryd.underlying29 Tryd.underlying5 Tryd.underlying9 k
                  rw [HL.out, ← hz] at q
                  exact q
                obtain ⟨D, hD⟩ : ∃ D, D = dg z.data.toList := ⟨_, rfl⟩
                have hof : ∀ u : Later wr, Calls Tryd.prog 9 #[.string z] u.1 fun e w' => e = .returned (.string D) ∧ Kept u.1 w' := fun u => by rw [hD]; exact of_any z hzs u.1 ((HBG1.out.kept HKx.out).kept u.2) ((HOR1.out.kept HKx.out).kept u.2)
                have hdg : ∀ u : Later wr, Calls Tryd.prog 10 #[.string z] u.1 fun e w' => e = .returned (.string D) ∧ Kept u.1 w' := fun u => by rw [hD]; exact rdigest_any z (by omega) u.1
                have HOF := Lib.hid hof
                have HDG := Lib.hid hdg
                clear hof hdg hD hz hcv HBu HG
                go_wp2_with fail
                refine region_later (by kernel_rfl) (by kernel_rfl) ?_
                repeat (go_big_quiet_step (first | (go_at_call 9; exact later_call (HOF.out _)) | (go_at_call 10; exact later_call (HDG.out _))))
                refine wpQuiet_nil ?_
                intro _ hw'
                obtain ⟨nq, hw''⟩ := hw'
                subst hw''
                have HKn := Lib.hid (HKx.out.trans nq.2)
                obtain ⟨w9, hw9⟩ : ∃ w9, w9 = nq.1 := ⟨_, rfl⟩
                rw [← hw9] at HKn ⊢
                clear hw9 hcu
                go_wp2
                go_roundw
                case rel => exact ⟨k + 1, by omega, by go_num, HKn.out⟩
                case measure => simp [intOf]; omega
        · as_aux_lemma =>
            obtain rfl : n = 132 := by omega
            go_wp2_with fail
            refine (wakes6_any _ (HBG1.out.kept HK.out) (HOR1.out.kept HK.out)).mono ?_
            rintro e w9 ⟨rfl, k9⟩
            have K9 := Lib.hid ((HK2.out.trans HK.out).trans k9)
            clear k9
            go_wp2
            go_ret
            exact ⟨rfl, K9.out⟩
end Go.Proofs.YtldfamccobcpjaaDoor
