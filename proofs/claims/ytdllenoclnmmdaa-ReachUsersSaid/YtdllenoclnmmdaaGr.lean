/- Contracts laid together: what each says stands at its head (no conditions). -/
import Derived.Test.YtdllenoclnmmdaaMr0
import Derived.Test.YtdllenoclnmmdaaGm
import Derived.Test.YtdllenoclnmmdaaGs
namespace Go.Proofs.Ytdllenoclnmmdaa
open Go.RowKit Go.Shelf
attribute [local go_sem] Oper.semAt_some

theorem dgB_parts {l : List ByteArray} : dgB l = (szB l && riB l) := rfl
set_option maxRecDepth 100000 in
set_option maxHeartbeats 1000000 in
theorem rdig_any (a : Option Addr) (l cap : Nat) (ss : List ByteArray) (w : World) (h : StrsIn w a l ss) :
    Calls Try.prog 75 #[.slice a l cap] w fun e w' => e = .returned (.bool (dgB ss)) ∧ Kept w w' := by
  have hle := h.le
  have HS := Lib.hid h
  have HL := Lib.hid h.len_eq
  clear h
  obtain ⟨B, hB⟩ : ∃ B, B = dgB ss := ⟨_, rfl⟩
  rw [← hB]
  have HB := Lib.hid hB
  clear hB
  go_enter Try.func75, Try.ntmps75
  go_wp2_with fail
  go_loopw [3] (fun i wr => ∃ k : Nat, k ≤ l ∧ i = .int .i64 k ∧ Hid (szB (ss.take k) = true ∧ riK ss k = true) ∧ Kept w wr) (fun i _ => l - (intOf i).toNat)
  case atStart => exact ⟨0, by omega, rfl, Lib.hid ⟨rfl, rfl⟩, Kept.refl _⟩
  case round =>
    obtain ⟨k, hk, rfl, HZ, hkr⟩ := hrel
    have HK := Lib.hid hkr
    clear hkr
    by_cases hlt : k < l
    · have hd1 : decide (k < l) = true := decide_eq_true hlt
      obtain ⟨b, off, rfl, hc⟩ := HS.out.at (by omega)
      have c0 := hc k hlt _ HK.out
      have HSN := Lib.hid (size_szB_snoc ss k (by rw [HL.out]; exact hlt))
      have HF := Lib.hid (fun hp => all_at ss (fun d => decide (d.size = 32)) k ByteArray.empty (by rw [HL.out]; exact hlt) hp)
      have HRS := Lib.hid (riK_succ ss k)
      obtain ⟨t, ht⟩ : ∃ t, t = ss.getD k ByteArray.empty := ⟨_, rfl⟩
      have hts := HS.out.size k hlt
      have HTE := Lib.hid ht
      unfold txt at HSN HRS
      rw [← ht] at c0 HSN HF hts HRS
      by_cases h32 : t.size = 32
      · have hne : ((t.size : Int) != 32) = false := by simp [h32]
        have HN := Lib.hid (show szB (ss.take (k + 1)) = true by rw [HSN.out, HZ.out.1, decide_eq_true h32]; rfl)
        by_cases h0 : k = 0
        · subst h0
          have HR := Lib.hid (show riK ss (0 + 1) = true from rfl)
          rw [Nat.add_zero] at c0
          clear hc h32 ht
          go_wp2_with fail
          go_quiet (fail)
          go_wp2
          go_roundw
          case rel => exact ⟨0 + 1, by omega, by go_num, Lib.hid ⟨HN.out, HR.out⟩, HK.out.drewN nq⟩
          case measure => simp [intOf]; omega
        · obtain ⟨j, rfl⟩ : ∃ j, k = j + 1 := ⟨k - 1, by omega⟩
          have c1 := hc j (by omega) _ HK.out
          have HF2 := Lib.hid (fun hp => riK_false (l := ss) (n := l) (i := j + 1) hlt (by omega) hp)
          rw [Nat.add_sub_cancel] at HRS HF2
          unfold txt at HF2
          obtain ⟨u, hu⟩ : ∃ u, u = ss.getD j ByteArray.empty := ⟨_, rfl⟩
          rw [← hu] at c1 HRS HF2
          rw [← ht] at HF2
          clear hc ht hu h32
          obtain ⟨m, hm⟩ : ∃ m, m = j + 1 := ⟨_, rfl⟩
          rw [← hm] at c0 HRS HZ HN hlt hd1 hk ⊢
          have hmi : (m : Int) - 1 = (j : Int) := by omega
          have hwj : IntKind.i64.wrap (j : Int) = (j : Int) := IntWalk.i64_in _ (by omega)
          have hm0 : decide (0 < m) = true := decide_eq_true (by omega)
          have hjl : j < l := by omega
          clear hm
          cases hq : ltB u t with
          | true =>
            have hop := run_geq hq
            have HR := Lib.hid (show riK ss (m + 1) = true by rw [HRS.out, HZ.out.2, hq]; simp)
            clear h0 hq
            go_wp2_with fail
            go_quiet (fail)
            go_wp2
            go_roundw
            case rel => exact ⟨m + 1, by omega, by go_num, Lib.hid ⟨HN.out, HR.out⟩, HK.out.drewN nq⟩
            case measure => simp [intOf]; omega
          | false =>
            have hop := run_geq hq
            have HE := Lib.hid (show B = false by rw [HB.out]; unfold dgB riB; rw [HL.out, HF2.out hq, Bool.and_false])
            clear h0 hq
            go_wp2_with fail
            go_quiet (fail)
            go_wp2
            go_ret
            exact ⟨retb HE.out, HK.out.drewN nq⟩
      · have hne : ((t.size : Int) != 32) = true := by simp; omega
        have HE := Lib.hid (show B = false by rw [HB.out]; unfold dgB; rw [show szB ss = false from HF.out (decide_eq_false h32), Bool.false_and])
        clear h32 hc ht
        go_wp2_with fail
        go_quiet (fail)
        go_wp2
        go_ret
        exact ⟨retb HE.out, HK.out.drewN nq⟩
    · obtain rfl : l = k := by omega
      have hd1 : decide (l < l) = false := decide_eq_false (by omega)
      have HE := Lib.hid (show B = true by
        rw [HB.out]
        unfold dgB riB
        rw [HL.out, HZ.out.2]
        have := HZ.out.1
        rw [List.take_of_length_le (by rw [HL.out]; omega)] at this
        rw [this]
        rfl)
      go_wp2
      go_ret
      exact ⟨retb HE.out, HK.out⟩
theorem mnum_any (n m : Int) (w : World) : Calls Try.prog 11 #[.int .i64 n, .int .i64 m] w fun e w' => e = .returned (.bool (decide (0 ≤ n) && decide (n ≤ m))) ∧ w = w' := by
  by_cases h : 0 ≤ n
  · have hb : (decide (0 ≤ n) && decide (n ≤ m)) = decide (n ≤ m) := by simp [h]
    rw [hb]
    clear hb
    go_enter Try.func11, Try.ntmps11
    go_wp2
    go_ret
    exact ⟨by simp, rfl⟩
  · have hb : (decide (0 ≤ n) && decide (n ≤ m)) = false := by simp [h]
    rw [hb]
    have hd : decide (0 ≤ n) = false := decide_eq_false h
    clear hb
    go_enter Try.func11, Try.ntmps11
    go_wp2
    go_ret
    exact ⟨rfl, rfl⟩
/-- the reference asks the same, in another order -/
theorem mfB_ref (k : Int) (bs us : List ByteArray) : mfB ⟨k, bs, us⟩ = ((decide (0 ≤ k) && decide (k ≤ 255)) && (decide (bs.length + us.length ≤ 20) && (dgB bs && dgB us))) := by
  unfold mfB mfFew mfMade dgB
  dsimp only
  cases decide (0 ≤ k) <;> cases decide (k ≤ 255) <;> cases decide (bs.length + us.length ≤ 20) <;> cases szB bs <;> cases szB us <;> cases riB bs <;> cases riB us <;> rfl
set_option maxRecDepth 100000 in
set_option maxHeartbeats 2000000 in
theorem rmay_any (k : Int) (ab : Option Addr) (lb cb : Nat) (au : Option Addr) (lu cu : Nat) (bs us : List ByteArray) (w : World) (hb : StrsIn w ab lb bs) (hu : StrsIn w au lu us) (hl : lb ≤ 1000000 ∧ lu ≤ 1000000) :
    Calls Try.prog 65 #[.agg #[.int .i64 k, .slice ab lb cb, .slice au lu cu]] w fun e w' => e = .returned (.bool (mfB ⟨k, bs, us⟩)) ∧ Kept w w' := by
  have HBS := Lib.hid hb
  have HUS := Lib.hid hu
  have HB := Lib.hid (BlockAt.new w #[.int .i64 k, .slice ab lb cb, .slice au lu cu] 28)
  have HK := Lib.hid ((Kept.refl w).alloc (.cells #[.int .i64 k, .slice ab lb cb, .slice au lu cu] 28))
  obtain ⟨R, hR⟩ : ∃ R, R = mfB ⟨k, bs, us⟩ := ⟨_, rfl⟩
  rw [← hR]
  have HR := Lib.hid (show R = ((decide (0 ≤ k) && decide (k ≤ 255)) && (decide (lb + lu ≤ 20) && (dgB bs && dgB us))) by rw [hR, mfB_ref, hb.len_eq, hu.len_eq])
  clear hb hu hR
  obtain ⟨b1, hb1⟩ : ∃ b1, b1 = (decide (0 ≤ k) && decide (k ≤ 255)) := ⟨_, rfl⟩
  rw [← hb1] at HR
  have hnm := fun w => mnum_any k 255 w
  rw [← hb1] at hnm
  have HNM := Lib.hid hnm
  clear hb1 hnm
  go_enter Try.func65, Try.ntmps65
  go_upto_region 1 with (fail)
  generalize w.alloc (.cells #[.int .i64 k, .slice ab lb cb, .slice au lu cu] 28) = w1 at *
  obtain ⟨a0, a1, a2⟩ := box3 HB.out
  go_wp2_with fail
  refine (HNM.out _).mono ?_
  rintro e w2 ⟨rfl, rfl⟩
  cases b1 with
  | false =>
    have HE := Lib.hid (show R = false by rw [HR.out]; rfl)
    go_wp2
    go_ret
    exact ⟨retb HE.out, HK.out⟩
  | true =>
    by_cases h20 : lb + lu ≤ 20
    · have d1 : decide ((lb : Int) + (lu : Int) ≤ 20) = true := decide_eq_true (by omega)
      have HR2 := Lib.hid (show R = (dgB bs && dgB us) by rw [HR.out, decide_eq_true h20]; rfl)
      clear HR
      go_wp2_with fail
      refine (rdig_any ab lb cb bs _ (HBS.out.kept HK.out)).mono ?_
      rintro e w3 ⟨rfl, hk3⟩
      have HK3 := Lib.hid (HK.out.trans hk3)
      clear a0 a1 a2
      obtain ⟨a0, a1, a2⟩ := box3k HB.out hk3
      clear hk3
      cases hz : dgB bs with
      | false =>
        have HE := Lib.hid (show R = false by rw [HR2.out, hz]; rfl)
        clear hz HR2
        go_wp2
        go_ret
        exact ⟨retb HE.out, HK3.out⟩
      | true =>
        have HE := Lib.hid (show R = dgB us by rw [HR2.out, hz]; rfl)
        clear hz HR2
        go_wp2_with fail
        refine (rdig_any au lu cu us _ (HUS.out.kept HK3.out)).mono ?_
        rintro e w4 ⟨rfl, hk4⟩
        have HK4 := Lib.hid (HK3.out.trans hk4)
        clear a0 a1 a2 hk4
        generalize dgB us = B at *
        go_wp2
        go_ret
        exact ⟨retb HE.out, HK4.out⟩
    · have d1 : decide ((lb : Int) + (lu : Int) ≤ 20) = false := decide_eq_false (by omega)
      have HE := Lib.hid (show R = false by rw [HR.out, decide_eq_false h20]; rfl)
      clear HR
      go_wp2
      go_ret
      exact ⟨retb HE.out, HK.out⟩
end Go.Proofs.Ytdllenoclnmmdaa

namespace Go.Proofs.Ytdllenoclnmmdaa
open Go.RowKit Go.Shelf
attribute [local go_sem] Oper.semAt_some

/-- what the reference's Take tells -/
def TakeRP (w : World) (o : Option Mf) (e : Ending) (w' : World) : Prop :=
  (o = none → e = .returned (.tuple #[.agg #[.int .i64 0, .slice none 0 0, .slice none 0 0], .bool false])) ∧
  (∀ m, o = some m → ∃ ab cb au cu, e = .returned (.tuple #[.agg #[.int .i64 m.k, .slice ab m.bs.length cb, .slice au m.us.length cu], .bool true]) ∧ m.bs.length ≤ cb ∧ StrsIn w' ab m.bs.length m.bs ∧ StrsIn w' au m.us.length m.us) ∧ Kept w w'
theorem neq_list {a : ByteArray} (h : ¬ a = manf) : (a.toList != [77, 65, 78, 70]) = true ∧ (a.toList == [77, 65, 78, 70]) = false ∧ ¬ a.toList = [77, 65, 78, 70] := by
  have h1 : ¬ a.toList = [77, 65, 78, 70] := fun e => h (toList_inj (e.trans (by decide +kernel)))
  exact ⟨by simpa using h1, by simpa using h1, h1⟩
theorem eq_list {a : ByteArray} (h : a = manf) : (a.toList != [77, 65, 78, 70]) = false ∧ (a.toList == [77, 65, 78, 70]) = true ∧ a.toList = [77, 65, 78, 70] := by
  have h1 : a.toList = [77, 65, 78, 70] := by rw [h]; decide +kernel
  exact ⟨by simpa using h1, by simpa using h1, h1⟩
set_option maxRecDepth 100000 in
set_option maxHeartbeats 2000000 in
theorem rtake_none (s : ByteArray) (w : World) (h : ¬ (7 ≤ s.size ∧ s.extract 0 4 = manf ∧ s.size = 7 + 32 * ((byt s 5).toNat + (byt s 6).toNat))) : Calls Try.prog 48 #[.string s] w (TakeRP w none) := by
  have HK0 := Lib.hid ((Kept.refl w).alloc (.cells #[.int .i64 0, .slice none 0 0, .slice none 0 0] 28))
  have HR := Lib.hid (BlockAt.new w #[.int .i64 0, .slice none 0 0, .slice none 0 0] 28)
  generalize hw1 : w.alloc (.cells #[.int .i64 0, .slice none 0 0, .slice none 0 0] 28) = w1 at *
  have HW1 := Lib.hid hw1
  clear hw1
  have hend : ∀ (nq : Nat) (tmps : Array Value), tmps.getD 2 undef = .pointer (some ⟨w.heap.size, 0, none⟩) → tmps.getD 3 undef = .bool false → True := fun _ _ _ _ => trivial
  clear hend
  by_cases h7 : 7 ≤ s.size
  · have hd1 : decide ((s.size : Int) < 7) = false := decide_eq_false (by omega)
    by_cases hx : s.extract 0 4 = manf
    · obtain ⟨g1, g2, g3⟩ := eq_list hx
      have hn : ¬ s.size = 7 + 32 * ((byt s 5).toNat + (byt s 6).toNat) := fun e => h ⟨h7, hx, e⟩
      have hi5 : 5 < s.size := by omega
      have hi6 : 6 < s.size := by omega
      have e5 := byt_get s 5 hi5
      have e6 := byt_get s 6 hi6
      have hb5 : (byt s 5).toNat < 256 := UInt8.toNat_lt _
      have hb6 : (byt s 6).toNat < 256 := UInt8.toNat_lt _
      have h5i : ((s[5]).toNat : Int) = (((byt s 5).toNat : Nat) : Int) := by rw [e5]
      have h6i : ((s[6]).toNat : Int) = (((byt s 6).toNat : Nat) : Int) := by rw [e6]
      clear e5 e6
      generalize (byt s 5).toNat = b5 at *
      generalize (byt s 6).toNat = b6 at *
      obtain ⟨n, hn1⟩ : ∃ n, n = b5 + b6 := ⟨_, rfl⟩
      obtain ⟨m, hm1⟩ : ∃ m, m = 32 * n := ⟨_, rfl⟩
      obtain ⟨q, hq1⟩ : ∃ q, q = 7 + m := ⟨_, rfl⟩
      have s1 : (b5 : Int) + (b6 : Int) = (n : Int) := by omega
      have s2 : 32 * (n : Int) = (m : Int) := by omega
      have s3 : 7 + (m : Int) = (q : Int) := by omega
      have s4 : ((s.size : Int) != (q : Int)) = true := by rw [bne_iff_ne]; omega
      have w1' : IntKind.i64.wrap (n : Int) = (n : Int) := IntWalk.i64_in _ (by omega)
      have w2' : IntKind.i64.wrap (m : Int) = (m : Int) := IntWalk.i64_in _ (by omega)
      have w3' : IntKind.i64.wrap (q : Int) = (q : Int) := IntWalk.i64_in _ (by omega)
      clear hn1 hm1 hq1 hn hx h
      go_enter Try.func48, Try.ntmps48
      go_upto_region 1 with (fail)
      rw [HW1.out]
      go_quiet (fail)
      have HR9 := Lib.hid (HR.out.kept ((Kept.refl w1).drewN nq))
      have HK9 := Lib.hid (HK0.out.drewN nq)
      generalize w1.drewN nq = w9 at *
      go_wp2_with (refine wpList_store_block rfl 28 (.tmp 2) (.tmp 29) rfl _ #[.int .i64 0, .slice none 0 0, .slice none 0 0] #[.int .i64 0, .slice none 0 0, .slice none 0 0] 28 rfl rfl HR9.out Try.infoMf rfl (one3m _ _ _ _ _ _ _) ?_)
      refine bodyPost_ret (v := .tuple #[.agg #[.int .i64 0, .slice none 0 0, .slice none 0 0], .bool false]) ?_ rfl ⟨fun _ => rfl, (fun m e => by cases e), HK9.out.setRow (by omega) _⟩
      exact results_row_tmp rfl _ _ w.heap.size 28 #[.int .i64 0, .slice none 0 0, .slice none 0 0] _ rfl (HR9.out.setRow _) Try.underlying28 rfl Try.infoMf _ rfl
    · obtain ⟨g1, g2, g3⟩ := neq_list hx
      clear hx h
      go_enter Try.func48, Try.ntmps48
      go_upto_region 1 with (fail)
      rw [HW1.out]
      go_quiet (fail)
      have HR9 := Lib.hid (HR.out.kept ((Kept.refl w1).drewN nq))
      have HK9 := Lib.hid (HK0.out.drewN nq)
      generalize w1.drewN nq = w9 at *
      go_wp2_with (refine wpList_store_block rfl 28 (.tmp 2) (.tmp 29) rfl _ #[.int .i64 0, .slice none 0 0, .slice none 0 0] #[.int .i64 0, .slice none 0 0, .slice none 0 0] 28 rfl rfl HR9.out Try.infoMf rfl (one3m _ _ _ _ _ _ _) ?_)
      refine bodyPost_ret (v := .tuple #[.agg #[.int .i64 0, .slice none 0 0, .slice none 0 0], .bool false]) ?_ rfl ⟨fun _ => rfl, (fun m e => by cases e), HK9.out.setRow (by omega) _⟩
      exact results_row_tmp rfl _ _ w.heap.size 28 #[.int .i64 0, .slice none 0 0, .slice none 0 0] _ rfl (HR9.out.setRow _) Try.underlying28 rfl Try.infoMf _ rfl
  · have hd1 : decide ((s.size : Int) < 7) = true := decide_eq_true (by omega)
    clear h
    go_enter Try.func48, Try.ntmps48
    go_upto_region 1 with (fail)
    rw [HW1.out]
    go_quiet (fail)
    have HR9 := Lib.hid (HR.out.kept ((Kept.refl w1).drewN nq))
    have HK9 := Lib.hid (HK0.out.drewN nq)
    generalize w1.drewN nq = w9 at *
    go_wp2_with (refine wpList_store_block rfl 28 (.tmp 2) (.tmp 29) rfl _ #[.int .i64 0, .slice none 0 0, .slice none 0 0] #[.int .i64 0, .slice none 0 0, .slice none 0 0] 28 rfl rfl HR9.out Try.infoMf rfl (one3m _ _ _ _ _ _ _) ?_)
    refine bodyPost_ret (v := .tuple #[.agg #[.int .i64 0, .slice none 0 0, .slice none 0 0], .bool false]) ?_ rfl ⟨fun _ => rfl, (fun m e => by cases e), HK9.out.setRow (by omega) _⟩
    exact results_row_tmp rfl _ _ w.heap.size 28 #[.int .i64 0, .slice none 0 0, .slice none 0 0] _ rfl (HR9.out.setRow _) Try.underlying28 rfl Try.infoMf _ rfl
end Go.Proofs.Ytdllenoclnmmdaa

namespace Go.Proofs.Ytdllenoclnmmdaa
open Go.RowKit Go.Shelf
attribute [local go_sem] Oper.semAt_some

theorem dg_ext (s : ByteArray) (k : Nat) : s.extract (7 + 32 * k) (39 + 32 * k) = dgAt (tlM s) k := by
  apply bytes_ext
  rw [dgAt_list, tlM_list, ext_list, List.drop_drop, List.drop_take]
  congr 1
  · omega
  · congr 1
    omega
set_option maxRecDepth 100000 in
set_option maxHeartbeats 4000000 in
theorem rtake_head (s : ByteArray) (wo : World) (h7 : 7 ≤ s.size) (hx : s.extract 0 4 = manf) (hsz : s.size = 7 + 32 * ((byt s 5).toNat + (byt s 6).toNat)) :
    Calls Try.prog 48 #[.string s] wo (TakeRP wo (if mfB (rawM s) = true then some (rawM s) else none)) := by
  have HRW := Lib.hid (show rawM s = ⟨((byt s 4).toNat : Int), (dgL (tlM s)).take (byt s 5).toNat, (dgL (tlM s)).drop (byt s 5).toNat⟩ from rfl)
  have HDL := Lib.hid (show dgL (tlM s) = (List.range ((byt s 5).toNat + (byt s 6).toNat)).map (dgAt (tlM s)) by
    have e : nDg (tlM s) = (byt s 5).toNat + (byt s 6).toNat := by unfold nDg; rw [tlM_size]; omega
    unfold dgL
    rw [e])
  have HDZ := Lib.hid (show ∀ k, k < (byt s 5).toNat + (byt s 6).toNat → (dgAt (tlM s) k).size = 32 from fun k hk => dgAt_size (by
    have e : nDg (tlM s) = (byt s 5).toNat + (byt s 6).toNat := by unfold nDg; rw [tlM_size]; omega
    omega))
  have HDX := Lib.hid (dg_ext s)
  generalize rawM s = rm at HRW ⊢
  generalize tlM s = t at HRW HDL HDZ HDX
  obtain ⟨O, hO⟩ : ∃ O, O = (if mfB rm = true then some rm else none) := ⟨_, rfl⟩
  rw [← hO]
  have HO0 := Lib.hid hO
  clear hO
  have hi4 : 4 < s.size := by omega
  have e4 := byt_get s 4 hi4
  have h4i : ((s[4]).toNat : Int) = (((byt s 4).toNat : Nat) : Int) := by rw [e4]
  have hb4 : (byt s 4).toNat < 256 := UInt8.toNat_lt _
  clear e4
  generalize (byt s 4).toNat = b4 at *
  have hd1 : decide ((s.size : Int) < 7) = false := decide_eq_false (by omega)
  obtain ⟨g1, g2, g3⟩ := eq_list hx
  have hi5 : 5 < s.size := by omega
  have hi6 : 6 < s.size := by omega
  have e5 := byt_get s 5 hi5
  have e6 := byt_get s 6 hi6
  have hb5 : (byt s 5).toNat < 256 := UInt8.toNat_lt _
  have hb6 : (byt s 6).toNat < 256 := UInt8.toNat_lt _
  have h5i : ((s[5]).toNat : Int) = (((byt s 5).toNat : Nat) : Int) := by rw [e5]
  have h6i : ((s[6]).toNat : Int) = (((byt s 6).toNat : Nat) : Int) := by rw [e6]
  clear e5 e6 hx
  generalize (byt s 5).toNat = b5 at *
  generalize (byt s 6).toNat = b6 at *
  obtain ⟨n, hn1⟩ : ∃ n, n = b5 + b6 := ⟨_, rfl⟩
  rw [← hn1] at HDL HDZ hsz
  obtain ⟨m, hm1⟩ : ∃ m, m = 32 * n := ⟨_, rfl⟩
  have s1 : (b5 : Int) + (b6 : Int) = (n : Int) := by omega
  have s2 : 32 * (n : Int) = (m : Int) := by omega
  have s3 : 7 + (m : Int) = (s.size : Int) := by omega
  have s4 : ((s.size : Int) != (s.size : Int)) = false := by simp
  have w1' : IntKind.i64.wrap (n : Int) = (n : Int) := IntWalk.i64_in _ (by omega)
  have w2' : IntKind.i64.wrap (m : Int) = (m : Int) := IntWalk.i64_in _ (by omega)
  have w3' : IntKind.i64.wrap (s.size : Int) = (s.size : Int) := IntWalk.i64_in _ (by omega)
  have hsl : s.size ≤ 20000 := by omega
  have HSZ := Lib.hid hsz
  have HNB := Lib.hid hn1
  have hbn : b5 ≤ n := by omega
  have hnn : n ≤ 510 := by omega
  obtain ⟨i0, hi, hz0, hz1, hz2⟩ := info_parts Try.infoSt
  have HI := Lib.hid (And.intro hi (And.intro hz0 (And.intro hz1 hz2)))
  clear hi hz0 hz1 hz2 hn1 hm1 hsz
  obtain ⟨p, hp⟩ : ∃ p, p = wo.heap.size := ⟨_, rfl⟩
  have HK0 := Lib.hid ((Kept.refl wo).alloc (.cells #[.int .i64 0, .slice none 0 0, .slice none 0 0] 28))
  have HR := Lib.hid (BlockAt.new wo #[.int .i64 0, .slice none 0 0, .slice none 0 0] 28)
  have hz1 : (wo.alloc (.cells #[.int .i64 0, .slice none 0 0, .slice none 0 0] 28)).heap.size = wo.heap.size + 1 := by simp
  generalize hw1 : wo.alloc (.cells #[.int .i64 0, .slice none 0 0, .slice none 0 0] 28) = w1 at *
  have HW1 := Lib.hid hw1
  clear hw1
  go_enter Try.func48, Try.ntmps48
  go_upto_region 1 with (fail)
  rw [HW1.out]
  go_quiet (fail)
  have HR9 := Lib.hid (HR.out.kept ((Kept.refl w1).drewN nq))
  have HK9 := Lib.hid (HK0.out.drewN nq)
  have hz9 : (w1.drewN nq).heap.size = wo.heap.size + 1 := hz1
  generalize w1.drewN nq = w9 at *
  clear hz1 HR HK0 HW1
  go_upto_region 4 with (fail)
  have HM0 := Lib.hid (BlockAt.new w9 #[.int .i64 b4, .slice none 0 0, .slice none 0 0] 28)
  have HR0 := Lib.hid (HR9.out.kept ((Kept.refl w9).alloc (.cells #[.int .i64 b4, .slice none 0 0, .slice none 0 0] 28)))
  have HK0 := Lib.hid (HK9.out.alloc (.cells #[.int .i64 b4, .slice none 0 0, .slice none 0 0] 28))
  generalize w9.alloc (.cells #[.int .i64 b4, .slice none 0 0, .slice none 0 0] 28) = wa at *
  rw [hz9] at HM0
  rw [← hp] at HM0 HR0 ⊢
  have hpo1 : wo.heap.size ≤ p := Nat.le_of_eq hp.symm
  have hpo2 : p ≤ wo.heap.size := Nat.le_of_eq hp
  clear hz9 hp HR9 HK9
  go_wp2_with fail
  go_loopw [5] (fun i wr => ∃ k nb nu ab cb au cu, k ≤ n ∧ i = .int .i64 (k : Nat) ∧ Hid (nb = min k b5) ∧ Hid (nu = k - b5) ∧ BlockAt wr (p + 1) #[.int .i64 b4, .slice ab nb cb, .slice au nu cu] 28 ∧ BlockAt wr p #[.int .i64 0, .slice none 0 0, .slice none 0 0] 28 ∧
      wr.ownsRow wo.heap.size 9 1 (.slice ab nb cb) nb (((List.range k).map fun i => Value.string (dgAt t i)).take b5) ∧ wr.ownsRow wo.heap.size 9 1 (.slice au nu cu) nu (((List.range k).map fun i => Value.string (dgAt t i)).drop b5) ∧
      (∀ g, (Value.slice ab nb cb).ownBlock = some g → p + 2 ≤ g) ∧ (∀ g, (Value.slice au nu cu).ownBlock = some g → p + 2 ≤ g) ∧ (∀ g, (Value.slice ab nb cb).ownBlock = some g → (Value.slice au nu cu).ownBlock ≠ some g) ∧ Kept wo wr) (fun i _ => n - (intOf i).toNat)
  case atStart => exact ⟨0, 0, 0, none, 0, none, 0, by omega, rfl, Lib.hid (by omega), Lib.hid (by omega), HM0.out, HR0.out, by simpa using World.ownsRow_nil _ _ _ _, by simpa using World.ownsRow_nil _ _ _ _, (fun g e => by cases e), (fun g e => by cases e), (fun g e => by cases e), HK0.out⟩
  case round =>
    obtain ⟨k, nb, nu, ab, cb, au, cu, hk, rfl, HNB2, HNU2, hpm, hp0, hob, hou, hrb, hru, hap, hB⟩ := hrel
    have hl1 : nb ≤ 510 := by have := HNB2.out; omega
    have hl2 : nu ≤ 510 := by have := HNU2.out; omega
    by_cases hkn : k < n
    · have hd2 : decide (k < n) = true := decide_eq_true hkn
      have HPM0 := Lib.hid hpm
      have HP00 := Lib.hid hp0
      have HOB0 := Lib.hid hob
      have HOU0 := Lib.hid hou
      have HRB := Lib.hid hrb
      have HRU := Lib.hid hru
      have HAP := Lib.hid hap
      have HB0 := Lib.hid hB
      clear hpm hp0 hob hou hrb hru hap hB
      go_wp2_with fail
      go_quiet (fail)
      have kz := (Kept.refl wr).drewN nq
      have HPM := Lib.hid (HPM0.out.kept kz)
      have HP0 := Lib.hid (HP00.out.kept kz)
      have HOB := Lib.hid (own_kept HOB0.out kz)
      have HOU := Lib.hid (own_kept HOU0.out kz)
      have HB := Lib.hid (HB0.out.trans kz)
      generalize wr.drewN nq = wz at *
      clear kz HPM0 HP00 HOB0 HOU0 HB0
      obtain ⟨c, hc⟩ : ∃ c, c = 32 * k := ⟨_, rfl⟩
      obtain ⟨lo, hlo⟩ : ∃ lo, lo = 7 + c := ⟨_, rfl⟩
      obtain ⟨hi, hhi⟩ : ∃ hi, hi = 39 + c := ⟨_, rfl⟩
      have t1 : 32 * (k : Int) = (c : Int) := by omega
      have t2 : 7 + (c : Int) = (lo : Int) := by omega
      have t3 : 39 + (c : Int) = (hi : Int) := by omega
      have t4 : lo ≤ hi := by omega
      have t5 : hi ≤ s.size := by have := HSZ.out; omega
      have hxt := HDX.out k
      rw [show 7 + 32 * k = lo by omega, show 39 + 32 * k = hi by omega] at hxt
      have htz := HDZ.out k hkn
      have hwz := HB.out.size
      obtain ⟨ti, hti⟩ : ∃ ti, ti = dgAt t k := ⟨_, rfl⟩
      rw [← hti] at hxt htz
      have HTI := Lib.hid hti
      clear hc hlo hhi hti
      have hn1 := HNB2.out
      have hn2 := HNU2.out
      have HN1 := Lib.hid hn1
      have HN2 := Lib.hid hn2
      obtain ⟨c0, c1, c2⟩ := box3 HPM.out
      by_cases hkb : k < b5
      · have hdk : decide (k < b5) = true := decide_eq_true hkb
        have hdk2 : decide ((k : Int) < (b5 : Int)) = true := decide_eq_true (by omega)
        clear hn1 hn2
        go_wp2_with (at_builtin; refine wpList_append_own_at _ rfl _ _ 23 rfl wo.heap.size 9 i0 (.string ByteArray.empty) 1 16 Try.underlying23 HI.out.1 HI.out.2.1 HI.out.2.2.1 HI.out.2.2.2 rfl (by decide) _ _ _ rfl (HOB.out.alloc _) ⟨wz.heap.size, 0, none⟩ 1 1 [.string ti] rfl rfl ?c1 ?c2 ?c3 ?c4 ?c5 ?_)
        case c1 =>
          intro j' u hj'
          match j', hj' with
          | 0, hj' => simp at hj'; subst hj'; simp [Addr.add]
        case c2 => intro u hu; simp at hu; subst hu; rfl
        case c3 => unfold maxLen; omega
        case c4 => omega
        case c5 => simp; omega
        intro v' w9 hown9 hgrow _ hat
        obtain ⟨a9, c9, rfl⟩ := slice_of_own1 hown9
        have kx := (Kept.refl wz).alloc (.cells #[.string ti] 9)
        have hpl9 := block_grown (HPM.out.kept kx) hgrow (fun e => by have h1 := HRB.out _ e.symm; omega)
        have hp09 := block_grown (HP0.out.kept kx) hgrow (fun e => by have h1 := HRB.out _ e.symm; omega)
        have hot9 := own_apart (own_kept HOU.out kx) hgrow (fun g e h => HAP.out g h e)
        have hR9 : ∀ g, (Value.slice a9 (nb + 1) c9).ownBlock = some g → p + 2 ≤ g := fun g e => by
          rcases hat with h | h
          · exact HRB.out g (h ▸ e)
          · rw [h] at e
            cases e
            have h2 := hpl9.lt
            have h3 := HPM.out.lt
            have := kx.size
            simp at this ⊢
            omega
        have hpg : ∀ g, (Value.slice a9 (nb + 1) c9).ownBlock = some g → some (p + 1) ≠ some g := fun g e h => by cases h; have := hR9 _ e; omega
        have hset : w9.grownBy (w9.setCell ⟨p + 1, 1, none⟩ (.slice a9 (nb + 1) c9)) (some (p + 1)) := ⟨rfl, rfl, rfl, by simp, fun k _ hne => Below.heap_setCell w9 ⟨p + 1, 1, none⟩ (.slice a9 (nb + 1) c9) k (fun e => hne (by rw [e]))⟩
        have HE3 := Lib.hid (((kept_gr1 (HB.out.trans (Below.mono kx (by have := HB.out.size; omega))) hgrow (fun g e => by have := (HOB.out.lt g e).1; omega) (by have := HB.out.size; first | omega | (simp; done) | (simp; omega)))).setCell (p := ⟨p + 1, 1, none⟩) (by show wo.heap.size ≤ p + 1; omega) (.slice a9 (nb + 1) c9))
        have HE4 := Lib.hid (own_apart hown9 hset hpg)
        have HE9 := Lib.hid (own_apart hot9 hset (fun g e h => by cases h; have := HRU.out _ e; omega))
        have HE5 := Lib.hid (show BlockAt (w9.setCell ⟨p + 1, 1, none⟩ (.slice a9 (nb + 1) c9)) (p + 1) #[.int .i64 b4, .slice a9 (nb + 1) c9, .slice au nu cu] 28 by have := hpl9.set (i := 1) (.slice a9 (nb + 1) c9); simpa using this)
        have HE7 := Lib.hid (block_grown hp09 hset (by simp))
        have HE6 := Lib.hid hR9
        have HE10 := Lib.hid (show ∀ g, (Value.slice a9 (nb + 1) c9).ownBlock = some g → (Value.slice au nu cu).ownBlock ≠ some g from fun g e h => by
          rcases hat with q | q
          · exact HAP.out g (q ▸ e) h
          · rw [q] at e
            cases e
            have h1 := (HOU.out.lt _ h).2
            have := kx.size
            simp at this
            omega)
        have f0 := hpl9.free 1
        obtain ⟨d0, d1, d2⟩ := box3 hpl9
        clear hown9 hgrow hat kx hpl9 hp09 hot9 hR9 hpg hset
        go_wp2
        go_roundw
        case rel =>
          refine ⟨k + 1, nb + 1, nu, a9, c9, au, cu, by omega, by go_num, Lib.hid (by have := HN1.out; omega), Lib.hid (by have := HN2.out; omega), HE5.out, HE7.out, ?_, ?_, HE6.out, HRU.out, HE10.out, HE3.out⟩
          · rw [List.range_succ, List.map_append, show [k].map (fun i => Value.string (dgAt t i)) = [Value.string ti] by rw [HTI.out]; rfl, (take_snoc_lt _ _ b5 (by simp; omega)).1]
            exact HE4.out
          · rw [List.range_succ, List.map_append, show [k].map (fun i => Value.string (dgAt t i)) = [Value.string ti] by rw [HTI.out]; rfl, (take_snoc_lt _ _ b5 (by simp; omega)).2]
            exact HE9.out
        case measure => simp [intOf]; omega
      · have hdk : decide (k < b5) = false := decide_eq_false hkb
        have hdk2 : decide ((k : Int) < (b5 : Int)) = false := decide_eq_false (by omega)
        clear hn1 hn2
        go_wp2_with (at_builtin; refine wpList_append_own_at _ rfl _ _ 23 rfl wo.heap.size 9 i0 (.string ByteArray.empty) 1 16 Try.underlying23 HI.out.1 HI.out.2.1 HI.out.2.2.1 HI.out.2.2.2 rfl (by decide) _ _ _ rfl (HOU.out.alloc _) ⟨wz.heap.size, 0, none⟩ 1 1 [.string ti] rfl rfl ?c1 ?c2 ?c3 ?c4 ?c5 ?_)
        case c1 =>
          intro j' u hj'
          match j', hj' with
          | 0, hj' => simp at hj'; subst hj'; simp [Addr.add]
        case c2 => intro u hu; simp at hu; subst hu; rfl
        case c3 => unfold maxLen; omega
        case c4 => omega
        case c5 => simp; omega
        intro v' w9 hown9 hgrow _ hat
        obtain ⟨a9, c9, rfl⟩ := slice_of_own1 hown9
        have kx := (Kept.refl wz).alloc (.cells #[.string ti] 9)
        have hpl9 := block_grown (HPM.out.kept kx) hgrow (fun e => by have h1 := HRU.out _ e.symm; omega)
        have hp09 := block_grown (HP0.out.kept kx) hgrow (fun e => by have h1 := HRU.out _ e.symm; omega)
        have hot9 := own_apart (own_kept HOB.out kx) hgrow (fun g e h => HAP.out g e h)
        have hR9 : ∀ g, (Value.slice a9 (nu + 1) c9).ownBlock = some g → p + 2 ≤ g := fun g e => by
          rcases hat with h | h
          · exact HRU.out g (h ▸ e)
          · rw [h] at e
            cases e
            have h2 := hpl9.lt
            have h3 := HPM.out.lt
            have := kx.size
            simp at this ⊢
            omega
        have hpg : ∀ g, (Value.slice a9 (nu + 1) c9).ownBlock = some g → some (p + 1) ≠ some g := fun g e h => by cases h; have := hR9 _ e; omega
        have hset : w9.grownBy (w9.setCell ⟨p + 1, 2, none⟩ (.slice a9 (nu + 1) c9)) (some (p + 1)) := ⟨rfl, rfl, rfl, by simp, fun k _ hne => Below.heap_setCell w9 ⟨p + 1, 2, none⟩ (.slice a9 (nu + 1) c9) k (fun e => hne (by rw [e]))⟩
        have HE3 := Lib.hid (((kept_gr1 (HB.out.trans (Below.mono kx (by have := HB.out.size; omega))) hgrow (fun g e => by have := (HOU.out.lt g e).1; omega) (by have := HB.out.size; first | omega | (simp; done) | (simp; omega)))).setCell (p := ⟨p + 1, 2, none⟩) (by show wo.heap.size ≤ p + 1; omega) (.slice a9 (nu + 1) c9))
        have HE4 := Lib.hid (own_apart hown9 hset hpg)
        have HE9 := Lib.hid (own_apart hot9 hset (fun g e h => by cases h; have := HRB.out _ e; omega))
        have HE5 := Lib.hid (show BlockAt (w9.setCell ⟨p + 1, 2, none⟩ (.slice a9 (nu + 1) c9)) (p + 1) #[.int .i64 b4, .slice ab nb cb, .slice a9 (nu + 1) c9] 28 by have := hpl9.set (i := 2) (.slice a9 (nu + 1) c9); simpa using this)
        have HE7 := Lib.hid (block_grown hp09 hset (by simp))
        have HE6 := Lib.hid hR9
        have HE10 := Lib.hid (show ∀ g, (Value.slice ab nb cb).ownBlock = some g → (Value.slice a9 (nu + 1) c9).ownBlock ≠ some g from fun g h e => by
          rcases hat with q | q
          · exact HAP.out g h (q ▸ e)
          · rw [q] at e
            cases e
            have h1 := (HOB.out.lt _ h).2
            have := kx.size
            simp at this
            omega)
        have f0 := hpl9.free 2
        obtain ⟨d0, d1, d2⟩ := box3 hpl9
        clear hown9 hgrow hat kx hpl9 hp09 hot9 hR9 hpg hset
        go_wp2
        go_roundw
        case rel =>
          refine ⟨k + 1, nb, nu + 1, ab, cb, a9, c9, by omega, by go_num, Lib.hid (by have := HN1.out; omega), Lib.hid (by have := HN2.out; omega), HE5.out, HE7.out, ?_, ?_, HRB.out, HE6.out, HE10.out, HE3.out⟩
          · rw [List.range_succ, List.map_append, show [k].map (fun i => Value.string (dgAt t i)) = [Value.string ti] by rw [HTI.out]; rfl, (take_snoc_ge _ _ b5 (by simp; omega)).1]
            exact HE9.out
          · rw [List.range_succ, List.map_append, show [k].map (fun i => Value.string (dgAt t i)) = [Value.string ti] by rw [HTI.out]; rfl, (take_snoc_ge _ _ b5 (by simp; omega)).2]
            exact HE4.out
        case measure => simp [intOf]; omega
    · obtain rfl : k = n := by omega
      have hd2 : decide (k < k) = false := decide_eq_false (by omega)
      have HPM0 := Lib.hid hpm
      have HP00 := Lib.hid hp0
      have HOB0 := Lib.hid hob
      have HOU0 := Lib.hid hou
      have HB0 := Lib.hid hB
      clear hpm hp0 hob hou hrb hru hap hB
      go_wp2_with fail
      go_quiet (fail)
      have kz := (Kept.refl wr).drewN nq
      have HPM := Lib.hid (HPM0.out.kept kz)
      have HP0 := Lib.hid (HP00.out.kept kz)
      have hob := own_kept HOB0.out kz
      have hou := own_kept HOU0.out kz
      have HB := Lib.hid (HB0.out.trans kz)
      generalize wr.drewN nq = wz at *
      clear kz HPM0 HP00 HOB0 HOU0 HB0
      have hmap : (List.range k).map (fun i => Value.string (dgAt t i)) = (dgL t).map Value.string := by
        rw [HDL.out, List.map_map]
        rfl
      rw [hmap, ← List.map_take] at hob
      rw [hmap, ← List.map_drop] at hou
      have hsz : ∀ z ∈ dgL t, z.size ≤ 9223372036854775807 := fun z hz => by
        rw [HDL.out, List.mem_map] at hz
        obtain ⟨q, hq, rfl⟩ := hz
        rw [HDZ.out q (List.mem_range.1 hq)]
        decide
      have hll : (dgL t).length = k := by rw [HDL.out]; simp
      have hl1' : ((dgL t).take b5).length = nb := by rw [List.length_take, hll, HNB2.out]; omega
      have hl2' : ((dgL t).drop b5).length = nu := by rw [List.length_drop, hll, HNU2.out]
      obtain ⟨ab', cb', eb, hcb, hsb⟩ := strs_own hob hl1' (fun z hz => hsz z (List.mem_of_mem_take hz))
      cases eb
      obtain ⟨au', cu', eu, hcu, hsu⟩ := strs_own hou hl2' (fun z hz => hsz z (List.mem_of_mem_drop hz))
      cases eu
      have HRM := Lib.hid HRW.out
      have HLB := Lib.hid hl1'
      have HLU := Lib.hid hl2'
      have HSB := Lib.hid hsb
      have HSU := Lib.hid hsu
      have HCB := Lib.hid hcb
      obtain ⟨c0, c1, c2⟩ := box3 HPM.out
      have hmy := fun w h1 h2 => rmay_any b4 ab nb cb au nu cu ((dgL t).take b5) ((dgL t).drop b5) w h1 h2 ⟨by omega, by omega⟩
      rw [← HRW.out] at hmy
      have HMY := Lib.hid hmy
      clear hob hou hmap hsz hll hl1' hl2' hsb hsu hcb hcu hmy
      obtain ⟨B, hB9⟩ : ∃ B, B = mfB rm := ⟨_, rfl⟩
      rw [← hB9] at HMY HO0
      clear hB9
      go_wp2_with fail
      refine (HMY.out _ HSB.out HSU.out).mono ?_
      rintro e w6 ⟨rfl, hk6⟩
      have HB6 := Lib.hid (HB.out.trans hk6)
      have HP6 := Lib.hid (HP0.out.kept hk6)
      have HS6 := Lib.hid (HSB.out.kept hk6)
      have HU6 := Lib.hid (HSU.out.kept hk6)
      obtain ⟨d0, d1, d2⟩ := box3 (HPM.out.kept hk6)
      clear hk6 c0 c1 c2
      cases B with
      | false =>
        have HO := Lib.hid (show O = none by rw [HO0.out]; rfl)
        go_wp2_with (refine wpList_store_block rfl 28 (.tmp 2) (.tmp 73) rfl _ #[.int .i64 0, .slice none 0 0, .slice none 0 0] #[.int .i64 0, .slice none 0 0, .slice none 0 0] 28 rfl rfl HP6.out Try.infoMf rfl (one3m _ _ _ _ _ _ _) ?_)
        refine bodyPost_ret (v := .tuple #[.agg #[.int .i64 0, .slice none 0 0, .slice none 0 0], .bool false]) (results_row_tmp rfl _ _ p 28 #[.int .i64 0, .slice none 0 0, .slice none 0 0] _ rfl (HP6.out.setRow _) Try.underlying28 rfl Try.infoMf _ rfl) rfl ?_
        exact ⟨fun _ => rfl, (fun m e => by rw [HO.out] at e; cases e), HB6.out.setRow (by omega) _⟩
      | true =>
        have HO := Lib.hid (show O = some rm by rw [HO0.out]; rfl)
        go_wp2_with (refine wpList_store_block rfl 28 (.tmp 2) (.tmp 74) rfl _ #[.int .i64 b4, .slice ab nb cb, .slice au nu cu] #[.int .i64 0, .slice none 0 0, .slice none 0 0] 28 rfl rfl HP6.out Try.infoMf rfl (one3m _ _ _ _ _ _ _) ?_)
        refine bodyPost_ret (v := .tuple #[.agg #[.int .i64 b4, .slice ab nb cb, .slice au nu cu], .bool true]) (results_row_tmp rfl _ _ p 28 #[.int .i64 b4, .slice ab nb cb, .slice au nu cu] _ rfl (HP6.out.setRow _) Try.underlying28 rfl Try.infoMf _ rfl) rfl ?_
        have g8 := grown_row w6 p #[.int .i64 b4, .slice ab nb cb, .slice au nu cu]
        refine ⟨(fun e => by rw [HO.out] at e; cases e), fun m e => ?_, HB6.out.setRow (by omega) _⟩
        rw [HO.out] at e
        cases e
        rw [HRM.out]
        dsimp only
        rw [HLB.out, HLU.out]
        exact ⟨ab, cb, au, cu, rfl, HCB.out, strs_set HS6.out HP6.out (mf0_no _ _ _ _ _ _ _) g8, strs_set HU6.out HP6.out (mf0_no _ _ _ _ _ _ _) g8⟩
theorem rmtake_any (s : ByteArray) (w : World) : Calls Try.prog 48 #[.string s] w (TakeRP w (takeM s)) := by
  rw [← take_same]
  by_cases h : 7 ≤ s.size ∧ s.extract 0 4 = manf ∧ s.size = 7 + 32 * ((byt s 5).toNat + (byt s 6).toNat)
  · have e : takeR s = if mfB (rawM s) = true then some (rawM s) else none := by
      unfold takeR
      by_cases hm : mfB (rawM s) = true
      · rw [if_pos ⟨h.1, h.2.1, h.2.2, hm⟩, if_pos hm]
      · rw [if_neg (fun q => hm q.2.2.2), if_neg hm]
    rw [e]
    exact rtake_head s w h.1 h.2.1 h.2.2
  · have e : takeR s = none := by unfold takeR; rw [if_neg (fun q => h ⟨q.1, q.2.1, q.2.2.1⟩)]
    rw [e]
    exact rtake_none s w h
end Go.Proofs.Ytdllenoclnmmdaa

namespace Go.Proofs.Ytdllenoclnmmdaa
open Go.RowKit

theorem cats_drop : ∀ (l : List ByteArray) (k : Nat), szB l = true → (cats l).drop (k * 32) = cats (l.drop k)
  | l, 0, _ => by simp
  | [], k + 1, _ => by simp [cats]
  | s :: l, k + 1, h => by
    unfold szB at h
    rw [List.all_cons, Bool.and_eq_true] at h
    have h1 : s.data.toList.length = 32 := by have := of_decide_eq_true h.1; simpa using this
    have e : cats (s :: l) = s.data.toList ++ cats l := by unfold cats; rw [List.flatMap_cons]
    rw [e, show (k + 1) * 32 = 32 + k * 32 by omega, ← List.drop_drop, List.drop_left' h1, cats_drop l k h.2]
    rfl
theorem cats_at {l : List ByteArray} {k : Nat} (h : szB l = true) (hk : k < l.length) : ((cats l).drop (k * 32)).take 32 = (txt l k).data.toList := by
  rw [cats_drop l k h, List.drop_eq_getElem_cons hk]
  have h32 := szB_at h hk
  have e : txt l k = l[k] := by unfold txt; simp [List.getD, hk]
  rw [e] at h32 ⊢
  have h1 : l[k].data.toList.length = 32 := by simpa using h32
  unfold cats
  rw [List.flatMap_cons, List.take_left' h1]
theorem dgL_cats {l : List ByteArray} (h : szB l = true) (t : ByteArray) (ht : t.data.toList = cats l) : dgL t = l := by
  have hs : t.size = 32 * l.length := by
    have := cats_len l h
    rw [← ht] at this
    simpa using this
  have hn : nDg t = l.length := by unfold nDg; omega
  refine List.ext_getElem (by rw [dgL_length, hn]) (fun i h1 h2 => ?_)
  have e : (dgL t)[i] = dgAt t i := by simp [dgL]
  rw [e]
  apply bytes_ext
  rw [dgAt_list, ht, cats_at h h2]
  unfold txt
  simp [List.getD, h2]
theorem szB_append (a b : List ByteArray) : szB (a ++ b) = (szB a && szB b) := by unfold szB; rw [List.all_append]
theorem mfT_size {m : Mf} (h : mfB m = true) : (mfT m).size = 7 + 32 * (m.bs.length + m.us.length) := by
  obtain ⟨_, _, _, hb, hu, _, _⟩ := mfB_true h
  have : (mfT m).data.toList.length = 7 + 32 * (m.bs.length + m.us.length) := by
    show (mfBytes m).length = _
    unfold mfBytes
    rw [List.length_append, List.length_append, cats_len _ hb, cats_len _ hu]
    simp
    omega
  simpa using this
theorem rawM_back {m : Mf} (h : mfB m = true) : rawM (mfT m) = m := by
  obtain ⟨h20, hk0, hk1, hb, hu, _, _⟩ := mfB_true h
  have hL : (mfT m).data.toList = [77, 65, 78, 70, UInt8.ofNat m.k.toNat, UInt8.ofNat m.bs.length, UInt8.ofNat m.us.length] ++ cats m.bs ++ cats m.us := rfl
  have e4 : byt (mfT m) 4 = UInt8.ofNat m.k.toNat := by unfold byt; rw [hL]; rfl
  have e5 : byt (mfT m) 5 = UInt8.ofNat m.bs.length := by unfold byt; rw [hL]; rfl
  have n4 : ((byt (mfT m) 4).toNat : Int) = m.k := by
    rw [e4]
    have : (UInt8.ofNat m.k.toNat).toNat = m.k.toNat := by simp; omega
    rw [this]
    omega
  have n5 : (byt (mfT m) 5).toNat = m.bs.length := by rw [e5]; simp; omega
  have hd : dgL (tlM (mfT m)) = m.bs ++ m.us := dgL_cats (by rw [szB_append, hb, hu]; rfl) _ (by
    rw [tlM_list, hL, cats_append, List.append_assoc]
    rfl)
  unfold rawM
  rw [n4, n5, hd, List.take_left, List.drop_left]
theorem take_back {m : Mf} (h : mfB m = true) : takeM (mfT m) = some m := by
  have h20 := (mfB_true h).1
  unfold takeM
  rw [rawM_back h, mfT_size h, if_pos ⟨by omega, by omega, h, rfl⟩]
theorem mfMade_iff (k : Int) (bs us : List ByteArray) : mfMade ⟨k, bs, us⟩ = ((decide (0 ≤ k) && decide (k ≤ 255)) && szB (bs ++ us)) := by
  unfold mfMade
  dsimp only
  rw [szB_append]
  cases decide (0 ≤ k) <;> cases decide (k ≤ 255) <;> rfl
theorem sorted_may {k : Int} {bs us : List ByteArray} (h : mfMade ⟨k, bs, us⟩ = true) (hf : mfFew ⟨k, risen bs, risen us⟩ = true) : mfB ⟨k, risen bs, risen us⟩ = true ∧ mfMade ⟨k, risen bs, risen us⟩ = true := by
  unfold mfMade at h
  dsimp only at h
  simp only [Bool.and_eq_true] at h
  have hm : mfMade ⟨k, risen bs, risen us⟩ = true := by
    unfold mfMade
    dsimp only
    rw [h.1, h.2.1, risen_szB _ h.2.2.1, risen_szB _ h.2.2.2]
    rfl
  refine ⟨?_, hm⟩
  unfold mfB
  rw [hf, hm]
  dsimp only
  rw [risen_riB, risen_riB]
  rfl
end Go.Proofs.Ytdllenoclnmmdaa

