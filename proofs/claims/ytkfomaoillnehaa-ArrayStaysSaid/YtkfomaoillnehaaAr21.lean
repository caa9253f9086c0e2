
/- The reference of package array: Flip (conditions: the array lies as it should, the disk's sectors are of 64 bytes). -/
import Derived.Test.YtkfomaoillnehaaAr15
import Derived.Test.YtkfomaoillnehaaAr12
namespace Go.Proofs.Ytkfomaoillnehaa
open Go.RowKit
attribute [local go_sem] Oper.semAt_some

theorem RfP.setK {w : World} {p A D E : Nat} {K C : Nat → Nat} {S : Arr} {x : Dsk} {d : Nat} (h : RfP w p A D E K C S) (hd : d < S.m) (hx : S.ds d = some x) (s : Nat) (t : ByteArray) : RfP (w.setCell ⟨K d, s, none⟩ (.string t)) p A D E K C (putD S d ⟨upF x.k s t, x.c⟩) := by
  obtain ⟨a1, a2, a3, ht⟩ := h.top
  exact ⟨⟨a1, a2, a3, ht.setOther _ (h.apart.2.2.2 d hd).1⟩, h.r.setT hd hx s t true, h.m1, h.m2, h.n1, h.n2⟩
theorem bit_place2 (N n : Nat) (h : N < n * 512) : N / 512 < n ∧ N / 8 % 64 < 64 ∧ N % 512 / 8 = N / 8 % 64 ∧ N % 512 % 8 = N % 8 := by omega
set_option maxRecDepth 100000 in
set_option maxHeartbeats 4000000 in
theorem flip_ar {B : Nat} {w : World} {p A D E : Nat} {K C : Nat → Nat} {S : Arr} (h : RfP w p A D E K C S) (hB : ∀ d, d < S.m → B ≤ K d) (hBw : B ≤ w.heap.size) (d b : Int) (hb : b ≤ 9223372036854775807) (hz : ∀ x, S.ds d.toNat = some x → ∀ i, i < S.n → (x.k i).size = 64) :
    Calls Try.prog 39 #[.pointer (some ⟨p, 0, none⟩), .int .i64 d, .int .i64 b] w fun e w' => e = .returned (.int .i64 (flipA S d b).2) ∧ RfP w' p A D E K C (flipA S d b).1 ∧ RfN B w p A D E K C S.m w' K C := by
  have HTH := Lib.hid (num_ar d ((S.m : Int) - 1) w)
  rw [there_num] at HTH
  have HP := Lib.hid h
  have HB := Lib.hid (And.intro hB hBw)
  have hm := h.m2
  have hm1 := h.m1
  have hn2 := h.n2
  have hn1 := h.n1
  obtain ⟨a1, a2, a3, ht⟩ := h.top
  obtain ⟨c0, c1, c2, c3, c4, c5, c6⟩ := box7r ht
  clear h hB hBw ht
  cases hT : isThere S d with
  | false =>
    rw [hT] at HTH
    have hR : flipA S d b = (S, 3) := if_pos hT
    rw [hR]
    clear hT hR
    go_enter Try.func39, Try.ntmps39
    go_wp2_with fail
    refine HTH.out.mono ?_
    rintro e w2 ⟨rfl, hk⟩
    have HK := Lib.hid hk
    clear hk HTH c0 c1 c2 c3 c4 c5 c6
    go_wp2
    go_ret
    exact ⟨rfl, HP.out.kept HK.out, RfN.of_kept HK.out HB.out.2⟩
  | true =>
    rw [hT] at HTH
    by_cases hneg : b < 0
    · have hR : flipA S d b = (S, 1) := by unfold flipA; rw [if_neg (by rw [hT]; simp), if_pos hneg]
      rw [hR]
      have hd1 : decide (b < 0) = true := decide_eq_true hneg
      clear hT hR
      go_enter Try.func39, Try.ntmps39
      go_wp2_with fail
      refine HTH.out.mono ?_
      rintro e w2 ⟨rfl, hk⟩
      have HK := Lib.hid hk
      clear hk HTH c0 c1 c2 c3 c4 c5 c6
      go_wp2
      go_ret
      exact ⟨rfl, HP.out.kept HK.out, RfN.of_kept HK.out HB.out.2⟩
    · obtain ⟨m, rfl⟩ : ∃ m : Nat, b = (m : Int) := ⟨b.toNat, by omega⟩
      obtain ⟨n, rfl, hn⟩ := there_nat hT
      rw [Int.toNat_natCast] at hz
      have hd1 : decide ((m : Int) < 0) = false := decide_eq_false hneg
      cases hx : S.ds n with
      | none =>
        have hR : flipA S n m = (S, 8) := by unfold flipA; rw [if_neg (by rw [hT]; simp), if_neg hneg, Int.toNat_natCast, hx]
        rw [hR]
        have HX := Lib.hid hx
        clear hT hR hz hx
        go_enter Try.func39, Try.ntmps39
        go_wp2_with fail
        refine HTH.out.mono ?_
        rintro e w2 ⟨rfl, hk⟩
        have HK := Lib.hid hk
        have hp := HP.out.kept hk
        clear c0 c1 c2 c3 c4 c5 c6
        obtain ⟨a1, a2, a3, ht⟩ := hp.top
        obtain ⟨c0, c1, c2, c3, c4, c5, c6⟩ := box7r ht
        have l0 : w2.cell? ⟨A, n, none⟩ = some (.bool false) := by rw [hp.r.live n hn, HX.out]; rfl
        clear ht hk HTH hp
        go_wp2
        go_ret
        exact ⟨rfl, HP.out.kept HK.out, RfN.of_kept HK.out HB.out.2⟩
      | some x =>
        obtain ⟨N, hN⟩ : ∃ N, N = m % (S.n * 512) := ⟨_, rfl⟩
        have hR : flipA S n m = (putD S n ⟨upF x.k (N / 512) (turnT (x.k (N / 512)) (N % 512)), x.c⟩, 0) := by unfold flipA; rw [if_neg (by rw [hT]; simp), if_neg hneg, Int.toNat_natCast, Int.toNat_natCast, hx, ← hN]
        rw [hR]
        have hNl : N < S.n * 512 := by rw [hN]; exact Nat.mod_lt _ (by omega)
        obtain ⟨q1, q2, q4, q3⟩ := bit_place2 N S.n hNl
        have hsz := hz x hx (N / 512) q1
        have HX := Lib.hid hx
        have HREM := Lib.hid (show (m : Int).tmod (512 * (S.n : Int)) = (N : Int) by rw [hN, Nat.mul_comm]; simp [Int.tmod_eq_emod_of_nonneg])
        have hrem := HREM.out
        clear hT hR hz hx hN hneg
        go_enter Try.func39, Try.ntmps39
        go_wp2_with fail
        refine HTH.out.mono ?_
        rintro e w2 ⟨rfl, hk⟩
        have HK := Lib.hid hk
        have HP2 := Lib.hid (HP.out.kept hk)
        clear c0 c1 c2 c3 c4 c5 c6
        obtain ⟨a1, a2, a3, ht⟩ := HP2.out.top
        obtain ⟨c0, c1, c2, c3, c4, c5, c6⟩ := box7r ht
        have l0 : w2.cell? ⟨A, n, none⟩ = some (.bool true) := by rw [HP2.out.r.live n hn, HX.out]; rfl
        obtain ⟨dc, l1, hdc⟩ := HP2.out.r.disk n hn
        have t1 := (HP2.out.r.txk hn HX.out).cell (N / 512) q1
        clear hk HTH ht
        have hcv := bytes_of (P := Try.prog) 9 74 5 (x.k (N / 512)) Try.underlying9 Try.underlying74 Try.underlying5 w2
        have HBF := Lib.hid (bytesBehind_buf w2 5 (x.k (N / 512)))
        have HKB := Lib.hid (bytesBehind_kept w2 5 (x.k (N / 512)))
        have HP3 := Lib.hid (HP2.out.kept HKB.out)
        rw [hsz] at hcv
        generalize grownCap w2 64 0 5 = cp at hcv
        generalize bytesBehind w2 5 (x.k (N / 512)) = w3 at hcv HBF HKB HP3
        obtain ⟨g, hge⟩ : ∃ g, g = w2.heap.size := ⟨_, rfl⟩
        rw [← hge] at hcv HBF
        have HGE := Lib.hid hge
        clear hge
        go_wp2_with fail
        clear c0 c1 c2 c3 c4 c5 c6 l0 l1 t1 hcv
        have HPL := Lib.hid (show (x.k (N / 512)).data.toList.length = 64 by simpa using hsz)
        obtain ⟨L, hL⟩ : ∃ L, L = (x.k (N / 512)).data.toList := ⟨_, rfl⟩
        rw [← hL] at HBF HPL
        have HTT := Lib.hid (show turnT (x.k (N / 512)) (N % 512) = ⟨(L.set (N / 8 % 64) (L.getD (N / 8 % 64) 0 ^^^ (1 <<< UInt8.ofNat (N % 8)))).toArray⟩ by rw [hL, ← q3, ← q4]; rfl)
        clear hL hsz
        have e1 : (N : Int) / 8 % 64 = ((N / 8 % 64 : Nat) : Int) := by omega
        have e2 : (N : Int) % 8 = ((N % 8 : Nat) : Int) := by omega
        have hr8 : N % 8 < 8 := Nat.mod_lt _ (by decide)
        clear q3 q4 hNl hrem HREM
        generalize N / 8 % 64 = j at *
        generalize N % 8 = r at *
        have hjl : j < L.length := by rw [HPL.out]; exact q2
        have hbc := HBF.out.cell j hjl
        have hbf := HBF.out.free j hjl
        have hjg : L.getD j 0 = L[j] := by rw [List.getD_eq_getElem?_getD, List.getElem?_eq_getElem hjl]; rfl
        rw [hjg] at HTT
        clear hjg
        have hxy := turn_bit L[j] r hr8
        generalize L[j] = x0 at *
        generalize x0 ^^^ (1 <<< UInt8.ofNat r) = y at *
        refine (wpIn_wide (n := 0)).1 ?_
        refine wpIn_region_quiet_tail_lit 11 (by kernel_rfl) (by kernel_rfl) (by kernel_rfl) ?_
        simp only [List.take_succ_cons, List.take_zero, List.drop_succ_cons, List.drop_zero]
        repeat (gi_big_quiet_step (fail))
        refine wpQuietIn_nil ?_
        intro _ hw'
        obtain ⟨nq, hw''⟩ := hw'
        subst hw''
        gi_wp2
        have kq : Kept w3 (w3.drewN nq) := (Kept.refl w3).drewN nq
        have HK4 := Lib.hid ((HKB.out.trans kq).setCell (p := ⟨g, j, none⟩) (by rw [HGE.out]; exact Nat.le_refl _) (.int .u8 (y.toNat : Int)))
        have HBF4 := Lib.hid ((HBF.out.kept kq).set j hjl y)
        clear hbc hbf kq
        generalize (w3.drewN nq).setCell ⟨g, j, none⟩ (.int .u8 (y.toNat : Int)) = w4 at *
        have HP4 := Lib.hid (HP2.out.kept HK4.out)
        have hst := fun nq => (HBF4.out.kept ((Kept.refl w4).drewN nq)).string (P := Try.prog) 74 9 5 Try.underlying74 Try.underlying5 Try.underlying9 cp
        rw [List.length_set, HPL.out, ← HTT.out] at hst
        obtain ⟨U, hU⟩ : ∃ U, U = turnT (x.k (N / 512)) (N % 512) := ⟨_, rfl⟩
        rw [← hU] at hst
        have HU := Lib.hid hU
        clear hU
        obtain ⟨a1, a2, a3, ht⟩ := HP4.out.top
        obtain ⟨c0, c1, c2, c3, c4, c5, c6⟩ := box7r ht
        obtain ⟨dc2, l1, hdc2⟩ := HP4.out.r.disk n hn
        have t1 := (HP4.out.r.txk hn HX.out).cell (N / 512) q1
        have f1 := (HP4.out.r.txk hn HX.out).free (N / 512)
        have HQ := Lib.hid (fun nq => (HP4.out.kept ((Kept.refl w4).drewN nq)).setK hn HX.out (N / 512) U)
        have HN := Lib.hid (fun nq => (RfN.of_kept (p := p) (A := A) (D := D) (E := E) (K := K) (C := C) (m := S.m) (HK.out.trans (HK4.out.drewN nq)) HB.out.2).trans (RfN.of_one (Below.setCell (Below.refl _ _) (p := ⟨K n, N / 512, none⟩) (HB.out.1 n hn) (.string U)) (CellsBut.setCell (w4.drewN nq) (.string U) rfl) (.inr (.inr (.inr (.inr ⟨n, hn, .inl rfl⟩))))))
        clear ht
        go_wp2_with fail
        refine (wpIn_wide (n := 0)).1 ?_
        refine wpIn_region_quiet_tail_lit 11 (by kernel_rfl) (by kernel_rfl) (by kernel_rfl) ?_
        simp only [List.take_succ_cons, List.take_zero, List.drop_succ_cons, List.drop_zero]
        repeat (gi_big_quiet_step (fail))
        refine wpQuietIn_nil ?_
        intro _ hw'
        obtain ⟨nq, hw''⟩ := hw'
        subst hw''
        gi_wp2
        go_wp2
        go_ret
        rw [← HU.out]
        exact ⟨rfl, HQ.out _, HN.out _⟩
end Go.Proofs.Ytkfomaoillnehaa
