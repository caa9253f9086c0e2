
/- Package array: Flip (conditions: the array lies as it should, the disk's sectors are of 64 bytes). -/
import Derived.Test.YtkfomaoillnehaaAr14
import Derived.Test.YtkfomaoillnehaaText
import Derived.Test.YtkfomaoillnehaaTail
import Derived.Test.YtkfomaoillnehaaRange
namespace Go.Proofs.Ytkfomaoillnehaa
open Go.RowKit
attribute [local go_sem] Oper.semAt_some

/-- one bit of a byte turned -/
theorem turn_bit (x : UInt8) (r : Nat) (hr : r < 8) : bits .xor .u8 (x.toNat : Int) ((2 : Int) ^ r % 256) = ((x ^^^ (1 <<< (UInt8.ofNat r))).toNat : Int) := by
  have hx := UInt8.toNat_lt x
  have hp : 2 ^ r < 256 := Nat.lt_of_lt_of_le (Nat.pow_lt_pow_right (by decide) hr) (by decide)
  have h := u8_xor_nat x.toNat (2 ^ r) hx hp
  have e : (1 <<< (UInt8.ofNat r) : UInt8).toNat = 2 ^ r := by
    match r, hr with
    | 0, _ => rfl
    | 1, _ => rfl
    | 2, _ => rfl
    | 3, _ => rfl
    | 4, _ => rfl
    | 5, _ => rfl
    | 6, _ => rfl
    | 7, _ => rfl
  rw [UInt8.toNat_xor, e, ← h]
  congr 1
  have : ((2 ^ r % 256 : Nat) : Int) = (2 : Int) ^ r % 256 := by simp
  rw [← this, Nat.mod_eq_of_lt hp]
theorem ArP.setK {w : World} {p D : Nat} {K C : Nat → Nat} {S : Arr} {x : Dsk} {d : Nat} (h : ArP w p D K C S) (hd : d < S.m) (hx : S.ds d = some x) (s : Nat) (t : ByteArray) : ArP (w.setCell ⟨K d, s, none⟩ (.string t)) p D K C (putD S d ⟨upF x.k s t, x.c⟩) := by
  obtain ⟨cap, off, bound, left, ht, hp⟩ := h.top
  exact ⟨⟨cap, off, bound, left, ht.but (CellsBut.setCell (R := fun b => b = K d) w (.string t) (i := s) rfl) (h.ap d hd).1, hp⟩, h.r.setK hd hx s t, h.ap, h.m1, h.m2, h.n1, h.n2⟩
theorem ArN.of_setK {B : Nat} {w : World} {p D : Nat} {K C : Nat → Nat} {m d : Nat} (hd : d < m) (hB : B ≤ K d) (s : Nat) (v : Value) : ArN B w p D K C m (w.setCell ⟨K d, s, none⟩ v) K C :=
  ⟨Below.setCell (Below.refl _ _) hB v, CellsBut.setCell w v (.inr (.inr ⟨d, hd, .inl rfl⟩)), fun _ _ => ⟨.inl rfl, .inl rfl⟩, KeepsOthers.setCell _ _ _⟩
theorem turnT_list (t : ByteArray) (b : Nat) : (⟨(t.data.toList.set (b / 8) ((t.data.toList.getD (b / 8) 0) ^^^ (1 <<< (UInt8.ofNat (b % 8))))).toArray⟩ : ByteArray) = turnT t b := rfl
/-- where a bit lies -/
theorem bit_place (N n : Nat) (h : N < n * 512) : N / 512 < n ∧ N % 512 / 8 < 64 ∧ N % 512 % 8 = N % 8 := by omega
set_option maxRecDepth 100000 in
set_option maxHeartbeats 4000000 in
theorem flip_arr {B : Nat} {w : World} {p D : Nat} {K C : Nat → Nat} {S : Arr} (h : ArP w p D K C S) (hB : ∀ d, d < S.m → B ≤ K d) (hBw : B ≤ w.heap.size) (d b : Int) (hb : b ≤ 9223372036854775807) (hz : ∀ x, S.ds d.toNat = some x → ∀ i, i < S.n → (x.k i).size = 64) :
    Calls Try.prog 25 #[.pointer (some ⟨p, 0, none⟩), .int .i64 d, .int .i64 b] w fun e w' => e = .returned (.int .i64 (flipA S d b).2) ∧ ArP w' p D K C (flipA S d b).1 ∧ ArN B w p D K C S.m w' K C := by
  have HTH := Lib.hid (there_any h d)
  have HP := Lib.hid h
  have HB := Lib.hid (And.intro hB hBw)
  clear hB hBw
  cases hT : isThere S d with
  | false =>
    rw [hT] at HTH
    have hR : flipA S d b = (S, 3) := if_pos hT
    rw [hR]
    clear h hT hR
    go_enter Try.func25, Try.ntmps25
    go_wp2_with fail
    refine HTH.out.mono ?_
    rintro e w2 ⟨rfl, hk⟩
    have HK := Lib.hid hk
    clear hk HTH
    go_wp2
    go_ret
    exact ⟨rfl, HP.out.kept HK.out, ArN.of_kept HK.out HB.out.2⟩
  | true =>
    rw [hT] at HTH
    by_cases hneg : b < 0
    · have hR : flipA S d b = (S, 1) := by unfold flipA; rw [if_neg (by rw [hT]; simp), if_pos hneg]
      rw [hR]
      have hd1 : decide (b < 0) = true := decide_eq_true hneg
      clear h hT hR
      go_enter Try.func25, Try.ntmps25
      go_wp2_with fail
      refine HTH.out.mono ?_
      rintro e w2 ⟨rfl, hk⟩
      have HK := Lib.hid hk
      clear hk HTH
      go_wp2
      go_ret
      exact ⟨rfl, HP.out.kept HK.out, ArN.of_kept HK.out HB.out.2⟩
    · obtain ⟨m, rfl⟩ : ∃ m : Nat, b = (m : Int) := ⟨b.toNat, by omega⟩
      obtain ⟨n, rfl, hn⟩ := there_nat hT
      rw [Int.toNat_natCast] at hz
      have hd1 : decide ((m : Int) < 0) = false := decide_eq_false hneg
      have hm := h.m2
      have hn2 := h.n2
      have hn1 := h.n1
      cases hx : S.ds n with
      | none =>
        have hR : flipA S n m = (S, 8) := by unfold flipA; rw [if_neg (by rw [hT]; simp), if_neg hneg, Int.toNat_natCast, hx]
        rw [hR]
        have HX := Lib.hid hx
        clear h hT hR hz hx
        go_enter Try.func25, Try.ntmps25
        go_wp2_with fail
        refine HTH.out.mono ?_
        rintro e w2 ⟨rfl, hk⟩
        have HK := Lib.hid hk
        have hp := HP.out.kept hk
        obtain ⟨cap, off, bound, left, hb, _⟩ := hp.top
        obtain ⟨c0, c1, c2, c3, c4, c5⟩ := box6m hb
        have l0 : w2.cell? ⟨D, n * 3, none⟩ = some (.bool false) := hp.r.cell n hn 0 (.bool false) (by rw [HX.out]; rfl)
        clear hb hk HTH hp
        go_wp2
        go_ret
        exact ⟨rfl, HP.out.kept HK.out, ArN.of_kept HK.out HB.out.2⟩
      | some x =>
        obtain ⟨N, hN⟩ : ∃ N, N = m % (S.n * 512) := ⟨_, rfl⟩
        have hR : flipA S n m = (putD S n ⟨upF x.k (N / 512) (turnT (x.k (N / 512)) (N % 512)), x.c⟩, 0) := by unfold flipA; rw [if_neg (by rw [hT]; simp), if_neg hneg, Int.toNat_natCast, Int.toNat_natCast, hx, ← hN]
        rw [hR]
        have hNl : N < S.n * 512 := by rw [hN]; exact Nat.mod_lt _ (by omega)
        obtain ⟨q1, q2, q3⟩ := bit_place N S.n hNl
        have hsz := hz x hx (N / 512) q1
        have HX := Lib.hid hx
        have HREM := Lib.hid (show (m : Int).tmod ((S.n : Int) * 512) = (N : Int) by rw [hN]; simp [Int.tmod_eq_emod_of_nonneg])
        have hrem := HREM.out
        clear h hT hR hz hx hN hneg
        go_enter Try.func25, Try.ntmps25
        go_wp2_with fail
        refine HTH.out.mono ?_
        rintro e w2 ⟨rfl, hk⟩
        have HK := Lib.hid hk
        have HP2 := Lib.hid (HP.out.kept hk)
        obtain ⟨cap, off, bound, left, hb, _⟩ := HP2.out.top
        obtain ⟨c0, c1, c2, c3, c4, c5⟩ := box6m hb
        have l0 : w2.cell? ⟨D, n * 3, none⟩ = some (.bool true) := HP2.out.r.cell n hn 0 (.bool true) (by rw [HX.out]; rfl)
        have l1 := HP2.out.r.cell n hn 1 (.slice (some ⟨K n, 0, none⟩) S.n S.n) (by rw [HX.out]; rfl)
        have t1 := (HP2.out.r.ks n hn x HX.out).cell (N / 512) q1
        have hcv := bytes_of (P := Try.prog) 9 74 5 (x.k (N / 512)) Try.underlying9 Try.underlying74 Try.underlying5 w2
        have HBF := Lib.hid (bytesBehind_buf w2 5 (x.k (N / 512)))
        have HKB := Lib.hid (bytesBehind_kept w2 5 (x.k (N / 512)))
        have HP3 := Lib.hid (HP2.out.kept HKB.out)
        rw [hsz] at hcv
        generalize grownCap w2 64 0 5 = cp at hcv
        generalize bytesBehind w2 5 (x.k (N / 512)) = w3 at hcv HBF HKB HP3
        have hpl := hb.lt
        have hdl : D < w2.heap.size := by
          obtain ⟨cs, hrw⟩ := HP2.out.r.row
          exact hrw.lt
        have hkl := (HP2.out.r.lt n hn).1
        have HGE := Lib.hid (And.intro hpl (And.intro hdl hkl))
        have HBG := Lib.hid (show B ≤ w2.heap.size from Nat.le_trans HB.out.2 (Kept.size HK.out))
        clear hb hk HTH hpl hdl hkl
        generalize hge : w2.heap.size = g at hcv HBF HGE HBG
        go_wp2_with fail
        clear c0 c1 c2 c3 c4 c5 l0 l1 t1 hcv
        have HPL := Lib.hid (show (x.k (N / 512)).data.toList.length = 64 by simpa using hsz)
        obtain ⟨L, hL⟩ : ∃ L, L = (x.k (N / 512)).data.toList := ⟨_, rfl⟩
        rw [← hL] at HBF HPL
        have HTT := Lib.hid (show turnT (x.k (N / 512)) (N % 512) = ⟨(L.set (N % 512 / 8) (L.getD (N % 512 / 8) 0 ^^^ (1 <<< UInt8.ofNat (N % 8)))).toArray⟩ by rw [hL, ← q3]; rfl)
        clear hL hsz
        have e1 : (N : Int) % 512 / 8 = ((N % 512 / 8 : Nat) : Int) := by omega
        have e2 : (N : Int) % 8 = ((N % 8 : Nat) : Int) := by omega
        have hr8 : N % 8 < 8 := Nat.mod_lt _ (by decide)
        have e3 : (N : Int) / 512 = ((N / 512 : Nat) : Int) := by omega
        have HE3 := Lib.hid e3
        clear e3 q3 hNl hrem HREM
        generalize N % 512 / 8 = j at *
        generalize N % 8 = r at *
        have hjl : j < L.length := by rw [HPL.out]; exact q2
        have hbc := HBF.out.cell j hjl
        have hbf := HBF.out.free j hjl
        have hjg : L.getD j 0 = L[j] := by rw [List.getD_eq_getElem?_getD, List.getElem?_eq_getElem hjl]; rfl
        rw [hjg] at HTT
        clear hjg
        have hxy := turn_bit L[j] r hr8
        generalize L[j] = x0 at *
        generalize x0 ^^^ (1 <<< UInt8.ofNat r) = y at *
        refine (wpIn_wide (n := 0)).1 ?_
        refine wpIn_region_quiet_tail_lit 11 (by kernel_rfl) (by kernel_rfl) (by kernel_rfl) ?_
        simp only [List.take_succ_cons, List.take_zero, List.drop_succ_cons, List.drop_zero]
        repeat (gi_big_quiet_step (fail))
        refine wpQuietIn_nil ?_
        intro _ hw'
        obtain ⟨nq, hw''⟩ := hw'
        subst hw''
        gi_wp2
        have kq : Kept w3 (w3.drewN nq) := (Kept.refl w3).drewN nq
        have HK4 := Lib.hid ((HKB.out.trans kq).setCell (p := ⟨g, j, none⟩) (by rw [hge]; exact Nat.le_refl g) (.int .u8 (y.toNat : Int)))
        have HBF4 := Lib.hid ((HBF.out.kept kq).set j hjl y)
        clear hbc hbf kq
        generalize (w3.drewN nq).setCell ⟨g, j, none⟩ (.int .u8 (y.toNat : Int)) = w4 at *
        have HP4 := Lib.hid (HP2.out.kept HK4.out)
        have hst := fun nq => (HBF4.out.kept ((Kept.refl w4).drewN nq)).string (P := Try.prog) 74 9 5 Try.underlying74 Try.underlying5 Try.underlying9 cp
        rw [List.length_set, HPL.out, ← HTT.out] at hst
        obtain ⟨U, hU⟩ : ∃ U, U = turnT (x.k (N / 512)) (N % 512) := ⟨_, rfl⟩
        rw [← hU] at hst
        have HU := Lib.hid hU
        clear hU
        obtain ⟨cap, off, bound, left, hb, _⟩ := HP4.out.top
        obtain ⟨c0, c1, c2, c3, c4, c5⟩ := box6m hb
        have l1 := HP4.out.r.kcell hn HX.out
        have t1 := (HP4.out.r.ks n hn x HX.out).cell (N / 512) q1
        have f1 := (HP4.out.r.ks n hn x HX.out).free (N / 512)
        have HQ := Lib.hid (fun nq => (HP4.out.kept ((Kept.refl w4).drewN nq)).setK hn HX.out (N / 512) U)
        have HN := Lib.hid (fun nq => (ArN.of_kept (p := p) (D := D) (K := K) (C := C) (m := S.m) (HK.out.trans (HK4.out.drewN nq)) HB.out.2).trans (ArN.of_setK hn (HB.out.1 n hn) (N / 512) (.string U)))
        clear hb hge
        go_wp2_with fail
        refine (wpIn_wide (n := 0)).1 ?_
        refine wpIn_region_quiet_tail_lit 13 (by kernel_rfl) (by kernel_rfl) (by kernel_rfl) ?_
        simp only [List.take_succ_cons, List.take_zero, List.drop_succ_cons, List.drop_zero]
        repeat (gi_big_quiet_step (fail))
        refine wpQuietIn_nil ?_
        intro _ hw'
        obtain ⟨nq, hw''⟩ := hw'
        subst hw''
        gi_wp2
        go_wp2
        go_ret
        rw [← HU.out]
        exact ⟨rfl, HQ.out _, HN.out _⟩
end Go.Proofs.Ytkfomaoillnehaa
