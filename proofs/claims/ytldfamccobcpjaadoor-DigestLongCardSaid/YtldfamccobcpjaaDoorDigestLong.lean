/- The walk of the law DigestLong: it answers true and changes nothing that was there (no condition but that both tables lie as they are laid). -/
import Derived.Test.YtldfamccobcpjaaDoorBl13
import Derived.Test.YtldfamccobcpjaaDoorAsk6
namespace Go.Proofs.YtldfamccobcpjaaDoor
open Go.RowKit Go.Shelf
attribute [local go_sem] Oper.semAt_some
/-- a number brought below another one -/
def wthn (x : Int) (n : Nat) : Nat := (IntKind.u64.wrap x % (n : Int)).toNat
theorem wthn_lt (x : Int) {n : Nat} (h : 0 < n) : wthn x n < n := by
  have h1 := Int.emod_nonneg (IntKind.u64.wrap x) (show (n : Int) ≠ 0 by omega)
  have h2 := Int.emod_lt_of_pos (IntKind.u64.wrap x) (show (0 : Int) < (n : Int) by omega)
  unfold wthn
  omega
theorem within_ref (x : Int) (n : Nat) (hn : 1 ≤ n ∧ n ≤ 1099511627776) (w : World) : Calls Tryd.prog 24 #[.int .i64 x, .int .i64 n] w fun e w' => e = .returned (.int .i64 (wthn x n : Nat)) ∧ w = w' := by
  have hu : IntKind.u64.wrap (n : Int) = (n : Int) := by rw [IntKind.wrap_u64]; omega
  have hne : ((n : Int) == 0) = false := by rw [beq_eq_false_iff_ne]; omega
  have h0 : 0 ≤ IntKind.u64.wrap x := by rw [IntKind.wrap_u64]; omega
  go_enter Tryd.func24, Tryd.ntmps24
  go_wp2
  go_ret
  have h1 := Int.emod_nonneg (IntKind.u64.wrap x) (show (n : Int) ≠ 0 by omega)
  have h2 := Int.emod_lt_of_pos (IntKind.u64.wrap x) (show (0 : Int) < (n : Int) by omega)
  have h3 : wrap64 (IntKind.u64.wrap x % (n : Int)) = IntKind.u64.wrap x % (n : Int) := by
    unfold wrap64
    omega
  refine ⟨?_, rfl⟩
  unfold wthn
  rw [Int.toNat_of_nonneg h1]
  show Ending.returned (.int .i64 (wrap64 (IntKind.u64.wrap x % (n : Int)))) = _
  rw [h3]
theorem Buf.gr {W W' : World} {b c : Nat} {l : List UInt8} (h : Buf W b l) (g : W.grownBy W' (some c)) (hne : b ≠ c) : Buf W' b l := by
  have e := g.block b h.lt (fun q => hne (by cases q; rfl))
  refine ⟨Nat.lt_of_lt_of_le h.lt g.size, fun i hi => ?_, fun i hi => ?_⟩
  · have hc := h.cell i hi
    unfold World.cell? at hc ⊢
    rw [e]
    exact hc
  · have hc := h.free i hi
    unfold World.frozen? at hc ⊢
    rw [e]
    exact hc
set_option maxRecDepth 100000 in
set_option maxHeartbeats 2000000 in
theorem digestLong_walk {W : World} {v : Value} {a : Option Addr} {l cap : Nat} {ss : List ByteArray} (h : AskS W v a l cap ss) (hB : Begins W) (hO : Orders W) :
    Calls Tryd.prog 7 #[v] W fun e W' => e = .returned (.bool true) ∧ Below W.heap.size W W' := by
  obtain ⟨rfl, hT⟩ := h
  have k1 : Kept W (W.alloc (.cells #[.slice a l cap] 24)) := (Kept.refl W).alloc _
  have HB := Lib.hid (BlockAt.new W #[.slice a l cap] 24)
  have HT := Lib.hid (hT.kept k1)
  have HBG := Lib.hid (hB.kept k1)
  have HOR := Lib.hid (hO.kept k1)
  have HK1 := Lib.hid k1
  clear hT k1 hB hO
  go_enter Tryd.func7, Tryd.ntmps7
  go_wp2_with fail
  generalize W.alloc (.cells #[.slice a l cap] 24) = w0 at *
  have a0 := box1 HB.out
  go_wp2_with fail
  refine (heavy6_any _ _ _ ss _ HT.out).mono ?_
  rintro e w1 ⟨hbv, hk⟩
  have HB1 := Lib.hid (HB.out.kept hk)
  have HT1 := Lib.hid (HT.out.kept hk)
  have HBG1 := Lib.hid (HBG.out.kept hk)
  have HOR1 := Lib.hid (HOR.out.kept hk)
  have HK2 := Lib.hid (HK1.out.trans hk)
  clear hk HB HT HBG HOR HK1 a0
  rcases hbv with rfl | ⟨rfl, hl6, hs6⟩
  · go_wp2
    go_ret
    exact ⟨rfl, HK2.out⟩
  have HS6 := Lib.hid hs6
  clear hs6
  have a0 := box1 HB1.out
  go_wp2_with fail
  refine (texts_sum _ _ _ ss _ HT1.out).mono ?_
  rintro e wt ⟨⟨n0, rfl, _⟩, rfl⟩
  go_wp2_with fail
  refine (within_ref _ 900 (by omega) _).mono ?_
  rintro e wt ⟨rfl, rfl⟩
  have hwl : wthn (wrap64 (n0 * 41)) 900 < 900 := wthn_lt _ (by omega)
  generalize wthn (wrap64 (n0 * 41)) 900 = m0 at *
  obtain ⟨n, hn⟩ : ∃ n, n = 200 + m0 := ⟨_, rfl⟩
  have e1 : (200 : Int) + (m0 : Int) = (n : Int) := by omega
  have hn2 : n ≤ 1100 := by omega
  clear hn hwl
  have hmk : ∀ w : World, (Instr.makeSlice 29 (.int .i64 n) (.int .i64 n)).run Tryd.prog w = .ok (.slice (some ⟨w.heap.size, 0, none⟩) n n) (w.alloc (.cells (madeCells #[.int .u8 0] n) 5)) := makeB n (by omega)
  have HBF := Lib.hid (madeB w1 n)
  go_upto_region 5 with (fail)
  have HK6 := Lib.hid ((Kept.refl w1).alloc (.cells (madeCells #[.int .u8 0] n) 5))
  obtain ⟨pd, hpd⟩ : ∃ pd, pd = w1.heap.size := ⟨_, rfl⟩
  have HPD := Lib.hid hpd
  rw [← hpd] at HBF ⊢
  clear hmk hpd e1 a0
  generalize w1.alloc (.cells (madeCells #[.int .u8 0] n) 5) = w6 at *
  go_wp2_with fail
  refine (new_any _).mono ?_
  rintro e w2 ⟨rfl, hh2, hk2⟩
  have hpb : pd < w6.heap.size := HBF.out.lt
  obtain ⟨hb, hhb⟩ : ∃ hb, hb = w6.heap.size := ⟨_, rfl⟩
  have hwb : w1.heap.size ≤ hb := by rw [hhb]; exact HK6.out.size
  rw [← hhb] at hh2 hpb ⊢
  have hg1 : hb ≠ 0 := by have := HBG1.out.lt; omega
  have hg2 : hb ≠ 1 := by have := HOR1.out.lt; omega
  have HH2 := Lib.hid hh2
  have HK12 := Lib.hid (HK6.out.trans hk2)
  have HBF2 := Lib.hid (HBF.out.kept hk2)
  clear hh2 hk2 hhb HBF
  go_wp2_with fail
  go_loopw [6] (fun i wr => ∃ (k : Nat) (L : List UInt8), k ≤ n ∧ i = .int .i64 k ∧ Hid (L.length = n) ∧ Buf wr pd L ∧ HashAt wr hb (L.take k) ∧ Kept w1 wr) (fun i _ => n - (intOf i).toNat)
  case atStart => exact ⟨0, List.replicate n 0, by omega, rfl, Lib.hid (by simp), HBF2.out, HH2.out, HK12.out⟩
  case round =>
    obtain ⟨k, L, hk, rfl, hL, hbf, hH, hK⟩ := hrel
    have HL := Lib.hid hL.out
    have HBu := Lib.hid hbf
    have HH := Lib.hid hH
    have HK := Lib.hid hK
    clear hL hbf hH hK
    by_cases hkn : k < n
    · as_aux_lemma =>
        obtain ⟨q, hq⟩ : ∃ q : Nat, q = k * k := ⟨_, rfl⟩
        obtain ⟨p, hp⟩ : ∃ p : Nat, p = q + n := ⟨_, rfl⟩
        have e1 : (k : Int) * (k : Int) = (q : Int) := by rw [hq]; simp
        have e2 : (q : Int) + (n : Int) = (p : Int) := by omega
        have hqb : q ≤ 1210000 := by
          have : k * k ≤ 1100 * 1100 := Nat.mul_le_mul (by omega) (by omega)
          omega
        have hpb2 : p < 9223372036854775808 := by omega
        obtain ⟨y, hy⟩ : ∃ y : UInt8, y = UInt8.ofNat (p % 256) := ⟨_, rfl⟩
        have e3 : (p : Int) % 256 = (y.toNat : Int) := by rw [hy, UInt8.toNat_ofNat']; omega
        obtain ⟨z0, c0⟩ : ∃ z0, wr.cell? ⟨pd, k, none⟩ = some z0 := ⟨_, HBu.out.cell k (by rw [HL.out]; exact hkn)⟩
        have f0 := HBu.out.free k (by rw [HL.out]; exact hkn)
        have HBS := Lib.hid (HBu.out.set k (by rw [HL.out]; exact hkn) y)
        have HGS := Lib.hid (gr_set wr pd k (.int .u8 (y.toNat : Int)))
        have HHS := Lib.hid (show HashAt (wr.setCell ⟨pd, k, none⟩ (.int .u8 (y.toNat : Int))) hb (L.take k) from other_row HH.out (gr_set wr pd k _) (by omega))
        have HKS := Lib.hid (show Kept w1 (wr.setCell ⟨pd, k, none⟩ (.int .u8 (y.toNat : Int))) from HK.out.setCell (by show w1.heap.size ≤ pd; rw [HPD.out]; exact Nat.le_refl _) _)
        have HL2 := Lib.hid (show (L.set k y).length = n by rw [List.length_set]; exact HL.out)
        have HTK := Lib.hid (show L.take k ++ [y] = (L.set k y).take (k + 1) by
          have hkl : k < (L.set k y).length := by rw [List.length_set, HL.out]; exact hkn
          rw [List.take_succ_eq_append_getElem hkl, List.take_set_of_le (Nat.le_refl _), List.getElem_set_self])
        have hsg : (L.set k y)[k]? = some y := List.getElem?_set_self (by rw [HL.out]; exact hkn)
        have HSG := Lib.hid hsg
        clear hq hp hy hsg
        go_upto_region 12 with (fail)
        generalize wr.setCell _ _ = w9 at HBS HGS HHS HKS ⊢
        clear c0 f0 e1 e2 e3 hpb2 hqb
        generalize L.set k y = L3 at *
        obtain ⟨u, hu⟩ : ∃ u, u = k + 1 := ⟨_, rfl⟩
        have hi8 : (k : Int) + 1 = (u : Int) := by omega
        have hku : k ≤ u := by omega
        have hun : u ≤ n := by omega
        have HU := Lib.hid hu
        have hcv : (convert 29 9 (.slice (some ⟨pd, k, none⟩) (u - k) (n - k))).run Tryd.prog w9 = .ok (.string ⟨#[y]⟩) w9 := by
          have hkl : k < L3.length := by rw [HL2.out]; exact hkn
          have q := run_convert_bytes_back (P := Tryd.prog) w9 29 9 5 ⟨pd, k, none⟩ (n - k) [y] Tryd.underlying29 Tryd.underlying5 Tryd.underlying9 (fun j hj => by
            obtain rfl : j = 0 := by simpa using hj
            have r := HBS.out.cell k hkl
            have r2 := HSG.out
            rw [List.getElem?_eq_getElem hkl] at r2
            rw [Option.some.inj r2] at r
            rw [add_none]
            exact r)
          rw [show u - k = [y].length by simp; omega]
          exact q
        have hbu : pd ≠ hb := by omega
        obtain ⟨s1, hs1⟩ : ∃ s1 : ByteArray, s1 = ⟨#[y]⟩ := ⟨_, rfl⟩
        have HW := Lib.hid (write_any (L.take k) s1 hb w9 HHS.out (by rw [hs1]; show (L.take k).length + 1 ≤ _; rw [List.length_take]; omega) (HBG1.out.kept HKS.out) (HOR1.out.kept HKS.out) hg1 hg2)
        have HS1 := Lib.hid (show s1.data.toList = [y] by rw [hs1])
        rw [← hs1] at hcv
        clear hu hs1
        go_wp2_with fail
        refine HW.out.mono ?_
        rintro e w10 ⟨rfl, hh10, hgr10⟩
        rw [HS1.out, HTK.out, ← HU.out] at hh10
        have HH10 := Lib.hid hh10
        have HB10 := Lib.hid (HBS.out.gr hgr10 hbu)
        have HK10 := Lib.hid (HKS.out.gr hgr10 (fun k e => by cases e; exact hwb))
        clear hh10 hgr10 hcv
        go_wp2
        go_roundw
        case rel => exact ⟨u, L3, hun, rfl, HL2, HB10.out, HH10.out, HK10.out⟩
        case measure => have := HU.out; simp [intOf]; omega
    · as_aux_lemma =>
        obtain rfl : k = n := by omega
        have hh := HH.out
        rw [List.take_of_length_le (by rw [HL.out]; exact Nat.le_refl _)] at hh
        obtain ⟨z, hz⟩ : ∃ z : ByteArray, z = ⟨L.toArray⟩ := ⟨_, rfl⟩
        have hzl : z.data.toList = L := by rw [hz]
        have hzs : z.size = k := by
          rw [hz]
          show L.toArray.size = _
          rw [List.size_toArray, HL.out]
        rw [← hzl] at hh
        have hcu : ∀ u : Later wr, (convert 29 9 (.slice (some ⟨pd, 0, none⟩) k k)).run Tryd.prog u.1 = .ok (.string z) u.1 := fun u => by
          have q := (HBu.out.kept u.2).string (P := Tryd.prog) 29 9 5 Tryd.underlying29 Tryd.underlying5 Tryd.underlying9 k
          rw [HL.out, ← hz] at q
          exact q
        obtain ⟨D, hD⟩ : ∃ D, D = dg z.data.toList := ⟨_, rfl⟩
        have hof : ∀ u : Later wr, Calls Tryd.prog 9 #[.string z] u.1 fun e w' => e = .returned (.string D) ∧ Kept u.1 w' := fun u => by rw [hD]; exact of_any z (by omega) u.1 ((HBG1.out.kept HK.out).kept u.2) ((HOR1.out.kept HK.out).kept u.2)
        have hdg : ∀ u : Later wr, Calls Tryd.prog 10 #[.string z] u.1 fun e w' => e = .returned (.string D) ∧ Kept u.1 w' := fun u => by rw [hD]; exact rdigest_any z (by omega) u.1
        have hsm : ∀ u : Later wr, Calls Tryd.prog 17 #[.pointer (some ⟨hb, 0, none⟩)] u.1 fun e w' => e = .returned (.string D) ∧ Kept u.1 w' := fun u => by rw [hD]; exact sum_any z.data.toList hb u.1 (BlockAt.kept hh u.2) (by rw [Array.length_toList]; show z.size ≤ _; omega) ((HBG1.out.kept HK.out).kept u.2) ((HOR1.out.kept HK.out).kept u.2)
        have hln : ∀ u : Later wr, Calls Tryd.prog 16 #[.pointer (some ⟨hb, 0, none⟩)] u.1 fun e w' => e = .returned (.int .i64 k) ∧ u.1 = w' := fun u => by
          have r := len_any z.data.toList hb u.1 (BlockAt.kept hh u.2)
          rw [Array.length_toList, show z.data.size = k from hzs] at r
          exact r.mono fun _ _ ⟨p, q⟩ => ⟨p, q.symm⟩
        have hwk : ∀ u : Later wr, Calls Tryd.prog 13 #[] u.1 fun e w' => e = .returned (.bool true) ∧ Kept u.1 w' := fun u => wakes6_any u.1 ((HBG1.out.kept HK.out).kept u.2) ((HOR1.out.kept HK.out).kept u.2)
        have HOF := Lib.hid hof
        have HDG := Lib.hid hdg
        have HSM := Lib.hid hsm
        have HLN := Lib.hid hln
        have HWK := Lib.hid hwk
        clear hof hdg hsm hln hwk hD hz hzl hzs hh HBu HH
        go_wp2_with fail
        refine region_later (by kernel_rfl) (by kernel_rfl) ?_
        repeat (go_big_quiet_step (first | (go_at_call 9; exact later_call (HOF.out _)) | (go_at_call 10; exact later_call (HDG.out _)) | (go_at_call 17; exact later_call (HSM.out _)) | (go_at_call 16; exact later_same (HLN.out _)) | (go_at_call 13; exact later_call (HWK.out _))))
        refine wpQuiet_nil ?_
        intro _ hw'
        obtain ⟨nq, hw''⟩ := hw'
        subst hw''
        have HKn := Lib.hid ((HK2.out.trans HK.out).trans nq.2)
        obtain ⟨w9, hw9⟩ : ∃ w9, w9 = nq.1 := ⟨_, rfl⟩
        rw [← hw9] at HKn ⊢
        clear hw9 hcu
        go_wp2
        go_ret
        exact ⟨rfl, HKn.out⟩
end Go.Proofs.YtldfamccobcpjaaDoor
