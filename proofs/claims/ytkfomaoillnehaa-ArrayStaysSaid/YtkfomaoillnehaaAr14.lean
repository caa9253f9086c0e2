
/- Package array: Replace (conditions: the array lies as it should). -/
import Derived.Test.YtkfomaoillnehaaAr13
import Derived.Test.YtkfomaoillnehaaPj
import Derived.Shelf.RegionOpen
namespace Go.Proofs.Ytkfomaoillnehaa
open Go.RowKit
attribute [local go_sem] Oper.semAt_some

theorem ArR.three {w : World} {D : Nat} {K C : Nat → Nat} {S : Arr} {d : Nat} (h : ArR w D K C S) (hd : d < S.m) : ∃ v0 v1 v2, w.cell? ⟨D, d * 3, none⟩ = some v0 ∧ w.cell? ⟨D, d * 3 + 1, none⟩ = some v1 ∧ w.cell? ⟨D, d * 3 + 2, none⟩ = some v2 ∧
    w.frozen? ⟨D, d * 3, none⟩ = false ∧ w.frozen? ⟨D, d * 3 + 1, none⟩ = false ∧ w.frozen? ⟨D, d * 3 + 2, none⟩ = false := by
  have h0 := h.there hd 0 (by omega)
  have h1 := h.there hd 1 (by omega)
  have h2 := h.there hd 2 (by omega)
  obtain ⟨v0, e0⟩ := Option.isSome_iff_exists.1 h0.1
  obtain ⟨v1, e1⟩ := Option.isSome_iff_exists.1 h1.1
  obtain ⟨v2, e2⟩ := Option.isSome_iff_exists.1 h2.1
  exact ⟨v0, v1, v2, e0, e1, e2, h0.2, h1.2, h2.2⟩
theorem ArP.renew {B : Nat} {w w3 : World} {p D : Nat} {K C : Nat → Nat} {S : Arr} {n kb cb : Nat} (h : ArP w p D K C S) (hk : Kept w w3) (hn : n < S.m) (hB : B ≤ D) (hBw : B ≤ w.heap.size) (h1 : w.heap.size ≤ kb) (h2 : w.heap.size ≤ cb) (hne : kb ≠ cb)
    (tk : Txs w3 kb S.n (fun _ => zeroT)) (tc : Txs w3 cb S.n (fun _ => ByteArray.empty)) :
    ArP (w3.setCells D (n * 3) (diskC (some freshD) kb cb S.n)) p D (upF K n kb) (upF C n cb) (putD S n freshD) ∧ ArN B w p D K C S.m (w3.setCells D (n * 3) (diskC (some freshD) kb cb S.n)) (upF K n kb) (upF C n cb) := by
  have hp := h.kept hk
  have hlt := h.r.lt
  obtain ⟨_, _, _, _, ht, _⟩ := h.top
  have hpl := ht.lt
  refine ⟨hp.put hn (some freshD) kb cb (fun y e => by cases e; exact ⟨tk, tc⟩) ⟨tk.lt, tc.lt⟩ hne (fun e he q => ?_) (by omega), Below.setCells D hB (diskC (some freshD) kb cb S.n) (n * 3) w3 (Below.mono hk hBw), (CellsBut.of_kept hk).trans' (CellsBut.of_grown (gr_setCells D (diskC (some freshD) kb cb S.n) (n * 3) w3) (.inr (.inl rfl))), fun e he => ?_, (kept_oth hk).trans (oth_setCells D _ _ _)⟩
  · have := hlt e he
    omega
  · by_cases q : e = n
    · subst q
      rw [upF_same, upF_same]
      exact ⟨.inr h1, .inr h2⟩
    · rw [upF_other _ _ q, upF_other _ _ q]
      exact ⟨.inl rfl, .inl rfl⟩
set_option maxRecDepth 100000 in
set_option maxHeartbeats 4000000 in
theorem repl_arr {B : Nat} {w : World} {p D : Nat} {K C : Nat → Nat} {S : Arr} (h : ArP w p D K C S) (hB : B ≤ D) (hBw : B ≤ w.heap.size) (d : Int) :
    Calls Try.prog 37 #[.pointer (some ⟨p, 0, none⟩), .int .i64 d] w fun e w' => e = .returned (.int .i64 (replA S d).2) ∧ ∃ K' C', ArP w' p D K' C' (replA S d).1 ∧ ArN B w p D K C S.m w' K' C' := by
  have HTH := Lib.hid (there_any h d)
  have HP := Lib.hid h
  have HB := Lib.hid (And.intro hB hBw)
  clear hB hBw
  cases hT : isThere S d with
  | false =>
    rw [hT] at HTH
    have hR : replA S d = (S, 3) := if_pos hT
    rw [hR]
    clear h hT hR
    go_enter Try.func37, Try.ntmps37
    go_wp2_with fail
    refine HTH.out.mono ?_
    rintro e w2 ⟨rfl, hk⟩
    have HK := Lib.hid hk
    clear hk HTH
    go_wp2
    go_ret
    exact ⟨rfl, K, C, HP.out.kept HK.out, ArN.of_kept HK.out HB.out.2⟩
  | true =>
    rw [hT] at HTH
    have hR : replA S d = (putD S d.toNat freshD, 0) := if_neg (by rw [hT]; simp)
    rw [hR]
    obtain ⟨n, rfl, hn⟩ := there_nat hT
    rw [Int.toNat_natCast]
    have hm := h.m2
    have HFR := Lib.hid (fun w => fresh_any S.n h.n2 w)
    clear h hT hR
    go_enter Try.func37, Try.ntmps37
    go_wp2_with fail
    refine HTH.out.mono ?_
    rintro e w2 ⟨rfl, hk⟩
    have HK := Lib.hid hk
    have HP2 := Lib.hid (HP.out.kept hk)
    obtain ⟨cap, off, bound, left, hb, _⟩ := HP2.out.top
    obtain ⟨c0, c1, c2, c3, c4, c5⟩ := box6m hb
    clear hb hk HTH
    have mixed : Try.prog.follows Departure.mixedOrders = true := by kernel_rfl
    go_upto_region 3 with (fail)
    rename_i hgo
    go_cut [] (fun wx => ∃ K' C', ArP wx p D K' C' (putD S n freshD) ∧ ArN B w p D K C S.m wx K' C')
    case first =>
      go_region_law_o (first | (rw [if_pos (Pj.wanted_free rfl _)]; go_simp; refine (HFR.out _).mono ?_; rintro e w3 ⟨kb, cb, rfl, hk3, hb1, hb2, hne, htk, htc⟩; have hk3' := ((Kept.refl w2).drew).trans hk3; have HP3 := Lib.hid (HP2.out.kept hk3'); obtain ⟨cap, off, bound, left, hb, _⟩ := HP3.out.top; obtain ⟨c0, c1, c2, c3, c4, c5⟩ := box6m hb; obtain ⟨v0, v1, v2, y0, y1, y2, z0, z1, z2⟩ := HP3.out.r.three hn))
      all_goals
        go_wp2_with fail
        go_meet
        obtain ⟨q1, q2⟩ := HP2.out.renew hk3' hn HB.out.1 (Nat.le_trans HB.out.2 (Kept.size HK.out)) hb1 hb2 hne htk htc
        exact ⟨_, _, q1, (ArN.of_kept HK.out HB.out.2).trans q2⟩
    case rest =>
      rename_i hcut
      refine hgo _ _ ?_
      clear hgo c0 c1 c2 c3 c4 c5
      obtain ⟨K', C', hp, hn⟩ := hcut
      have HA := Lib.hid hp
      have HN := Lib.hid hn
      clear hp hn
      go_wp2
      go_ret
      exact ⟨rfl, K', C', HA.out, HN.out⟩
end Go.Proofs.Ytkfomaoillnehaa
