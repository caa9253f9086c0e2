/- The walk of the law CutLanes: it answers true and changes nothing that was there (no conditions). -/
import Derived.Test.YtlncjheifkbomaaCutF
import Derived.Test.YtlncjheifkbomaaCutH
import Derived.Test.YtlncjheifkbomaaEqS
import Derived.Test.YtlncjheifkbomaaLater
namespace Go.Proofs.Ytlncjheifkbomaa
open Go.RowKit

theorem Try.infoLs : (Try.prog.info? 23).map (fun i => (i.zero, i.size, i.bytes)) = some (some (.slice none 0 0), 1, 24) := by kernel_rfl
theorem strs_gr {W W' : World} {a : Option Addr} {l : Nat} {ss : List ByteArray} {row : Option Nat} (h : StrsIn W a l ss) (g : W.grownBy W' row) (hne : ∀ b off, a = some ⟨b, off, none⟩ → 0 < l → some b ≠ row) : StrsIn W' a l ss := by
  obtain ⟨b, off, ha, hc⟩ := h.cells
  refine ⟨h.len_eq, h.le, h.sizes, b, off, ha, fun i hi => ⟨Nat.lt_of_lt_of_le (hc i hi).1 g.size, ?_⟩⟩
  have hb := g.block b (hc i hi).1 (hne b off (ha (by omega)) (by omega))
  have h1 := (hc i hi).2
  unfold World.cell? at h1 ⊢
  rw [hb]
  exact h1
theorem ne_slices {W : World} {G : Nat} {a1 a2 : Option Addr} {l1 c1 l2 c2 : Nat} {t : TypeId} {a : Option Addr} {l : Nat} {ss : List ByteArray} (hG : BlockAt W G #[.slice a1 l1 c1, .slice a2 l2 c2] t) (h : StrsIn W a l ss) (b off : Nat) (ha : a = some ⟨b, off, none⟩) (hl : 0 < l) : b ≠ G := by
  rintro rfl
  obtain ⟨b', off', ha', hc⟩ := h.cells
  have e := ha' hl
  rw [ha] at e
  cases e
  have h1 := (hc 0 hl).2
  have h2 := hG.cell (off + 0)
  rw [h1] at h2
  match off, h2 with
  | 0, h2 => simp at h2
  | 1, h2 => simp at h2
  | n + 2, h2 => simp at h2
/-- cut.Join, whatever it is asked, beside the reference's -/
theorem join_all (k m s x : Int) (a : Option Addr) (l c : Nat) (zs : List ByteArray) (hlc : l ≤ c) (hl : l ≤ 1000000) (hz : ∀ x ∈ zs, x.size ≤ 1000000) : ∃ (SJ : ByteArray) (EJ : Int),
    (∀ w, StrsIn w a l zs → Calls Try.prog 25 #[.agg #[.int .i64 k, .int .i64 m, .int .i64 s], .slice a l c, .int .i64 x] w fun e w' => e = .returned (.tuple #[.string SJ, .int .i64 EJ]) ∧ Kept w w') ∧
    ((¬ jokB k m s x zs ∧ SJ = ⟨#[]⟩ ∧ EJ = 1) ∨ (∃ xn : Nat, x = xn ∧ jokB k m s xn zs ∧ ∃ oky : Bool,
      (∀ w, StrsIn w a l zs → Calls Try.prog 27 #[.slice a l c, .int .i64 xn] w fun e w' => e = .returned (.tuple #[.string SJ, .bool oky]) ∧ w = w') ∧ EJ = (if oky then 0 else 7) ∧ (oky = false → SJ = ⟨#[]⟩))) := by
  by_cases hj : jokB k m s x zs
  · obtain ⟨xn, rfl⟩ : ∃ xn : Nat, x = xn := ⟨x.toNat, by have := hj.2.2.1.1; omega⟩
    obtain ⟨h1, h2, h3, h4⟩ := hj
    obtain ⟨sn, hsn⟩ : ∃ sn : Nat, s = sn := ⟨s.toNat, by have := (shpB_true h1).2.2.2.2.1; omega⟩
    have hcz : (cat zs).size = zs.length * sn := cat_size zs sn (fun x hx => by have := of_decide_eq_true (List.all_eq_true.1 h4 x hx); omega)
    have hxz : xn ≤ (cat zs).size := by
      have h5 : ((zs.length * sn : Nat) : Int) = k * s := by rw [← h2, hsn]; simp
      omega
    by_cases hzf : zeroFrom (cat zs) xn
    · refine ⟨(cat zs).extract 0 xn, 0, fun w h => (join_good k m s xn a l c zs w h hlc ⟨h1, h2, h3, h4⟩).mono ?_, .inr ⟨xn, rfl, ⟨h1, h2, h3, h4⟩, true, fun w h => (join_ref a l c zs xn w h hl hz hxz).mono ?_, rfl, fun e => by cases e⟩⟩
      · rintro e w' ⟨h | h, hk⟩
        · exact ⟨h.2, hk⟩
        · exact absurd hzf h.1
      · rintro e w' ⟨h | h, hk⟩
        · exact ⟨h.2, hk⟩
        · exact absurd hzf h.1
    · refine ⟨⟨#[]⟩, 7, fun w h => (join_good k m s xn a l c zs w h hlc ⟨h1, h2, h3, h4⟩).mono ?_, .inr ⟨xn, rfl, ⟨h1, h2, h3, h4⟩, false, fun w h => (join_ref a l c zs xn w h hl hz hxz).mono ?_, rfl, fun _ => rfl⟩⟩
      · rintro e w' ⟨h | h, hk⟩
        · exact absurd h.1 hzf
        · exact ⟨h.2, hk⟩
      · rintro e w' ⟨h | h, hk⟩
        · exact absurd h.1 hzf
        · exact ⟨h.2, hk⟩
  · exact ⟨⟨#[]⟩, 1, fun w h => join_bad k m s x a l c zs w h hl hj, .inl ⟨hj, rfl, rfl⟩⟩
theorem box4c {W : World} {b : Nat} {x y z u : Value} {t : TypeId} (h : BlockAt W b #[x, y, z, u] t) : W.cell? ⟨b, 0, none⟩ = some x ∧ W.cell? ⟨b, 1, none⟩ = some y ∧ W.cell? ⟨b, 2, none⟩ = some z ∧ W.cell? ⟨b, 3, none⟩ = some u :=
  ⟨by simpa using h.cell 0, by simpa using h.cell 1, by simpa using h.cell 2, by simpa using h.cell 3⟩
set_option maxRecDepth 100000 in
set_option maxHeartbeats 8000000 in
theorem cut_lanes (ax : Option Addr) (ls cs : Nat) (al : Option Addr) (ll cl : Nat) (ss : List ByteArray) (ab : Option Addr) (lb cb : Nat) (n : Int) (W : World) (h : AskC W ax ls cs al ll cl ss) (hn : -9223372036854775808 ≤ n ∧ n ≤ 9223372036854775807) :
    Calls Try.prog 4 #[.agg #[.slice ax ls cs, .slice al ll cl, .slice ab lb cb, .int .i64 n]] W fun e W' => e = .returned (.bool true) ∧ Below W.heap.size W W' := by
  have HA := Lib.hid h
  have HN := Lib.hid hn
  clear h hn
  have HK1 := Lib.hid ((Kept.refl W).alloc (.cells #[.slice ax ls cs, .slice al ll cl, .slice ab lb cb, .int .i64 n] 28))
  have hB1 := BlockAt.new W #[.slice ax ls cs, .slice al ll cl, .slice ab lb cb, .int .i64 n] 28
  go_enter Try.func4, Try.ntmps4
  go_upto_region 1 with (fail)
  generalize W.alloc (.cells #[.slice ax ls cs, .slice al ll cl, .slice ab lb cb, .int .i64 n] 28) = w1 at *
  have hread : ∀ w, Kept w1 w → w.cell? ⟨W.heap.size, 0, none⟩ = some (.slice ax ls cs) ∧ w.cell? ⟨W.heap.size, 1, none⟩ = some (.slice al ll cl) ∧ w.cell? ⟨W.heap.size, 2, none⟩ = some (.slice ab lb cb) ∧ w.cell? ⟨W.heap.size, 3, none⟩ = some (.int .i64 n) := fun w k => box4c (hB1.kept k)
  have HREAD := Lib.hid hread
  clear hread hB1
  obtain ⟨a0, a1, a2, a3⟩ := HREAD.out _ (Kept.refl _)
  go_wp2_with fail
  refine (heavy4_any ax ls cs al ll cl ss ab lb cb _ (HA.out.kept HK1.out)).mono ?_
  rintro e w2 ⟨he, hk2⟩
  have HK2 := Lib.hid hk2
  clear hk2 a0 a1 a2 a3
  rcases he with rfl | ⟨rfl, hll, hls, hsz⟩
  · go_wp2
    go_ret
    exact ⟨rfl, HK1.out.trans HK2.out⟩
  · have HSZ := Lib.hid hsz
    clear hsz
    go_wp2_with fail
    obtain ⟨wo, rfl⟩ : ∃ wo : World, wo = w2 := ⟨_, rfl⟩
    go_loopw [3] (fun i wr => ∃ j : Nat, j ≤ ls ∧ i = .int .i64 j ∧ Kept w1 wr) (fun i _ => ls - (intOf i).toNat)
    case atStart => exact ⟨0, by omega, rfl, HK2.out⟩
    case round =>
      obtain ⟨j, hj, rfl, hK⟩ := hrel
      have HK := Lib.hid hK
      clear hK
      obtain ⟨a0, a1, a2, a3⟩ := HREAD.out _ HK.out
      by_cases hjl : j < ls
      · by_cases hj4 : j < 4
        · obtain ⟨b, off, rfl, hc⟩ := HA.out.shapes.cell (by omega)
          obtain ⟨k, m, s, hkb, hcell⟩ := hc j hjl
          obtain ⟨c0, c1, c2⟩ := hcell _ (HK1.out.trans HK.out)
          clear hc hcell
          have hd1 : decide ((j : Int) < ls) = true := decide_eq_true (by omega)
          have hd2 : decide ((j : Int) < 4) = true := decide_eq_true (by omega)
          go_upto_region 7 with (fail)
          have hB4 := BlockAt.new wr #[.int .i64 k, .int .i64 m, .int .i64 s] 31
          have k4 : Kept wr (wr.alloc (.cells #[.int .i64 k, .int .i64 m, .int .i64 s] 31)) := (Kept.refl wr).alloc _
          generalize wr.alloc (.cells #[.int .i64 k, .int .i64 m, .int .i64 s] 31) = wa at *
          have HKa := Lib.hid (HK.out.trans k4)
          have hs4 : ∀ w, Kept wa w → w.cell? ⟨wr.heap.size, 0, none⟩ = some (.int .i64 k) ∧ w.cell? ⟨wr.heap.size, 1, none⟩ = some (.int .i64 m) ∧ w.cell? ⟨wr.heap.size, 2, none⟩ = some (.int .i64 s) := fun w kk => box3c (hB4.kept kk)
          have HS4 := Lib.hid hs4
          clear hs4 hB4 k4 a0 a1 a2 a3 c0 c1 c2
          generalize wr.heap.size = p4 at *
          obtain ⟨a0, a1, a2, a3⟩ := HREAD.out _ HKa.out
          obtain ⟨c0, c1, c2⟩ := HS4.out _ (Kept.refl _)
          go_wp2_with fail
          refine (shape_ref k m s _).mono ?_
          rintro e w5 ⟨rfl, hk5⟩
          have HK5 := Lib.hid hk5
          clear hk5 a0 a1 a2 a3 c0 c1 c2
          by_cases hs : shpB k m s = true
          · rw [hs]
            obtain ⟨q, hks⟩ : ∃ q : Nat, k * s = (q : Int) := ⟨(k * s).toNat, by have := ks_bounds hs; omega⟩
            have hq9 : q ≤ 960 := by have := ks_bounds hs; omega
            obtain ⟨kn, hkn⟩ : ∃ kn : Nat, k = kn := ⟨k.toNat, by have := (shpB_true hs).1; omega⟩
            obtain ⟨sn, hsn⟩ : ∃ sn : Nat, s = sn := ⟨s.toNat, by have := (shpB_true hs).2.2.2.2.1; omega⟩
            have hk8n : kn ≤ 8 := by have := (shpB_true hs).2.1; omega
            have hs120 : 1 ≤ sn ∧ sn ≤ 120 := by have := (shpB_true hs).2.2.2.2; omega
            have HFT := Lib.hid (fun w (h : StrsIn w al ll ss) => by
              have h1 := fitted_any al ll cl ss kn sn w h (by omega) (fun i hi => Nat.le_trans (HSZ.out i hi) (by omega)) hk8n hs120
              rw [← hkn, ← hsn] at h1
              exact h1)
            clear hkn hsn
            obtain ⟨j0, hj1, hj2, hj3, hj4⟩ := info_parts Try.infoLs
            have HJ0 := Lib.hid (And.intro hj1 (And.intro hj2 (And.intro hj3 hj4)))
            clear hj1 hj2 hj3 hj4
            go_wp2_with fail
            go_loopw [6] (fun i wr => ∃ y : Nat, y ≤ ll ∧ i = .int .i64 y ∧ Kept wa wr) (fun i _ => ll - (intOf i).toNat)
            case atStart => exact ⟨0, by omega, rfl, HK5.out⟩
            case round =>
              clear HK5
              obtain ⟨y, hy, rfl, hkx⟩ := hrel
              have HKx := Lib.hid hkx
              obtain ⟨wx, rfl⟩ : ∃ wx : World, wx = wr := ⟨_, rfl⟩
              obtain ⟨a0, a1, a2, a3⟩ := HREAD.out _ (HKa.out.trans hkx)
              clear hkx
              by_cases hyl : y < ll
              · have hdy : decide ((y : Int) < ll) = true := decide_eq_true (by omega)
                obtain ⟨bt, ot, rfl, htc⟩ : ∃ bt ot, al = some ⟨bt, ot, none⟩ ∧ ∀ i, i < ll → ∀ w, Kept w1 w → w.cell? ⟨bt, ot + i, none⟩ = some (.string (ss.getD i ByteArray.empty)) := by
                  obtain ⟨b, off, ha, hc⟩ := (HA.out.texts.kept HK1.out).strs.cells
                  exact ⟨b, off, ha (by omega), fun i hi w kk => kk.cell (hc i hi).1 (hc i hi).2⟩
                have htx := htc y hyl
                have hsz := HSZ.out y hyl
                generalize ss.getD y ByteArray.empty = t at *
                have ct := htx _ (HKa.out.trans HKx.out)
                obtain ⟨c0, c1, c2⟩ := HS4.out _ HKx.out
                clear htx htc
                as_aux_lemma =>
                  by_cases hlen : 1 ≤ t.size ∧ t.size ≤ q
                  · have HLG := Lib.hid (fun w => lanes_good k m s t hs ⟨hlen.1, by rw [hks]; omega⟩ w)
                    have HRF := Lib.hid (fun w => lanes_ref k m s t hs (by rw [hks]; omega) w)
                    have hb1 : (decide (1 ≤ (t.size : Int)) && decide ((t.size : Int) ≤ (q : Int))) = true := by rw [decide_eq_true (show 1 ≤ (t.size : Int) by omega), decide_eq_true (show (t.size : Int) ≤ (q : Int) by omega)]; rfl
                    obtain ⟨kk, hkk⟩ : ∃ kk, kk = k.toNat := ⟨_, rfl⟩
                    obtain ⟨XS, hXS⟩ : ∃ XS, XS = lns t k.toNat s.toNat := ⟨_, rfl⟩
                    have hk8 : kk ≤ 8 := by have := (shpB_true hs).2.1; omega
                    have HXZ := Lib.hid (show ∀ x ∈ XS, x.size ≤ 1000000 from fun x hx => by
                      have hb := shpB_true hs
                      obtain ⟨k1, hk1⟩ : ∃ k1 : Nat, k = k1 := ⟨k.toNat, by omega⟩
                      obtain ⟨s1, hs1⟩ : ∃ s1 : Nat, s = s1 := ⟨s.toNat, by omega⟩
                      rw [hXS] at hx
                      have h1 := lns_all t k.toNat s.toNat (by omega) (by
                        rw [show k.toNat = k1 by omega, show s.toNat = s1 by omega]
                        have h2 : ((k1 * s1 : Nat) : Int) = q := by rw [← hks, hk1, hs1]; simp
                        omega) x hx
                      omega)
                    rw [← hXS, ← hkk] at HLG HRF
                    clear hkk hXS
                    go_wp2_with fail
                    refine (HLG.out _).mono ?_
                    rintro e w6 ⟨A8, C8, rfl, hc8, hst, hk6⟩
                    have HPS6 := Lib.hid hst
                    have HK6 := Lib.hid (HKx.out.trans hk6)
                    clear hst hk6 c0 c1 c2 a0 a1 a2 a3 ct
                    obtain ⟨c0, c1, c2⟩ := HS4.out _ HK6.out
                    go_wp2_with fail
                    refine (between_any (t.size : Int) 1 (q : Int) _).mono ?_
                    rintro e w' ⟨rfl, rfl⟩
                    rw [hb1]
                    clear hb1
                    go_wp2_with fail
                    refine (HRF.out _).mono ?_
                    rintro e w6b ⟨A9, C9, rfl, hc9, hst9, hk6⟩
                    have HP9 := Lib.hid hst9
                    have HP8 := Lib.hid (HPS6.out.kept hk6)
                    have HK6b := Lib.hid (HK6.out.trans hk6)
                    clear hst9 hk6 c0 c1 c2
                    go_wp2_with fail
                    refine (num7_any _ _).mono ?_
                    rintro e w' ⟨rfl, rfl⟩
                    go_wp2_with fail
                    refine (eq_strings A8 A9 kk C8 C9 XS _ HP8.out HP9.out).mono ?_
                    rintro e w7 ⟨rfl, hk7⟩
                    have HK7 := Lib.hid (HK6b.out.trans hk7)
                    have HP8 := Lib.hid (HP8.out.kept hk7)
                    have hl86 : kk ≤ 1000000 := by omega
                    clear hk7
                    as_aux_lemma =>
                      obtain ⟨a0, a1, a2, a3⟩ := HREAD.out _ (HKa.out.trans HK7.out)
                      go_upto_region 20 with (fail)
                      have k19 := (Kept.refl w7).alloc (.cells #[.slice A8 kk C8, .slice (some ⟨bt, ot, none⟩) ll cl] 23)
                      have hown0 : (w7.alloc (.cells #[.slice A8 kk C8, .slice (some ⟨bt, ot, none⟩) ll cl] 23)).ownsRow w7.heap.size 23 1 (.slice (some ⟨w7.heap.size, 0, none⟩) 2 2) 2 [.slice A8 kk C8, .slice (some ⟨bt, ot, none⟩) ll cl] :=
                        ⟨rfl, .inr ⟨w7.heap.size, 2, _, rfl, Nat.le_refl _, BlockAt.new w7 _ _, Nat.le_refl _, by unfold maxLen; omega, rfl, rfl⟩⟩
                      have HK19 := Lib.hid (HK7.out.trans k19)
                      have HK79 := Lib.hid k19
                      have HBK := Lib.hid (BlockAt.new w7 #[.slice A8 kk C8, .slice (some ⟨bt, ot, none⟩) ll cl] 23)
                      have HO0 := Lib.hid hown0
                      clear k19 hown0 a0 a1 a2 a3
                      generalize w7.alloc (.cells #[.slice A8 kk C8, .slice (some ⟨bt, ot, none⟩) ll cl] 23) = w8 at *
                      obtain ⟨a0, a1, a2, a3⟩ := HREAD.out _ (HKa.out.trans HK19.out)
                      obtain ⟨c0, c1, c2⟩ := HS4.out _ HK19.out
                      have HTX0 := Lib.hid ((HA.out.texts.kept HK1.out).kept (HKa.out.trans HK19.out))
                      go_wp2_with fail
                      refine (HFT.out _ HTX0.out.strs).mono ?_
                      rintro e w9 ⟨af, cf, FS, rfl, hcf, hst, hfs, hk9⟩
                      have HPF := Lib.hid hst
                      have HFS := Lib.hid hfs
                      have HK9 := Lib.hid (HK19.out.trans hk9)
                      have HK97 := Lib.hid (HK79.out.trans hk9)
                      have HK89 := Lib.hid hk9
                      have HO9 := Lib.hid (own_kept HO0.out hk9)
                      clear hst hfs hk9 c0 c1 c2 a0 a1 a2 a3 HO0
                      go_wp2_with (at_builtin; refine wpList_append_own_at _ rfl _ _ 47 rfl w7.heap.size 23 j0 (.slice none 0 0) 1 24 Try.underlying47 HJ0.out.1 HJ0.out.2.1 HJ0.out.2.2.1 HJ0.out.2.2.2 rfl (by decide) _ _ _ rfl (HO9.out.alloc _) ⟨w9.heap.size, 0, none⟩ 1 1 [.slice af kn cf] rfl rfl (cell_one_new _ _ _) (by intro u hu; simp at hu; subst hu; rfl) (by unfold maxLen; omega) (by omega) (by have := HK97.out.size; simp; omega) ?_)
                      intro v9 wl hown9 hgrow _ _
                      have kx := (Kept.refl w9).alloc (.cells #[.slice af kn cf] 23)
                      have hkl7 : Kept w7 wl := kept_gr1 (HK97.out.trans kx) hgrow (fun g e => (HO9.out.lt g e).1) (Nat.le_refl _)
                      have HKl := Lib.hid (HK7.out.trans hkl7)
                      have hpf := strs_gr (HPF.out.kept kx) hgrow (fun b0 off0 e hl e2 => by
                        have h1 := ne_slices (HBK.out.kept (HK89.out.trans kx)) (HPF.out.kept kx) b0 off0 e hl
                        have e3 : some b0 = some w7.heap.size := e2
                        cases e3
                        exact h1 rfl)
                      have HPFl := Lib.hid hpf
                      have HP8l := Lib.hid (HP8.out.kept hkl7)
                      have HTXl := Lib.hid ((HA.out.texts.kept HK1.out).kept (HKa.out.trans HKl.out))
                      have hk83 : kn ≤ 8 := by omega
                      rcases hown9.2 with ⟨h', h0⟩ | ⟨G, c9, cur, rfl, hb9, hg9, hn9, hm9, _⟩
                      · exact absurd h0 (by omega)
                      have HO := Lib.hid hown9
                      have hlst : ∀ j, j < 3 → ∃ (a2 : Option Addr) (l2 c2 : Nat) (zs : List ByteArray), (∀ w, Kept wl w → w.cell? ⟨G, j, none⟩ = some (.slice a2 l2 c2)) ∧ StrsIn wl a2 l2 zs ∧ l2 ≤ c2 ∧ l2 ≤ 1000000 ∧ ∀ x ∈ zs, x.size ≤ 1000000 := fun j hj => by
                        match j, hj with
                        | 0, _ => exact ⟨_, _, _, _, fun w kw => (own_kept HO.out kw).cellAt 0 (by omega), HP8l.out, hc8, hl86, HXZ.out⟩
                        | 1, _ => exact ⟨_, ll, cl, ss, fun w kw => (own_kept HO.out kw).cellAt 1 (by omega), HTXl.out.strs, HTXl.out.le_cap, by omega, fun x hx => by
                            obtain ⟨i, hi, rfl⟩ := List.getElem_of_mem hx
                            have h1 := HSZ.out i (by rw [← HTXl.out.strs.len_eq]; exact hi)
                            simp [List.getD, hi] at h1
                            omega⟩
                        | 2, _ => exact ⟨_, kn, cf, FS, fun w kw => (own_kept HO.out kw).cellAt 2 (by omega), HPFl.out, hcf, by omega, fun x hx => by have := HFS.out x hx; omega⟩
                      have HLST := Lib.hid hlst
                      clear hlst hpf hown9 hgrow kx hkl7 hb9 hg9 hn9 hm9 HO9 HBK
                      go_upto_region 22 with (fail)
                      go_wp2_with fail
                      go_loopw [13] (fun i wr => ∃ jz : Nat, jz ≤ 3 ∧ i = .int .i64 jz ∧ Kept wl wr) (fun i _ => 3 - (intOf i).toNat)
                      case atStart => exact ⟨0, by omega, rfl, Kept.refl _⟩
                      case round =>
                        obtain ⟨jz, hjz, rfl, hky⟩ := hrel
                        have HKy := Lib.hid hky
                        have HKya := Lib.hid (HKl.out.trans hky)
                        clear hky
                        obtain ⟨wy, rfl⟩ : ∃ wy : World, wy = wr := ⟨_, rfl⟩
                        by_cases hjm : jz < 3
                        · have hdj : decide ((jz : Int) < 3) = true := decide_eq_true (by omega)
                          obtain ⟨a2, l2, c2, zs, hlc0, hzs, hlc, hl6, hz6⟩ := HLST.out jz hjm
                          have HLC0 := Lib.hid hlc0
                          have HZS0 := Lib.hid hzs
                          clear hlc0 hzs
                          obtain ⟨a0, a1, a2', a3⟩ := HREAD.out _ (HKa.out.trans HKya.out)
                          obtain ⟨c0, c1, c2'⟩ := HS4.out _ HKya.out
                          go_upto_region 26 with (fail)
                          have hG := BlockAt.new wy #[.int .i64 (t.size : Int), .int .i64 n, .int .i64 1, .int .i64 ((q : Int))] 3
                          have kg : Kept wy (wy.alloc (.cells #[.int .i64 (t.size : Int), .int .i64 n, .int .i64 1, .int .i64 ((q : Int))] 3)) := (Kept.refl wy).alloc _
                          generalize wy.alloc (.cells #[.int .i64 (t.size : Int), .int .i64 n, .int .i64 1, .int .i64 ((q : Int))] 3) = wg at *
                          have hxs : ∀ z : Nat, z < 4 → ∃ x : Int, ∀ w, Kept wg w → w.cell? ⟨wy.heap.size, z, none⟩ = some (.int .i64 x) := fun z hz => by
                            match z, hz with
                            | 0, _ => exact ⟨_, fun w kk => by simpa using (hG.kept kk).cell 0⟩
                            | 1, _ => exact ⟨_, fun w kk => by simpa using (hG.kept kk).cell 1⟩
                            | 2, _ => exact ⟨_, fun w kk => by simpa using (hG.kept kk).cell 2⟩
                            | 3, _ => exact ⟨_, fun w kk => by simpa using (hG.kept kk).cell 3⟩
                          have HXS := Lib.hid hxs
                          have HKg := Lib.hid (HKya.out.trans kg)
                          have HKgl := Lib.hid (HKy.out.trans kg)
                          clear hxs kg hG a0 a1 a2' a3 c0 c1 c2'
                          generalize wy.heap.size = H at *
                          go_wp2_with fail
                          go_loopw [15] (fun i wr => ∃ qz : Nat, qz ≤ 4 ∧ i = .int .i64 qz ∧ Kept wg wr) (fun i _ => 4 - (intOf i).toNat)
                          case atStart => exact ⟨0, by omega, rfl, Kept.refl _⟩
                          case round =>
                            obtain ⟨qz, hqz, rfl, hkz⟩ := hrel
                            have HKzl := Lib.hid hkz
                            have HKz := Lib.hid (HKg.out.trans hkz)
                            clear hkz
                            obtain ⟨wz, rfl⟩ : ∃ wz : World, wz = wr := ⟨_, rfl⟩
                            by_cases hq4 : qz < 4
                            · have hdq : decide ((qz : Int) < 4) = true := decide_eq_true (by omega)
                              obtain ⟨x, hx⟩ := HXS.out qz hq4
                              have HXC0 := Lib.hid hx
                              clear hx
                              have HZS := Lib.hid (HZS0.out.kept HKgl.out)
                              as_aux_lemma =>
                                have hji : (jz : Int) < 3 := by omega
                                have hqi : (qz : Int) < 4 := by omega
                                obtain ⟨SJ, EJ, hja, hcs⟩ := join_all k m s x a2 l2 c2 zs hlc hl6 hz6
                                have HJL := Lib.hid (fun (u : Later wz) => hja u.1 (HZS.out.kept (HKzl.out.trans u.2)))
                                have HCS := Lib.hid hcs
                                clear hja hcs
                                obtain ⟨c0, c1, c2'⟩ := HS4.out _ HKz.out
                                have cl := HLC0.out _ (HKgl.out.trans HKzl.out)
                                have cx := HXC0.out _ HKzl.out
                                have lc0 := later_cell c0
                                have lc1 := later_cell c1
                                have lc2 := later_cell c2'
                                have lcl := later_cell cl
                                have lcx := later_cell cx
                                clear c0 c1 c2' cl cx
                                go_wp2_with fail
                                refine region_later (by kernel_rfl) (by kernel_rfl) ?_
                                repeat (go_big_quiet_step ((go_at_call 25; exact later_call (HJL.out _))))
                                refine wpQuiet_nil ?_
                                intro _ hw'
                                obtain ⟨nq, hw''⟩ := hw'
                                subst hw''
                                have HKv := Lib.hid (HKz.out.trans nq.2)
                                have HKvl := Lib.hid (HKzl.out.trans nq.2)
                                clear lc0 lc1 lc2 lcl lcx
                                generalize nq.1 = wv at *
                                by_cases htx : txB zs k s = true
                                · have HTX := Lib.hid (fun (u : Later wv) => texts_ref a2 l2 c2 zs k s u.1 (HZS.out.kept (HKvl.out.trans u.2)) (by omega))
                                  rw [htx] at HTX
                                  by_cases hbt : (decide (1 ≤ x) && decide (x ≤ (q : Int))) = true
                                  · have HBT := Lib.hid (fun (u : Later wv) => between_any x 1 (q : Int) u.1)
                                    rw [hbt] at HBT
                                    rcases HCS.out with ⟨hno, _, _⟩ | ⟨xn, rfl, _, oky, hjr, hej, hsj⟩
                                    · exact absurd ⟨hs, (txB_true htx).1, (by rw [hks]; rw [Bool.and_eq_true, decide_eq_true_iff, decide_eq_true_iff] at hbt; exact hbt), (by unfold txB at htx; rw [Bool.and_eq_true] at htx; exact htx.2)⟩ hno
                                    · have HJRA := Lib.hid hjr
                                      have HEJ := Lib.hid hej
                                      have HSJ := Lib.hid hsj
                                      clear hjr hej hsj htx hbt HCS
                                      obtain ⟨c0, c1, c2'⟩ := HS4.out _ HKv.out
                                      have cl := HLC0.out _ (HKgl.out.trans HKvl.out)
                                      have cx := HXC0.out _ HKvl.out
                                      have lc0 := later_cell c0
                                      have lc1 := later_cell c1
                                      have lc2 := later_cell c2'
                                      have lcl := later_cell cl
                                      have lcx := later_cell cx
                                      clear c0 c1 c2' cl cx
                                      go_wp2_with fail
                                      refine region_later (by kernel_rfl) (by kernel_rfl) ?_
                                      repeat (go_big_quiet_step (first | (go_at_call 26; exact later_same (HTX.out _)) | (go_at_call 22; exact later_same (HBT.out _))))
                                      refine wpQuiet_nil ?_
                                      intro _ hw'
                                      obtain ⟨nq, hw''⟩ := hw'
                                      subst hw''
                                      have HKu := Lib.hid (HKv.out.trans nq.2)
                                      have HKul := Lib.hid (HKvl.out.trans nq.2)
                                      clear lc0 lc1 lc2 lcl lcx
                                      generalize nq.1 = wu at *

                                      have HJR := Lib.hid (fun (u : Later wu) => HJRA.out u.1 (HZS.out.kept (HKul.out.trans u.2)))
                                      obtain ⟨c0, c1, c2'⟩ := HS4.out _ HKu.out
                                      have cl := HLC0.out _ (HKgl.out.trans HKul.out)
                                      have cx := HXC0.out _ HKul.out
                                      have lc0 := later_cell c0
                                      have lc1 := later_cell c1
                                      have lc2 := later_cell c2'
                                      have lcl := later_cell cl
                                      have lcx := later_cell cx
                                      clear c0 c1 c2' cl cx
                                      go_wp2_with fail
                                      refine region_later (by kernel_rfl) (by kernel_rfl) ?_
                                      repeat (go_big_quiet_step ((go_at_call 27; exact later_same (HJR.out _))))
                                      refine wpQuiet_nil ?_
                                      intro _ hw'
                                      obtain ⟨nq, hw''⟩ := hw'
                                      subst hw''
                                      have HKe2 := Lib.hid (HKu.out.trans nq.2)
                                      have HKe := Lib.hid (HKul.out.trans nq.2)
                                      clear lc0 lc1 lc2 lcl lcx
                                      generalize nq.1 = we at *

                                      cases oky with
                                      | true =>
                                        obtain rfl : EJ = 0 := HEJ.out
                                        go_wp2_with fail
                                        refine (num7_any _ _).mono ?_
                                        rintro e w' ⟨rfl, rfl⟩
                                        go_wp2
                                        go_roundw
                                        case rel => exact ⟨qz + 1, by omega, by go_num, HKe.out⟩
                                        case measure => simp [intOf]; omega
                                      | false =>
                                        obtain rfl : EJ = 7 := HEJ.out
                                        obtain rfl := HSJ.out rfl
                                        go_wp2_with fail
                                        refine (num7_any _ _).mono ?_
                                        rintro e w' ⟨rfl, rfl⟩
                                        go_wp2
                                        go_roundw
                                        case rel => exact ⟨qz + 1, by omega, by go_num, HKe.out⟩
                                        case measure => simp [intOf]; omega
                                  · have HBT := Lib.hid (fun (u : Later wv) => between_any x 1 (q : Int) u.1)
                                    rw [Bool.eq_false_iff.2 hbt] at HBT
                                    rcases HCS.out with ⟨_, rfl, rfl⟩ | ⟨xn, rfl, hyes, _⟩
                                    · clear htx hbt HCS
                                      obtain ⟨c0, c1, c2'⟩ := HS4.out _ HKv.out
                                      have cl := HLC0.out _ (HKgl.out.trans HKvl.out)
                                      have cx := HXC0.out _ HKvl.out
                                      have lc0 := later_cell c0
                                      have lc1 := later_cell c1
                                      have lc2 := later_cell c2'
                                      have lcl := later_cell cl
                                      have lcx := later_cell cx
                                      clear c0 c1 c2' cl cx
                                      go_wp2_with fail
                                      refine region_later (by kernel_rfl) (by kernel_rfl) ?_
                                      repeat (go_big_quiet_step (first | (go_at_call 26; exact later_same (HTX.out _)) | (go_at_call 22; exact later_same (HBT.out _))))
                                      refine wpQuiet_nil ?_
                                      intro _ hw'
                                      obtain ⟨nq, hw''⟩ := hw'
                                      subst hw''
                                      have HKu := Lib.hid (HKv.out.trans nq.2)
                                      have HKe := Lib.hid (HKvl.out.trans nq.2)
                                      clear lc0 lc1 lc2 lcl lcx
                                      generalize nq.1 = wu at *
                                      go_wp2_with fail
                                      refine (num7_any _ _).mono ?_
                                      rintro e w' ⟨rfl, rfl⟩
                                      go_wp2
                                      go_roundw
                                      case rel => exact ⟨qz + 1, by omega, by go_num, HKe.out⟩
                                      case measure => simp [intOf]; omega
                                    · exact absurd (by rw [Bool.and_eq_true, decide_eq_true_iff, decide_eq_true_iff, ← hks]; exact hyes.2.2.1) hbt
                                · have HTX := Lib.hid (fun (u : Later wv) => texts_ref a2 l2 c2 zs k s u.1 (HZS.out.kept (HKvl.out.trans u.2)) (by omega))
                                  rw [Bool.eq_false_iff.2 htx] at HTX
                                  rcases HCS.out with ⟨_, rfl, rfl⟩ | ⟨xn, rfl, hyes, _⟩
                                  · clear htx HCS
                                    obtain ⟨c0, c1, c2'⟩ := HS4.out _ HKv.out
                                    have cl := HLC0.out _ (HKgl.out.trans HKvl.out)
                                    have cx := HXC0.out _ HKvl.out
                                    have lc0 := later_cell c0
                                    have lc1 := later_cell c1
                                    have lc2 := later_cell c2'
                                    have lcl := later_cell cl
                                    have lcx := later_cell cx
                                    clear c0 c1 c2' cl cx
                                    go_wp2_with fail
                                    refine region_later (by kernel_rfl) (by kernel_rfl) ?_
                                    repeat (go_big_quiet_step ((go_at_call 26; exact later_same (HTX.out _))))
                                    refine wpQuiet_nil ?_
                                    intro _ hw'
                                    obtain ⟨nq, hw''⟩ := hw'
                                    subst hw''
                                    have HKu := Lib.hid (HKv.out.trans nq.2)
                                    have HKe := Lib.hid (HKvl.out.trans nq.2)
                                    clear lc0 lc1 lc2 lcl lcx
                                    generalize nq.1 = wu at *
                                    go_wp2_with fail
                                    refine (num7_any _ _).mono ?_
                                    rintro e w' ⟨rfl, rfl⟩
                                    go_wp2
                                    go_roundw
                                    case rel => exact ⟨qz + 1, by omega, by go_num, HKe.out⟩
                                    case measure => simp [intOf]; omega
                                  · exact absurd (by unfold txB; rw [hyes.2.2.2, decide_eq_true hyes.2.1]; rfl) htx
                            · obtain rfl : qz = 4 := by omega
                              go_wp2
                              go_roundw
                              case rel => exact ⟨jz + 1, by omega, by go_num, HKgl.out.trans HKzl.out⟩
                              case measure => simp [intOf]; omega
                        · have hdj : decide ((jz : Int) < 3) = false := decide_eq_false (by omega)
                          go_wp2
                          go_roundw
                          case rel => exact ⟨y + 1, by omega, by go_num, HKya.out⟩
                          case measure => simp [intOf]; omega
                  · have HLB := Lib.hid (fun w => lanes_bad k m s t (fun e => hlen ⟨e.2.1, by have := e.2.2; rw [hks] at this; omega⟩) w)
                    have hb1 : (decide (1 ≤ (t.size : Int)) && decide ((t.size : Int) ≤ (q : Int))) = false := by
                      rw [Bool.eq_false_iff, Ne, Bool.and_eq_true, decide_eq_true_iff, decide_eq_true_iff]
                      exact fun e => hlen ⟨by omega, by omega⟩
                    go_wp2_with fail
                    refine (HLB.out _).mono ?_
                    rintro e w6 ⟨rfl, hk6⟩
                    have HK6 := Lib.hid (HKx.out.trans hk6)
                    clear hk6 c0 c1 c2 a0 a1 a2 a3 ct
                    obtain ⟨c0, c1, c2⟩ := HS4.out _ HK6.out
                    go_wp2_with fail
                    refine (between_any (t.size : Int) 1 (q : Int) _).mono ?_
                    rintro e w' ⟨rfl, rfl⟩
                    rw [hb1]
                    clear hb1 c0 c1 c2
                    go_wp2_with fail
                    refine (num7_any _ _).mono ?_
                    rintro e w' ⟨rfl, rfl⟩
                    have hnil : ∀ w : World, StrsIn w none 0 [] := fun w => ⟨rfl, by omega, (fun _ h => by cases h), 0, 0, fun h => absurd h (Nat.lt_irrefl 0), fun i hi => absurd hi (Nat.not_lt_zero i)⟩
                    go_wp2_with fail
                    refine (eq_strings none none 0 0 0 [] _ (hnil _) (hnil _)).mono ?_
                    rintro e w7 ⟨rfl, hk7⟩
                    have HK7 := Lib.hid (HK6.out.trans hk7)
                    have HP8 := Lib.hid (hnil w7)
                    have HXZ := Lib.hid (show ∀ x ∈ ([] : List ByteArray), x.size ≤ 1000000 from fun x hx => by cases hx)
                    have hc8 : 0 ≤ 0 := Nat.le_refl 0
                    have hl86 : 0 ≤ 1000000 := by omega
                    clear hk7 hnil
                    as_aux_lemma =>
                      obtain ⟨a0, a1, a2, a3⟩ := HREAD.out _ (HKa.out.trans HK7.out)
                      go_upto_region 20 with (fail)
                      have k19 := (Kept.refl w7).alloc (.cells #[.slice none 0 0, .slice (some ⟨bt, ot, none⟩) ll cl] 23)
                      have hown0 : (w7.alloc (.cells #[.slice none 0 0, .slice (some ⟨bt, ot, none⟩) ll cl] 23)).ownsRow w7.heap.size 23 1 (.slice (some ⟨w7.heap.size, 0, none⟩) 2 2) 2 [.slice none 0 0, .slice (some ⟨bt, ot, none⟩) ll cl] :=
                        ⟨rfl, .inr ⟨w7.heap.size, 2, _, rfl, Nat.le_refl _, BlockAt.new w7 _ _, Nat.le_refl _, by unfold maxLen; omega, rfl, rfl⟩⟩
                      have HK19 := Lib.hid (HK7.out.trans k19)
                      have HK79 := Lib.hid k19
                      have HBK := Lib.hid (BlockAt.new w7 #[.slice none 0 0, .slice (some ⟨bt, ot, none⟩) ll cl] 23)
                      have HO0 := Lib.hid hown0
                      clear k19 hown0 a0 a1 a2 a3
                      generalize w7.alloc (.cells #[.slice none 0 0, .slice (some ⟨bt, ot, none⟩) ll cl] 23) = w8 at *
                      obtain ⟨a0, a1, a2, a3⟩ := HREAD.out _ (HKa.out.trans HK19.out)
                      obtain ⟨c0, c1, c2⟩ := HS4.out _ HK19.out
                      have HTX0 := Lib.hid ((HA.out.texts.kept HK1.out).kept (HKa.out.trans HK19.out))
                      go_wp2_with fail
                      refine (HFT.out _ HTX0.out.strs).mono ?_
                      rintro e w9 ⟨af, cf, FS, rfl, hcf, hst, hfs, hk9⟩
                      have HPF := Lib.hid hst
                      have HFS := Lib.hid hfs
                      have HK9 := Lib.hid (HK19.out.trans hk9)
                      have HK97 := Lib.hid (HK79.out.trans hk9)
                      have HK89 := Lib.hid hk9
                      have HO9 := Lib.hid (own_kept HO0.out hk9)
                      clear hst hfs hk9 c0 c1 c2 a0 a1 a2 a3 HO0
                      go_wp2_with (at_builtin; refine wpList_append_own_at _ rfl _ _ 47 rfl w7.heap.size 23 j0 (.slice none 0 0) 1 24 Try.underlying47 HJ0.out.1 HJ0.out.2.1 HJ0.out.2.2.1 HJ0.out.2.2.2 rfl (by decide) _ _ _ rfl (HO9.out.alloc _) ⟨w9.heap.size, 0, none⟩ 1 1 [.slice af kn cf] rfl rfl (cell_one_new _ _ _) (by intro u hu; simp at hu; subst hu; rfl) (by unfold maxLen; omega) (by omega) (by have := HK97.out.size; simp; omega) ?_)
                      intro v9 wl hown9 hgrow _ _
                      have kx := (Kept.refl w9).alloc (.cells #[.slice af kn cf] 23)
                      have hkl7 : Kept w7 wl := kept_gr1 (HK97.out.trans kx) hgrow (fun g e => (HO9.out.lt g e).1) (Nat.le_refl _)
                      have HKl := Lib.hid (HK7.out.trans hkl7)
                      have hpf := strs_gr (HPF.out.kept kx) hgrow (fun b0 off0 e hl e2 => by
                        have h1 := ne_slices (HBK.out.kept (HK89.out.trans kx)) (HPF.out.kept kx) b0 off0 e hl
                        have e3 : some b0 = some w7.heap.size := e2
                        cases e3
                        exact h1 rfl)
                      have HPFl := Lib.hid hpf
                      have HP8l := Lib.hid (HP8.out.kept hkl7)
                      have HTXl := Lib.hid ((HA.out.texts.kept HK1.out).kept (HKa.out.trans HKl.out))
                      have hk83 : kn ≤ 8 := by omega
                      rcases hown9.2 with ⟨h', h0⟩ | ⟨G, c9, cur, rfl, hb9, hg9, hn9, hm9, _⟩
                      · exact absurd h0 (by omega)
                      have HO := Lib.hid hown9
                      have hlst : ∀ j, j < 3 → ∃ (a2 : Option Addr) (l2 c2 : Nat) (zs : List ByteArray), (∀ w, Kept wl w → w.cell? ⟨G, j, none⟩ = some (.slice a2 l2 c2)) ∧ StrsIn wl a2 l2 zs ∧ l2 ≤ c2 ∧ l2 ≤ 1000000 ∧ ∀ x ∈ zs, x.size ≤ 1000000 := fun j hj => by
                        match j, hj with
                        | 0, _ => exact ⟨_, _, _, _, fun w kw => (own_kept HO.out kw).cellAt 0 (by omega), HP8l.out, hc8, hl86, HXZ.out⟩
                        | 1, _ => exact ⟨_, ll, cl, ss, fun w kw => (own_kept HO.out kw).cellAt 1 (by omega), HTXl.out.strs, HTXl.out.le_cap, by omega, fun x hx => by
                            obtain ⟨i, hi, rfl⟩ := List.getElem_of_mem hx
                            have h1 := HSZ.out i (by rw [← HTXl.out.strs.len_eq]; exact hi)
                            simp [List.getD, hi] at h1
                            omega⟩
                        | 2, _ => exact ⟨_, kn, cf, FS, fun w kw => (own_kept HO.out kw).cellAt 2 (by omega), HPFl.out, hcf, by omega, fun x hx => by have := HFS.out x hx; omega⟩
                      have HLST := Lib.hid hlst
                      clear hlst hpf hown9 hgrow kx hkl7 hb9 hg9 hn9 hm9 HO9 HBK
                      go_upto_region 22 with (fail)
                      go_wp2_with fail
                      go_loopw [13] (fun i wr => ∃ jz : Nat, jz ≤ 3 ∧ i = .int .i64 jz ∧ Kept wl wr) (fun i _ => 3 - (intOf i).toNat)
                      case atStart => exact ⟨0, by omega, rfl, Kept.refl _⟩
                      case round =>
                        obtain ⟨jz, hjz, rfl, hky⟩ := hrel
                        have HKy := Lib.hid hky
                        have HKya := Lib.hid (HKl.out.trans hky)
                        clear hky
                        obtain ⟨wy, rfl⟩ : ∃ wy : World, wy = wr := ⟨_, rfl⟩
                        by_cases hjm : jz < 3
                        · have hdj : decide ((jz : Int) < 3) = true := decide_eq_true (by omega)
                          obtain ⟨a2, l2, c2, zs, hlc0, hzs, hlc, hl6, hz6⟩ := HLST.out jz hjm
                          have HLC0 := Lib.hid hlc0
                          have HZS0 := Lib.hid hzs
                          clear hlc0 hzs
                          obtain ⟨a0, a1, a2', a3⟩ := HREAD.out _ (HKa.out.trans HKya.out)
                          obtain ⟨c0, c1, c2'⟩ := HS4.out _ HKya.out
                          go_upto_region 26 with (fail)
                          have hG := BlockAt.new wy #[.int .i64 (t.size : Int), .int .i64 n, .int .i64 1, .int .i64 ((q : Int))] 3
                          have kg : Kept wy (wy.alloc (.cells #[.int .i64 (t.size : Int), .int .i64 n, .int .i64 1, .int .i64 ((q : Int))] 3)) := (Kept.refl wy).alloc _
                          generalize wy.alloc (.cells #[.int .i64 (t.size : Int), .int .i64 n, .int .i64 1, .int .i64 ((q : Int))] 3) = wg at *
                          have hxs : ∀ z : Nat, z < 4 → ∃ x : Int, ∀ w, Kept wg w → w.cell? ⟨wy.heap.size, z, none⟩ = some (.int .i64 x) := fun z hz => by
                            match z, hz with
                            | 0, _ => exact ⟨_, fun w kk => by simpa using (hG.kept kk).cell 0⟩
                            | 1, _ => exact ⟨_, fun w kk => by simpa using (hG.kept kk).cell 1⟩
                            | 2, _ => exact ⟨_, fun w kk => by simpa using (hG.kept kk).cell 2⟩
                            | 3, _ => exact ⟨_, fun w kk => by simpa using (hG.kept kk).cell 3⟩
                          have HXS := Lib.hid hxs
                          have HKg := Lib.hid (HKya.out.trans kg)
                          have HKgl := Lib.hid (HKy.out.trans kg)
                          clear hxs kg hG a0 a1 a2' a3 c0 c1 c2'
                          generalize wy.heap.size = H at *
                          go_wp2_with fail
                          go_loopw [15] (fun i wr => ∃ qz : Nat, qz ≤ 4 ∧ i = .int .i64 qz ∧ Kept wg wr) (fun i _ => 4 - (intOf i).toNat)
                          case atStart => exact ⟨0, by omega, rfl, Kept.refl _⟩
                          case round =>
                            obtain ⟨qz, hqz, rfl, hkz⟩ := hrel
                            have HKzl := Lib.hid hkz
                            have HKz := Lib.hid (HKg.out.trans hkz)
                            clear hkz
                            obtain ⟨wz, rfl⟩ : ∃ wz : World, wz = wr := ⟨_, rfl⟩
                            by_cases hq4 : qz < 4
                            · have hdq : decide ((qz : Int) < 4) = true := decide_eq_true (by omega)
                              obtain ⟨x, hx⟩ := HXS.out qz hq4
                              have HXC0 := Lib.hid hx
                              clear hx
                              have HZS := Lib.hid (HZS0.out.kept HKgl.out)
                              as_aux_lemma =>
                                have hji : (jz : Int) < 3 := by omega
                                have hqi : (qz : Int) < 4 := by omega
                                obtain ⟨SJ, EJ, hja, hcs⟩ := join_all k m s x a2 l2 c2 zs hlc hl6 hz6
                                have HJL := Lib.hid (fun (u : Later wz) => hja u.1 (HZS.out.kept (HKzl.out.trans u.2)))
                                have HCS := Lib.hid hcs
                                clear hja hcs
                                obtain ⟨c0, c1, c2'⟩ := HS4.out _ HKz.out
                                have cl := HLC0.out _ (HKgl.out.trans HKzl.out)
                                have cx := HXC0.out _ HKzl.out
                                have lc0 := later_cell c0
                                have lc1 := later_cell c1
                                have lc2 := later_cell c2'
                                have lcl := later_cell cl
                                have lcx := later_cell cx
                                clear c0 c1 c2' cl cx
                                go_wp2_with fail
                                refine region_later (by kernel_rfl) (by kernel_rfl) ?_
                                repeat (go_big_quiet_step ((go_at_call 25; exact later_call (HJL.out _))))
                                refine wpQuiet_nil ?_
                                intro _ hw'
                                obtain ⟨nq, hw''⟩ := hw'
                                subst hw''
                                have HKv := Lib.hid (HKz.out.trans nq.2)
                                have HKvl := Lib.hid (HKzl.out.trans nq.2)
                                clear lc0 lc1 lc2 lcl lcx
                                generalize nq.1 = wv at *
                                by_cases htx : txB zs k s = true
                                · have HTX := Lib.hid (fun (u : Later wv) => texts_ref a2 l2 c2 zs k s u.1 (HZS.out.kept (HKvl.out.trans u.2)) (by omega))
                                  rw [htx] at HTX
                                  by_cases hbt : (decide (1 ≤ x) && decide (x ≤ (q : Int))) = true
                                  · have HBT := Lib.hid (fun (u : Later wv) => between_any x 1 (q : Int) u.1)
                                    rw [hbt] at HBT
                                    rcases HCS.out with ⟨hno, _, _⟩ | ⟨xn, rfl, _, oky, hjr, hej, hsj⟩
                                    · exact absurd ⟨hs, (txB_true htx).1, (by rw [hks]; rw [Bool.and_eq_true, decide_eq_true_iff, decide_eq_true_iff] at hbt; exact hbt), (by unfold txB at htx; rw [Bool.and_eq_true] at htx; exact htx.2)⟩ hno
                                    · have HJRA := Lib.hid hjr
                                      have HEJ := Lib.hid hej
                                      have HSJ := Lib.hid hsj
                                      clear hjr hej hsj htx hbt HCS
                                      obtain ⟨c0, c1, c2'⟩ := HS4.out _ HKv.out
                                      have cl := HLC0.out _ (HKgl.out.trans HKvl.out)
                                      have cx := HXC0.out _ HKvl.out
                                      have lc0 := later_cell c0
                                      have lc1 := later_cell c1
                                      have lc2 := later_cell c2'
                                      have lcl := later_cell cl
                                      have lcx := later_cell cx
                                      clear c0 c1 c2' cl cx
                                      go_wp2_with fail
                                      refine region_later (by kernel_rfl) (by kernel_rfl) ?_
                                      repeat (go_big_quiet_step (first | (go_at_call 26; exact later_same (HTX.out _)) | (go_at_call 22; exact later_same (HBT.out _))))
                                      refine wpQuiet_nil ?_
                                      intro _ hw'
                                      obtain ⟨nq, hw''⟩ := hw'
                                      subst hw''
                                      have HKu := Lib.hid (HKv.out.trans nq.2)
                                      have HKul := Lib.hid (HKvl.out.trans nq.2)
                                      clear lc0 lc1 lc2 lcl lcx
                                      generalize nq.1 = wu at *

                                      have HJR := Lib.hid (fun (u : Later wu) => HJRA.out u.1 (HZS.out.kept (HKul.out.trans u.2)))
                                      obtain ⟨c0, c1, c2'⟩ := HS4.out _ HKu.out
                                      have cl := HLC0.out _ (HKgl.out.trans HKul.out)
                                      have cx := HXC0.out _ HKul.out
                                      have lc0 := later_cell c0
                                      have lc1 := later_cell c1
                                      have lc2 := later_cell c2'
                                      have lcl := later_cell cl
                                      have lcx := later_cell cx
                                      clear c0 c1 c2' cl cx
                                      go_wp2_with fail
                                      refine region_later (by kernel_rfl) (by kernel_rfl) ?_
                                      repeat (go_big_quiet_step ((go_at_call 27; exact later_same (HJR.out _))))
                                      refine wpQuiet_nil ?_
                                      intro _ hw'
                                      obtain ⟨nq, hw''⟩ := hw'
                                      subst hw''
                                      have HKe2 := Lib.hid (HKu.out.trans nq.2)
                                      have HKe := Lib.hid (HKul.out.trans nq.2)
                                      clear lc0 lc1 lc2 lcl lcx
                                      generalize nq.1 = we at *

                                      cases oky with
                                      | true =>
                                        obtain rfl : EJ = 0 := HEJ.out
                                        go_wp2_with fail
                                        refine (num7_any _ _).mono ?_
                                        rintro e w' ⟨rfl, rfl⟩
                                        go_wp2
                                        go_roundw
                                        case rel => exact ⟨qz + 1, by omega, by go_num, HKe.out⟩
                                        case measure => simp [intOf]; omega
                                      | false =>
                                        obtain rfl : EJ = 7 := HEJ.out
                                        obtain rfl := HSJ.out rfl
                                        go_wp2_with fail
                                        refine (num7_any _ _).mono ?_
                                        rintro e w' ⟨rfl, rfl⟩
                                        go_wp2
                                        go_roundw
                                        case rel => exact ⟨qz + 1, by omega, by go_num, HKe.out⟩
                                        case measure => simp [intOf]; omega
                                  · have HBT := Lib.hid (fun (u : Later wv) => between_any x 1 (q : Int) u.1)
                                    rw [Bool.eq_false_iff.2 hbt] at HBT
                                    rcases HCS.out with ⟨_, rfl, rfl⟩ | ⟨xn, rfl, hyes, _⟩
                                    · clear htx hbt HCS
                                      obtain ⟨c0, c1, c2'⟩ := HS4.out _ HKv.out
                                      have cl := HLC0.out _ (HKgl.out.trans HKvl.out)
                                      have cx := HXC0.out _ HKvl.out
                                      have lc0 := later_cell c0
                                      have lc1 := later_cell c1
                                      have lc2 := later_cell c2'
                                      have lcl := later_cell cl
                                      have lcx := later_cell cx
                                      clear c0 c1 c2' cl cx
                                      go_wp2_with fail
                                      refine region_later (by kernel_rfl) (by kernel_rfl) ?_
                                      repeat (go_big_quiet_step (first | (go_at_call 26; exact later_same (HTX.out _)) | (go_at_call 22; exact later_same (HBT.out _))))
                                      refine wpQuiet_nil ?_
                                      intro _ hw'
                                      obtain ⟨nq, hw''⟩ := hw'
                                      subst hw''
                                      have HKu := Lib.hid (HKv.out.trans nq.2)
                                      have HKe := Lib.hid (HKvl.out.trans nq.2)
                                      clear lc0 lc1 lc2 lcl lcx
                                      generalize nq.1 = wu at *
                                      go_wp2_with fail
                                      refine (num7_any _ _).mono ?_
                                      rintro e w' ⟨rfl, rfl⟩
                                      go_wp2
                                      go_roundw
                                      case rel => exact ⟨qz + 1, by omega, by go_num, HKe.out⟩
                                      case measure => simp [intOf]; omega
                                    · exact absurd (by rw [Bool.and_eq_true, decide_eq_true_iff, decide_eq_true_iff, ← hks]; exact hyes.2.2.1) hbt
                                · have HTX := Lib.hid (fun (u : Later wv) => texts_ref a2 l2 c2 zs k s u.1 (HZS.out.kept (HKvl.out.trans u.2)) (by omega))
                                  rw [Bool.eq_false_iff.2 htx] at HTX
                                  rcases HCS.out with ⟨_, rfl, rfl⟩ | ⟨xn, rfl, hyes, _⟩
                                  · clear htx HCS
                                    obtain ⟨c0, c1, c2'⟩ := HS4.out _ HKv.out
                                    have cl := HLC0.out _ (HKgl.out.trans HKvl.out)
                                    have cx := HXC0.out _ HKvl.out
                                    have lc0 := later_cell c0
                                    have lc1 := later_cell c1
                                    have lc2 := later_cell c2'
                                    have lcl := later_cell cl
                                    have lcx := later_cell cx
                                    clear c0 c1 c2' cl cx
                                    go_wp2_with fail
                                    refine region_later (by kernel_rfl) (by kernel_rfl) ?_
                                    repeat (go_big_quiet_step ((go_at_call 26; exact later_same (HTX.out _))))
                                    refine wpQuiet_nil ?_
                                    intro _ hw'
                                    obtain ⟨nq, hw''⟩ := hw'
                                    subst hw''
                                    have HKu := Lib.hid (HKv.out.trans nq.2)
                                    have HKe := Lib.hid (HKvl.out.trans nq.2)
                                    clear lc0 lc1 lc2 lcl lcx
                                    generalize nq.1 = wu at *
                                    go_wp2_with fail
                                    refine (num7_any _ _).mono ?_
                                    rintro e w' ⟨rfl, rfl⟩
                                    go_wp2
                                    go_roundw
                                    case rel => exact ⟨qz + 1, by omega, by go_num, HKe.out⟩
                                    case measure => simp [intOf]; omega
                                  · exact absurd (by unfold txB; rw [hyes.2.2.2, decide_eq_true hyes.2.1]; rfl) htx
                            · obtain rfl : qz = 4 := by omega
                              go_wp2
                              go_roundw
                              case rel => exact ⟨jz + 1, by omega, by go_num, HKgl.out.trans HKzl.out⟩
                              case measure => simp [intOf]; omega
                        · have hdj : decide ((jz : Int) < 3) = false := decide_eq_false (by omega)
                          go_wp2
                          go_roundw
                          case rel => exact ⟨y + 1, by omega, by go_num, HKya.out⟩
                          case measure => simp [intOf]; omega
              · have hdy : decide ((y : Int) < ll) = false := decide_eq_false (by omega)
                go_wp2
                go_roundw
                case rel => exact ⟨j + 1, by omega, by go_num, HKa.out.trans HKx.out⟩
                case measure => simp [intOf]; omega
          · have hsf : shpB k m s = false := Bool.eq_false_iff.2 hs
            rw [hsf]
            clear hsf
            go_wp2_with fail
            go_loopw [6] (fun i wr => ∃ y : Nat, y ≤ ll ∧ i = .int .i64 y ∧ Kept wa wr) (fun i _ => ll - (intOf i).toNat)
            case atStart => exact ⟨0, by omega, rfl, HK5.out⟩
            case round =>
              clear HK5
              obtain ⟨y, hy, rfl, hkx⟩ := hrel
              have HKx := Lib.hid hkx
              obtain ⟨wx, rfl⟩ : ∃ wx : World, wx = wr := ⟨_, rfl⟩
              obtain ⟨a0, a1, a2, a3⟩ := HREAD.out _ (HKa.out.trans hkx)
              clear hkx
              by_cases hyl : y < ll
              · have hdy : decide ((y : Int) < ll) = true := decide_eq_true (by omega)
                obtain ⟨bt, ot, rfl, htc⟩ : ∃ bt ot, al = some ⟨bt, ot, none⟩ ∧ ∀ i, i < ll → ∀ w, Kept w1 w → w.cell? ⟨bt, ot + i, none⟩ = some (.string (ss.getD i ByteArray.empty)) := by
                  obtain ⟨b, off, ha, hc⟩ := (HA.out.texts.kept HK1.out).strs.cells
                  exact ⟨b, off, ha (by omega), fun i hi w kk => kk.cell (hc i hi).1 (hc i hi).2⟩
                have htx := htc y hyl
                have hsz := HSZ.out y hyl
                generalize ss.getD y ByteArray.empty = t at *
                have ct := htx _ (HKa.out.trans HKx.out)
                obtain ⟨c0, c1, c2⟩ := HS4.out _ HKx.out
                clear htx htc
                as_aux_lemma =>
                  have HLB := Lib.hid (fun w => lanes_bad k m s t (fun e => hs e.1) w)
                  go_wp2_with fail
                  refine (HLB.out _).mono ?_
                  rintro e w6 ⟨rfl, hk6⟩
                  have HK6 := Lib.hid (HKx.out.trans hk6)
                  clear hk6 c0 c1 c2 a0 a1 a2 a3 ct
                  go_wp2_with fail
                  refine (num7_any _ _).mono ?_
                  rintro e w' ⟨rfl, rfl⟩
                  have hnil : ∀ w : World, StrsIn w none 0 [] := fun w => ⟨rfl, by omega, (fun _ h => by cases h), 0, 0, fun h => absurd h (Nat.lt_irrefl 0), fun i hi => absurd hi (Nat.not_lt_zero i)⟩
                  go_wp2_with fail
                  refine (eq_strings none none 0 0 0 [] _ (hnil _) (hnil _)).mono ?_
                  rintro e w7 ⟨rfl, hk7⟩
                  have HK7 := Lib.hid (HK6.out.trans hk7)
                  clear hk7
                  obtain ⟨a0, a1, a2, a3⟩ := HREAD.out _ (HKa.out.trans HK7.out)
                  go_upto_region 20 with (fail)
                  have hB := BlockAt.new w7 #[.slice none 0 0, .slice (some ⟨bt, ot, none⟩) ll cl] 23
                  have HKl := Lib.hid (HK7.out.alloc (.cells #[.slice none 0 0, .slice (some ⟨bt, ot, none⟩) ll cl] 23))
                  clear a0 a1 a2 a3
                  generalize w7.alloc (.cells #[.slice none 0 0, .slice (some ⟨bt, ot, none⟩) ll cl] 23) = wl at *
                  generalize w7.heap.size = G at *
                  have HTS := Lib.hid (((HA.out.texts.kept HK1.out).kept (HKa.out.trans HKl.out)))
                  have hlst : ∀ j, j < 2 → ∃ (a2 : Option Addr) (l2 c2 : Nat) (zs : List ByteArray), (∀ w, Kept wl w → w.cell? ⟨G, j, none⟩ = some (.slice a2 l2 c2)) ∧ StrsIn wl a2 l2 zs ∧ l2 ≤ c2 ∧ l2 ≤ 1000000 ∧ ∀ x ∈ zs, x.size ≤ 1000000 := fun j hj => by
                    match j, hj with
                    | 0, _ => exact ⟨none, 0, 0, [], fun w kw => (hB.kept kw).cell 0, hnil _, by omega, by omega, fun x hx => by cases hx⟩
                    | 1, _ => exact ⟨_, ll, cl, ss, fun w kw => (hB.kept kw).cell 1, HTS.out.strs, HTS.out.le_cap, by omega, fun x hx => by
                        obtain ⟨i, hi, rfl⟩ := List.getElem_of_mem hx
                        have h1 := HSZ.out i (by rw [← HTS.out.strs.len_eq]; exact hi)
                        simp [List.getD, hi] at h1
                        omega⟩
                  have HLST := Lib.hid hlst
                  clear hlst hB hnil
                  go_upto_region 22 with (fail)
                  go_wp2_with fail
                  go_loopw [13] (fun i wr => ∃ jz : Nat, jz ≤ 2 ∧ i = .int .i64 jz ∧ Kept wl wr) (fun i _ => 2 - (intOf i).toNat)
                  case atStart => exact ⟨0, by omega, rfl, Kept.refl _⟩
                  case round =>
                    obtain ⟨jz, hjz, rfl, hky⟩ := hrel
                    have HKy := Lib.hid hky
                    have HKya := Lib.hid (HKl.out.trans hky)
                    clear hky
                    obtain ⟨wy, rfl⟩ : ∃ wy : World, wy = wr := ⟨_, rfl⟩
                    by_cases hjm : jz < 2
                    · have hdj : decide ((jz : Int) < 2) = true := decide_eq_true (by omega)
                      obtain ⟨a2, l2, c2, zs, hlc0, hzs, hlc, hl6, hz6⟩ := HLST.out jz hjm
                      have HLC0 := Lib.hid hlc0
                      have HZS0 := Lib.hid hzs
                      clear hlc0 hzs
                      obtain ⟨a0, a1, a2', a3⟩ := HREAD.out _ (HKa.out.trans HKya.out)
                      obtain ⟨c0, c1, c2'⟩ := HS4.out _ HKya.out
                      go_upto_region 26 with (fail)
                      have hG := BlockAt.new wy #[.int .i64 (t.size : Int), .int .i64 n, .int .i64 1, .int .i64 (wrap64 (k * s))] 3
                      have kg : Kept wy (wy.alloc (.cells #[.int .i64 (t.size : Int), .int .i64 n, .int .i64 1, .int .i64 (wrap64 (k * s))] 3)) := (Kept.refl wy).alloc _
                      generalize wy.alloc (.cells #[.int .i64 (t.size : Int), .int .i64 n, .int .i64 1, .int .i64 (wrap64 (k * s))] 3) = wg at *
                      have hxs : ∀ z : Nat, z < 4 → ∃ x : Int, ∀ w, Kept wg w → w.cell? ⟨wy.heap.size, z, none⟩ = some (.int .i64 x) := fun z hz => by
                        match z, hz with
                        | 0, _ => exact ⟨_, fun w kk => by simpa using (hG.kept kk).cell 0⟩
                        | 1, _ => exact ⟨_, fun w kk => by simpa using (hG.kept kk).cell 1⟩
                        | 2, _ => exact ⟨_, fun w kk => by simpa using (hG.kept kk).cell 2⟩
                        | 3, _ => exact ⟨_, fun w kk => by simpa using (hG.kept kk).cell 3⟩
                      have HXS := Lib.hid hxs
                      have HKg := Lib.hid (HKya.out.trans kg)
                      have HKgl := Lib.hid (HKy.out.trans kg)
                      clear hxs kg hG a0 a1 a2' a3 c0 c1 c2'
                      generalize wy.heap.size = H at *
                      go_wp2_with fail
                      go_loopw [15] (fun i wr => ∃ qz : Nat, qz ≤ 4 ∧ i = .int .i64 qz ∧ Kept wg wr) (fun i _ => 4 - (intOf i).toNat)
                      case atStart => exact ⟨0, by omega, rfl, Kept.refl _⟩
                      case round =>
                        obtain ⟨qz, hqz, rfl, hkz⟩ := hrel
                        have HKzl := Lib.hid hkz
                        have HKz := Lib.hid (HKg.out.trans hkz)
                        clear hkz
                        obtain ⟨wz, rfl⟩ : ∃ wz : World, wz = wr := ⟨_, rfl⟩
                        by_cases hq4 : qz < 4
                        · have hdq : decide ((qz : Int) < 4) = true := decide_eq_true (by omega)
                          obtain ⟨x, hx⟩ := HXS.out qz hq4
                          have HXC0 := Lib.hid hx
                          clear hx
                          have HZS := Lib.hid (HZS0.out.kept HKgl.out)
                          as_aux_lemma =>
                            have hji : (jz : Int) < 2 := by omega
                            have hqi : (qz : Int) < 4 := by omega
                            have HJL := Lib.hid (fun (u : Later wz) => join_bad k m s x a2 l2 c2 zs u.1 (HZS.out.kept (HKzl.out.trans u.2)) hl6 (fun e => hs e.1))
                            rw [show (ByteArray.empty : ByteArray) = ⟨#[]⟩ from rfl] at HJL
                            obtain ⟨c0, c1, c2'⟩ := HS4.out _ HKz.out
                            have cl := HLC0.out _ (HKgl.out.trans HKzl.out)
                            have cx := HXC0.out _ HKzl.out
                            have lc0 := later_cell c0
                            have lc1 := later_cell c1
                            have lc2 := later_cell c2'
                            have lcl := later_cell cl
                            have lcx := later_cell cx
                            clear c0 c1 c2' cl cx
                            go_wp2_with fail
                            refine region_later (by kernel_rfl) (by kernel_rfl) ?_
                            repeat (go_big_quiet_step ((go_at_call 25; exact later_call (HJL.out _))))
                            refine wpQuiet_nil ?_
                            intro _ hw'
                            obtain ⟨nq, hw''⟩ := hw'
                            subst hw''
                            have HKv := Lib.hid (HKz.out.trans nq.2)
                            have HKvl := Lib.hid (HKzl.out.trans nq.2)
                            clear lc0 lc1 lc2 lcl lcx
                            generalize nq.1 = wv at *
                            obtain ⟨c0, c1, c2'⟩ := HS4.out _ HKv.out
                            have cl := HLC0.out _ (HKgl.out.trans HKvl.out)
                            have cx := HXC0.out _ HKvl.out
                            have lc0 := later_cell c0
                            have lc1 := later_cell c1
                            have lc2 := later_cell c2'
                            have lcl := later_cell cl
                            have lcx := later_cell cx
                            clear c0 c1 c2' cl cx
                            go_wp2_with fail
                            refine region_later (by kernel_rfl) (by kernel_rfl) ?_
                            repeat (go_big_quiet_step (fail))
                            refine wpQuiet_nil ?_
                            intro _ hw'
                            obtain ⟨nq, hw''⟩ := hw'
                            subst hw''
                            have HKu := Lib.hid (HKv.out.trans nq.2)
                            have HKe := Lib.hid (HKvl.out.trans nq.2)
                            clear lc0 lc1 lc2 lcl lcx
                            generalize nq.1 = wu at *
                            go_wp2_with fail
                            refine (num7_any _ _).mono ?_
                            rintro e w' ⟨rfl, rfl⟩
                            go_wp2
                            go_roundw
                            case rel => exact ⟨qz + 1, by omega, by go_num, HKe.out⟩
                            case measure => simp [intOf]; omega
                        · obtain rfl : qz = 4 := by omega
                          go_wp2
                          go_roundw
                          case rel => exact ⟨jz + 1, by omega, by go_num, HKgl.out.trans HKzl.out⟩
                          case measure => simp [intOf]; omega
                    · have hdj : decide ((jz : Int) < 2) = false := decide_eq_false (by omega)
                      go_wp2
                      go_roundw
                      case rel => exact ⟨y + 1, by omega, by go_num, HKya.out⟩
                      case measure => simp [intOf]; omega
              · have hdy : decide ((y : Int) < ll) = false := decide_eq_false (by omega)
                go_wp2
                go_roundw
                case rel => exact ⟨j + 1, by omega, by go_num, HKa.out.trans HKx.out⟩
                case measure => simp [intOf]; omega
        · have hd1 : decide ((j : Int) < ls) = true := decide_eq_true (by omega)
          have hd2 : decide ((j : Int) < 4) = false := decide_eq_false (by omega)
          go_wp2_with fail
          refine (wakes7_any _).mono ?_
          rintro e w3 ⟨rfl, hk3⟩
          have HK3 := Lib.hid (HK.out.trans hk3)
          clear hk3 a0 a1 a2 a3
          go_wp2
          go_ret
          exact ⟨rfl, HK1.out.trans HK3.out⟩
      · have hd1 : decide ((j : Int) < ls) = false := decide_eq_false (by omega)
        go_wp2_with fail
        refine (wakes7_any _).mono ?_
        rintro e w3 ⟨rfl, hk3⟩
        have HK3 := Lib.hid (HK.out.trans hk3)
        clear hk3 a0 a1 a2 a3
        go_wp2
        go_ret
        exact ⟨rfl, HK1.out.trans HK3.out⟩
end Go.Proofs.Ytlncjheifkbomaa
