/- Contracts of the code and of the reference, laid into one file: part 10 (what each says stands at its head). -/
import Derived.Test.YtoonpnpooljmlaaQa9

namespace Go.Proofs.Ytoonpnpooljmlaa
open Go.RowKit Go.Shelf
attribute [local go_sem] Oper.semAt_some

theorem Try.infoLs : (Try.prog.info? 23).map (fun i => (i.zero, i.size, i.bytes)) = some (some (.slice none 0 0), 1, 24) := by kernel_rfl
theorem shape_nat {k m s : Int} (h : shpB k m s = true) : ∃ K M S : Nat, k = K ∧ m = M ∧ s = S ∧ (1 ≤ K ∧ K ≤ 8 ∧ M ≤ 6) ∧ (1 ≤ S ∧ S ≤ 120) := by
  obtain ⟨h1, h2, h3, h4, h5, h6⟩ := shpB_true h
  exact ⟨k.toNat, m.toNat, s.toNat, by omega, by omega, by omega, by omega, by omega⟩
/-- a list of texts, as a value -/
def LT (w : World) (u : Value) : Prop := ∃ a l cap X, u = .slice a l cap ∧ StrsIn w a l X ∧ l ≤ 4000 ∧ l ≤ cap
theorem LT.kept {w w' : World} {u : Value} (h : LT w u) (k : Kept w w') : LT w' u := by
  obtain ⟨a, l, cap, X, e, h1, h2⟩ := h
  exact ⟨a, l, cap, X, e, h1.kept k, h2⟩
/-- so many lists of texts in a block -/
structure LL (w : World) (g N : Nat) : Prop where
  lt : g < w.heap.size
  cell : ∀ i, i < N → ∃ u, w.cell? ⟨g, i, none⟩ = some u ∧ LT w u
theorem LL.kept {w w' : World} {g N : Nat} (h : LL w g N) (k : Kept w w') : LL w' g N :=
  ⟨Nat.lt_of_lt_of_le h.lt k.size, fun i hi => by
    obtain ⟨u, h1, h2⟩ := h.cell i hi
    exact ⟨u, k.cell h.lt h1, h2.kept k⟩⟩
theorem block_list {w : World} {g : Nat} {C : Array Value} {t : TypeId} (h : BlockAt w g C t) : ∀ j u, C.toList[j]? = some u → w.cell? ((⟨g, 0, none⟩ : Addr).add j) = some u := fun j u hj => by
  have e : (⟨g, 0, none⟩ : Addr).add j = ⟨g, j, none⟩ := by unfold Addr.add; split <;> simp_all
  rw [e, h.cell j]
  simpa using hj
theorem ll_of_own {w : World} {base : Nat} {e : TypeId} {v u0 u1 u2 : Value} (h : w.ownsRow base e 1 v 3 [u0, u1, u2]) (h0 : LT w u0) (h1 : LT w u1) (h2 : LT w u2) : ∃ g cap, v = .slice (some ⟨g, 0, none⟩) 3 cap ∧ LL w g 3 := by
  rcases h.2 with ⟨_, h⟩ | ⟨g, cap, cur, rfl, hb, hg, hn, hm, _⟩
  · cases h
  · refine ⟨g, cap, rfl, (h.lt g rfl).2, fun i hi => ?_⟩
    have hc := h.cellAt i (by omega)
    match i, hi with
    | 0, _ => exact ⟨u0, hc, h0⟩
    | 1, _ => exact ⟨u1, hc, h1⟩
    | 2, _ => exact ⟨u2, hc, h2⟩
theorem strs_nil4 (w : World) : StrsIn w none 0 [] := ⟨rfl, by omega, (fun s hs => by cases hs), 0, 0, fun h => absurd h (Nat.lt_irrefl 0), fun i hi => absurd hi (Nat.not_lt_zero i)⟩
theorem spoil_txt (g l cap : Nat) (G : Nat → ByteArray) (hl : l ≤ 100000) (w : World) (h : Txt w g l G) :
    Calls Try.prog 23 #[.slice (some ⟨g, 0, none⟩) l cap] w fun e w' => (∃ u, e = .returned u) ∧ w.grownBy w' (some g) := by
  have HM := Lib.hid h
  clear h
  go_enter Try.func23, Try.ntmps23
  go_wp2_with fail
  go_loopw [2] (fun i wr => ∃ (k : Nat), k ≤ l ∧ i = .int .i64 k ∧ (∃ cs, BlockAt wr g cs 9) ∧ (∀ j, k ≤ j → j < l → wr.cell? ⟨g, j, none⟩ = some (.string (G j))) ∧ w.grownBy wr (some g)) (fun i _ => l - (intOf i).toNat)
  case atStart => exact ⟨0, by omega, rfl, HM.out.blk, fun j _ hj => HM.out.cell j hj, grown_refl _ _⟩
  case round =>
    obtain ⟨k, hk, rfl, ⟨cs, hb⟩, hc, hg⟩ := hrel
    by_cases hlt : k < l
    · have hcell := hc k (Nat.le_refl k) hlt
      have hfree := hb.free k
      have HB := Lib.hid hb
      have HC := Lib.hid hc
      have HG := Lib.hid hg
      clear hb hc hg
      go_wp2_with fail
      go_roundw
      case rel => exact ⟨k + 1, by omega, by go_num, ⟨_, HB.out.set _⟩, fun j h1 h2 => by
        rw [World.cell?_setCell_other (h := fun e => by have := (Addr.mk.inj e).2.1; omega)]
        exact HC.out j (by omega) h2, grown_trans HG.out (grown_set _ _ _ _)⟩
      case measure => simp [intOf]; omega
    · have HG := Lib.hid hg
      clear hb hc hg
      go_wp2
      go_end0
      exact ⟨⟨_, rfl⟩, HG.out⟩
theorem spoil_none (cap : Nat) (a : Option Addr) (w : World) : Calls Try.prog 23 #[.slice a 0 cap] w fun e w' => (∃ u, e = .returned u) ∧ Kept w w' := by
  go_enter Try.func23, Try.ntmps23
  go_wp2_with fail
  go_loopw [2] (fun i wr => i = .int .i64 0 ∧ w = wr) (fun _ _ => 0)
  case atStart => exact ⟨rfl, rfl⟩
  case round =>
    obtain ⟨rfl, rfl⟩ := hrel
    go_wp2
    go_end0
    exact ⟨⟨_, rfl⟩, Kept.refl _⟩
set_option maxRecDepth 100000 in
set_option maxHeartbeats 8000000 in
theorem code_encodes (ax : Option Addr) (ls cs : Nat) (al : Option Addr) (ll cl : Nat) (ss : List ByteArray) (ab : Option Addr) (lb cb : Nat) (W : World) (h : AskC W ax ls cs al ll cl ss) :
    Calls Try.prog 3 #[.agg #[.slice ax ls cs, .slice al ll cl, .slice ab lb cb]] W fun e W' => e = .returned (.bool true) ∧ Kept W W' := by
  obtain ⟨iL, hi, hz0, hz1, hz2⟩ := info_parts Try.infoLs
  have HIL := Lib.hid (And.intro hi (And.intro hz0 (And.intro hz1 hz2)))
  have HA := Lib.hid h
  clear h hi hz0 hz1 hz2
  have HK1 := Lib.hid ((Kept.refl W).alloc (.cells #[.slice ax ls cs, .slice al ll cl, .slice ab lb cb] 26))
  have hB1 := BlockAt.new W #[.slice ax ls cs, .slice al ll cl, .slice ab lb cb] 26
  go_enter Try.func3, Try.ntmps3
  go_upto_region 1 with (fail)
  generalize W.alloc (.cells #[.slice ax ls cs, .slice al ll cl, .slice ab lb cb] 26) = w1 at *
  have HREAD := Lib.hid (show ∀ w, Kept w1 w → w.cell? ⟨W.heap.size, 0, none⟩ = some (.slice ax ls cs) ∧ w.cell? ⟨W.heap.size, 1, none⟩ = some (.slice al ll cl) ∧ w.cell? ⟨W.heap.size, 2, none⟩ = some (.slice ab lb cb) from fun w k => box3c (hB1.kept k))
  clear hB1
  obtain ⟨a0, a1, a2⟩ := HREAD.out _ (Kept.refl _)
  go_wp2_with fail
  refine (heavy4_any ax ls cs al ll cl ss ab lb cb _ (HA.out.kept HK1.out)).mono ?_
  rintro e w2 ⟨he, hk2⟩
  have HK2 := Lib.hid hk2
  clear hk2 a0 a1 a2
  rcases he with rfl | ⟨rfl, hll, hls, hsz⟩
  · go_wp2
    go_ret
    exact ⟨rfl, HK1.out.trans HK2.out⟩
  · have HSZ := Lib.hid hsz
    clear hsz
    have HLT0 := Lib.hid (show ∀ w, Kept w1 w → LT w (.slice al ll cl) from fun w k => ⟨al, ll, cl, ss, rfl, ((HA.out.kept HK1.out).kept k).texts.strs, hll, HA.out.texts.le_cap⟩)
    go_wp2_with fail
    go_loopw [3] (fun i wr => ∃ j : Nat, j ≤ ls ∧ i = .int .i64 j ∧ Kept w1 wr) (fun i _ => ls - (intOf i).toNat)
    case atStart => exact ⟨0, by omega, rfl, HK2.out⟩
    case round =>
      obtain ⟨j, hj, rfl, hK⟩ := hrel
      have HK := Lib.hid hK
      clear hK
      obtain ⟨a0, a1, a2⟩ := HREAD.out _ HK.out
      by_cases hjl : j < ls
      · by_cases hj4 : j < 4
        · obtain ⟨b, off, rfl, hc⟩ := HA.out.shapes.cell (by omega)
          obtain ⟨k, m, s, hkb, hcell⟩ := hc j hjl
          obtain ⟨c0, c1, c2⟩ := hcell _ (HK1.out.trans HK.out)
          clear hc hcell
          have hd1 : decide ((j : Int) < ls) = true := decide_eq_true (by omega)
          have hd2 : decide ((j : Int) < 4) = true := decide_eq_true (by omega)
          go_upto_region 7 with (fail)
          have HB4 := Lib.hid (BlockAt.new wr #[.int .i64 k, .int .i64 m, .int .i64 s] 29)
          have k4 : Kept wr (wr.alloc (.cells #[.int .i64 k, .int .i64 m, .int .i64 s] 29)) := (Kept.refl wr).alloc _
          generalize wr.alloc (.cells #[.int .i64 k, .int .i64 m, .int .i64 s] 29) = wa at *
          have HKa := Lib.hid (HK.out.trans k4)
          clear k4 a0 a1 a2 c0 c1 c2
          generalize wr.heap.size = p4 at *
          obtain ⟨c0, c1, c2⟩ := box3c HB4.out
          go_wp2_with fail
          refine (shape_ref k m s _).mono ?_
          rintro e wb ⟨rfl, hkb7⟩
          have HKb := Lib.hid hkb7
          have HB5 := Lib.hid (HB4.out.kept hkb7)
          obtain ⟨c0, c1, c2⟩ := box3c HB5.out
          clear hkb7 HB4
          by_cases hB : shpB k m s = true
          · obtain ⟨K, M, S, rfl, rfl, rfl, hK1, hS1⟩ := shape_nat hB
            have HSB := Lib.hid hB
            have HSE := Lib.hid (show shpE (K : Int) (M : Int) (S : Int) = 0 by unfold shpE; rw [if_pos hB])
            rw [hB]
            clear hB
            obtain ⟨H, hH⟩ : ∃ H, H = K + M := ⟨_, rfl⟩
            have HH := Lib.hid hH
            have hH14 : 1 ≤ H ∧ H ≤ 14 := by omega
            clear hH
            go_wp2_with fail
            refine (cmatrix_any K M H S HH.out hK1 hS1 _).mono ?_
            rintro e wc ⟨bm, om, rfl, hbm, hmm, hkc⟩
            have HM6 := Lib.hid hmm
            have HKc := Lib.hid (HKb.out.trans hkc)
            have HB6 := Lib.hid (HB5.out.kept hkc)
            clear hmm hkc c0 c1 c2
            go_upto_region 9 with (fail)
            have HX6 := Lib.hid (BlockAt.new wc #[.int .i64 H, .int .i64 K, .slice (some ⟨bm, om, none⟩) (H * K) (H * K)] 33)
            have k6 := (Kept.refl wc).alloc (.cells #[.int .i64 H, .int .i64 K, .slice (some ⟨bm, om, none⟩) (H * K) (H * K)] 33)
            have HM7 := Lib.hid (HM6.out.kept k6)
            have HB7 := Lib.hid (HB6.out.kept k6)
            have HKd := Lib.hid ((HKa.out.trans HKc.out).trans k6)
            generalize wc.alloc (.cells #[.int .i64 H, .int .i64 K, .slice (some ⟨bm, om, none⟩) (H * K) (H * K)] 33) = wd at *
            generalize wc.heap.size = p6 at *
            clear k6 HM6 HB6 HB5
            go_upto_region 11 with (fail)
            have HZ9 := Lib.hid (BlockAt.new wd #[.int .i64 0, .int .i64 0, .slice none 0 0] 33)
            have k9 := (Kept.refl wd).alloc (.cells #[.int .i64 0, .int .i64 0, .slice none 0 0] 33)
            have HK9 := Lib.hid k9
            obtain ⟨a0, a1, a2⟩ := HREAD.out _ (HKd.out.trans k9)
            have hp9 : wd.heap.size < (wd.alloc (.cells #[.int .i64 0, .int .i64 0, .slice none 0 0] 33)).heap.size := by simp
            generalize wd.alloc (.cells #[.int .i64 0, .int .i64 0, .slice none 0 0] 33) = we at *
            clear k9
            go_upto_region 12 with (fail)
            have HG0 := Lib.hid (BlockAt.new we #[.slice al ll cl] 23)
            have kg := (Kept.refl we).alloc (.cells #[.slice al ll cl] 23)
            have HKg := Lib.hid kg
            have HZA := Lib.hid (HZ9.out.kept kg)
            generalize we.alloc (.cells #[.slice al ll cl] 23) = wg at *
            obtain ⟨g0, hg0⟩ : ∃ g, g = we.heap.size := ⟨_, rfl⟩
            rw [← hg0] at HG0 ⊢
            obtain ⟨p9, hp9'⟩ : ∃ p, p = wd.heap.size := ⟨_, rfl⟩
            rw [← hp9'] at HZA HZ9 hp9 ⊢
            have hg9 : p9 < g0 := by omega
            have HP9 := Lib.hid hp9'
            obtain ⟨c0, c1, c2⟩ := box3c (HB7.out.kept (HK9.out.trans kg))
            clear kg hg0 hp9' a0 a1 a2 HZ9
            go_wp2_with fail
            refine (rmatrix_any K M H S HH.out hK1 _).mono ?_
            rintro e wh ⟨gr, rfl, hgr, hmr, hkh⟩
            have HMR := Lib.hid hmr
            have HZB := Lib.hid (HZA.out.kept hkh)
            have HGB := Lib.hid (HG0.out.kept hkh)
            have HKh := Lib.hid ((HK9.out.trans HKg.out).trans hkh)
            have hgr9 : p9 < gr := by have := HG0.out.lt; omega
            clear hmr hkh c0 c1 c2 HZA HG0
            go_wp2_with (refine wpList_store_block rfl 33 (.tmp 9) (.tmp 46) rfl _ #[.int .i64 H, .int .i64 K, .slice (some ⟨gr, 0, none⟩) (H * K) (H * K)] #[.int .i64 0, .int .i64 0, .slice none 0 0] 33 rfl rfl HZB.out Try.infoMat rfl (one3 _ _ _ _ _) ?_)
            have g2 := grown_row wh p9 #[.int .i64 H, .int .i64 K, .slice (some ⟨gr, 0, none⟩) (H * K) (H * K)]
            have HX9 := Lib.hid (HZB.out.setRow #[.int .i64 H, .int .i64 K, .slice (some ⟨gr, 0, none⟩) (H * K) (H * K)])
            have HMS := Lib.hid (HMR.out.grown g2 (fun e => by have := Option.some.inj e; omega))
            have HGC := Lib.hid (block_grown HGB.out g2 (fun e => by have := Option.some.inj e; omega))
            have HKi := Lib.hid (show Kept wd _ from Kept.grown HKh.out g2 (fun q e => by cases e; have := HP9.out; omega))
            generalize wh.setRow _ _ = wi at *
            obtain ⟨a0, a1, a2⟩ := HREAD.out _ (HKd.out.trans HKi.out)
            obtain ⟨c0, c1, c2⟩ := box3c (HB7.out.kept HKi.out)
            have HRW := Lib.hid (show ∀ w, Kept wi w → w.cell? ⟨W.heap.size, 1, none⟩ = some (.slice al ll cl) from fun w q => (HREAD.out _ ((HKd.out.trans HKi.out).trans q)).2.1)
            have HBW := Lib.hid (show ∀ w, Kept wi w → w.cell? ⟨p4, 0, none⟩ = some (.int .i64 K) ∧ w.cell? ⟨p4, 1, none⟩ = some (.int .i64 M) ∧ w.cell? ⟨p4, 2, none⟩ = some (.int .i64 S) from fun w q => box3c ((HB7.out.kept HKi.out).kept q))
            have HTW := Lib.hid (show ∀ w, Kept wi w → LT w (.slice al ll cl) from fun w q => HLT0.out _ ((HKd.out.trans HKi.out).trans q))
            have HFA := Lib.hid (show ∀ w, Kept wi w → Calls Try.prog 14 #[.slice al ll cl, .int .i64 K, .int .i64 S] w (FittedP w K S) from fun w q => fitted_any al ll cl ss K S w (((HA.out.kept HK1.out).kept ((HKd.out.trans HKi.out).trans q)).texts.strs) (by omega) (fun i hi => Nat.le_trans (HSZ.out i hi) (by decide)) (by omega) hS1)
            have HFB := Lib.hid (show ∀ w, Kept wi w → Calls Try.prog 14 #[.slice al ll cl, .int .i64 ((K : Int) + 1), .int .i64 S] w (FittedP w (K + 1) S) from fun w q => by
              have e : ((K + 1 : Nat) : Int) = (K : Int) + 1 := by omega
              rw [← e]
              exact fitted_any al ll cl ss (K + 1) S w (((HA.out.kept HK1.out).kept ((HKd.out.trans HKi.out).trans q)).texts.strs) (by omega) (fun i hi => Nat.le_trans (HSZ.out i hi) (by decide)) (by omega) hS1)
            have hK9 : K + 1 ≤ 4000 := by omega
            have HWR := Lib.hid (show IntKind.i64.wrap ((K : Int) + 1) = (K : Int) + 1 from IntWalk.i64_in _ (by omega))
            clear g2 HMR HZB HGB a0 a1 a2 c0 c1 c2
            go_wp2_with fail
            refine Pj.wp_region_step (fun az0 L az w => ∃ V : Nat → Value, az = Pj.puts [(47, 0), (48, 1), (49, 2), (50, 3), (51, 4), (52, 5), (53, 6), (54, 7), (55, 8), (56, 9), (57, 10), (58, 11), (59, 12), (60, 13), (61, 14), (62, 15), (63, 16), (64, 17), (10, 18)] V az0 ∧ Pj.J wi [Pj.Is (.slice (some ⟨g0, 0, none⟩) 1 1), Pj.Is (.pointer (some ⟨W.heap.size, 1, none⟩)), Pj.Is (.slice al ll cl), Pj.Is (.pointer (some ⟨p4, 0, none⟩)), Pj.Is (.int .i64 K), Pj.Is (.pointer (some ⟨p4, 2, none⟩)), Pj.Is (.int .i64 S), (fun w v => ∃ a l cap X, v = .slice a l cap ∧ StrsIn w a l X ∧ l ≤ 4000 ∧ l ≤ cap), Pj.Is (.pointer (some ⟨W.heap.size, 1, none⟩)), Pj.Is (.slice al ll cl), Pj.Is (.pointer (some ⟨p4, 0, none⟩)), Pj.Is (.int .i64 K), Pj.Is (.int .i64 ((K : Int) + 1)), Pj.Is (.pointer (some ⟨p4, 2, none⟩)), Pj.Is (.int .i64 S), (fun w v => ∃ a l cap X, v = .slice a l cap ∧ StrsIn w a l X ∧ l ≤ 4000 ∧ l ≤ cap), (fun w v => ∃ g u1 u2, v = .slice (some ⟨g, 0, none⟩) 2 2 ∧ BlockAt w g #[u1, u2] 23 ∧ LT w u1 ∧ LT w u2), (fun w v => ∃ g cap, v = .slice (some ⟨g, 0, none⟩) 3 cap ∧ LL w g 3), (fun w v => ∃ g cap, v = .slice (some ⟨g, 0, none⟩) 3 cap ∧ LL w g 3)] L V w ∧ (¬ L 18 → V 18 = .slice (some ⟨g0, 0, none⟩) 1 1) ∧ (L 18 → L 0)) (by as_aux_lemma => kernel_rfl) (by as_aux_lemma => kernel_rfl) ?eh0 ?ehs ?ehe
            case eh0 =>
              intro L hL
              exact ⟨_, Pj.puts_self _ (fun j => ([47, 48, 49, 50, 51, 52, 53, 54, 55, 56, 57, 58, 59, 60, 61, 62, 63, 64, 10] : List Nat).getD j 0) [0, 1, 2, 3, 4, 5, 6, 7, 8, 9, 10, 11, 12, 13, 14, 15, 16, 17, 18], Pj.J.none (n := 19) (Nat.le_refl _) hL ((Kept.refl _).drew), fun _ => rfl, fun h => absurd h (hL 18 (by decide))⟩
            case ehs =>
              rintro L L' az w iz opz Kq ⟨V, rfl, hJ, hi18, hl18_0⟩ ho hopen hdep hL hKq
              have hP : Pj.AllStay [Pj.Is (.slice (some ⟨g0, 0, none⟩) 1 1), Pj.Is (.pointer (some ⟨W.heap.size, 1, none⟩)), Pj.Is (.slice al ll cl), Pj.Is (.pointer (some ⟨p4, 0, none⟩)), Pj.Is (.int .i64 K), Pj.Is (.pointer (some ⟨p4, 2, none⟩)), Pj.Is (.int .i64 S), (fun w v => ∃ a l cap X, v = .slice a l cap ∧ StrsIn w a l X ∧ l ≤ 4000 ∧ l ≤ cap), Pj.Is (.pointer (some ⟨W.heap.size, 1, none⟩)), Pj.Is (.slice al ll cl), Pj.Is (.pointer (some ⟨p4, 0, none⟩)), Pj.Is (.int .i64 K), Pj.Is (.int .i64 ((K : Int) + 1)), Pj.Is (.pointer (some ⟨p4, 2, none⟩)), Pj.Is (.int .i64 S), (fun w v => ∃ a l cap X, v = .slice a l cap ∧ StrsIn w a l X ∧ l ≤ 4000 ∧ l ≤ cap), (fun w v => ∃ g u1 u2, v = .slice (some ⟨g, 0, none⟩) 2 2 ∧ BlockAt w g #[u1, u2] 23 ∧ LT w u1 ∧ LT w u2), (fun w v => ∃ g cap, v = .slice (some ⟨g, 0, none⟩) 3 cap ∧ LL w g 3), (fun w v => ∃ g cap, v = .slice (some ⟨g, 0, none⟩) 3 cap ∧ LL w g 3)] := ⟨Pj.Is.stays _, Pj.Is.stays _, Pj.Is.stays _, Pj.Is.stays _, Pj.Is.stays _, Pj.Is.stays _, Pj.Is.stays _, fun _ _ _ ⟨a, l, cap, X, e, h1, h2⟩ q => ⟨a, l, cap, X, e, h1.kept q, h2⟩, Pj.Is.stays _, Pj.Is.stays _, Pj.Is.stays _, Pj.Is.stays _, Pj.Is.stays _, Pj.Is.stays _, Pj.Is.stays _, fun _ _ _ ⟨a, l, cap, X, e, h1, h2⟩ q => ⟨a, l, cap, X, e, h1.kept q, h2⟩, fun _ _ _ ⟨g, u1, u2, e, h1, h2, h3⟩ q => ⟨g, u1, u2, e, h1.kept q, h2.kept q, h3.kept q⟩, fun _ _ _ ⟨g, cap, e, h⟩ q => ⟨g, cap, e, h.kept q⟩, fun _ _ _ ⟨g, cap, e, h⟩ q => ⟨g, cap, e, h.kept q⟩, trivial⟩
              have HP := Lib.hid hP
              clear hP
              match iz, ho with
              | 0, ho =>
                simp only [List.getElem?_toArray, List.getElem?_cons_zero, Option.some.injEq] at ho
                have ei18 : V 18 = .slice (some ⟨g0, 0, none⟩) 1 1 := hi18 (fun h => hopen (hl18_0 h))
                have HJ := Lib.hid hJ
                clear hJ
                subst ho
                refine Pj.Step.free rfl ?_
                simp only [Pj.puts, List.foldl_cons, List.foldl_nil, Act.put, List.setIfInBounds_toArray, List.set_cons_zero, List.set_cons_succ, ei18]
                go_simp
                exact hKq _ _ ⟨Pj.vset V 0 (.slice (some ⟨g0, 0, none⟩) 1 1), by simp only [Pj.puts, List.foldl_cons, List.foldl_nil, Act.put, List.setIfInBounds_toArray, List.set_cons_zero, List.set_cons_succ, Pj.vset, Nat.reduceEqDiff, if_true, if_false, ei18], HJ.out.more HP.out hL (Kept.refl _) (rfl), fun h => by rw [Pj.vset_other _ _ (by decide)]; exact hi18 (fun q => h ((hL 18).2 (.inr q))), fun h => (hL 0).2 (((hL 18).1 h).elim (fun e => absurd e (by decide)) (fun q => .inr (hl18_0 q)))⟩
              | 1, ho =>
                simp only [List.getElem?_toArray, List.getElem?_cons_zero, List.getElem?_cons_succ, Option.some.injEq] at ho
                have HJ := Lib.hid hJ
                clear hJ
                subst ho
                refine Pj.Step.free rfl ?_
                simp only [Pj.puts, List.foldl_cons, List.foldl_nil, Act.put, List.setIfInBounds_toArray, List.set_cons_zero, List.set_cons_succ]
                go_simp
                exact hKq _ _ ⟨Pj.vset V 1 (.pointer (some ⟨W.heap.size, 1, none⟩)), by simp only [Pj.puts, List.foldl_cons, List.foldl_nil, Act.put, List.setIfInBounds_toArray, List.set_cons_zero, List.set_cons_succ, Pj.vset, Nat.reduceEqDiff, if_true, if_false], HJ.out.more HP.out hL (Kept.refl _) (rfl), fun h => by rw [Pj.vset_other _ _ (by decide)]; exact hi18 (fun q => h ((hL 18).2 (.inr q))), fun h => (hL 0).2 (((hL 18).1 h).elim (fun e => absurd e (by decide)) (fun q => .inr (hl18_0 q)))⟩
              | 2, ho =>
                simp only [List.getElem?_toArray, List.getElem?_cons_zero, List.getElem?_cons_succ, Option.some.injEq] at ho
                have e1 : V 1 = .pointer (some ⟨W.heap.size, 1, none⟩) := hJ.h 1 (hdep 1 (by rw [← ho]; kernel_rfl))
                have hrw := HRW.out _ hJ.kp
                have HJ := Lib.hid hJ
                clear hJ
                subst ho
                refine Pj.Step.free rfl ?_
                simp only [Pj.puts, List.foldl_cons, List.foldl_nil, Act.put, List.setIfInBounds_toArray, List.set_cons_zero, List.set_cons_succ, e1]
                go_simp
                exact hKq _ _ ⟨Pj.vset V 2 (.slice al ll cl), by simp only [Pj.puts, List.foldl_cons, List.foldl_nil, Act.put, List.setIfInBounds_toArray, List.set_cons_zero, List.set_cons_succ, Pj.vset, Nat.reduceEqDiff, if_true, if_false, e1], HJ.out.more HP.out hL (Kept.refl _) (rfl), fun h => by rw [Pj.vset_other _ _ (by decide)]; exact hi18 (fun q => h ((hL 18).2 (.inr q))), fun h => (hL 0).2 (((hL 18).1 h).elim (fun e => absurd e (by decide)) (fun q => .inr (hl18_0 q)))⟩
              | 3, ho =>
                simp only [List.getElem?_toArray, List.getElem?_cons_zero, List.getElem?_cons_succ, Option.some.injEq] at ho
                have HJ := Lib.hid hJ
                clear hJ
                subst ho
                refine Pj.Step.free rfl ?_
                simp only [Pj.puts, List.foldl_cons, List.foldl_nil, Act.put, List.setIfInBounds_toArray, List.set_cons_zero, List.set_cons_succ]
                go_simp
                exact hKq _ _ ⟨Pj.vset V 3 (.pointer (some ⟨p4, 0, none⟩)), by simp only [Pj.puts, List.foldl_cons, List.foldl_nil, Act.put, List.setIfInBounds_toArray, List.set_cons_zero, List.set_cons_succ, Pj.vset, Nat.reduceEqDiff, if_true, if_false], HJ.out.more HP.out hL (Kept.refl _) (rfl), fun h => by rw [Pj.vset_other _ _ (by decide)]; exact hi18 (fun q => h ((hL 18).2 (.inr q))), fun h => (hL 0).2 (((hL 18).1 h).elim (fun e => absurd e (by decide)) (fun q => .inr (hl18_0 q)))⟩
              | 4, ho =>
                simp only [List.getElem?_toArray, List.getElem?_cons_zero, List.getElem?_cons_succ, Option.some.injEq] at ho
                have e3 : V 3 = .pointer (some ⟨p4, 0, none⟩) := hJ.h 3 (hdep 3 (by rw [← ho]; kernel_rfl))
                obtain ⟨d0, d1, d2⟩ := HBW.out _ hJ.kp
                have HJ := Lib.hid hJ
                clear hJ
                subst ho
                refine Pj.Step.free rfl ?_
                simp only [Pj.puts, List.foldl_cons, List.foldl_nil, Act.put, List.setIfInBounds_toArray, List.set_cons_zero, List.set_cons_succ, e3]
                go_simp
                exact hKq _ _ ⟨Pj.vset V 4 (.int .i64 K), by simp only [Pj.puts, List.foldl_cons, List.foldl_nil, Act.put, List.setIfInBounds_toArray, List.set_cons_zero, List.set_cons_succ, Pj.vset, Nat.reduceEqDiff, if_true, if_false, e3], HJ.out.more HP.out hL (Kept.refl _) (rfl), fun h => by rw [Pj.vset_other _ _ (by decide)]; exact hi18 (fun q => h ((hL 18).2 (.inr q))), fun h => (hL 0).2 (((hL 18).1 h).elim (fun e => absurd e (by decide)) (fun q => .inr (hl18_0 q)))⟩
              | 5, ho =>
                simp only [List.getElem?_toArray, List.getElem?_cons_zero, List.getElem?_cons_succ, Option.some.injEq] at ho
                have HJ := Lib.hid hJ
                clear hJ
                subst ho
                refine Pj.Step.free rfl ?_
                simp only [Pj.puts, List.foldl_cons, List.foldl_nil, Act.put, List.setIfInBounds_toArray, List.set_cons_zero, List.set_cons_succ]
                go_simp
                exact hKq _ _ ⟨Pj.vset V 5 (.pointer (some ⟨p4, 2, none⟩)), by simp only [Pj.puts, List.foldl_cons, List.foldl_nil, Act.put, List.setIfInBounds_toArray, List.set_cons_zero, List.set_cons_succ, Pj.vset, Nat.reduceEqDiff, if_true, if_false], HJ.out.more HP.out hL (Kept.refl _) (rfl), fun h => by rw [Pj.vset_other _ _ (by decide)]; exact hi18 (fun q => h ((hL 18).2 (.inr q))), fun h => (hL 0).2 (((hL 18).1 h).elim (fun e => absurd e (by decide)) (fun q => .inr (hl18_0 q)))⟩
              | 6, ho =>
                simp only [List.getElem?_toArray, List.getElem?_cons_zero, List.getElem?_cons_succ, Option.some.injEq] at ho
                have e5 : V 5 = .pointer (some ⟨p4, 2, none⟩) := hJ.h 5 (hdep 5 (by rw [← ho]; kernel_rfl))
                obtain ⟨d0, d1, d2⟩ := HBW.out _ hJ.kp
                have HJ := Lib.hid hJ
                clear hJ
                subst ho
                refine Pj.Step.free rfl ?_
                simp only [Pj.puts, List.foldl_cons, List.foldl_nil, Act.put, List.setIfInBounds_toArray, List.set_cons_zero, List.set_cons_succ, e5]
                go_simp
                exact hKq _ _ ⟨Pj.vset V 6 (.int .i64 S), by simp only [Pj.puts, List.foldl_cons, List.foldl_nil, Act.put, List.setIfInBounds_toArray, List.set_cons_zero, List.set_cons_succ, Pj.vset, Nat.reduceEqDiff, if_true, if_false, e5], HJ.out.more HP.out hL (Kept.refl _) (rfl), fun h => by rw [Pj.vset_other _ _ (by decide)]; exact hi18 (fun q => h ((hL 18).2 (.inr q))), fun h => (hL 0).2 (((hL 18).1 h).elim (fun e => absurd e (by decide)) (fun q => .inr (hl18_0 q)))⟩
              | 7, ho =>
                simp only [List.getElem?_toArray, List.getElem?_cons_zero, List.getElem?_cons_succ, Option.some.injEq] at ho
                have e2 : V 2 = .slice al ll cl := hJ.h 2 (hdep 2 (by rw [← ho]; kernel_rfl))
                have e4 : V 4 = .int .i64 K := hJ.h 4 (hdep 4 (by rw [← ho]; kernel_rfl))
                have e6 : V 6 = .int .i64 S := hJ.h 6 (hdep 6 (by rw [← ho]; kernel_rfl))
                have hft := HFA.out _ hJ.kp
                have HJ := Lib.hid hJ
                clear hJ
                subst ho
                refine Pj.Step.free rfl ?_
                simp only [Pj.puts, List.foldl_cons, List.foldl_nil, Act.put, List.setIfInBounds_toArray, List.set_cons_zero, List.set_cons_succ, e2, e4, e6]
                go_simp
                refine hft.mono ?_
                rintro e w' ⟨a9, c9, X9, rfl, hc9, hs9, -, hk9⟩
                exact hKq _ _ ⟨Pj.vset V 7 (.slice a9 K c9), by simp only [Pj.puts, List.foldl_cons, List.foldl_nil, Act.put, List.setIfInBounds_toArray, List.set_cons_zero, List.set_cons_succ, Pj.vset, Nat.reduceEqDiff, if_true, if_false, e2, e4, e6], HJ.out.more HP.out hL (hk9) (⟨_, _, _, _, rfl, hs9, by omega, hc9⟩), fun h => by rw [Pj.vset_other _ _ (by decide)]; exact hi18 (fun q => h ((hL 18).2 (.inr q))), fun h => (hL 0).2 (((hL 18).1 h).elim (fun e => absurd e (by decide)) (fun q => .inr (hl18_0 q)))⟩
              | 8, ho =>
                simp only [List.getElem?_toArray, List.getElem?_cons_zero, List.getElem?_cons_succ, Option.some.injEq] at ho
                have HJ := Lib.hid hJ
                clear hJ
                subst ho
                refine Pj.Step.free rfl ?_
                simp only [Pj.puts, List.foldl_cons, List.foldl_nil, Act.put, List.setIfInBounds_toArray, List.set_cons_zero, List.set_cons_succ]
                go_simp
                exact hKq _ _ ⟨Pj.vset V 8 (.pointer (some ⟨W.heap.size, 1, none⟩)), by simp only [Pj.puts, List.foldl_cons, List.foldl_nil, Act.put, List.setIfInBounds_toArray, List.set_cons_zero, List.set_cons_succ, Pj.vset, Nat.reduceEqDiff, if_true, if_false], HJ.out.more HP.out hL (Kept.refl _) (rfl), fun h => by rw [Pj.vset_other _ _ (by decide)]; exact hi18 (fun q => h ((hL 18).2 (.inr q))), fun h => (hL 0).2 (((hL 18).1 h).elim (fun e => absurd e (by decide)) (fun q => .inr (hl18_0 q)))⟩
              | 9, ho =>
                simp only [List.getElem?_toArray, List.getElem?_cons_zero, List.getElem?_cons_succ, Option.some.injEq] at ho
                have e8 : V 8 = .pointer (some ⟨W.heap.size, 1, none⟩) := hJ.h 8 (hdep 8 (by rw [← ho]; kernel_rfl))
                have hrw := HRW.out _ hJ.kp
                have HJ := Lib.hid hJ
                clear hJ
                subst ho
                refine Pj.Step.free rfl ?_
                simp only [Pj.puts, List.foldl_cons, List.foldl_nil, Act.put, List.setIfInBounds_toArray, List.set_cons_zero, List.set_cons_succ, e8]
                go_simp
                exact hKq _ _ ⟨Pj.vset V 9 (.slice al ll cl), by simp only [Pj.puts, List.foldl_cons, List.foldl_nil, Act.put, List.setIfInBounds_toArray, List.set_cons_zero, List.set_cons_succ, Pj.vset, Nat.reduceEqDiff, if_true, if_false, e8], HJ.out.more HP.out hL (Kept.refl _) (rfl), fun h => by rw [Pj.vset_other _ _ (by decide)]; exact hi18 (fun q => h ((hL 18).2 (.inr q))), fun h => (hL 0).2 (((hL 18).1 h).elim (fun e => absurd e (by decide)) (fun q => .inr (hl18_0 q)))⟩
              | 10, ho =>
                simp only [List.getElem?_toArray, List.getElem?_cons_zero, List.getElem?_cons_succ, Option.some.injEq] at ho
                have HJ := Lib.hid hJ
                clear hJ
                subst ho
                refine Pj.Step.free rfl ?_
                simp only [Pj.puts, List.foldl_cons, List.foldl_nil, Act.put, List.setIfInBounds_toArray, List.set_cons_zero, List.set_cons_succ]
                go_simp
                exact hKq _ _ ⟨Pj.vset V 10 (.pointer (some ⟨p4, 0, none⟩)), by simp only [Pj.puts, List.foldl_cons, List.foldl_nil, Act.put, List.setIfInBounds_toArray, List.set_cons_zero, List.set_cons_succ, Pj.vset, Nat.reduceEqDiff, if_true, if_false], HJ.out.more HP.out hL (Kept.refl _) (rfl), fun h => by rw [Pj.vset_other _ _ (by decide)]; exact hi18 (fun q => h ((hL 18).2 (.inr q))), fun h => (hL 0).2 (((hL 18).1 h).elim (fun e => absurd e (by decide)) (fun q => .inr (hl18_0 q)))⟩
              | 11, ho =>
                simp only [List.getElem?_toArray, List.getElem?_cons_zero, List.getElem?_cons_succ, Option.some.injEq] at ho
                have e10 : V 10 = .pointer (some ⟨p4, 0, none⟩) := hJ.h 10 (hdep 10 (by rw [← ho]; kernel_rfl))
                obtain ⟨d0, d1, d2⟩ := HBW.out _ hJ.kp
                have HJ := Lib.hid hJ
                clear hJ
                subst ho
                refine Pj.Step.free rfl ?_
                simp only [Pj.puts, List.foldl_cons, List.foldl_nil, Act.put, List.setIfInBounds_toArray, List.set_cons_zero, List.set_cons_succ, e10]
                go_simp
                exact hKq _ _ ⟨Pj.vset V 11 (.int .i64 K), by simp only [Pj.puts, List.foldl_cons, List.foldl_nil, Act.put, List.setIfInBounds_toArray, List.set_cons_zero, List.set_cons_succ, Pj.vset, Nat.reduceEqDiff, if_true, if_false, e10], HJ.out.more HP.out hL (Kept.refl _) (rfl), fun h => by rw [Pj.vset_other _ _ (by decide)]; exact hi18 (fun q => h ((hL 18).2 (.inr q))), fun h => (hL 0).2 (((hL 18).1 h).elim (fun e => absurd e (by decide)) (fun q => .inr (hl18_0 q)))⟩
              | 12, ho =>
                simp only [List.getElem?_toArray, List.getElem?_cons_zero, List.getElem?_cons_succ, Option.some.injEq] at ho
                have e11 : V 11 = .int .i64 K := hJ.h 11 (hdep 11 (by rw [← ho]; kernel_rfl))
                have hw9 : IntKind.i64.wrap ((K : Int) + 1) = (K : Int) + 1 := HWR.out
                have HJ := Lib.hid hJ
                clear hJ
                subst ho
                refine Pj.Step.free rfl ?_
                simp only [Pj.puts, List.foldl_cons, List.foldl_nil, Act.put, List.setIfInBounds_toArray, List.set_cons_zero, List.set_cons_succ, e11]
                go_simp
                exact hKq _ _ ⟨Pj.vset V 12 (.int .i64 ((K : Int) + 1)), by simp only [Pj.puts, List.foldl_cons, List.foldl_nil, Act.put, List.setIfInBounds_toArray, List.set_cons_zero, List.set_cons_succ, Pj.vset, Nat.reduceEqDiff, if_true, if_false, e11], HJ.out.more HP.out hL (Kept.refl _) (rfl), fun h => by rw [Pj.vset_other _ _ (by decide)]; exact hi18 (fun q => h ((hL 18).2 (.inr q))), fun h => (hL 0).2 (((hL 18).1 h).elim (fun e => absurd e (by decide)) (fun q => .inr (hl18_0 q)))⟩
              | 13, ho =>
                simp only [List.getElem?_toArray, List.getElem?_cons_zero, List.getElem?_cons_succ, Option.some.injEq] at ho
                have HJ := Lib.hid hJ
                clear hJ
                subst ho
                refine Pj.Step.free rfl ?_
                simp only [Pj.puts, List.foldl_cons, List.foldl_nil, Act.put, List.setIfInBounds_toArray, List.set_cons_zero, List.set_cons_succ]
                go_simp
                exact hKq _ _ ⟨Pj.vset V 13 (.pointer (some ⟨p4, 2, none⟩)), by simp only [Pj.puts, List.foldl_cons, List.foldl_nil, Act.put, List.setIfInBounds_toArray, List.set_cons_zero, List.set_cons_succ, Pj.vset, Nat.reduceEqDiff, if_true, if_false], HJ.out.more HP.out hL (Kept.refl _) (rfl), fun h => by rw [Pj.vset_other _ _ (by decide)]; exact hi18 (fun q => h ((hL 18).2 (.inr q))), fun h => (hL 0).2 (((hL 18).1 h).elim (fun e => absurd e (by decide)) (fun q => .inr (hl18_0 q)))⟩
              | 14, ho =>
                simp only [List.getElem?_toArray, List.getElem?_cons_zero, List.getElem?_cons_succ, Option.some.injEq] at ho
                have e13 : V 13 = .pointer (some ⟨p4, 2, none⟩) := hJ.h 13 (hdep 13 (by rw [← ho]; kernel_rfl))
                obtain ⟨d0, d1, d2⟩ := HBW.out _ hJ.kp
                have HJ := Lib.hid hJ
                clear hJ
                subst ho
                refine Pj.Step.free rfl ?_
                simp only [Pj.puts, List.foldl_cons, List.foldl_nil, Act.put, List.setIfInBounds_toArray, List.set_cons_zero, List.set_cons_succ, e13]
                go_simp
                exact hKq _ _ ⟨Pj.vset V 14 (.int .i64 S), by simp only [Pj.puts, List.foldl_cons, List.foldl_nil, Act.put, List.setIfInBounds_toArray, List.set_cons_zero, List.set_cons_succ, Pj.vset, Nat.reduceEqDiff, if_true, if_false, e13], HJ.out.more HP.out hL (Kept.refl _) (rfl), fun h => by rw [Pj.vset_other _ _ (by decide)]; exact hi18 (fun q => h ((hL 18).2 (.inr q))), fun h => (hL 0).2 (((hL 18).1 h).elim (fun e => absurd e (by decide)) (fun q => .inr (hl18_0 q)))⟩
              | 15, ho =>
                simp only [List.getElem?_toArray, List.getElem?_cons_zero, List.getElem?_cons_succ, Option.some.injEq] at ho
                have e9 : V 9 = .slice al ll cl := hJ.h 9 (hdep 9 (by rw [← ho]; kernel_rfl))
                have e12 : V 12 = .int .i64 ((K : Int) + 1) := hJ.h 12 (hdep 12 (by rw [← ho]; kernel_rfl))
                have e14 : V 14 = .int .i64 S := hJ.h 14 (hdep 14 (by rw [← ho]; kernel_rfl))
                have hft := HFB.out _ hJ.kp
                have HJ := Lib.hid hJ
                clear hJ
                subst ho
                refine Pj.Step.free rfl ?_
                simp only [Pj.puts, List.foldl_cons, List.foldl_nil, Act.put, List.setIfInBounds_toArray, List.set_cons_zero, List.set_cons_succ, e9, e12, e14]
                go_simp
                refine hft.mono ?_
                rintro e w' ⟨a9, c9, X9, rfl, hc9, hs9, -, hk9⟩
                exact hKq _ _ ⟨Pj.vset V 15 (.slice a9 (K + 1) c9), by simp only [Pj.puts, List.foldl_cons, List.foldl_nil, Act.put, List.setIfInBounds_toArray, List.set_cons_zero, List.set_cons_succ, Pj.vset, Nat.reduceEqDiff, if_true, if_false, e9, e12, e14], HJ.out.more HP.out hL (hk9) (⟨_, _, _, _, rfl, hs9, by omega, hc9⟩), fun h => by rw [Pj.vset_other _ _ (by decide)]; exact hi18 (fun q => h ((hL 18).2 (.inr q))), fun h => (hL 0).2 (((hL 18).1 h).elim (fun e => absurd e (by decide)) (fun q => .inr (hl18_0 q)))⟩
              | 16, ho =>
                simp only [List.getElem?_toArray, List.getElem?_cons_zero, List.getElem?_cons_succ, Option.some.injEq] at ho
                obtain ⟨a7, l7, c7, X7, e7, h7⟩ := hJ.h 7 (hdep 7 (by rw [← ho]; kernel_rfl))
                obtain ⟨a15, l15, c15, X15, e15, h15⟩ := hJ.h 15 (hdep 15 (by rw [← ho]; kernel_rfl))
                have HJ := Lib.hid hJ
                clear hJ
                subst ho
                refine Pj.Step.free rfl ?_
                simp only [Pj.puts, List.foldl_cons, List.foldl_nil, Act.put, List.setIfInBounds_toArray, List.set_cons_zero, List.set_cons_succ, e7, e15]
                go_simp
                exact hKq _ _ ⟨Pj.vset V 16 (.slice (some ⟨w.heap.size, 0, none⟩) 2 2), by simp only [Pj.puts, List.foldl_cons, List.foldl_nil, Act.put, List.setIfInBounds_toArray, List.set_cons_zero, List.set_cons_succ, Pj.vset, Nat.reduceEqDiff, if_true, if_false, e7, e15], HJ.out.more HP.out hL ((Kept.refl _).alloc _) (⟨_, _, _, rfl, BlockAt.new _ _ _, LT.kept ⟨_, _, _, _, rfl, h7⟩ ((Kept.refl _).alloc _), LT.kept ⟨_, _, _, _, rfl, h15⟩ ((Kept.refl _).alloc _)⟩), fun h => by rw [Pj.vset_other _ _ (by decide)]; exact hi18 (fun q => h ((hL 18).2 (.inr q))), fun h => (hL 0).2 (((hL 18).1 h).elim (fun e => absurd e (by decide)) (fun q => .inr (hl18_0 q)))⟩
              | 17, ho =>
                simp only [List.getElem?_toArray, List.getElem?_cons_zero, List.getElem?_cons_succ, Option.some.injEq] at ho
                have e0 : V 0 = .slice (some ⟨g0, 0, none⟩) 1 1 := hJ.h 0 (hdep 0 (by rw [← ho]; kernel_rfl))
                obtain ⟨g16, y1, y2, e16, h16, hu1, hu2⟩ := hJ.h 16 (hdep 16 (by rw [← ho]; kernel_rfl))
                have hgb := HGC.out.kept hJ.kp
                have hlt := HTW.out _ hJ.kp
                have HJ := Lib.hid hJ
                clear hJ
                subst ho
                refine Pj.Step.free rfl ?_
                simp only [Pj.puts, List.foldl_cons, List.foldl_nil, Act.put, List.setIfInBounds_toArray, List.set_cons_zero, List.set_cons_succ, e0, e16]
                refine Pj.oper_grow _ _ 37 rfl 23 iL (.slice none 0 0) 24 Try.underlying37 HIL.out.1 HIL.out.2.1 HIL.out.2.2.1 HIL.out.2.2.2 rfl ⟨g0, 0, none⟩ 1 1 [.slice al ll cl] rfl rfl (block_list hgb) ⟨g16, 0, none⟩ 2 2 [y1, y2] rfl rfl (block_list h16) (by omega) (by omega) (by decide) ?_
                intro v' w' hown hk9
                obtain ⟨g8, c8, rfl, h8⟩ := ll_of_own hown (hlt.kept hk9) (hu1.kept hk9) (hu2.kept hk9)
                simp only [Act.put, List.setIfInBounds_toArray, List.set_cons_zero, List.set_cons_succ]
                exact hKq _ _ ⟨Pj.vset V 17 (.slice (some ⟨g8, 0, none⟩) 3 c8), by simp only [Pj.puts, List.foldl_cons, List.foldl_nil, Act.put, List.setIfInBounds_toArray, List.set_cons_zero, List.set_cons_succ, Pj.vset, Nat.reduceEqDiff, if_true, if_false, e0, e16], HJ.out.more HP.out hL (hk9) (⟨_, _, rfl, h8⟩), fun h => by rw [Pj.vset_other _ _ (by decide)]; exact hi18 (fun q => h ((hL 18).2 (.inr q))), fun h => (hL 0).2 (((hL 18).1 h).elim (fun e => absurd e (by decide)) (fun q => .inr (hl18_0 q)))⟩
              | 18, ho =>
                simp only [List.getElem?_toArray, List.getElem?_cons_zero, List.getElem?_cons_succ, Option.some.injEq] at ho
                obtain ⟨g17, c17, e17, h17⟩ := hJ.h 17 (hdep 17 (by rw [← ho]; kernel_rfl))
                have hd18_0 := hdep 0 (by rw [← ho]; kernel_rfl)
                have HJ := Lib.hid hJ
                clear hJ
                subst ho
                refine Pj.Step.free rfl ?_
                simp only [Pj.puts, List.foldl_cons, List.foldl_nil, Act.put, List.setIfInBounds_toArray, List.set_cons_zero, List.set_cons_succ, e17]
                go_simp
                exact hKq _ _ ⟨Pj.vset V 18 (.slice (some ⟨g17, 0, none⟩) 3 c17), by simp only [Pj.puts, List.foldl_cons, List.foldl_nil, Act.put, List.setIfInBounds_toArray, List.set_cons_zero, List.set_cons_succ, Pj.vset, Nat.reduceEqDiff, if_true, if_false, e17], HJ.out.more HP.out hL (Kept.refl _) (⟨_, _, rfl, h17⟩), fun h => absurd ((hL 18).2 (.inl rfl)) h, fun _ => (hL 0).2 (.inr hd18_0)⟩
              | n + 19, ho => simp at ho
            case ehe =>
              rintro L az w ⟨V, rfl, hJ, hi18, hl18_0⟩ hall
              have e0 : V 0 = .slice (some ⟨g0, 0, none⟩) 1 1 := hJ.h 0 (hall 0 (by decide))
              have e1 : V 1 = .pointer (some ⟨W.heap.size, 1, none⟩) := hJ.h 1 (hall 1 (by decide))
              have e2 : V 2 = .slice al ll cl := hJ.h 2 (hall 2 (by decide))
              have e3 : V 3 = .pointer (some ⟨p4, 0, none⟩) := hJ.h 3 (hall 3 (by decide))
              have e4 : V 4 = .int .i64 K := hJ.h 4 (hall 4 (by decide))
              have e5 : V 5 = .pointer (some ⟨p4, 2, none⟩) := hJ.h 5 (hall 5 (by decide))
              have e6 : V 6 = .int .i64 S := hJ.h 6 (hall 6 (by decide))
              obtain ⟨a7, l7, c7, X7, e7, h7⟩ := hJ.h 7 (hall 7 (by decide))
              have e8 : V 8 = .pointer (some ⟨W.heap.size, 1, none⟩) := hJ.h 8 (hall 8 (by decide))
              have e9 : V 9 = .slice al ll cl := hJ.h 9 (hall 9 (by decide))
              have e10 : V 10 = .pointer (some ⟨p4, 0, none⟩) := hJ.h 10 (hall 10 (by decide))
              have e11 : V 11 = .int .i64 K := hJ.h 11 (hall 11 (by decide))
              have e12 : V 12 = .int .i64 ((K : Int) + 1) := hJ.h 12 (hall 12 (by decide))
              have e13 : V 13 = .pointer (some ⟨p4, 2, none⟩) := hJ.h 13 (hall 13 (by decide))
              have e14 : V 14 = .int .i64 S := hJ.h 14 (hall 14 (by decide))
              obtain ⟨a15, l15, c15, X15, e15, h15⟩ := hJ.h 15 (hall 15 (by decide))
              obtain ⟨g16, y1, y2, e16, h16, hu1, hu2⟩ := hJ.h 16 (hall 16 (by decide))
              obtain ⟨g17, c17, e17, h17⟩ := hJ.h 17 (hall 17 (by decide))
              obtain ⟨g18, c18, e18, h18⟩ := hJ.h 18 (hall 18 (by decide))
              have HKj := Lib.hid hJ.kp
              clear hJ hall hi18 hl18_0
              simp only [Pj.puts, List.foldl_cons, List.foldl_nil, Act.put, List.setIfInBounds_toArray, List.set_cons_zero, List.set_cons_succ, e0, e1, e2, e3, e4, e5, e6, e7, e8, e9, e10, e11, e12, e13, e14, e15, e16, e17, e18]
              clear e0 e1 e2 e3 e4 e5 e6 e7 e8 e9 e10 e11 e12 e13 e14 e15 e16 e17 e18
              have HLW := Lib.hid h18
              have HKJ := Lib.hid HKj.out
              clear h18
              obtain ⟨c0, c1, c2⟩ := HBW.out _ HKJ.out
              go_wp2_with fail
              refine (code_check _ _ _ _).mono ?_
              rintro e wn ⟨rfl, hkn⟩
              rw [HSE.out]
              have HKn := Lib.hid (HKJ.out.trans hkn)
              have HLN := Lib.hid (HLW.out.kept hkn)
              clear hkn c0 c1 c2
              go_wp2_with fail
              refine (num4_any _ _).mono ?_
              rintro e w' ⟨rfl, rfl⟩
              go_wp2_with fail
              refine (num4_any _ _).mono ?_
              rintro e w' ⟨rfl, rfl⟩
              have HX6i := Lib.hid ((HX6.out.kept HKi.out).kept HKn.out)
              have HX9i := Lib.hid (HX9.out.kept HKn.out)
              obtain ⟨c0, c1, c2⟩ := box3c HX6i.out
              obtain ⟨d0, d1, d2⟩ := box3c HX9i.out
              go_wp2_with fail
              refine (eq_matrix H K _ _ _ _ _ (flat K (genF K)) (by have := Nat.mul_le_mul (show H ≤ 16 by omega) (show K ≤ 16 by omega); omega) _ (((HM7.out.kept HKi.out).kept HKn.out).cell.flat) ((HMS.out.kept HKn.out).cell.flat)).mono ?_
              rintro e wq ⟨rfl, hkq⟩
              have HKq := Lib.hid (HKn.out.trans hkq)
              have HLQ := Lib.hid (HLN.out.kept hkq)
              clear hkq c0 c1 c2 d0 d1 d2
              go_wp2_with fail
              go_loopw [11] (fun kv wx => ∃ q : Nat, q ≤ 3 ∧ kv = .int .i64 q ∧ Kept wq wx) (fun kv _ => 3 - (intOf kv).toNat)
              case atStart => exact ⟨0, by omega, rfl, Kept.refl _⟩
              case round =>
                rename World => wx
                obtain ⟨q, hq, rfl, hkx⟩ := hrel
                have HKX := Lib.hid hkx
                clear hkx
                by_cases hq3 : q < 3
                · have hd3 : decide ((q : Int) < 3) = true := decide_eq_true (by omega)
                  obtain ⟨u, hcu, a, l, cap, X, rfl, hX, hl4, hlc⟩ := (HLQ.out.kept HKX.out).cell q hq3
                  have hlcx := (HLQ.out.kept HKX.out).lt
                  have HCU := Lib.hid (show ∀ w, Kept wx w → w.cell? ⟨g18, q, none⟩ = some (.slice a l cap) from fun w kk => kk.cell hlcx hcu)
                  have HXX := Lib.hid hX
                  clear hX
                  go_wp2_with fail
                  refine (copy_strings a l cap X _ HXX.out (by omega)).mono ?_
                  rintro e wE ⟨a2, cap2, rfl, hlc2, hin, hkE⟩
                  have HIN := Lib.hid hin
                  have HKE := Lib.hid hkE
                  have HBE := Lib.hid (show ∀ w, Kept wE w → w.cell? ⟨p4, 0, none⟩ = some (.int .i64 K) ∧ w.cell? ⟨p4, 1, none⟩ = some (.int .i64 M) ∧ w.cell? ⟨p4, 2, none⟩ = some (.int .i64 S) from fun w kk => HBW.out _ (((HKq.out.trans HKX.out).trans hkE).trans kk))
                  obtain ⟨c0, c1, c2⟩ := HBE.out _ (Kept.refl _)
                  clear hin hkE hcu
                  by_cases hBT : sizedB X K S = true
                  · have hln := (sizedB_true hBT).1
                    obtain rfl : K = l := by rw [← hln, HXX.out.len_eq]
                    have HSZB := Lib.hid hBT
                    have hszz := (sizedB_true hBT).2
                    have HSX := Lib.hid (show ∀ j, j < K → (X.getD j ByteArray.empty).size = S from fun j hj => by
                      have hj' : j < X.length := by omega
                      have := hszz _ (List.getElem_mem hj')
                      simpa [List.getD, hj'] using this)
                    clear hBT hszz hln
                    go_wp2_with fail
                    refine (encode_any K M H S HH.out hK1 hS1 a2 cap2 X _ HIN.out hlc2 HSZB.out).mono ?_
                    rintro e w8 ⟨a9, rfl, hle9, ht9, ha9, hk8⟩
                    obtain ⟨g9, hg9e⟩ : ∃ g, a9 = some ⟨g, 0, none⟩ := ⟨_, ha9⟩
                    subst hg9e
                    have HST9 := Lib.hid (txt_strs4 (q := S) ht9 rfl (HSX.out 0 (by omega)) (by omega) (by omega))
                    have HT9 := Lib.hid ht9
                    have HG9 := Lib.hid (show wE.heap.size ≤ g9 from hle9)
                    have HK8 := Lib.hid hk8
                    obtain ⟨P, hP⟩ : ∃ P, P = appS (genF K) X H K := ⟨_, rfl⟩
                    rw [← hP] at HST9
                    have HBQ := Lib.hid (show ∀ w, Kept w8 w → w.cell? ⟨p4, 0, none⟩ = some (.int .i64 K) ∧ w.cell? ⟨p4, 1, none⟩ = some (.int .i64 M) ∧ w.cell? ⟨p4, 2, none⟩ = some (.int .i64 S) from fun w kk => HBE.out _ (hk8.trans kk))
                    have HCQ := Lib.hid (show ∀ w, Kept w8 w → w.cell? ⟨g18, q, none⟩ = some (.slice a K cap) from fun w kk => HCU.out _ ((HKE.out.trans hk8).trans kk))
                    have HTX := Lib.hid (show ∀ w, Kept w8 w → Calls Try.prog 20 #[.slice a K cap, .int .i64 K, .int .i64 S] w fun e w' => e = .returned (.bool true) ∧ w = w' from fun w kk => by
                      have := texts4_any S K a K cap X (by omega) w (HXX.out.kept ((HKE.out.trans hk8).trans kk))
                      rwa [HSZB.out] at this)
                    have HEN := Lib.hid (show ∀ w, Kept w8 w → Calls Try.prog 21 #[.agg #[.int .i64 K, .int .i64 M, .int .i64 S], .slice a K cap] w fun e w' => ∃ y yc, e = .returned (.slice y H yc) ∧ H ≤ yc ∧ StrsIn w' y H P ∧ Kept w w' from fun w kk => by
                      rw [hP]
                      exact rencode_any K M H S HH.out hK1 (by omega) a cap X w (HXX.out.kept ((HKE.out.trans hk8).trans kk)) HSX.out)
                    clear hle9 ht9 ha9 hk8 hP c0 c1 c2
                    go_wp2_with fail
                    refine Pj.wp_region_step (fun az0 L az w => ∃ V : Nat → Value, az = Pj.puts [(99, 0), (100, 1), (101, 2), (102, 3), (103, 4), (104, 5), (105, 6), (106, 7), (107, 8), (108, 9), (109, 10), (110, 11)] V az0 ∧ Pj.J w8 [Pj.Is (.bool true), Pj.Is (.bool true), Pj.Is (.slice (some ⟨g18, 0, none⟩) 3 c18), Pj.Is (.int .i64 q), Pj.Is (.pointer (some ⟨g18, q, none⟩)), Pj.Is (.slice a K cap), Pj.Is (.pointer (some ⟨p4, 0, none⟩)), Pj.Is (.int .i64 K), Pj.Is (.pointer (some ⟨p4, 2, none⟩)), Pj.Is (.int .i64 S), Pj.Is (.bool true), Pj.Is (.bool true)] L V w) (by as_aux_lemma => kernel_rfl) (by as_aux_lemma => kernel_rfl) ?eh0 ?ehs ?ehe
                    case eh0 =>
                      intro L hL
                      exact ⟨_, Pj.puts_self _ (fun j => ([99, 100, 101, 102, 103, 104, 105, 106, 107, 108, 109, 110] : List Nat).getD j 0) [0, 1, 2, 3, 4, 5, 6, 7, 8, 9, 10, 11], Pj.J.none (n := 12) (Nat.le_refl _) hL ((Kept.refl _).drew)⟩
                    case ehs =>
                      rintro L L' az w iz opz Kq ⟨V, rfl, hJ⟩ ho hopen hdep hL hKq
                      have hP : Pj.AllStay [Pj.Is (.bool true), Pj.Is (.bool true), Pj.Is (.slice (some ⟨g18, 0, none⟩) 3 c18), Pj.Is (.int .i64 q), Pj.Is (.pointer (some ⟨g18, q, none⟩)), Pj.Is (.slice a K cap), Pj.Is (.pointer (some ⟨p4, 0, none⟩)), Pj.Is (.int .i64 K), Pj.Is (.pointer (some ⟨p4, 2, none⟩)), Pj.Is (.int .i64 S), Pj.Is (.bool true), Pj.Is (.bool true)] := ⟨Pj.Is.stays _, Pj.Is.stays _, Pj.Is.stays _, Pj.Is.stays _, Pj.Is.stays _, Pj.Is.stays _, Pj.Is.stays _, Pj.Is.stays _, Pj.Is.stays _, Pj.Is.stays _, Pj.Is.stays _, Pj.Is.stays _, trivial⟩
                      have HP := Lib.hid hP
                      clear hP
                      match iz, ho with
                      | 0, ho =>
                        simp only [List.getElem?_toArray, List.getElem?_cons_zero, Option.some.injEq] at ho
                        have HJ := Lib.hid hJ
                        clear hJ
                        subst ho
                        refine Pj.Step.free rfl ?_
                        simp only [Pj.puts, List.foldl_cons, List.foldl_nil, Act.put, List.setIfInBounds_toArray, List.set_cons_zero, List.set_cons_succ]
                        go_simp
                        exact hKq _ _ ⟨Pj.vset V 0 (.bool true), by simp only [Pj.puts, List.foldl_cons, List.foldl_nil, Act.put, List.setIfInBounds_toArray, List.set_cons_zero, List.set_cons_succ, Pj.vset, Nat.reduceEqDiff, if_true, if_false], HJ.out.more HP.out hL (Kept.refl _) (rfl)⟩
                      | 1, ho =>
                        simp only [List.getElem?_toArray, List.getElem?_cons_zero, List.getElem?_cons_succ, Option.some.injEq] at ho
                        have e0 : V 0 = .bool true := hJ.h 0 (hdep 0 (by rw [← ho]; kernel_rfl))
                        have HJ := Lib.hid hJ
                        clear hJ
                        subst ho
                        refine Pj.Step.free rfl ?_
                        simp only [Pj.puts, List.foldl_cons, List.foldl_nil, Act.put, List.setIfInBounds_toArray, List.set_cons_zero, List.set_cons_succ, e0]
                        go_simp
                        exact hKq _ _ ⟨Pj.vset V 1 (.bool true), by simp only [Pj.puts, List.foldl_cons, List.foldl_nil, Act.put, List.setIfInBounds_toArray, List.set_cons_zero, List.set_cons_succ, Pj.vset, Nat.reduceEqDiff, if_true, if_false, e0], HJ.out.more HP.out hL (Kept.refl _) (rfl)⟩
                      | 2, ho =>
                        simp only [List.getElem?_toArray, List.getElem?_cons_zero, List.getElem?_cons_succ, Option.some.injEq] at ho
                        have e1 : V 1 = .bool true := hJ.h 1 (hdep 1 (by rw [← ho]; kernel_rfl))
                        have HJ := Lib.hid hJ
                        clear hJ
                        subst ho
                        refine Pj.Step.at (g := 1) (b := true) rfl ?hy ?_
                        case hy =>
                          simp only [Pj.puts, List.foldl_cons, List.foldl_nil, Act.put, List.setIfInBounds_toArray, List.set_cons_zero, List.set_cons_succ, e1]
                          rfl
                        simp only [Pj.puts, List.foldl_cons, List.foldl_nil, Act.put, List.setIfInBounds_toArray, List.set_cons_zero, List.set_cons_succ, e1]
                        go_simp
                        exact hKq _ _ ⟨Pj.vset V 2 (.slice (some ⟨g18, 0, none⟩) 3 c18), by simp only [Pj.puts, List.foldl_cons, List.foldl_nil, Act.put, List.setIfInBounds_toArray, List.set_cons_zero, List.set_cons_succ, Pj.vset, Nat.reduceEqDiff, if_true, if_false, e1], HJ.out.more HP.out hL (Kept.refl _) (rfl)⟩
                      | 3, ho =>
                        simp only [List.getElem?_toArray, List.getElem?_cons_zero, List.getElem?_cons_succ, Option.some.injEq] at ho
                        have e1 : V 1 = .bool true := hJ.h 1 (hdep 1 (by rw [← ho]; kernel_rfl))
                        have HJ := Lib.hid hJ
                        clear hJ
                        subst ho
                        refine Pj.Step.at (g := 1) (b := true) rfl ?hy ?_
                        case hy =>
                          simp only [Pj.puts, List.foldl_cons, List.foldl_nil, Act.put, List.setIfInBounds_toArray, List.set_cons_zero, List.set_cons_succ, e1]
                          rfl
                        simp only [Pj.puts, List.foldl_cons, List.foldl_nil, Act.put, List.setIfInBounds_toArray, List.set_cons_zero, List.set_cons_succ, e1]
                        go_simp
                        exact hKq _ _ ⟨Pj.vset V 3 (.int .i64 q), by simp only [Pj.puts, List.foldl_cons, List.foldl_nil, Act.put, List.setIfInBounds_toArray, List.set_cons_zero, List.set_cons_succ, Pj.vset, Nat.reduceEqDiff, if_true, if_false, e1], HJ.out.more HP.out hL (Kept.refl _) (rfl)⟩
                      | 4, ho =>
                        simp only [List.getElem?_toArray, List.getElem?_cons_zero, List.getElem?_cons_succ, Option.some.injEq] at ho
                        have e2 : V 2 = .slice (some ⟨g18, 0, none⟩) 3 c18 := hJ.h 2 (hdep 2 (by rw [← ho]; kernel_rfl))
                        have e3 : V 3 = .int .i64 q := hJ.h 3 (hdep 3 (by rw [← ho]; kernel_rfl))
                        have e1 : V 1 = .bool true := hJ.h 1 (hdep 1 (by rw [← ho]; kernel_rfl))
                        have hq9 : (q : Int) < 3 := by omega
                        have HJ := Lib.hid hJ
                        clear hJ
                        subst ho
                        refine Pj.Step.at (g := 1) (b := true) rfl ?hy ?_
                        case hy =>
                          simp only [Pj.puts, List.foldl_cons, List.foldl_nil, Act.put, List.setIfInBounds_toArray, List.set_cons_zero, List.set_cons_succ, e2, e3, e1]
                          rfl
                        simp only [Pj.puts, List.foldl_cons, List.foldl_nil, Act.put, List.setIfInBounds_toArray, List.set_cons_zero, List.set_cons_succ, e2, e3, e1]
                        go_simp
                        exact hKq _ _ ⟨Pj.vset V 4 (.pointer (some ⟨g18, q, none⟩)), by simp only [Pj.puts, List.foldl_cons, List.foldl_nil, Act.put, List.setIfInBounds_toArray, List.set_cons_zero, List.set_cons_succ, Pj.vset, Nat.reduceEqDiff, if_true, if_false, e2, e3, e1], HJ.out.more HP.out hL (Kept.refl _) (rfl)⟩
                      | 5, ho =>
                        simp only [List.getElem?_toArray, List.getElem?_cons_zero, List.getElem?_cons_succ, Option.some.injEq] at ho
                        have e4 : V 4 = .pointer (some ⟨g18, q, none⟩) := hJ.h 4 (hdep 4 (by rw [← ho]; kernel_rfl))
                        have e1 : V 1 = .bool true := hJ.h 1 (hdep 1 (by rw [← ho]; kernel_rfl))
                        have hcc := HCQ.out _ hJ.kp
                        have HJ := Lib.hid hJ
                        clear hJ
                        subst ho
                        refine Pj.Step.at (g := 1) (b := true) rfl ?hy ?_
                        case hy =>
                          simp only [Pj.puts, List.foldl_cons, List.foldl_nil, Act.put, List.setIfInBounds_toArray, List.set_cons_zero, List.set_cons_succ, e4, e1]
                          rfl
                        simp only [Pj.puts, List.foldl_cons, List.foldl_nil, Act.put, List.setIfInBounds_toArray, List.set_cons_zero, List.set_cons_succ, e4, e1]
                        go_simp
                        exact hKq _ _ ⟨Pj.vset V 5 (.slice a K cap), by simp only [Pj.puts, List.foldl_cons, List.foldl_nil, Act.put, List.setIfInBounds_toArray, List.set_cons_zero, List.set_cons_succ, Pj.vset, Nat.reduceEqDiff, if_true, if_false, e4, e1], HJ.out.more HP.out hL (Kept.refl _) (rfl)⟩
                      | 6, ho =>
                        simp only [List.getElem?_toArray, List.getElem?_cons_zero, List.getElem?_cons_succ, Option.some.injEq] at ho
                        have e1 : V 1 = .bool true := hJ.h 1 (hdep 1 (by rw [← ho]; kernel_rfl))
                        have HJ := Lib.hid hJ
                        clear hJ
                        subst ho
                        refine Pj.Step.at (g := 1) (b := true) rfl ?hy ?_
                        case hy =>
                          simp only [Pj.puts, List.foldl_cons, List.foldl_nil, Act.put, List.setIfInBounds_toArray, List.set_cons_zero, List.set_cons_succ, e1]
                          rfl
                        simp only [Pj.puts, List.foldl_cons, List.foldl_nil, Act.put, List.setIfInBounds_toArray, List.set_cons_zero, List.set_cons_succ, e1]
                        go_simp
                        exact hKq _ _ ⟨Pj.vset V 6 (.pointer (some ⟨p4, 0, none⟩)), by simp only [Pj.puts, List.foldl_cons, List.foldl_nil, Act.put, List.setIfInBounds_toArray, List.set_cons_zero, List.set_cons_succ, Pj.vset, Nat.reduceEqDiff, if_true, if_false, e1], HJ.out.more HP.out hL (Kept.refl _) (rfl)⟩
                      | 7, ho =>
                        simp only [List.getElem?_toArray, List.getElem?_cons_zero, List.getElem?_cons_succ, Option.some.injEq] at ho
                        have e6 : V 6 = .pointer (some ⟨p4, 0, none⟩) := hJ.h 6 (hdep 6 (by rw [← ho]; kernel_rfl))
                        have e1 : V 1 = .bool true := hJ.h 1 (hdep 1 (by rw [← ho]; kernel_rfl))
                        obtain ⟨d0, d1, d2⟩ := HBQ.out _ hJ.kp
                        have HJ := Lib.hid hJ
                        clear hJ
                        subst ho
                        refine Pj.Step.at (g := 1) (b := true) rfl ?hy ?_
                        case hy =>
                          simp only [Pj.puts, List.foldl_cons, List.foldl_nil, Act.put, List.setIfInBounds_toArray, List.set_cons_zero, List.set_cons_succ, e6, e1]
                          rfl
                        simp only [Pj.puts, List.foldl_cons, List.foldl_nil, Act.put, List.setIfInBounds_toArray, List.set_cons_zero, List.set_cons_succ, e6, e1]
                        go_simp
                        exact hKq _ _ ⟨Pj.vset V 7 (.int .i64 K), by simp only [Pj.puts, List.foldl_cons, List.foldl_nil, Act.put, List.setIfInBounds_toArray, List.set_cons_zero, List.set_cons_succ, Pj.vset, Nat.reduceEqDiff, if_true, if_false, e6, e1], HJ.out.more HP.out hL (Kept.refl _) (rfl)⟩
                      | 8, ho =>
                        simp only [List.getElem?_toArray, List.getElem?_cons_zero, List.getElem?_cons_succ, Option.some.injEq] at ho
                        have e1 : V 1 = .bool true := hJ.h 1 (hdep 1 (by rw [← ho]; kernel_rfl))
                        have HJ := Lib.hid hJ
                        clear hJ
                        subst ho
                        refine Pj.Step.at (g := 1) (b := true) rfl ?hy ?_
                        case hy =>
                          simp only [Pj.puts, List.foldl_cons, List.foldl_nil, Act.put, List.setIfInBounds_toArray, List.set_cons_zero, List.set_cons_succ, e1]
                          rfl
                        simp only [Pj.puts, List.foldl_cons, List.foldl_nil, Act.put, List.setIfInBounds_toArray, List.set_cons_zero, List.set_cons_succ, e1]
                        go_simp
                        exact hKq _ _ ⟨Pj.vset V 8 (.pointer (some ⟨p4, 2, none⟩)), by simp only [Pj.puts, List.foldl_cons, List.foldl_nil, Act.put, List.setIfInBounds_toArray, List.set_cons_zero, List.set_cons_succ, Pj.vset, Nat.reduceEqDiff, if_true, if_false, e1], HJ.out.more HP.out hL (Kept.refl _) (rfl)⟩
                      | 9, ho =>
                        simp only [List.getElem?_toArray, List.getElem?_cons_zero, List.getElem?_cons_succ, Option.some.injEq] at ho
                        have e8 : V 8 = .pointer (some ⟨p4, 2, none⟩) := hJ.h 8 (hdep 8 (by rw [← ho]; kernel_rfl))
                        have e1 : V 1 = .bool true := hJ.h 1 (hdep 1 (by rw [← ho]; kernel_rfl))
                        obtain ⟨d0, d1, d2⟩ := HBQ.out _ hJ.kp
                        have HJ := Lib.hid hJ
                        clear hJ
                        subst ho
                        refine Pj.Step.at (g := 1) (b := true) rfl ?hy ?_
                        case hy =>
                          simp only [Pj.puts, List.foldl_cons, List.foldl_nil, Act.put, List.setIfInBounds_toArray, List.set_cons_zero, List.set_cons_succ, e8, e1]
                          rfl
                        simp only [Pj.puts, List.foldl_cons, List.foldl_nil, Act.put, List.setIfInBounds_toArray, List.set_cons_zero, List.set_cons_succ, e8, e1]
                        go_simp
                        exact hKq _ _ ⟨Pj.vset V 9 (.int .i64 S), by simp only [Pj.puts, List.foldl_cons, List.foldl_nil, Act.put, List.setIfInBounds_toArray, List.set_cons_zero, List.set_cons_succ, Pj.vset, Nat.reduceEqDiff, if_true, if_false, e8, e1], HJ.out.more HP.out hL (Kept.refl _) (rfl)⟩
                      | 10, ho =>
                        simp only [List.getElem?_toArray, List.getElem?_cons_zero, List.getElem?_cons_succ, Option.some.injEq] at ho
                        have e5 : V 5 = .slice a K cap := hJ.h 5 (hdep 5 (by rw [← ho]; kernel_rfl))
                        have e7 : V 7 = .int .i64 K := hJ.h 7 (hdep 7 (by rw [← ho]; kernel_rfl))
                        have e9 : V 9 = .int .i64 S := hJ.h 9 (hdep 9 (by rw [← ho]; kernel_rfl))
                        have e1 : V 1 = .bool true := hJ.h 1 (hdep 1 (by rw [← ho]; kernel_rfl))
                        have htx := HTX.out _ hJ.kp
                        have HJ := Lib.hid hJ
                        clear hJ
                        subst ho
                        refine Pj.Step.at (g := 1) (b := true) rfl ?hy ?_
                        case hy =>
                          simp only [Pj.puts, List.foldl_cons, List.foldl_nil, Act.put, List.setIfInBounds_toArray, List.set_cons_zero, List.set_cons_succ, e5, e7, e9, e1]
                          rfl
                        simp only [Pj.puts, List.foldl_cons, List.foldl_nil, Act.put, List.setIfInBounds_toArray, List.set_cons_zero, List.set_cons_succ, e5, e7, e9, e1]
                        go_simp
                        refine htx.mono ?_
                        rintro e w' ⟨rfl, rfl⟩
                        have hk9 := Kept.refl w
                        exact hKq _ _ ⟨Pj.vset V 10 (.bool true), by simp only [Pj.puts, List.foldl_cons, List.foldl_nil, Act.put, List.setIfInBounds_toArray, List.set_cons_zero, List.set_cons_succ, Pj.vset, Nat.reduceEqDiff, if_true, if_false, e5, e7, e9, e1], HJ.out.more HP.out hL (hk9) (rfl)⟩
                      | 11, ho =>
                        simp only [List.getElem?_toArray, List.getElem?_cons_zero, List.getElem?_cons_succ, Option.some.injEq] at ho
                        have e1 : V 1 = .bool true := hJ.h 1 (hdep 1 (by rw [← ho]; kernel_rfl))
                        have e10 : V 10 = .bool true := hJ.h 10 (hdep 10 (by rw [← ho]; kernel_rfl))
                        have HJ := Lib.hid hJ
                        clear hJ
                        subst ho
                        refine Pj.Step.free rfl ?_
                        simp only [Pj.puts, List.foldl_cons, List.foldl_nil, Act.put, List.setIfInBounds_toArray, List.set_cons_zero, List.set_cons_succ, e1, e10]
                        go_simp
                        exact hKq _ _ ⟨Pj.vset V 11 (.bool true), by simp only [Pj.puts, List.foldl_cons, List.foldl_nil, Act.put, List.setIfInBounds_toArray, List.set_cons_zero, List.set_cons_succ, Pj.vset, Nat.reduceEqDiff, if_true, if_false, e1, e10], HJ.out.more HP.out hL (Kept.refl _) (rfl)⟩
                      | n + 12, ho => simp at ho
                    case ehe =>
                      rintro L az w ⟨V, rfl, hJ⟩ hall
                      have e0 : V 0 = .bool true := hJ.h 0 (hall 0 (by decide))
                      have e1 : V 1 = .bool true := hJ.h 1 (hall 1 (by decide))
                      have e2 : V 2 = .slice (some ⟨g18, 0, none⟩) 3 c18 := hJ.h 2 (hall 2 (by decide))
                      have e3 : V 3 = .int .i64 q := hJ.h 3 (hall 3 (by decide))
                      have e4 : V 4 = .pointer (some ⟨g18, q, none⟩) := hJ.h 4 (hall 4 (by decide))
                      have e5 : V 5 = .slice a K cap := hJ.h 5 (hall 5 (by decide))
                      have e6 : V 6 = .pointer (some ⟨p4, 0, none⟩) := hJ.h 6 (hall 6 (by decide))
                      have e7 : V 7 = .int .i64 K := hJ.h 7 (hall 7 (by decide))
                      have e8 : V 8 = .pointer (some ⟨p4, 2, none⟩) := hJ.h 8 (hall 8 (by decide))
                      have e9 : V 9 = .int .i64 S := hJ.h 9 (hall 9 (by decide))
                      have e10 : V 10 = .bool true := hJ.h 10 (hall 10 (by decide))
                      have e11 : V 11 = .bool true := hJ.h 11 (hall 11 (by decide))
                      have HKj := Lib.hid hJ.kp
                      clear hJ hall
                      simp only [Pj.puts, List.foldl_cons, List.foldl_nil, Act.put, List.setIfInBounds_toArray, List.set_cons_zero, List.set_cons_succ, e0, e1, e2, e3, e4, e5, e6, e7, e8, e9, e10, e11]
                      clear e0 e1 e2 e3 e4 e5 e6 e7 e8 e9 e10 e11
                      obtain ⟨w24, hw24⟩ : ∃ w24, w24 = w := ⟨_, rfl⟩
                      subst hw24
                      have HK24 := Lib.hid HKj.out
                      go_wp2_with fail
                      refine Pj.wp_region_step (fun az0 L az w => ∃ V : Nat → Value, az = Pj.puts [(111, 0), (112, 1), (113, 2), (114, 3), (115, 4), (116, 5), (8, 6), (15, 7)] V az0 ∧ Pj.J w24 [Pj.Is (.agg #[.int .i64 K, .int .i64 M, .int .i64 S]), Pj.Is (.slice (some ⟨g18, 0, none⟩) 3 c18), Pj.Is (.int .i64 q), Pj.Is (.pointer (some ⟨g18, q, none⟩)), Pj.Is (.slice a K cap), (fun w v => ∃ y yc, v = .slice y H yc ∧ StrsIn w y H P), Pj.Is (.int .i64 0), (fun w v => ∃ y yc, v = .slice y H yc ∧ StrsIn w y H P)] L V w) (by as_aux_lemma => kernel_rfl) (by as_aux_lemma => kernel_rfl) ?eh0 ?ehs ?ehe
                      case eh0 =>
                        intro L hL
                        exact ⟨_, Pj.puts_self _ (fun j => ([111, 112, 113, 114, 115, 116, 8, 15] : List Nat).getD j 0) [0, 1, 2, 3, 4, 5, 6, 7], Pj.J.none (n := 8) (Nat.le_refl _) hL ((Kept.refl _).drew)⟩
                      case ehs =>
                        rintro L L' az w iz opz Kq ⟨V, rfl, hJ⟩ ho hopen hdep hL hKq
                        have hP : Pj.AllStay [Pj.Is (.agg #[.int .i64 K, .int .i64 M, .int .i64 S]), Pj.Is (.slice (some ⟨g18, 0, none⟩) 3 c18), Pj.Is (.int .i64 q), Pj.Is (.pointer (some ⟨g18, q, none⟩)), Pj.Is (.slice a K cap), (fun w v => ∃ y yc, v = .slice y H yc ∧ StrsIn w y H P), Pj.Is (.int .i64 0), (fun w v => ∃ y yc, v = .slice y H yc ∧ StrsIn w y H P)] := ⟨Pj.Is.stays _, Pj.Is.stays _, Pj.Is.stays _, Pj.Is.stays _, Pj.Is.stays _, fun _ _ _ ⟨a, k, e, h⟩ q => ⟨a, k, e, h.kept q⟩, Pj.Is.stays _, fun _ _ _ ⟨a, k, e, h⟩ q => ⟨a, k, e, h.kept q⟩, trivial⟩
                        have HP := Lib.hid hP
                        clear hP
                        match iz, ho with
                        | 0, ho =>
                          simp only [List.getElem?_toArray, List.getElem?_cons_zero, Option.some.injEq] at ho
                          obtain ⟨d0, d1, d2⟩ := HBQ.out _ (HK24.out.trans hJ.kp)
                          have HJ := Lib.hid hJ
                          clear hJ
                          subst ho
                          refine Pj.Step.free rfl ?_
                          simp only [Pj.puts, List.foldl_cons, List.foldl_nil, Act.put, List.setIfInBounds_toArray, List.set_cons_zero, List.set_cons_succ]
                          go_simp
                          exact hKq _ _ ⟨Pj.vset V 0 (.agg #[.int .i64 K, .int .i64 M, .int .i64 S]), by simp only [Pj.puts, List.foldl_cons, List.foldl_nil, Act.put, List.setIfInBounds_toArray, List.set_cons_zero, List.set_cons_succ, Pj.vset, Nat.reduceEqDiff, if_true, if_false], HJ.out.more HP.out hL (Kept.refl _) (rfl)⟩
                        | 1, ho =>
                          simp only [List.getElem?_toArray, List.getElem?_cons_zero, List.getElem?_cons_succ, Option.some.injEq] at ho
                          have HJ := Lib.hid hJ
                          clear hJ
                          subst ho
                          refine Pj.Step.free rfl ?_
                          simp only [Pj.puts, List.foldl_cons, List.foldl_nil, Act.put, List.setIfInBounds_toArray, List.set_cons_zero, List.set_cons_succ]
                          go_simp
                          exact hKq _ _ ⟨Pj.vset V 1 (.slice (some ⟨g18, 0, none⟩) 3 c18), by simp only [Pj.puts, List.foldl_cons, List.foldl_nil, Act.put, List.setIfInBounds_toArray, List.set_cons_zero, List.set_cons_succ, Pj.vset, Nat.reduceEqDiff, if_true, if_false], HJ.out.more HP.out hL (Kept.refl _) (rfl)⟩
                        | 2, ho =>
                          simp only [List.getElem?_toArray, List.getElem?_cons_zero, List.getElem?_cons_succ, Option.some.injEq] at ho
                          have HJ := Lib.hid hJ
                          clear hJ
                          subst ho
                          refine Pj.Step.free rfl ?_
                          simp only [Pj.puts, List.foldl_cons, List.foldl_nil, Act.put, List.setIfInBounds_toArray, List.set_cons_zero, List.set_cons_succ]
                          go_simp
                          exact hKq _ _ ⟨Pj.vset V 2 (.int .i64 q), by simp only [Pj.puts, List.foldl_cons, List.foldl_nil, Act.put, List.setIfInBounds_toArray, List.set_cons_zero, List.set_cons_succ, Pj.vset, Nat.reduceEqDiff, if_true, if_false], HJ.out.more HP.out hL (Kept.refl _) (rfl)⟩
                        | 3, ho =>
                          simp only [List.getElem?_toArray, List.getElem?_cons_zero, List.getElem?_cons_succ, Option.some.injEq] at ho
                          have e1 : V 1 = .slice (some ⟨g18, 0, none⟩) 3 c18 := hJ.h 1 (hdep 1 (by rw [← ho]; kernel_rfl))
                          have e2 : V 2 = .int .i64 q := hJ.h 2 (hdep 2 (by rw [← ho]; kernel_rfl))
                          have hq9 : (q : Int) < 3 := by omega
                          have HJ := Lib.hid hJ
                          clear hJ
                          subst ho
                          refine Pj.Step.free rfl ?_
                          simp only [Pj.puts, List.foldl_cons, List.foldl_nil, Act.put, List.setIfInBounds_toArray, List.set_cons_zero, List.set_cons_succ, e1, e2]
                          go_simp
                          exact hKq _ _ ⟨Pj.vset V 3 (.pointer (some ⟨g18, q, none⟩)), by simp only [Pj.puts, List.foldl_cons, List.foldl_nil, Act.put, List.setIfInBounds_toArray, List.set_cons_zero, List.set_cons_succ, Pj.vset, Nat.reduceEqDiff, if_true, if_false, e1, e2], HJ.out.more HP.out hL (Kept.refl _) (rfl)⟩
                        | 4, ho =>
                          simp only [List.getElem?_toArray, List.getElem?_cons_zero, List.getElem?_cons_succ, Option.some.injEq] at ho
                          have e3 : V 3 = .pointer (some ⟨g18, q, none⟩) := hJ.h 3 (hdep 3 (by rw [← ho]; kernel_rfl))
                          have hcc := HCQ.out _ (HK24.out.trans hJ.kp)
                          have HJ := Lib.hid hJ
                          clear hJ
                          subst ho
                          refine Pj.Step.free rfl ?_
                          simp only [Pj.puts, List.foldl_cons, List.foldl_nil, Act.put, List.setIfInBounds_toArray, List.set_cons_zero, List.set_cons_succ, e3]
                          go_simp
                          exact hKq _ _ ⟨Pj.vset V 4 (.slice a K cap), by simp only [Pj.puts, List.foldl_cons, List.foldl_nil, Act.put, List.setIfInBounds_toArray, List.set_cons_zero, List.set_cons_succ, Pj.vset, Nat.reduceEqDiff, if_true, if_false, e3], HJ.out.more HP.out hL (Kept.refl _) (rfl)⟩
                        | 5, ho =>
                          simp only [List.getElem?_toArray, List.getElem?_cons_zero, List.getElem?_cons_succ, Option.some.injEq] at ho
                          have e0 : V 0 = .agg #[.int .i64 K, .int .i64 M, .int .i64 S] := hJ.h 0 (hdep 0 (by rw [← ho]; kernel_rfl))
                          have e4 : V 4 = .slice a K cap := hJ.h 4 (hdep 4 (by rw [← ho]; kernel_rfl))
                          have hen := HEN.out _ (HK24.out.trans hJ.kp)
                          have HJ := Lib.hid hJ
                          clear hJ
                          subst ho
                          refine Pj.Step.free rfl ?_
                          simp only [Pj.puts, List.foldl_cons, List.foldl_nil, Act.put, List.setIfInBounds_toArray, List.set_cons_zero, List.set_cons_succ, e0, e4]
                          go_simp
                          refine hen.mono ?_
                          rintro e w' ⟨y, yc, rfl, -, hs9, hk9⟩
                          exact hKq _ _ ⟨Pj.vset V 5 (.slice y H yc), by simp only [Pj.puts, List.foldl_cons, List.foldl_nil, Act.put, List.setIfInBounds_toArray, List.set_cons_zero, List.set_cons_succ, Pj.vset, Nat.reduceEqDiff, if_true, if_false, e0, e4], HJ.out.more HP.out hL (hk9) (⟨_, _, rfl, hs9⟩)⟩
                        | 6, ho =>
                          simp only [List.getElem?_toArray, List.getElem?_cons_zero, List.getElem?_cons_succ, Option.some.injEq] at ho
                          have HJ := Lib.hid hJ
                          clear hJ
                          subst ho
                          refine Pj.Step.free rfl ?_
                          simp only [Pj.puts, List.foldl_cons, List.foldl_nil, Act.put, List.setIfInBounds_toArray, List.set_cons_zero, List.set_cons_succ]
                          go_simp
                          exact hKq _ _ ⟨Pj.vset V 6 (.int .i64 0), by simp only [Pj.puts, List.foldl_cons, List.foldl_nil, Act.put, List.setIfInBounds_toArray, List.set_cons_zero, List.set_cons_succ, Pj.vset, Nat.reduceEqDiff, if_true, if_false], HJ.out.more HP.out hL (Kept.refl _) (rfl)⟩
                        | 7, ho =>
                          simp only [List.getElem?_toArray, List.getElem?_cons_zero, List.getElem?_cons_succ, Option.some.injEq] at ho
                          obtain ⟨y5, yc5, e5, hy5⟩ := hJ.h 5 (hdep 5 (by rw [← ho]; kernel_rfl))
                          have HJ := Lib.hid hJ
                          clear hJ
                          subst ho
                          refine Pj.Step.free rfl ?_
                          simp only [Pj.puts, List.foldl_cons, List.foldl_nil, Act.put, List.setIfInBounds_toArray, List.set_cons_zero, List.set_cons_succ, e5]
                          go_simp
                          exact hKq _ _ ⟨Pj.vset V 7 (.slice y5 H yc5), by simp only [Pj.puts, List.foldl_cons, List.foldl_nil, Act.put, List.setIfInBounds_toArray, List.set_cons_zero, List.set_cons_succ, Pj.vset, Nat.reduceEqDiff, if_true, if_false, e5], HJ.out.more HP.out hL (Kept.refl _) (⟨_, _, rfl, hy5⟩)⟩
                        | n + 8, ho => simp at ho
                      case ehe =>
                        rintro L az w ⟨V, rfl, hJ⟩ hall
                        have e0 : V 0 = .agg #[.int .i64 K, .int .i64 M, .int .i64 S] := hJ.h 0 (hall 0 (by decide))
                        have e1 : V 1 = .slice (some ⟨g18, 0, none⟩) 3 c18 := hJ.h 1 (hall 1 (by decide))
                        have e2 : V 2 = .int .i64 q := hJ.h 2 (hall 2 (by decide))
                        have e3 : V 3 = .pointer (some ⟨g18, q, none⟩) := hJ.h 3 (hall 3 (by decide))
                        have e4 : V 4 = .slice a K cap := hJ.h 4 (hall 4 (by decide))
                        obtain ⟨y5, yc5, e5, hy5⟩ := hJ.h 5 (hall 5 (by decide))
                        have e6 : V 6 = .int .i64 0 := hJ.h 6 (hall 6 (by decide))
                        obtain ⟨y7, yc7, e7, hy7⟩ := hJ.h 7 (hall 7 (by decide))
                        have HKj := Lib.hid hJ.kp
                        clear hJ hall
                        simp only [Pj.puts, List.foldl_cons, List.foldl_nil, Act.put, List.setIfInBounds_toArray, List.set_cons_zero, List.set_cons_succ, e0, e1, e2, e3, e4, e5, e6, e7]
                        clear e0 e1 e2 e3 e4 e5 e6 e7
                        have HK25 := Lib.hid (HK24.out.trans HKj.out)
                        have HY7 := Lib.hid hy7
                        clear hy7 hy5
                        go_wp2_with fail
                        refine (num4_any _ _).mono ?_
                        rintro e w' ⟨rfl, rfl⟩
                        go_wp2_with fail
                        refine (eq_strings _ y7 H H yc7 P _ (HST9.out.kept HK25.out) HY7.out).mono ?_
                        rintro e w26 ⟨rfl, hk26⟩
                        have HK26 := Lib.hid (HK25.out.trans hk26)
                        have hcc := HCQ.out _ HK26.out
                        clear hk26
                        go_wp2_with fail
                        refine (eq_strings a2 a K cap2 cap X _ (HIN.out.kept (HK8.out.trans HK26.out)) (HXX.out.kept ((HKE.out.trans HK8.out).trans HK26.out))).mono ?_
                        rintro e w27 ⟨rfl, hk27⟩
                        have HK27 := Lib.hid (HK26.out.trans hk27)
                        clear hk27 hcc
                        go_wp2_with fail
                        refine (spoil_txt g9 H H _ (by omega) _ (HT9.out.kept HK27.out)).mono ?_
                        rintro e w28 ⟨⟨u9, rfl⟩, hg28⟩
                        have HK28 := Lib.hid (show Kept wE w28 from kept_gr1 (HK8.out.trans HK27.out) hg28 (fun q e => by cases e; exact HG9.out) (Nat.le_refl _))
                        have hcc := HCU.out _ (HKE.out.trans HK28.out)
                        clear hg28
                        go_wp2_with fail
                        refine (eq_strings a2 a K cap2 cap X _ (HIN.out.kept HK28.out) (HXX.out.kept (HKE.out.trans HK28.out))).mono ?_
                        rintro e w29 ⟨rfl, hk29⟩
                        have HK29 := Lib.hid (((HKX.out.trans HKE.out).trans HK28.out).trans hk29)
                        clear hk29 hcc
                        go_wp2_with fail
                        go_roundw
                        case rel => exact ⟨q + 1, by omega, by go_num, HK29.out⟩
                        case measure => simp [intOf]; omega
                  · have hBF : sizedB X K S = false := by simpa using hBT
                    have HSZB := Lib.hid hBF
                    clear hBT hBF
                    go_wp2_with fail
                    refine (encode_unfit K M S hK1 hS1 a2 l cap2 X _ HIN.out HSZB.out).mono ?_
                    rintro e w8 ⟨rfl, hk8⟩
                    have HK8 := Lib.hid hk8
                    have HBQ := Lib.hid (show ∀ w, Kept w8 w → w.cell? ⟨p4, 0, none⟩ = some (.int .i64 K) ∧ w.cell? ⟨p4, 1, none⟩ = some (.int .i64 M) ∧ w.cell? ⟨p4, 2, none⟩ = some (.int .i64 S) from fun w kk => HBE.out _ (hk8.trans kk))
                    have HCQ := Lib.hid (show ∀ w, Kept w8 w → w.cell? ⟨g18, q, none⟩ = some (.slice a l cap) from fun w kk => HCU.out _ ((HKE.out.trans hk8).trans kk))
                    have HTX := Lib.hid (show ∀ w, Kept w8 w → Calls Try.prog 20 #[.slice a l cap, .int .i64 K, .int .i64 S] w fun e w' => e = .returned (.bool false) ∧ w = w' from fun w kk => by
                      have := texts4_any S K a l cap X (by omega) w (HXX.out.kept ((HKE.out.trans hk8).trans kk))
                      rwa [HSZB.out] at this)
                    clear hk8 c0 c1 c2
                    go_wp2_with fail
                    refine Pj.wp_region_step (fun az0 L az w => ∃ V : Nat → Value, az = Pj.puts [(99, 0), (100, 1), (101, 2), (102, 3), (103, 4), (104, 5), (105, 6), (106, 7), (107, 8), (108, 9), (109, 10), (110, 11)] V az0 ∧ Pj.J w8 [Pj.Is (.bool true), Pj.Is (.bool true), Pj.Is (.slice (some ⟨g18, 0, none⟩) 3 c18), Pj.Is (.int .i64 q), Pj.Is (.pointer (some ⟨g18, q, none⟩)), Pj.Is (.slice a l cap), Pj.Is (.pointer (some ⟨p4, 0, none⟩)), Pj.Is (.int .i64 K), Pj.Is (.pointer (some ⟨p4, 2, none⟩)), Pj.Is (.int .i64 S), Pj.Is (.bool false), Pj.Is (.bool false)] L V w) (by as_aux_lemma => kernel_rfl) (by as_aux_lemma => kernel_rfl) ?eh0 ?ehs ?ehe
                    case eh0 =>
                      intro L hL
                      exact ⟨_, Pj.puts_self _ (fun j => ([99, 100, 101, 102, 103, 104, 105, 106, 107, 108, 109, 110] : List Nat).getD j 0) [0, 1, 2, 3, 4, 5, 6, 7, 8, 9, 10, 11], Pj.J.none (n := 12) (Nat.le_refl _) hL ((Kept.refl _).drew)⟩
                    case ehs =>
                      rintro L L' az w iz opz Kq ⟨V, rfl, hJ⟩ ho hopen hdep hL hKq
                      have hP : Pj.AllStay [Pj.Is (.bool true), Pj.Is (.bool true), Pj.Is (.slice (some ⟨g18, 0, none⟩) 3 c18), Pj.Is (.int .i64 q), Pj.Is (.pointer (some ⟨g18, q, none⟩)), Pj.Is (.slice a l cap), Pj.Is (.pointer (some ⟨p4, 0, none⟩)), Pj.Is (.int .i64 K), Pj.Is (.pointer (some ⟨p4, 2, none⟩)), Pj.Is (.int .i64 S), Pj.Is (.bool false), Pj.Is (.bool false)] := ⟨Pj.Is.stays _, Pj.Is.stays _, Pj.Is.stays _, Pj.Is.stays _, Pj.Is.stays _, Pj.Is.stays _, Pj.Is.stays _, Pj.Is.stays _, Pj.Is.stays _, Pj.Is.stays _, Pj.Is.stays _, Pj.Is.stays _, trivial⟩
                      have HP := Lib.hid hP
                      clear hP
                      match iz, ho with
                      | 0, ho =>
                        simp only [List.getElem?_toArray, List.getElem?_cons_zero, Option.some.injEq] at ho
                        have HJ := Lib.hid hJ
                        clear hJ
                        subst ho
                        refine Pj.Step.free rfl ?_
                        simp only [Pj.puts, List.foldl_cons, List.foldl_nil, Act.put, List.setIfInBounds_toArray, List.set_cons_zero, List.set_cons_succ]
                        go_simp
                        exact hKq _ _ ⟨Pj.vset V 0 (.bool true), by simp only [Pj.puts, List.foldl_cons, List.foldl_nil, Act.put, List.setIfInBounds_toArray, List.set_cons_zero, List.set_cons_succ, Pj.vset, Nat.reduceEqDiff, if_true, if_false], HJ.out.more HP.out hL (Kept.refl _) (rfl)⟩
                      | 1, ho =>
                        simp only [List.getElem?_toArray, List.getElem?_cons_zero, List.getElem?_cons_succ, Option.some.injEq] at ho
                        have e0 : V 0 = .bool true := hJ.h 0 (hdep 0 (by rw [← ho]; kernel_rfl))
                        have HJ := Lib.hid hJ
                        clear hJ
                        subst ho
                        refine Pj.Step.free rfl ?_
                        simp only [Pj.puts, List.foldl_cons, List.foldl_nil, Act.put, List.setIfInBounds_toArray, List.set_cons_zero, List.set_cons_succ, e0]
                        go_simp
                        exact hKq _ _ ⟨Pj.vset V 1 (.bool true), by simp only [Pj.puts, List.foldl_cons, List.foldl_nil, Act.put, List.setIfInBounds_toArray, List.set_cons_zero, List.set_cons_succ, Pj.vset, Nat.reduceEqDiff, if_true, if_false, e0], HJ.out.more HP.out hL (Kept.refl _) (rfl)⟩
                      | 2, ho =>
                        simp only [List.getElem?_toArray, List.getElem?_cons_zero, List.getElem?_cons_succ, Option.some.injEq] at ho
                        have e1 : V 1 = .bool true := hJ.h 1 (hdep 1 (by rw [← ho]; kernel_rfl))
                        have HJ := Lib.hid hJ
                        clear hJ
                        subst ho
                        refine Pj.Step.at (g := 1) (b := true) rfl ?hy ?_
                        case hy =>
                          simp only [Pj.puts, List.foldl_cons, List.foldl_nil, Act.put, List.setIfInBounds_toArray, List.set_cons_zero, List.set_cons_succ, e1]
                          rfl
                        simp only [Pj.puts, List.foldl_cons, List.foldl_nil, Act.put, List.setIfInBounds_toArray, List.set_cons_zero, List.set_cons_succ, e1]
                        go_simp
                        exact hKq _ _ ⟨Pj.vset V 2 (.slice (some ⟨g18, 0, none⟩) 3 c18), by simp only [Pj.puts, List.foldl_cons, List.foldl_nil, Act.put, List.setIfInBounds_toArray, List.set_cons_zero, List.set_cons_succ, Pj.vset, Nat.reduceEqDiff, if_true, if_false, e1], HJ.out.more HP.out hL (Kept.refl _) (rfl)⟩
                      | 3, ho =>
                        simp only [List.getElem?_toArray, List.getElem?_cons_zero, List.getElem?_cons_succ, Option.some.injEq] at ho
                        have e1 : V 1 = .bool true := hJ.h 1 (hdep 1 (by rw [← ho]; kernel_rfl))
                        have HJ := Lib.hid hJ
                        clear hJ
                        subst ho
                        refine Pj.Step.at (g := 1) (b := true) rfl ?hy ?_
                        case hy =>
                          simp only [Pj.puts, List.foldl_cons, List.foldl_nil, Act.put, List.setIfInBounds_toArray, List.set_cons_zero, List.set_cons_succ, e1]
                          rfl
                        simp only [Pj.puts, List.foldl_cons, List.foldl_nil, Act.put, List.setIfInBounds_toArray, List.set_cons_zero, List.set_cons_succ, e1]
                        go_simp
                        exact hKq _ _ ⟨Pj.vset V 3 (.int .i64 q), by simp only [Pj.puts, List.foldl_cons, List.foldl_nil, Act.put, List.setIfInBounds_toArray, List.set_cons_zero, List.set_cons_succ, Pj.vset, Nat.reduceEqDiff, if_true, if_false, e1], HJ.out.more HP.out hL (Kept.refl _) (rfl)⟩
                      | 4, ho =>
                        simp only [List.getElem?_toArray, List.getElem?_cons_zero, List.getElem?_cons_succ, Option.some.injEq] at ho
                        have e2 : V 2 = .slice (some ⟨g18, 0, none⟩) 3 c18 := hJ.h 2 (hdep 2 (by rw [← ho]; kernel_rfl))
                        have e3 : V 3 = .int .i64 q := hJ.h 3 (hdep 3 (by rw [← ho]; kernel_rfl))
                        have e1 : V 1 = .bool true := hJ.h 1 (hdep 1 (by rw [← ho]; kernel_rfl))
                        have hq9 : (q : Int) < 3 := by omega
                        have HJ := Lib.hid hJ
                        clear hJ
                        subst ho
                        refine Pj.Step.at (g := 1) (b := true) rfl ?hy ?_
                        case hy =>
                          simp only [Pj.puts, List.foldl_cons, List.foldl_nil, Act.put, List.setIfInBounds_toArray, List.set_cons_zero, List.set_cons_succ, e2, e3, e1]
                          rfl
                        simp only [Pj.puts, List.foldl_cons, List.foldl_nil, Act.put, List.setIfInBounds_toArray, List.set_cons_zero, List.set_cons_succ, e2, e3, e1]
                        go_simp
                        exact hKq _ _ ⟨Pj.vset V 4 (.pointer (some ⟨g18, q, none⟩)), by simp only [Pj.puts, List.foldl_cons, List.foldl_nil, Act.put, List.setIfInBounds_toArray, List.set_cons_zero, List.set_cons_succ, Pj.vset, Nat.reduceEqDiff, if_true, if_false, e2, e3, e1], HJ.out.more HP.out hL (Kept.refl _) (rfl)⟩
                      | 5, ho =>
                        simp only [List.getElem?_toArray, List.getElem?_cons_zero, List.getElem?_cons_succ, Option.some.injEq] at ho
                        have e4 : V 4 = .pointer (some ⟨g18, q, none⟩) := hJ.h 4 (hdep 4 (by rw [← ho]; kernel_rfl))
                        have e1 : V 1 = .bool true := hJ.h 1 (hdep 1 (by rw [← ho]; kernel_rfl))
                        have hcc := HCQ.out _ hJ.kp
                        have HJ := Lib.hid hJ
                        clear hJ
                        subst ho
                        refine Pj.Step.at (g := 1) (b := true) rfl ?hy ?_
                        case hy =>
                          simp only [Pj.puts, List.foldl_cons, List.foldl_nil, Act.put, List.setIfInBounds_toArray, List.set_cons_zero, List.set_cons_succ, e4, e1]
                          rfl
                        simp only [Pj.puts, List.foldl_cons, List.foldl_nil, Act.put, List.setIfInBounds_toArray, List.set_cons_zero, List.set_cons_succ, e4, e1]
                        go_simp
                        exact hKq _ _ ⟨Pj.vset V 5 (.slice a l cap), by simp only [Pj.puts, List.foldl_cons, List.foldl_nil, Act.put, List.setIfInBounds_toArray, List.set_cons_zero, List.set_cons_succ, Pj.vset, Nat.reduceEqDiff, if_true, if_false, e4, e1], HJ.out.more HP.out hL (Kept.refl _) (rfl)⟩
                      | 6, ho =>
                        simp only [List.getElem?_toArray, List.getElem?_cons_zero, List.getElem?_cons_succ, Option.some.injEq] at ho
                        have e1 : V 1 = .bool true := hJ.h 1 (hdep 1 (by rw [← ho]; kernel_rfl))
                        have HJ := Lib.hid hJ
                        clear hJ
                        subst ho
                        refine Pj.Step.at (g := 1) (b := true) rfl ?hy ?_
                        case hy =>
                          simp only [Pj.puts, List.foldl_cons, List.foldl_nil, Act.put, List.setIfInBounds_toArray, List.set_cons_zero, List.set_cons_succ, e1]
                          rfl
                        simp only [Pj.puts, List.foldl_cons, List.foldl_nil, Act.put, List.setIfInBounds_toArray, List.set_cons_zero, List.set_cons_succ, e1]
                        go_simp
                        exact hKq _ _ ⟨Pj.vset V 6 (.pointer (some ⟨p4, 0, none⟩)), by simp only [Pj.puts, List.foldl_cons, List.foldl_nil, Act.put, List.setIfInBounds_toArray, List.set_cons_zero, List.set_cons_succ, Pj.vset, Nat.reduceEqDiff, if_true, if_false, e1], HJ.out.more HP.out hL (Kept.refl _) (rfl)⟩
                      | 7, ho =>
                        simp only [List.getElem?_toArray, List.getElem?_cons_zero, List.getElem?_cons_succ, Option.some.injEq] at ho
                        have e6 : V 6 = .pointer (some ⟨p4, 0, none⟩) := hJ.h 6 (hdep 6 (by rw [← ho]; kernel_rfl))
                        have e1 : V 1 = .bool true := hJ.h 1 (hdep 1 (by rw [← ho]; kernel_rfl))
                        obtain ⟨d0, d1, d2⟩ := HBQ.out _ hJ.kp
                        have HJ := Lib.hid hJ
                        clear hJ
                        subst ho
                        refine Pj.Step.at (g := 1) (b := true) rfl ?hy ?_
                        case hy =>
                          simp only [Pj.puts, List.foldl_cons, List.foldl_nil, Act.put, List.setIfInBounds_toArray, List.set_cons_zero, List.set_cons_succ, e6, e1]
                          rfl
                        simp only [Pj.puts, List.foldl_cons, List.foldl_nil, Act.put, List.setIfInBounds_toArray, List.set_cons_zero, List.set_cons_succ, e6, e1]
                        go_simp
                        exact hKq _ _ ⟨Pj.vset V 7 (.int .i64 K), by simp only [Pj.puts, List.foldl_cons, List.foldl_nil, Act.put, List.setIfInBounds_toArray, List.set_cons_zero, List.set_cons_succ, Pj.vset, Nat.reduceEqDiff, if_true, if_false, e6, e1], HJ.out.more HP.out hL (Kept.refl _) (rfl)⟩
                      | 8, ho =>
                        simp only [List.getElem?_toArray, List.getElem?_cons_zero, List.getElem?_cons_succ, Option.some.injEq] at ho
                        have e1 : V 1 = .bool true := hJ.h 1 (hdep 1 (by rw [← ho]; kernel_rfl))
                        have HJ := Lib.hid hJ
                        clear hJ
                        subst ho
                        refine Pj.Step.at (g := 1) (b := true) rfl ?hy ?_
                        case hy =>
                          simp only [Pj.puts, List.foldl_cons, List.foldl_nil, Act.put, List.setIfInBounds_toArray, List.set_cons_zero, List.set_cons_succ, e1]
                          rfl
                        simp only [Pj.puts, List.foldl_cons, List.foldl_nil, Act.put, List.setIfInBounds_toArray, List.set_cons_zero, List.set_cons_succ, e1]
                        go_simp
                        exact hKq _ _ ⟨Pj.vset V 8 (.pointer (some ⟨p4, 2, none⟩)), by simp only [Pj.puts, List.foldl_cons, List.foldl_nil, Act.put, List.setIfInBounds_toArray, List.set_cons_zero, List.set_cons_succ, Pj.vset, Nat.reduceEqDiff, if_true, if_false, e1], HJ.out.more HP.out hL (Kept.refl _) (rfl)⟩
                      | 9, ho =>
                        simp only [List.getElem?_toArray, List.getElem?_cons_zero, List.getElem?_cons_succ, Option.some.injEq] at ho
                        have e8 : V 8 = .pointer (some ⟨p4, 2, none⟩) := hJ.h 8 (hdep 8 (by rw [← ho]; kernel_rfl))
                        have e1 : V 1 = .bool true := hJ.h 1 (hdep 1 (by rw [← ho]; kernel_rfl))
                        obtain ⟨d0, d1, d2⟩ := HBQ.out _ hJ.kp
                        have HJ := Lib.hid hJ
                        clear hJ
                        subst ho
                        refine Pj.Step.at (g := 1) (b := true) rfl ?hy ?_
                        case hy =>
                          simp only [Pj.puts, List.foldl_cons, List.foldl_nil, Act.put, List.setIfInBounds_toArray, List.set_cons_zero, List.set_cons_succ, e8, e1]
                          rfl
                        simp only [Pj.puts, List.foldl_cons, List.foldl_nil, Act.put, List.setIfInBounds_toArray, List.set_cons_zero, List.set_cons_succ, e8, e1]
                        go_simp
                        exact hKq _ _ ⟨Pj.vset V 9 (.int .i64 S), by simp only [Pj.puts, List.foldl_cons, List.foldl_nil, Act.put, List.setIfInBounds_toArray, List.set_cons_zero, List.set_cons_succ, Pj.vset, Nat.reduceEqDiff, if_true, if_false, e8, e1], HJ.out.more HP.out hL (Kept.refl _) (rfl)⟩
                      | 10, ho =>
                        simp only [List.getElem?_toArray, List.getElem?_cons_zero, List.getElem?_cons_succ, Option.some.injEq] at ho
                        have e5 : V 5 = .slice a l cap := hJ.h 5 (hdep 5 (by rw [← ho]; kernel_rfl))
                        have e7 : V 7 = .int .i64 K := hJ.h 7 (hdep 7 (by rw [← ho]; kernel_rfl))
                        have e9 : V 9 = .int .i64 S := hJ.h 9 (hdep 9 (by rw [← ho]; kernel_rfl))
                        have e1 : V 1 = .bool true := hJ.h 1 (hdep 1 (by rw [← ho]; kernel_rfl))
                        have htx := HTX.out _ hJ.kp
                        have HJ := Lib.hid hJ
                        clear hJ
                        subst ho
                        refine Pj.Step.at (g := 1) (b := true) rfl ?hy ?_
                        case hy =>
                          simp only [Pj.puts, List.foldl_cons, List.foldl_nil, Act.put, List.setIfInBounds_toArray, List.set_cons_zero, List.set_cons_succ, e5, e7, e9, e1]
                          rfl
                        simp only [Pj.puts, List.foldl_cons, List.foldl_nil, Act.put, List.setIfInBounds_toArray, List.set_cons_zero, List.set_cons_succ, e5, e7, e9, e1]
                        go_simp
                        refine htx.mono ?_
                        rintro e w' ⟨rfl, rfl⟩
                        have hk9 := Kept.refl w
                        exact hKq _ _ ⟨Pj.vset V 10 (.bool false), by simp only [Pj.puts, List.foldl_cons, List.foldl_nil, Act.put, List.setIfInBounds_toArray, List.set_cons_zero, List.set_cons_succ, Pj.vset, Nat.reduceEqDiff, if_true, if_false, e5, e7, e9, e1], HJ.out.more HP.out hL (hk9) (rfl)⟩
                      | 11, ho =>
                        simp only [List.getElem?_toArray, List.getElem?_cons_zero, List.getElem?_cons_succ, Option.some.injEq] at ho
                        have e1 : V 1 = .bool true := hJ.h 1 (hdep 1 (by rw [← ho]; kernel_rfl))
                        have e10 : V 10 = .bool false := hJ.h 10 (hdep 10 (by rw [← ho]; kernel_rfl))
                        have HJ := Lib.hid hJ
                        clear hJ
                        subst ho
                        refine Pj.Step.free rfl ?_
                        simp only [Pj.puts, List.foldl_cons, List.foldl_nil, Act.put, List.setIfInBounds_toArray, List.set_cons_zero, List.set_cons_succ, e1, e10]
                        go_simp
                        exact hKq _ _ ⟨Pj.vset V 11 (.bool false), by simp only [Pj.puts, List.foldl_cons, List.foldl_nil, Act.put, List.setIfInBounds_toArray, List.set_cons_zero, List.set_cons_succ, Pj.vset, Nat.reduceEqDiff, if_true, if_false, e1, e10], HJ.out.more HP.out hL (Kept.refl _) (rfl)⟩
                      | n + 12, ho => simp at ho
                    case ehe =>
                      rintro L az w ⟨V, rfl, hJ⟩ hall
                      have e0 : V 0 = .bool true := hJ.h 0 (hall 0 (by decide))
                      have e1 : V 1 = .bool true := hJ.h 1 (hall 1 (by decide))
                      have e2 : V 2 = .slice (some ⟨g18, 0, none⟩) 3 c18 := hJ.h 2 (hall 2 (by decide))
                      have e3 : V 3 = .int .i64 q := hJ.h 3 (hall 3 (by decide))
                      have e4 : V 4 = .pointer (some ⟨g18, q, none⟩) := hJ.h 4 (hall 4 (by decide))
                      have e5 : V 5 = .slice a l cap := hJ.h 5 (hall 5 (by decide))
                      have e6 : V 6 = .pointer (some ⟨p4, 0, none⟩) := hJ.h 6 (hall 6 (by decide))
                      have e7 : V 7 = .int .i64 K := hJ.h 7 (hall 7 (by decide))
                      have e8 : V 8 = .pointer (some ⟨p4, 2, none⟩) := hJ.h 8 (hall 8 (by decide))
                      have e9 : V 9 = .int .i64 S := hJ.h 9 (hall 9 (by decide))
                      have e10 : V 10 = .bool false := hJ.h 10 (hall 10 (by decide))
                      have e11 : V 11 = .bool false := hJ.h 11 (hall 11 (by decide))
                      have HKj := Lib.hid hJ.kp
                      clear hJ hall
                      simp only [Pj.puts, List.foldl_cons, List.foldl_nil, Act.put, List.setIfInBounds_toArray, List.set_cons_zero, List.set_cons_succ, e0, e1, e2, e3, e4, e5, e6, e7, e8, e9, e10, e11]
                      clear e0 e1 e2 e3 e4 e5 e6 e7 e8 e9 e10 e11
                      have HK25 := Lib.hid HKj.out
                      go_wp2_with fail
                      refine (num4_any _ _).mono ?_
                      rintro e w' ⟨rfl, rfl⟩
                      go_wp2_with fail
                      refine (eq_strings none none 0 0 0 [] _ (strs_nil4 _) (strs_nil4 _)).mono ?_
                      rintro e w26 ⟨rfl, hk26⟩
                      have HK26 := Lib.hid (HK25.out.trans hk26)
                      have hcc := HCQ.out _ HK26.out
                      clear hk26
                      go_wp2_with fail
                      refine (eq_strings a2 a l cap2 cap X _ (HIN.out.kept (HK8.out.trans HK26.out)) (HXX.out.kept ((HKE.out.trans HK8.out).trans HK26.out))).mono ?_
                      rintro e w27 ⟨rfl, hk27⟩
                      have HK27 := Lib.hid (HK26.out.trans hk27)
                      clear hk27 hcc
                      go_wp2_with fail
                      refine (spoil_none _ _ _).mono ?_
                      rintro e w28 ⟨⟨u9, rfl⟩, hk28⟩
                      have HK28 := Lib.hid (show Kept wE w28 from (HK8.out.trans HK27.out).trans hk28)
                      have hcc := HCU.out _ (HKE.out.trans HK28.out)
                      clear hk28
                      go_wp2_with fail
                      refine (eq_strings a2 a l cap2 cap X _ (HIN.out.kept HK28.out) (HXX.out.kept (HKE.out.trans HK28.out))).mono ?_
                      rintro e w29 ⟨rfl, hk29⟩
                      have HK29 := Lib.hid (((HKX.out.trans HKE.out).trans HK28.out).trans hk29)
                      clear hk29 hcc
                      go_wp2_with fail
                      go_roundw
                      case rel => exact ⟨q + 1, by omega, by go_num, HK29.out⟩
                      case measure => simp [intOf]; omega
                · obtain rfl : q = 3 := by omega
                  have HKL := Lib.hid (((HKd.out.trans HKi.out).trans HKq.out).trans HKX.out)
                  go_wp2_with fail
                  go_roundw
                  case rel => exact ⟨j + 1, by omega, by go_num, HKL.out⟩
                  case measure => simp [intOf]; omega
          · have hBf : shpB k m s = false := by simpa using hB
            have HSB := Lib.hid hBf
            have HSE := Lib.hid (show shpE k m s = 1 by unfold shpE; rw [hBf]; rfl)
            rw [hBf]
            clear hB hBf
            go_wp2_with fail
            refine (cmatrix_bad k m s _ HSB.out).mono ?_
            rintro e wc ⟨rfl, hkc⟩
            have HKc := Lib.hid (HKb.out.trans hkc)
            have HB6 := Lib.hid (HB5.out.kept hkc)
            clear hkc c0 c1 c2
            go_upto_region 9 with (fail)
            have HX6 := Lib.hid (BlockAt.new wc #[.int .i64 0, .int .i64 0, .slice none 0 0] 33)
            have k6 := (Kept.refl wc).alloc (.cells #[.int .i64 0, .int .i64 0, .slice none 0 0] 33)
            have HB7 := Lib.hid (HB6.out.kept k6)
            have HKd := Lib.hid ((HKa.out.trans HKc.out).trans k6)
            generalize wc.alloc (.cells #[.int .i64 0, .int .i64 0, .slice none 0 0] 33) = wd at *
            generalize wc.heap.size = p6 at *
            clear k6 HB6 HB5
            go_upto_region 11 with (fail)
            have HX9 := Lib.hid (BlockAt.new wd #[.int .i64 0, .int .i64 0, .slice none 0 0] 33)
            have k9 := (Kept.refl wd).alloc (.cells #[.int .i64 0, .int .i64 0, .slice none 0 0] 33)
            have HK9 := Lib.hid k9
            obtain ⟨a0, a1, a2⟩ := HREAD.out _ (HKd.out.trans k9)
            generalize wd.alloc (.cells #[.int .i64 0, .int .i64 0, .slice none 0 0] 33) = we at *
            generalize wd.heap.size = p9 at *
            clear k9
            go_upto_region 12 with (fail)
            have HG0 := Lib.hid (BlockAt.new we #[.slice al ll cl] 23)
            have kg := (Kept.refl we).alloc (.cells #[.slice al ll cl] 23)
            have HKg := Lib.hid (HK9.out.trans kg)
            have HXA := Lib.hid (HX9.out.kept kg)
            generalize we.alloc (.cells #[.slice al ll cl] 23) = wi at *
            generalize we.heap.size = g18 at *
            obtain ⟨c0, c1, c2⟩ := box3c (HB7.out.kept HKg.out)
            clear kg a0 a1 a2
            go_wp2_with fail
            refine (code_check _ _ _ _).mono ?_
            rintro e wn ⟨rfl, hkn⟩
            rw [HSE.out]
            have HKn := Lib.hid hkn
            clear hkn c0 c1 c2
            go_wp2_with fail
            refine (num4_any _ _).mono ?_
            rintro e w' ⟨rfl, rfl⟩
            go_wp2_with fail
            refine (num4_any _ _).mono ?_
            rintro e w' ⟨rfl, rfl⟩
            have HX6i := Lib.hid ((HX6.out.kept HKg.out).kept HKn.out)
            have HX9i := Lib.hid (HXA.out.kept HKn.out)
            obtain ⟨c0, c1, c2⟩ := box3c HX6i.out
            obtain ⟨d0, d1, d2⟩ := box3c HX9i.out
            go_wp2_with fail
            refine (eq_matrix 0 0 none none 0 0 0 (fun _ => 0) (by omega) _ (ByIn.empty _ _ _) (ByIn.empty _ _ _)).mono ?_
            rintro e wq ⟨rfl, hkq⟩
            have HKq := Lib.hid (HKn.out.trans hkq)
            have HGQ := Lib.hid (HG0.out.kept HKq.out)
            have HBW := Lib.hid (show ∀ w, Kept wq w → w.cell? ⟨p4, 0, none⟩ = some (.int .i64 k) ∧ w.cell? ⟨p4, 1, none⟩ = some (.int .i64 m) ∧ w.cell? ⟨p4, 2, none⟩ = some (.int .i64 s) from fun w kk => box3c (((HB7.out.kept HKg.out).kept HKq.out).kept kk))
            have HXX := Lib.hid (show ∀ w, Kept wq w → StrsIn w al ll ss from fun w kk => ((HA.out.kept HK1.out).kept (((HKd.out.trans HKg.out).trans HKq.out).trans kk)).texts.strs)
            clear hkq c0 c1 c2 d0 d1 d2
            go_wp2_with fail
            go_loopw [11] (fun kv wx => ∃ q : Nat, q ≤ 1 ∧ kv = .int .i64 q ∧ Kept wq wx) (fun kv _ => 1 - (intOf kv).toNat)
            case atStart => exact ⟨0, by omega, rfl, Kept.refl _⟩
            case round =>
              rename World => wx
              obtain ⟨q, hq, rfl, hkx⟩ := hrel
              have HKX := Lib.hid hkx
              clear hkx
              by_cases hq3 : q < 1
              · obtain rfl : q = 0 := by omega
                have HCU := Lib.hid (show ∀ w, Kept wx w → w.cell? ⟨g18, 0, none⟩ = some (.slice al ll cl) from fun w kk => by simpa using ((HGQ.out.kept HKX.out).kept kk).cell 0)
                have hcu := HCU.out _ (Kept.refl _)
                have HXW := Lib.hid (HXX.out _ HKX.out)
                go_wp2_with fail
                refine (copy_strings al ll cl ss _ HXW.out (by omega)).mono ?_
                rintro e wE ⟨a2, cap2, rfl, hlc2, hin, hkE⟩
                have HIN := Lib.hid hin
                have HKE := Lib.hid hkE
                obtain ⟨c0, c1, c2⟩ := HBW.out _ (HKX.out.trans hkE)
                clear hin hkE hcu
                go_wp2_with fail
                refine (encode_shape k m s a2 ll cap2 _ HSB.out).mono ?_
                rintro e w8 ⟨rfl, hk8⟩
                have HK8 := Lib.hid hk8
                clear hk8 c0 c1 c2
                go_wp2_with fail
                refine Pj.wp_region_step (fun az0 L az w => ∃ V : Nat → Value, az = Pj.puts [(99, 0), (100, 1), (101, 2), (102, 3), (103, 4), (104, 5), (105, 6), (106, 7), (107, 8), (108, 9), (109, 10), (110, 11)] V az0 ∧ Pj.J w8 [Pj.Is (.bool false), Pj.Is (.bool false), Pj.Is (undef), Pj.Is (undef), Pj.Is (undef), Pj.Is (undef), Pj.Is (undef), Pj.Is (undef), Pj.Is (undef), Pj.Is (undef), Pj.Is (undef), Pj.Is (.bool false)] L V w) (by as_aux_lemma => kernel_rfl) (by as_aux_lemma => kernel_rfl) ?eh0 ?ehs ?ehe
                case eh0 =>
                  intro L hL
                  exact ⟨_, Pj.puts_self _ (fun j => ([99, 100, 101, 102, 103, 104, 105, 106, 107, 108, 109, 110] : List Nat).getD j 0) [0, 1, 2, 3, 4, 5, 6, 7, 8, 9, 10, 11], Pj.J.none (n := 12) (Nat.le_refl _) hL ((Kept.refl _).drew)⟩
                case ehs =>
                  rintro L L' az w iz opz Kq ⟨V, rfl, hJ⟩ ho hopen hdep hL hKq
                  have hP : Pj.AllStay [Pj.Is (.bool false), Pj.Is (.bool false), Pj.Is (undef), Pj.Is (undef), Pj.Is (undef), Pj.Is (undef), Pj.Is (undef), Pj.Is (undef), Pj.Is (undef), Pj.Is (undef), Pj.Is (undef), Pj.Is (.bool false)] := ⟨Pj.Is.stays _, Pj.Is.stays _, Pj.Is.stays _, Pj.Is.stays _, Pj.Is.stays _, Pj.Is.stays _, Pj.Is.stays _, Pj.Is.stays _, Pj.Is.stays _, Pj.Is.stays _, Pj.Is.stays _, Pj.Is.stays _, trivial⟩
                  have HP := Lib.hid hP
                  clear hP
                  match iz, ho with
                  | 0, ho =>
                    simp only [List.getElem?_toArray, List.getElem?_cons_zero, Option.some.injEq] at ho
                    have HJ := Lib.hid hJ
                    clear hJ
                    subst ho
                    refine Pj.Step.free rfl ?_
                    simp only [Pj.puts, List.foldl_cons, List.foldl_nil, Act.put, List.setIfInBounds_toArray, List.set_cons_zero, List.set_cons_succ]
                    go_simp
                    exact hKq _ _ ⟨Pj.vset V 0 (.bool false), by simp only [Pj.puts, List.foldl_cons, List.foldl_nil, Act.put, List.setIfInBounds_toArray, List.set_cons_zero, List.set_cons_succ, Pj.vset, Nat.reduceEqDiff, if_true, if_false], HJ.out.more HP.out hL (Kept.refl _) (rfl)⟩
                  | 1, ho =>
                    simp only [List.getElem?_toArray, List.getElem?_cons_zero, List.getElem?_cons_succ, Option.some.injEq] at ho
                    have e0 : V 0 = .bool false := hJ.h 0 (hdep 0 (by rw [← ho]; kernel_rfl))
                    have HJ := Lib.hid hJ
                    clear hJ
                    subst ho
                    refine Pj.Step.free rfl ?_
                    simp only [Pj.puts, List.foldl_cons, List.foldl_nil, Act.put, List.setIfInBounds_toArray, List.set_cons_zero, List.set_cons_succ, e0]
                    go_simp
                    exact hKq _ _ ⟨Pj.vset V 1 (.bool false), by simp only [Pj.puts, List.foldl_cons, List.foldl_nil, Act.put, List.setIfInBounds_toArray, List.set_cons_zero, List.set_cons_succ, Pj.vset, Nat.reduceEqDiff, if_true, if_false, e0], HJ.out.more HP.out hL (Kept.refl _) (rfl)⟩
                  | 2, ho =>
                    simp only [List.getElem?_toArray, List.getElem?_cons_zero, List.getElem?_cons_succ, Option.some.injEq] at ho
                    have e1 : V 1 = .bool false := hJ.h 1 (hdep 1 (by rw [← ho]; kernel_rfl))
                    have HJ := Lib.hid hJ
                    clear hJ
                    subst ho
                    refine Pj.Step.not (g := 1) (b := true) rfl ?hy ?_
                    case hy =>
                      simp only [Pj.puts, List.foldl_cons, List.foldl_nil, Act.put, List.setIfInBounds_toArray, List.set_cons_zero, List.set_cons_succ, e1]
                      rfl
                    simp only [Pj.puts, List.foldl_cons, List.foldl_nil, Act.put, List.setIfInBounds_toArray, List.set_cons_zero, List.set_cons_succ, e1]
                    exact hKq _ _ ⟨Pj.vset V 2 (undef), by simp only [Pj.puts, List.foldl_cons, List.foldl_nil, Act.put, List.setIfInBounds_toArray, List.set_cons_zero, List.set_cons_succ, Pj.vset, Nat.reduceEqDiff, if_true, if_false, e1], HJ.out.more HP.out hL (Kept.refl _) (rfl)⟩
                  | 3, ho =>
                    simp only [List.getElem?_toArray, List.getElem?_cons_zero, List.getElem?_cons_succ, Option.some.injEq] at ho
                    have e1 : V 1 = .bool false := hJ.h 1 (hdep 1 (by rw [← ho]; kernel_rfl))
                    have HJ := Lib.hid hJ
                    clear hJ
                    subst ho
                    refine Pj.Step.not (g := 1) (b := true) rfl ?hy ?_
                    case hy =>
                      simp only [Pj.puts, List.foldl_cons, List.foldl_nil, Act.put, List.setIfInBounds_toArray, List.set_cons_zero, List.set_cons_succ, e1]
                      rfl
                    simp only [Pj.puts, List.foldl_cons, List.foldl_nil, Act.put, List.setIfInBounds_toArray, List.set_cons_zero, List.set_cons_succ, e1]
                    exact hKq _ _ ⟨Pj.vset V 3 (undef), by simp only [Pj.puts, List.foldl_cons, List.foldl_nil, Act.put, List.setIfInBounds_toArray, List.set_cons_zero, List.set_cons_succ, Pj.vset, Nat.reduceEqDiff, if_true, if_false, e1], HJ.out.more HP.out hL (Kept.refl _) (rfl)⟩
                  | 4, ho =>
                    simp only [List.getElem?_toArray, List.getElem?_cons_zero, List.getElem?_cons_succ, Option.some.injEq] at ho
                    have e2 : V 2 = undef := hJ.h 2 (hdep 2 (by rw [← ho]; kernel_rfl))
                    have e3 : V 3 = undef := hJ.h 3 (hdep 3 (by rw [← ho]; kernel_rfl))
                    have e1 : V 1 = .bool false := hJ.h 1 (hdep 1 (by rw [← ho]; kernel_rfl))
                    have HJ := Lib.hid hJ
                    clear hJ
                    subst ho
                    refine Pj.Step.not (g := 1) (b := true) rfl ?hy ?_
                    case hy =>
                      simp only [Pj.puts, List.foldl_cons, List.foldl_nil, Act.put, List.setIfInBounds_toArray, List.set_cons_zero, List.set_cons_succ, e2, e3, e1]
                      rfl
                    simp only [Pj.puts, List.foldl_cons, List.foldl_nil, Act.put, List.setIfInBounds_toArray, List.set_cons_zero, List.set_cons_succ, e2, e3, e1]
                    exact hKq _ _ ⟨Pj.vset V 4 (undef), by simp only [Pj.puts, List.foldl_cons, List.foldl_nil, Act.put, List.setIfInBounds_toArray, List.set_cons_zero, List.set_cons_succ, Pj.vset, Nat.reduceEqDiff, if_true, if_false, e2, e3, e1], HJ.out.more HP.out hL (Kept.refl _) (rfl)⟩
                  | 5, ho =>
                    simp only [List.getElem?_toArray, List.getElem?_cons_zero, List.getElem?_cons_succ, Option.some.injEq] at ho
                    have e4 : V 4 = undef := hJ.h 4 (hdep 4 (by rw [← ho]; kernel_rfl))
                    have e1 : V 1 = .bool false := hJ.h 1 (hdep 1 (by rw [← ho]; kernel_rfl))
                    have HJ := Lib.hid hJ
                    clear hJ
                    subst ho
                    refine Pj.Step.not (g := 1) (b := true) rfl ?hy ?_
                    case hy =>
                      simp only [Pj.puts, List.foldl_cons, List.foldl_nil, Act.put, List.setIfInBounds_toArray, List.set_cons_zero, List.set_cons_succ, e4, e1]
                      rfl
                    simp only [Pj.puts, List.foldl_cons, List.foldl_nil, Act.put, List.setIfInBounds_toArray, List.set_cons_zero, List.set_cons_succ, e4, e1]
                    exact hKq _ _ ⟨Pj.vset V 5 (undef), by simp only [Pj.puts, List.foldl_cons, List.foldl_nil, Act.put, List.setIfInBounds_toArray, List.set_cons_zero, List.set_cons_succ, Pj.vset, Nat.reduceEqDiff, if_true, if_false, e4, e1], HJ.out.more HP.out hL (Kept.refl _) (rfl)⟩
                  | 6, ho =>
                    simp only [List.getElem?_toArray, List.getElem?_cons_zero, List.getElem?_cons_succ, Option.some.injEq] at ho
                    have e1 : V 1 = .bool false := hJ.h 1 (hdep 1 (by rw [← ho]; kernel_rfl))
                    have HJ := Lib.hid hJ
                    clear hJ
                    subst ho
                    refine Pj.Step.not (g := 1) (b := true) rfl ?hy ?_
                    case hy =>
                      simp only [Pj.puts, List.foldl_cons, List.foldl_nil, Act.put, List.setIfInBounds_toArray, List.set_cons_zero, List.set_cons_succ, e1]
                      rfl
                    simp only [Pj.puts, List.foldl_cons, List.foldl_nil, Act.put, List.setIfInBounds_toArray, List.set_cons_zero, List.set_cons_succ, e1]
                    exact hKq _ _ ⟨Pj.vset V 6 (undef), by simp only [Pj.puts, List.foldl_cons, List.foldl_nil, Act.put, List.setIfInBounds_toArray, List.set_cons_zero, List.set_cons_succ, Pj.vset, Nat.reduceEqDiff, if_true, if_false, e1], HJ.out.more HP.out hL (Kept.refl _) (rfl)⟩
                  | 7, ho =>
                    simp only [List.getElem?_toArray, List.getElem?_cons_zero, List.getElem?_cons_succ, Option.some.injEq] at ho
                    have e6 : V 6 = undef := hJ.h 6 (hdep 6 (by rw [← ho]; kernel_rfl))
                    have e1 : V 1 = .bool false := hJ.h 1 (hdep 1 (by rw [← ho]; kernel_rfl))
                    have HJ := Lib.hid hJ
                    clear hJ
                    subst ho
                    refine Pj.Step.not (g := 1) (b := true) rfl ?hy ?_
                    case hy =>
                      simp only [Pj.puts, List.foldl_cons, List.foldl_nil, Act.put, List.setIfInBounds_toArray, List.set_cons_zero, List.set_cons_succ, e6, e1]
                      rfl
                    simp only [Pj.puts, List.foldl_cons, List.foldl_nil, Act.put, List.setIfInBounds_toArray, List.set_cons_zero, List.set_cons_succ, e6, e1]
                    exact hKq _ _ ⟨Pj.vset V 7 (undef), by simp only [Pj.puts, List.foldl_cons, List.foldl_nil, Act.put, List.setIfInBounds_toArray, List.set_cons_zero, List.set_cons_succ, Pj.vset, Nat.reduceEqDiff, if_true, if_false, e6, e1], HJ.out.more HP.out hL (Kept.refl _) (rfl)⟩
                  | 8, ho =>
                    simp only [List.getElem?_toArray, List.getElem?_cons_zero, List.getElem?_cons_succ, Option.some.injEq] at ho
                    have e1 : V 1 = .bool false := hJ.h 1 (hdep 1 (by rw [← ho]; kernel_rfl))
                    have HJ := Lib.hid hJ
                    clear hJ
                    subst ho
                    refine Pj.Step.not (g := 1) (b := true) rfl ?hy ?_
                    case hy =>
                      simp only [Pj.puts, List.foldl_cons, List.foldl_nil, Act.put, List.setIfInBounds_toArray, List.set_cons_zero, List.set_cons_succ, e1]
                      rfl
                    simp only [Pj.puts, List.foldl_cons, List.foldl_nil, Act.put, List.setIfInBounds_toArray, List.set_cons_zero, List.set_cons_succ, e1]
                    exact hKq _ _ ⟨Pj.vset V 8 (undef), by simp only [Pj.puts, List.foldl_cons, List.foldl_nil, Act.put, List.setIfInBounds_toArray, List.set_cons_zero, List.set_cons_succ, Pj.vset, Nat.reduceEqDiff, if_true, if_false, e1], HJ.out.more HP.out hL (Kept.refl _) (rfl)⟩
                  | 9, ho =>
                    simp only [List.getElem?_toArray, List.getElem?_cons_zero, List.getElem?_cons_succ, Option.some.injEq] at ho
                    have e8 : V 8 = undef := hJ.h 8 (hdep 8 (by rw [← ho]; kernel_rfl))
                    have e1 : V 1 = .bool false := hJ.h 1 (hdep 1 (by rw [← ho]; kernel_rfl))
                    have HJ := Lib.hid hJ
                    clear hJ
                    subst ho
                    refine Pj.Step.not (g := 1) (b := true) rfl ?hy ?_
                    case hy =>
                      simp only [Pj.puts, List.foldl_cons, List.foldl_nil, Act.put, List.setIfInBounds_toArray, List.set_cons_zero, List.set_cons_succ, e8, e1]
                      rfl
                    simp only [Pj.puts, List.foldl_cons, List.foldl_nil, Act.put, List.setIfInBounds_toArray, List.set_cons_zero, List.set_cons_succ, e8, e1]
                    exact hKq _ _ ⟨Pj.vset V 9 (undef), by simp only [Pj.puts, List.foldl_cons, List.foldl_nil, Act.put, List.setIfInBounds_toArray, List.set_cons_zero, List.set_cons_succ, Pj.vset, Nat.reduceEqDiff, if_true, if_false, e8, e1], HJ.out.more HP.out hL (Kept.refl _) (rfl)⟩
                  | 10, ho =>
                    simp only [List.getElem?_toArray, List.getElem?_cons_zero, List.getElem?_cons_succ, Option.some.injEq] at ho
                    have e5 : V 5 = undef := hJ.h 5 (hdep 5 (by rw [← ho]; kernel_rfl))
                    have e7 : V 7 = undef := hJ.h 7 (hdep 7 (by rw [← ho]; kernel_rfl))
                    have e9 : V 9 = undef := hJ.h 9 (hdep 9 (by rw [← ho]; kernel_rfl))
                    have e1 : V 1 = .bool false := hJ.h 1 (hdep 1 (by rw [← ho]; kernel_rfl))
                    have HJ := Lib.hid hJ
                    clear hJ
                    subst ho
                    refine Pj.Step.not (g := 1) (b := true) rfl ?hy ?_
                    case hy =>
                      simp only [Pj.puts, List.foldl_cons, List.foldl_nil, Act.put, List.setIfInBounds_toArray, List.set_cons_zero, List.set_cons_succ, e5, e7, e9, e1]
                      rfl
                    simp only [Pj.puts, List.foldl_cons, List.foldl_nil, Act.put, List.setIfInBounds_toArray, List.set_cons_zero, List.set_cons_succ, e5, e7, e9, e1]
                    exact hKq _ _ ⟨Pj.vset V 10 (undef), by simp only [Pj.puts, List.foldl_cons, List.foldl_nil, Act.put, List.setIfInBounds_toArray, List.set_cons_zero, List.set_cons_succ, Pj.vset, Nat.reduceEqDiff, if_true, if_false, e5, e7, e9, e1], HJ.out.more HP.out hL (Kept.refl _) (rfl)⟩
                  | 11, ho =>
                    simp only [List.getElem?_toArray, List.getElem?_cons_zero, List.getElem?_cons_succ, Option.some.injEq] at ho
                    have e1 : V 1 = .bool false := hJ.h 1 (hdep 1 (by rw [← ho]; kernel_rfl))
                    have e10 : V 10 = undef := hJ.h 10 (hdep 10 (by rw [← ho]; kernel_rfl))
                    have HJ := Lib.hid hJ
                    clear hJ
                    subst ho
                    refine Pj.Step.free rfl ?_
                    simp only [Pj.puts, List.foldl_cons, List.foldl_nil, Act.put, List.setIfInBounds_toArray, List.set_cons_zero, List.set_cons_succ, e1, e10]
                    go_simp
                    exact hKq _ _ ⟨Pj.vset V 11 (.bool false), by simp only [Pj.puts, List.foldl_cons, List.foldl_nil, Act.put, List.setIfInBounds_toArray, List.set_cons_zero, List.set_cons_succ, Pj.vset, Nat.reduceEqDiff, if_true, if_false, e1, e10], HJ.out.more HP.out hL (Kept.refl _) (rfl)⟩
                  | n + 12, ho => simp at ho
                case ehe =>
                  rintro L az w ⟨V, rfl, hJ⟩ hall
                  have e0 : V 0 = .bool false := hJ.h 0 (hall 0 (by decide))
                  have e1 : V 1 = .bool false := hJ.h 1 (hall 1 (by decide))
                  have e2 : V 2 = undef := hJ.h 2 (hall 2 (by decide))
                  have e3 : V 3 = undef := hJ.h 3 (hall 3 (by decide))
                  have e4 : V 4 = undef := hJ.h 4 (hall 4 (by decide))
                  have e5 : V 5 = undef := hJ.h 5 (hall 5 (by decide))
                  have e6 : V 6 = undef := hJ.h 6 (hall 6 (by decide))
                  have e7 : V 7 = undef := hJ.h 7 (hall 7 (by decide))
                  have e8 : V 8 = undef := hJ.h 8 (hall 8 (by decide))
                  have e9 : V 9 = undef := hJ.h 9 (hall 9 (by decide))
                  have e10 : V 10 = undef := hJ.h 10 (hall 10 (by decide))
                  have e11 : V 11 = .bool false := hJ.h 11 (hall 11 (by decide))
                  have HKj := Lib.hid hJ.kp
                  clear hJ hall
                  simp only [Pj.puts, List.foldl_cons, List.foldl_nil, Act.put, List.setIfInBounds_toArray, List.set_cons_zero, List.set_cons_succ, e0, e1, e2, e3, e4, e5, e6, e7, e8, e9, e10, e11]
                  clear e0 e1 e2 e3 e4 e5 e6 e7 e8 e9 e10 e11
                  have HK25 := Lib.hid (HK8.out.trans HKj.out)
                  go_wp2_with fail
                  refine (num4_any _ _).mono ?_
                  rintro e w' ⟨rfl, rfl⟩
                  go_wp2_with fail
                  refine (eq_strings none none 0 0 0 [] _ (strs_nil4 _) (strs_nil4 _)).mono ?_
                  rintro e w26 ⟨rfl, hk26⟩
                  have HK26 := Lib.hid (HK25.out.trans hk26)
                  have hcc := HCU.out _ (HKE.out.trans HK26.out)
                  clear hk26
                  go_wp2_with fail
                  refine (eq_strings a2 al ll cap2 cl ss _ (HIN.out.kept HK26.out) (HXW.out.kept (HKE.out.trans HK26.out))).mono ?_
                  rintro e w27 ⟨rfl, hk27⟩
                  have HK27 := Lib.hid (HK26.out.trans hk27)
                  clear hk27 hcc
                  go_wp2_with fail
                  refine (spoil_none _ _ _).mono ?_
                  rintro e w28 ⟨⟨u9, rfl⟩, hk28⟩
                  have HK28 := Lib.hid (HK27.out.trans hk28)
                  have hcc := HCU.out _ (HKE.out.trans HK28.out)
                  clear hk28
                  go_wp2_with fail
                  refine (eq_strings a2 al ll cap2 cl ss _ (HIN.out.kept HK28.out) (HXW.out.kept (HKE.out.trans HK28.out))).mono ?_
                  rintro e w29 ⟨rfl, hk29⟩
                  have HK29 := Lib.hid (((HKX.out.trans HKE.out).trans HK28.out).trans hk29)
                  clear hk29 hcc
                  go_wp2_with fail
                  go_roundw
                  case rel => exact ⟨1, by omega, by go_num, HK29.out⟩
                  case measure => simp [intOf]
              · obtain rfl : q = 1 := by omega
                have HKL := Lib.hid (((HKd.out.trans HKg.out).trans HKq.out).trans HKX.out)
                go_wp2_with fail
                go_roundw
                case rel => exact ⟨j + 1, by omega, by go_num, HKL.out⟩
                case measure => simp [intOf]; omega
        · have hd1 : decide ((j : Int) < ls) = true := decide_eq_true (by omega)
          have hd2 : decide ((j : Int) < 4) = false := decide_eq_false (by omega)
          go_wp2_with fail
          refine (wakes4_any _).mono ?_
          rintro e w' ⟨rfl, hk9⟩
          have HK9 := Lib.hid ((HK1.out.trans HK.out).trans hk9)
          clear hk9
          go_wp2
          go_ret
          exact ⟨rfl, HK9.out⟩
      · have hd1 : decide ((j : Int) < ls) = false := decide_eq_false (by omega)
        go_wp2_with fail
        refine (wakes4_any _).mono ?_
        rintro e w' ⟨rfl, hk9⟩
        have HK9 := Lib.hid ((HK1.out.trans HK.out).trans hk9)
        clear hk9
        go_wp2
        go_ret
        exact ⟨rfl, HK9.out⟩
end Go.Proofs.Ytoonpnpooljmlaa
