/- What the reference makes of a block (of at most 64 bytes). -/
import Derived.Test.YtdllenoclnmmdaaDoorBl4
import Derived.Deep.DeepCutAuto
namespace Go.Proofs.YtdllenoclnmmdaaDoor
open Go.RowKit Go.Shelf
attribute [local go_sem] Oper.semAt_some

/-- the sixteen numbers, laid pair by pair -/
def laid (h : List Nat) : Nat → List Nat
  | 0 => List.replicate 16 0
  | k + 1 => ((laid h k).set k (h.getD k 0)).set (k + 8) (Bl.begins.getD k 0)
theorem laid_ok {h : List Nat} (hh : Bl.W 8 h) : ∀ k, Bl.W 16 (laid h k)
  | 0 => Bl.W.zeros 16
  | k + 1 => ((laid_ok hh k).set _ (hh.at _)).set _ (Bl.begins_ok.at _)
theorem laid_all {h : List Nat} (hh : Bl.W 8 h) : laid h 8 = h ++ Bl.begins := by
  obtain ⟨h1, _⟩ := hh
  match h, h1 with
  | [a, b, c, d, e, f, g, i], _ => rfl
theorem inv32 (x : Nat) (hx : x < 4294967296) : bits .xor .u32 IntKind.u32.max (x : Int) = ((Bl.inv x : Nat) : Int) := by
  have h := u32_xor_nat 4294967295 x (by decide) hx
  have e : 4294967295 ^^^ x = Bl.inv x := by
    unfold Bl.inv
    have h2 := BitVec.toNat_xor (BitVec.allOnes 32) (BitVec.ofNat 32 x)
    have h3 := BitVec.toNat_not (x := BitVec.ofNat 32 x)
    rw [← BitVec.allOnes_xor, h2] at h3
    simpa [Nat.mod_eq_of_lt hx] using h3
  rw [← e]
  exact h
theorem V16.drew {w W : World} {g : Nat} {v : List Nat} (h : V16 w g v W) : V16 w g v W.drew := ⟨h.row, gr_trans h.grown (gr_kept ((Kept.refl W).drewN 1) _), h.ok⟩
theorem V8.drew {w W : World} {g : Nat} {v : List Nat} (h : V8 w g v W) : V8 w g v W.drew := ⟨h.row, gr_trans h.grown (gr_kept ((Kept.refl W).drewN 1) _), h.ok⟩
theorem V16.on {w W W' : World} {g : Nat} {v : List Nat} (h : V16 w g v W) (k : Kept W W') : V16 w g v W' := ⟨h.row.kept k, gr_trans h.grown (gr_kept k _), h.ok⟩
theorem V8.on {w W W' : World} {g : Nat} {v : List Nat} (h : V8 w g v W) (k : Kept W W') : V8 w g v W' := ⟨h.row.kept k, gr_trans h.grown (gr_kept k _), h.ok⟩
theorem V16.trans {a b c : World} {g : Nat} {v : List Nat} (h : a.grownBy b (some g)) (k : V16 b g v c) : V16 a g v c := ⟨k.row, gr_trans h k.grown, k.ok⟩
theorem up32 (n : Nat) : (n : Int) % 4294967296 = ((n % 4294967296 : Nat) : Int) := by omega
theorem up32' (n : Nat) : (n : Int) / 4294967296 % 4294967296 = ((n / 4294967296 % 4294967296 : Nat) : Int) := by omega
def mixS (m o v : List Nat) (a b c d i j : Nat) : List Nat := Bl.mix v a b c d (m.getD (o.getD i 0) 0) (m.getD (o.getD j 0) 0)
theorem half8 (m o v : List Nat) : Bl.halfB m o (Bl.halfA m o v 4) 4 = Bl.mix (Bl.mix (Bl.mix (Bl.mix (Bl.mix (Bl.mix (Bl.mix (Bl.mix (v) 0 4 8 12 (m.getD (o.getD 0 0) 0) (m.getD (o.getD 1 0) 0)) 1 5 9 13 (m.getD (o.getD 2 0) 0) (m.getD (o.getD 3 0) 0)) 2 6 10 14 (m.getD (o.getD 4 0) 0) (m.getD (o.getD 5 0) 0)) 3 7 11 15 (m.getD (o.getD 6 0) 0) (m.getD (o.getD 7 0) 0)) 0 5 10 15 (m.getD (o.getD 8 0) 0) (m.getD (o.getD 9 0) 0)) 1 6 11 12 (m.getD (o.getD 10 0) 0) (m.getD (o.getD 11 0) 0)) 2 7 8 13 (m.getD (o.getD 12 0) 0) (m.getD (o.getD 13 0) 0)) 3 4 9 14 (m.getD (o.getD 14 0) 0) (m.getD (o.getD 15 0) 0) := by
  simp only [Bl.halfA, Bl.halfB, Nat.reduceMul, Nat.reduceAdd, Nat.reduceMod, Nat.mul_zero, Nat.zero_add, Nat.add_zero]
theorem rounds_step (m v0 : List Nat) (k : Nat) : Bl.rounds m v0 (k + 1) = Bl.halfB m (Bl.orders.getD k []) (Bl.halfA m (Bl.orders.getD k []) (Bl.rounds m v0 k) 4) 4 := rfl
theorem ord_part {W : World} {po k : Nat} (h : BlockAt W po ordV 73) (hk : k < 10) : ∀ j v, (ordR k).toList[j]? = some v → W.cell? ((⟨po, k * 16, none⟩ : Addr).add j) = some v := by
  intro j v hj
  have hj16 : j < 16 := by
    have h2 := (List.getElem?_eq_some_iff.1 hj).1
    rw [Array.length_toList, ordR_size k hk] at h2
    exact h2
  rw [add_none, h.cell, show k * 16 + j = 16 * k + j by omega, ordV_at k hk j hj16]
  simpa using hj
theorem start_set_f (h : List Nat) (n : Nat) : ((h ++ Bl.begins).set 12 ((h ++ Bl.begins).getD 12 0 ^^^ n % 4294967296)).set 13 ((h ++ Bl.begins).getD 13 0 ^^^ n / 4294967296 % 4294967296) = Bl.start h n false := by
  have e : ((h ++ Bl.begins).set 12 ((h ++ Bl.begins).getD 12 0 ^^^ n % 4294967296)).getD 13 0 = (h ++ Bl.begins).getD 13 0 := by simp [List.getD_eq_getElem?_getD]
  unfold Bl.start
  simp only [Bool.false_eq_true, if_false]
  rw [e]
theorem start_set_t (h : List Nat) (n : Nat) : (((h ++ Bl.begins).set 12 ((h ++ Bl.begins).getD 12 0 ^^^ n % 4294967296)).set 13 ((h ++ Bl.begins).getD 13 0 ^^^ n / 4294967296 % 4294967296)).set 14 (Bl.inv ((h ++ Bl.begins).getD 14 0)) = Bl.start h n true := by
  have e : ((h ++ Bl.begins).set 12 ((h ++ Bl.begins).getD 12 0 ^^^ n % 4294967296)).getD 13 0 = (h ++ Bl.begins).getD 13 0 := by simp [List.getD_eq_getElem?_getD]
  have e2 : (((h ++ Bl.begins).set 12 ((h ++ Bl.begins).getD 12 0 ^^^ n % 4294967296)).set 13 ((h ++ Bl.begins).getD 13 0 ^^^ n / 4294967296 % 4294967296)).getD 14 0 = (h ++ Bl.begins).getD 14 0 := by simp [List.getD_eq_getElem?_getD]
  unfold Bl.start
  simp only [if_true]
  rw [e, e2]
set_option maxRecDepth 100000 in
set_option maxHeartbeats 2000000 in
theorem rblock_any (g : Nat) (h : List Nat) (s : ByteArray) (n : Nat) (last : Bool) (hs : s.size ≤ 64) (hn : n < 18446744073709551616) (w : World) (hv : V8 w g h w) :
    Calls Tryd.prog 31 #[.pointer (some ⟨g, 0, none⟩), .string s, .int .u64 n, .bool last] w fun e w' => e = .returned (.tuple #[]) ∧ V8 w g (Bl.block h s.data.toList n last) w' := by
  have HV := Lib.hid hv
  have hgw : g < w.heap.size := hv.row.lt
  clear hv
  go_enter Tryd.func31, Tryd.ntmps31

  go_upto_region 1 with (with_reducible refine wpList_alloc_block rfl 71 rfl z16 Tryd.zero16 ?_)
  obtain ⟨w1, hw1⟩ : ∃ w1, w1 = w.alloc (.cells z16 71) := ⟨_, rfl⟩
  rw [← hw1]
  have hk1 : Kept w w1 := by rw [hw1]; exact (Kept.refl w).alloc _
  have hb1 : BlockAt w1 w.heap.size z16 71 := by rw [hw1]; exact BlockAt.new w _ _
  have hz1 : w1.heap.size = w.heap.size + 1 := by rw [hw1]; simp
  obtain ⟨pm, hpm⟩ : ∃ pm, pm = w.heap.size := ⟨_, rfl⟩
  have hgm : g < pm := by omega
  rw [← hpm] at hb1 hz1 ⊢
  have HPM := Lib.hid hpm
  have HV1 := Lib.hid (V16.here (v := List.replicate 16 0) hb1 (Bl.W.zeros 16))
  have HK1 := Lib.hid hk1
  have HZ1 := Lib.hid hz1
  clear hw1 hk1 hb1 hpm hz1
  go_wp2_with fail
  go_loopw [9] (fun i wr => ∃ k : Nat, k ≤ s.size ∧ i = .int .i64 k ∧ V16 w1 pm (Bl.words s.data.toList k) wr) (fun i _ => s.size - (intOf i).toNat)
  case atStart => exact ⟨0, by omega, rfl, HV1.out⟩
  case round =>
    obtain ⟨k, hk, rfl, hv⟩ := hrel
    have HVm := Lib.hid hv
    clear hv
    by_cases hlt : k < s.size
    · as_aux_lemma =>
        have HS := Lib.hid (words_at s k hlt)
        obtain ⟨q, hq⟩ : ∃ q, q = k / 4 := ⟨_, rfl⟩
        obtain ⟨r, hr⟩ : ∃ r, r = k % 4 := ⟨_, rfl⟩
        have hq16 : q < 16 := by omega
        have hr4 : r < 4 := by omega
        have c1 := HVm.out.cell q hq16
        have f1 := HVm.out.free q
        have hml : (Bl.words s.data.toList k).getD q 0 < 4294967296 := HVm.out.ok.at q
        obtain ⟨u, hu⟩ : ∃ u, u = (Bl.words s.data.toList k).getD q 0 := ⟨_, rfl⟩
        rw [← hu] at c1 hml
        have hx := UInt8.toNat_lt s[k]
        have e1 := sh32 s[k].toNat r
        have e2 := o32 u (s[k].toNat * 2 ^ (8 * r) % 4294967296) hml (Nat.mod_lt _ (by decide))
        have hst : ∀ nq, V16 w1 pm (Bl.wd (Bl.words s.data.toList k) k s[k].toNat) ((wr.drewN nq).setCell ⟨pm, q, none⟩ (.int .u32 ((u ||| s[k].toNat * 2 ^ (8 * r) % 4294967296 : Nat) : Int))) := fun nq => by
          have h := HVm.out.put nq q (Bl.or_lt hml (Nat.mod_lt (s[k].toNat * 2 ^ (8 * r)) (by decide)))
          unfold Bl.wd
          rw [← hq, ← hr, ← hu]
          exact h
        have HST := Lib.hid hst
        have hq2 : (k : Int) / 4 = (q : Int) := by omega
        have hr2 : (k : Int) % 4 = (r : Int) := by omega
        clear hst hq hr hu hml
        generalize u ||| s[k].toNat * 2 ^ (8 * r) % 4294967296 = z at *
        generalize s[k].toNat * 2 ^ (8 * r) % 4294967296 = y at *
        go_wp2_with fail
        refine (wpIn_wide (n := 0)).1 ?_
        refine wpIn_region_quiet_tail_lit 16 (by kernel_rfl) (by kernel_rfl) (by kernel_rfl) ?_
        simp only [List.take_succ_cons, List.take_zero, List.drop_succ_cons, List.drop_zero]
        repeat (gi_big_quiet_step (fail))
        refine wpQuietIn_nil ?_
        intro _ hw'
        obtain ⟨nq, hw''⟩ := hw'
        subst hw''
        gi_wp2
        go_wp2
        go_roundw
        case rel => exact ⟨k + 1, by omega, by go_num, by rw [HS.out]; exact HST.out nq⟩
        case measure => simp [intOf]; omega
    · obtain rfl : k = s.size := by omega

      have HK2 := Lib.hid (HVm.out.kept HK1.out (by have := HPM.out; omega))
      have hbm := HVm.out.row
      have hz2 : pm < wr.heap.size := hbm.lt
      obtain ⟨m, hm⟩ : ∃ m, m = Bl.words s.data.toList s.size := ⟨_, rfl⟩
      have hmo : Bl.W 16 m := by rw [hm]; exact Bl.words_ok _ _
      rw [← hm] at hbm
      have HBM := Lib.hid hbm
      have HMO := Lib.hid hmo
      have HM := Lib.hid hm
      clear hbm hmo hm HVm HV1 HK1 HZ1
      go_upto_region 6 with (with_reducible refine wpList_alloc_block rfl 71 rfl z16 Tryd.zero16 ?_)
      obtain ⟨w3, hw3⟩ : ∃ w3, w3 = wr.alloc (.cells z16 71) := ⟨_, rfl⟩
      rw [← hw3]
      have hk3 : Kept wr w3 := by rw [hw3]; exact (Kept.refl wr).alloc _
      have hb3 : BlockAt w3 wr.heap.size z16 71 := by rw [hw3]; exact BlockAt.new wr _ _
      obtain ⟨pv, hpv⟩ : ∃ pv, pv = wr.heap.size := ⟨_, rfl⟩
      rw [← hpv] at hb3 ⊢
      have hmv : pm < pv := by omega
      have HB3 := Lib.hid hb3
      have HK3 := Lib.hid (HK2.out.trans hk3)
      have HBM3 := Lib.hid (HBM.out.kept hk3)
      clear hw3 hk3 hb3 HBM HK2 hpv hz2
      go_wp2_with fail
      refine (rbegins_any _).mono ?_
      rintro e w4 ⟨rfl, hk4⟩
      have HB4 := Lib.hid (HB3.out.kept hk4)
      have HK4 := Lib.hid (HK3.out.trans hk4)
      have HBM4 := Lib.hid (HBM3.out.kept hk4)
      clear hk4 HB3 HK3 HBM3
      go_wp2_with (first
        | (with_reducible refine wpList_alloc_block rfl 54 rfl z8 Tryd.zero8 ?_)
        | (refine wpList_store_block rfl 54 (.tmp 11) (.tmp 39) rfl w4.heap.size (cw Bl.begins) z8 54 rfl rfl (BlockAt.new _ _ _) Tryd.info8 rfl (cw_one _) ?_))
      obtain ⟨w5, hw5⟩ : ∃ w5, w5 = (w4.alloc (.cells z8 54)).setRow w4.heap.size (cw Bl.begins) := ⟨_, rfl⟩
      rw [← hw5]
      have hk5 : Kept w4 w5 := by rw [hw5]; exact ((Kept.refl w4).alloc _).setRow (Nat.le_refl _) _
      have hb5 : BlockAt w5 w4.heap.size (cw Bl.begins) 54 := by rw [hw5]; exact (BlockAt.new w4 _ _).setRow _
      have hvp : pv < w4.heap.size := HB4.out.lt
      obtain ⟨pb, hpb⟩ : ∃ pb, pb = w4.heap.size := ⟨_, rfl⟩
      rw [← hpb] at hb5 hvp ⊢
      have HV5 := Lib.hid (V16.here (v := laid h 0) (HB4.out.kept hk5) (Bl.W.zeros 16))
      have HBB := Lib.hid hb5
      have HK5 := Lib.hid (HK4.out.trans hk5)
      have HBM5 := Lib.hid (HBM4.out.kept hk5)
      have HH5 := Lib.hid (HV.out.row.kept HK5.out)
      clear hw5 hk5 hb5 HB4 HK4 HBM4 hpb
      go_loopw [12] (fun i wx => ∃ k : Nat, k ≤ 8 ∧ i = .int .i64 k ∧ V16 w5 pv (laid h k) wx) (fun i _ => 8 - (intOf i).toNat)
      case atStart => exact ⟨0, by omega, rfl, HV5.out⟩
      case round =>
        obtain ⟨k, hk, rfl, hv⟩ := hrel
        have HVk := Lib.hid hv
        clear hv
        by_cases hlt : k < 8
        · as_aux_lemma =>
            have c1 := (other_row HH5.out HVk.out.grown (by omega)).cell k
            rw [cw_at h k (by rw [HV.out.ok.len]; exact hlt)] at c1
            have c2 := (other_row HBB.out HVk.out.grown (by omega)).cell k
            rw [cw_at _ k (by rw [Bl.begins_ok.len]; exact hlt)] at c2
            have c3 := HVk.out.cell k (by omega)
            have c4 := HVk.out.cell (k + 8) (by omega)
            have f3 := HVk.out.free k
            have f4 := HVk.out.free (k + 8)
            have hst := (HVk.out.put0 k (HV.out.ok.at k)).put0 (k + 8) (Bl.begins_ok.at k)
            rw [show ((laid h k).set k (h.getD k 0)).set (k + 8) (Bl.begins.getD k 0) = laid h (k + 1) from rfl] at hst
            have HST := Lib.hid hst
            clear hst
            generalize h.getD k 0 = x at *
            generalize Bl.begins.getD k 0 = y at *
            go_wp2_with fail
            go_region
            go_wp2
            go_roundw
            case rel => exact ⟨k + 1, by omega, by go_num, HST.out.drew⟩
            case measure => simp [intOf]; omega
        · obtain rfl : k = 8 := by omega

          have hv8 := HVk.out
          rw [laid_all HV.out.ok] at hv8
          have HV8 := Lib.hid hv8
          clear hv8 HVk HV5
          cases last
          · as_aux_lemma =>
              have hsg : IntKind.u32.signed = false := rfl
              have HKP := Lib.hid (HV8.out.kept HK5.out (by have := HPM.out; omega))
              have hgl : g < pv := by omega
              clear HBB
              have c12 := HV8.out.cell 12 (by omega)
              have c13 := HV8.out.cell 13 (by omega)
              have f12 := HV8.out.free 12
              have f13 := HV8.out.free 13
              have u12 := HV8.out.ok.at 12
              have u13 := HV8.out.ok.at 13
              have e1 := up32 n
              have hn2 : n / 4294967296 % 4294967296 = n / 4294967296 := Nat.mod_eq_of_lt (by omega)
              have e3 := x32 _ (n % 4294967296) u12 (Nat.mod_lt _ (by decide))
              have e4 : bits .xor .u32 ((h ++ Bl.begins).getD 13 0 : Nat) ((n : Int) / 4294967296) = (((h ++ Bl.begins).getD 13 0 ^^^ n / 4294967296 % 4294967296 : Nat) : Int) := by
                rw [hn2, show (n : Int) / 4294967296 = ((n / 4294967296 : Nat) : Int) by omega]
                exact x32 _ _ u13 (by omega)
              clear hn2
              have hst := (HV8.out.put0 12 (Bl.xor_lt u12 (Nat.mod_lt n (by decide)))).put0 13 (Bl.xor_lt u13 (Nat.mod_lt (n / 4294967296) (by decide)))
              rw [start_set_f h n] at hst
              have HST := Lib.hid hst
              clear hst u12 u13
              generalize (h ++ Bl.begins).getD 12 0 ^^^ n % 4294967296 = y12 at *
              generalize (h ++ Bl.begins).getD 13 0 ^^^ n / 4294967296 % 4294967296 = y13 at *
              generalize (h ++ Bl.begins).getD 12 0 = y12a at *
              generalize (h ++ Bl.begins).getD 13 0 = y13a at *
              generalize n % 4294967296 = n1 at *
              go_wp2_with fail
              refine (rrows_any _).mono ?_
              rintro e w6 ⟨rfl, hk6⟩
              have HV6 := Lib.hid (HST.out.on hk6)
              clear hk6 HST HV8 c12 c13 f12 f13 e1 e3 e4
              have HBM6 := Lib.hid (other_row HBM5.out HV6.out.grown (by omega))
              have HH6 := Lib.hid (other_row HH5.out HV6.out.grown (by omega))
              have HK6 := Lib.hid (HV6.out.kept HK5.out (by have := HPM.out; omega))
              clear HBM5 HH5 HK5 HKP hsg
              go_wp2_with (first
                | (with_reducible refine wpList_alloc_block rfl 73 rfl ord0 Tryd.zeroOrd ?_)
                | (refine wpList_store_block rfl 73 (.tmp 13) (.tmp 75) rfl w6.heap.size ordV ord0 73 rfl rfl (BlockAt.new _ _ _) (by rw [ordV_size]; exact Tryd.infoOrd) (by rw [ordV_size, ord0, Array.size_replicate]) ordV_one ?_))
              obtain ⟨w7, hw7⟩ : ∃ w7, w7 = (w6.alloc (.cells ord0 73)).setRow w6.heap.size ordV := ⟨_, rfl⟩
              rw [← hw7]
              have hk7 : Kept w6 w7 := by rw [hw7]; exact ((Kept.refl w6).alloc _).setRow (Nat.le_refl _) _
              have hb7 : BlockAt w7 w6.heap.size ordV 73 := by rw [hw7]; exact (BlockAt.new w6 _ _).setRow _
              have hvo : pv < w6.heap.size := HV6.out.row.lt
              obtain ⟨po, hpo⟩ : ∃ po, po = w6.heap.size := ⟨_, rfl⟩
              rw [← hpo] at hb7 hvo ⊢
              obtain ⟨v0, hv0⟩ : ∃ v0, v0 = Bl.start h n false := ⟨_, rfl⟩
              have HV0 := Lib.hid hv0
              have hv7 := V16.here (HV6.out.row.kept hk7) HV6.out.ok
              rw [← hv0] at hv7
              have HV7 := Lib.hid hv7
              have HO7 := Lib.hid hb7
              have HK7 := Lib.hid (HK6.out.trans hk7)
              have HBM7 := Lib.hid (HBM6.out.kept hk7)
              have HH7 := Lib.hid (HH6.out.kept hk7)
              clear hw7 hk7 hb7 HV6 HBM6 HH6 HK6 hpo hv0 hv7
              go_wp2_with fail
              go_loopw [14] (fun i wx => ∃ k : Nat, k ≤ 10 ∧ i = .int .i64 k ∧ V16 w7 pv (Bl.rounds m v0 k) wx) (fun i _ => 10 - (intOf i).toNat)
              case atStart => exact ⟨0, by omega, rfl, HV7.out⟩
              case round =>
                obtain ⟨k, hk, rfl, hv⟩ := hrel
                have HVk := Lib.hid hv
                clear hv
                by_cases hlt : k < 10
                · as_aux_lemma =>
                    have HOk := Lib.hid (other_row HO7.out HVk.out.grown (by omega))
                    have HBk := Lib.hid (other_row HBM7.out HVk.out.grown (by omega))
                    go_wp2_with (first
                      | (with_reducible refine wpList_alloc_block rfl 72 rfl row0 Tryd.zeroRow ?_)
                      | (refine wpList_load_part rfl 72 (.tmp 81) rfl ⟨po, k * 16, none⟩ rfl (ordR k) _ (ord_part HOk.out hlt) Tryd.underlying72 rfl (by rw [ordR_size k hlt]; exact Tryd.infoRow) ?_)
                      | (refine wpList_store_block rfl 72 (.tmp 15) (.tmp 82) rfl wr.heap.size (ordR k) row0 72 rfl rfl (BlockAt.new _ _ _) (by rw [ordR_size k hlt]; exact Tryd.infoRow) (by rw [ordR_size k hlt, row0, Array.size_replicate]) (ordR_one k) ?_))
                    obtain ⟨wb, hwb⟩ : ∃ wb, wb = (wr.alloc (.cells row0 72)).setRow wr.heap.size (ordR k) := ⟨_, rfl⟩
                    rw [← hwb]
                    have hkb : Kept wr wb := by rw [hwb]; exact ((Kept.refl wr).alloc _).setRow (Nat.le_refl _) _
                    have hrb : BlockAt wb wr.heap.size (ordR k) 72 := by rw [hwb]; exact (BlockAt.new wr _ _).setRow _
                    have hor : po < wr.heap.size := HOk.out.lt
                    obtain ⟨pr, hpr⟩ : ∃ pr, pr = wr.heap.size := ⟨_, rfl⟩
                    rw [← hpr] at hrb hor ⊢
                    obtain ⟨x0, hx0⟩ : ∃ x0, x0 = Bl.rounds m v0 k := ⟨_, rfl⟩
                    have HX0 := Lib.hid hx0
                    have hg7 := gr_trans HVk.out.grown (gr_kept hkb (some pv))
                    have hv0 := V16.here (HVk.out.row.kept hkb) HVk.out.ok
                    rw [← hx0] at hv0
                    have HVx0 := Lib.hid hv0
                    have HRb := Lib.hid hrb
                    have HBb := Lib.hid (HBk.out.kept hkb)
                    have HG7 := Lib.hid hg7
                    clear hwb hkb hrb hpr hx0 hg7 hv0 HOk HBk
                    simp only [Act.put, List.setIfInBounds_toArray, List.set_cons_zero, List.set_cons_succ]
                    have hr0 := other_row HRb.out HVx0.out.grown (by omega)
                    have hm0 := other_row HBb.out HVx0.out.grown (by omega)
                    have c1 := hr0.cell 0
                    rw [ordR_at k 0 hlt (by omega)] at c1
                    have c2 := hr0.cell 1
                    rw [ordR_at k 1 hlt (by omega)] at c2
                    have c3 := hm0.cell ((Bl.orders.getD k []).getD 0 0)
                    rw [cw_at m _ (by rw [HMO.out.len]; exact Bl.order_lt k 0)] at c3
                    have c4 := hm0.cell ((Bl.orders.getD k []).getD 1 0)
                    rw [cw_at m _ (by rw [HMO.out.len]; exact Bl.order_lt k 1)] at c4
                    have l1 := Bl.order_lt k 0
                    have l2 := Bl.order_lt k 1
                    clear hr0 hm0
                    obtain ⟨x1, hz0⟩ : ∃ y, y = mixS m (Bl.orders.getD k []) x0 0 4 8 12 0 1 := ⟨_, rfl⟩
                    have HX1 := Lib.hid hz0
                    have hy0 := hz0
                    rw [mixS] at hy0
                    clear hz0
                    have HC := Lib.hid (fun nq => rmix_any pv x0 0 4 8 12 (m.getD ((Bl.orders.getD k []).getD 0 0) 0) (m.getD ((Bl.orders.getD k []).getD 1 0) 0) (by decide) (by decide) (by decide) (by decide) (wb.drewN nq) (V16.here (HVx0.out.row.kept ((Kept.refl _).drewN nq)) HVx0.out.ok))
                    rw [← hy0] at HC
                    clear hy0
                    generalize m.getD ((Bl.orders.getD k []).getD 0 0) 0 = p1 at *
                    generalize m.getD ((Bl.orders.getD k []).getD 1 0) 0 = p2 at *
                    generalize (Bl.orders.getD k []).getD 0 0 = q1 at *
                    generalize (Bl.orders.getD k []).getD 1 0 = q2 at *
                    go_wp2_with fail
                    refine (wpIn_wide (n := 0)).1 ?_
                    refine wpIn_region_quiet_tail_lit 8 (by kernel_rfl) (by kernel_rfl) (by kernel_rfl) ?_
                    simp only [List.take_succ_cons, List.take_zero, List.drop_succ_cons, List.drop_zero]
                    repeat (gi_big_quiet_step (fail))
                    refine wpQuietIn_nil ?_
                    intro _ hw'
                    obtain ⟨nq, hw''⟩ := hw'
                    subst hw''
                    gi_wp2_with fail
                    refine callsIn_wide.2 ((HC.out nq).mono ?_)
                    rintro e w10 ⟨rfl, hw⟩
                    have HVx1 := Lib.hid (V16.trans (gr_trans HVx0.out.grown (gr_kept ((Kept.refl _).drewN nq) _)) hw)
                    clear hw HC c1 c2 c3 c4 l1 l2 HVx0
                    gi_wp2
                    have hr1 := other_row HRb.out HVx1.out.grown (by omega)
                    have hm1 := other_row HBb.out HVx1.out.grown (by omega)
                    have c1 := hr1.cell 2
                    rw [ordR_at k 2 hlt (by omega)] at c1
                    have c2 := hr1.cell 3
                    rw [ordR_at k 3 hlt (by omega)] at c2
                    have c3 := hm1.cell ((Bl.orders.getD k []).getD 2 0)
                    rw [cw_at m _ (by rw [HMO.out.len]; exact Bl.order_lt k 2)] at c3
                    have c4 := hm1.cell ((Bl.orders.getD k []).getD 3 0)
                    rw [cw_at m _ (by rw [HMO.out.len]; exact Bl.order_lt k 3)] at c4
                    have l1 := Bl.order_lt k 2
                    have l2 := Bl.order_lt k 3
                    clear hr1 hm1
                    obtain ⟨x2, hz1⟩ : ∃ y, y = mixS m (Bl.orders.getD k []) x1 1 5 9 13 2 3 := ⟨_, rfl⟩
                    have HX2 := Lib.hid hz1
                    have hy1 := hz1
                    rw [mixS] at hy1
                    clear hz1
                    have HC := Lib.hid (fun nq => rmix_any pv x1 1 5 9 13 (m.getD ((Bl.orders.getD k []).getD 2 0) 0) (m.getD ((Bl.orders.getD k []).getD 3 0) 0) (by decide) (by decide) (by decide) (by decide) (w10.drewN nq) (V16.here (HVx1.out.row.kept ((Kept.refl _).drewN nq)) HVx1.out.ok))
                    rw [← hy1] at HC
                    clear hy1
                    generalize m.getD ((Bl.orders.getD k []).getD 2 0) 0 = p1 at *
                    generalize m.getD ((Bl.orders.getD k []).getD 3 0) 0 = p2 at *
                    generalize (Bl.orders.getD k []).getD 2 0 = q1 at *
                    generalize (Bl.orders.getD k []).getD 3 0 = q2 at *
                    go_wp2_with fail
                    refine (wpIn_wide (n := 0)).1 ?_
                    refine wpIn_region_quiet_tail_lit 8 (by kernel_rfl) (by kernel_rfl) (by kernel_rfl) ?_
                    simp only [List.take_succ_cons, List.take_zero, List.drop_succ_cons, List.drop_zero]
                    repeat (gi_big_quiet_step (fail))
                    refine wpQuietIn_nil ?_
                    intro _ hw'
                    obtain ⟨nq, hw''⟩ := hw'
                    subst hw''
                    gi_wp2_with fail
                    refine callsIn_wide.2 ((HC.out nq).mono ?_)
                    rintro e w11 ⟨rfl, hw⟩
                    have HVx2 := Lib.hid (V16.trans (gr_trans HVx1.out.grown (gr_kept ((Kept.refl _).drewN nq) _)) hw)
                    clear hw HC c1 c2 c3 c4 l1 l2 HVx1
                    gi_wp2
                    have hr2 := other_row HRb.out HVx2.out.grown (by omega)
                    have hm2 := other_row HBb.out HVx2.out.grown (by omega)
                    have c1 := hr2.cell 4
                    rw [ordR_at k 4 hlt (by omega)] at c1
                    have c2 := hr2.cell 5
                    rw [ordR_at k 5 hlt (by omega)] at c2
                    have c3 := hm2.cell ((Bl.orders.getD k []).getD 4 0)
                    rw [cw_at m _ (by rw [HMO.out.len]; exact Bl.order_lt k 4)] at c3
                    have c4 := hm2.cell ((Bl.orders.getD k []).getD 5 0)
                    rw [cw_at m _ (by rw [HMO.out.len]; exact Bl.order_lt k 5)] at c4
                    have l1 := Bl.order_lt k 4
                    have l2 := Bl.order_lt k 5
                    clear hr2 hm2
                    obtain ⟨x3, hz2⟩ : ∃ y, y = mixS m (Bl.orders.getD k []) x2 2 6 10 14 4 5 := ⟨_, rfl⟩
                    have HX3 := Lib.hid hz2
                    have hy2 := hz2
                    rw [mixS] at hy2
                    clear hz2
                    have HC := Lib.hid (fun nq => rmix_any pv x2 2 6 10 14 (m.getD ((Bl.orders.getD k []).getD 4 0) 0) (m.getD ((Bl.orders.getD k []).getD 5 0) 0) (by decide) (by decide) (by decide) (by decide) (w11.drewN nq) (V16.here (HVx2.out.row.kept ((Kept.refl _).drewN nq)) HVx2.out.ok))
                    rw [← hy2] at HC
                    clear hy2
                    generalize m.getD ((Bl.orders.getD k []).getD 4 0) 0 = p1 at *
                    generalize m.getD ((Bl.orders.getD k []).getD 5 0) 0 = p2 at *
                    generalize (Bl.orders.getD k []).getD 4 0 = q1 at *
                    generalize (Bl.orders.getD k []).getD 5 0 = q2 at *
                    go_wp2_with fail
                    refine (wpIn_wide (n := 0)).1 ?_
                    refine wpIn_region_quiet_tail_lit 8 (by kernel_rfl) (by kernel_rfl) (by kernel_rfl) ?_
                    simp only [List.take_succ_cons, List.take_zero, List.drop_succ_cons, List.drop_zero]
                    repeat (gi_big_quiet_step (fail))
                    refine wpQuietIn_nil ?_
                    intro _ hw'
                    obtain ⟨nq, hw''⟩ := hw'
                    subst hw''
                    gi_wp2_with fail
                    refine callsIn_wide.2 ((HC.out nq).mono ?_)
                    rintro e w12 ⟨rfl, hw⟩
                    have HVx3 := Lib.hid (V16.trans (gr_trans HVx2.out.grown (gr_kept ((Kept.refl _).drewN nq) _)) hw)
                    clear hw HC c1 c2 c3 c4 l1 l2 HVx2
                    gi_wp2
                    have hr3 := other_row HRb.out HVx3.out.grown (by omega)
                    have hm3 := other_row HBb.out HVx3.out.grown (by omega)
                    have c1 := hr3.cell 6
                    rw [ordR_at k 6 hlt (by omega)] at c1
                    have c2 := hr3.cell 7
                    rw [ordR_at k 7 hlt (by omega)] at c2
                    have c3 := hm3.cell ((Bl.orders.getD k []).getD 6 0)
                    rw [cw_at m _ (by rw [HMO.out.len]; exact Bl.order_lt k 6)] at c3
                    have c4 := hm3.cell ((Bl.orders.getD k []).getD 7 0)
                    rw [cw_at m _ (by rw [HMO.out.len]; exact Bl.order_lt k 7)] at c4
                    have l1 := Bl.order_lt k 6
                    have l2 := Bl.order_lt k 7
                    clear hr3 hm3
                    obtain ⟨x4, hz3⟩ : ∃ y, y = mixS m (Bl.orders.getD k []) x3 3 7 11 15 6 7 := ⟨_, rfl⟩
                    have HX4 := Lib.hid hz3
                    have hy3 := hz3
                    rw [mixS] at hy3
                    clear hz3
                    have HC := Lib.hid (fun nq => rmix_any pv x3 3 7 11 15 (m.getD ((Bl.orders.getD k []).getD 6 0) 0) (m.getD ((Bl.orders.getD k []).getD 7 0) 0) (by decide) (by decide) (by decide) (by decide) (w12.drewN nq) (V16.here (HVx3.out.row.kept ((Kept.refl _).drewN nq)) HVx3.out.ok))
                    rw [← hy3] at HC
                    clear hy3
                    generalize m.getD ((Bl.orders.getD k []).getD 6 0) 0 = p1 at *
                    generalize m.getD ((Bl.orders.getD k []).getD 7 0) 0 = p2 at *
                    generalize (Bl.orders.getD k []).getD 6 0 = q1 at *
                    generalize (Bl.orders.getD k []).getD 7 0 = q2 at *
                    go_wp2_with fail
                    refine (wpIn_wide (n := 0)).1 ?_
                    refine wpIn_region_quiet_tail_lit 8 (by kernel_rfl) (by kernel_rfl) (by kernel_rfl) ?_
                    simp only [List.take_succ_cons, List.take_zero, List.drop_succ_cons, List.drop_zero]
                    repeat (gi_big_quiet_step (fail))
                    refine wpQuietIn_nil ?_
                    intro _ hw'
                    obtain ⟨nq, hw''⟩ := hw'
                    subst hw''
                    gi_wp2_with fail
                    refine callsIn_wide.2 ((HC.out nq).mono ?_)
                    rintro e w13 ⟨rfl, hw⟩
                    have HVx4 := Lib.hid (V16.trans (gr_trans HVx3.out.grown (gr_kept ((Kept.refl _).drewN nq) _)) hw)
                    clear hw HC c1 c2 c3 c4 l1 l2 HVx3
                    gi_wp2
                    have hr4 := other_row HRb.out HVx4.out.grown (by omega)
                    have hm4 := other_row HBb.out HVx4.out.grown (by omega)
                    have c1 := hr4.cell 8
                    rw [ordR_at k 8 hlt (by omega)] at c1
                    have c2 := hr4.cell 9
                    rw [ordR_at k 9 hlt (by omega)] at c2
                    have c3 := hm4.cell ((Bl.orders.getD k []).getD 8 0)
                    rw [cw_at m _ (by rw [HMO.out.len]; exact Bl.order_lt k 8)] at c3
                    have c4 := hm4.cell ((Bl.orders.getD k []).getD 9 0)
                    rw [cw_at m _ (by rw [HMO.out.len]; exact Bl.order_lt k 9)] at c4
                    have l1 := Bl.order_lt k 8
                    have l2 := Bl.order_lt k 9
                    clear hr4 hm4
                    obtain ⟨x5, hz4⟩ : ∃ y, y = mixS m (Bl.orders.getD k []) x4 0 5 10 15 8 9 := ⟨_, rfl⟩
                    have HX5 := Lib.hid hz4
                    have hy4 := hz4
                    rw [mixS] at hy4
                    clear hz4
                    have HC := Lib.hid (fun nq => rmix_any pv x4 0 5 10 15 (m.getD ((Bl.orders.getD k []).getD 8 0) 0) (m.getD ((Bl.orders.getD k []).getD 9 0) 0) (by decide) (by decide) (by decide) (by decide) (w13.drewN nq) (V16.here (HVx4.out.row.kept ((Kept.refl _).drewN nq)) HVx4.out.ok))
                    rw [← hy4] at HC
                    clear hy4
                    generalize m.getD ((Bl.orders.getD k []).getD 8 0) 0 = p1 at *
                    generalize m.getD ((Bl.orders.getD k []).getD 9 0) 0 = p2 at *
                    generalize (Bl.orders.getD k []).getD 8 0 = q1 at *
                    generalize (Bl.orders.getD k []).getD 9 0 = q2 at *
                    go_wp2_with fail
                    refine (wpIn_wide (n := 0)).1 ?_
                    refine wpIn_region_quiet_tail_lit 8 (by kernel_rfl) (by kernel_rfl) (by kernel_rfl) ?_
                    simp only [List.take_succ_cons, List.take_zero, List.drop_succ_cons, List.drop_zero]
                    repeat (gi_big_quiet_step (fail))
                    refine wpQuietIn_nil ?_
                    intro _ hw'
                    obtain ⟨nq, hw''⟩ := hw'
                    subst hw''
                    gi_wp2_with fail
                    refine callsIn_wide.2 ((HC.out nq).mono ?_)
                    rintro e w14 ⟨rfl, hw⟩
                    have HVx5 := Lib.hid (V16.trans (gr_trans HVx4.out.grown (gr_kept ((Kept.refl _).drewN nq) _)) hw)
                    clear hw HC c1 c2 c3 c4 l1 l2 HVx4
                    gi_wp2
                    have hr5 := other_row HRb.out HVx5.out.grown (by omega)
                    have hm5 := other_row HBb.out HVx5.out.grown (by omega)
                    have c1 := hr5.cell 10
                    rw [ordR_at k 10 hlt (by omega)] at c1
                    have c2 := hr5.cell 11
                    rw [ordR_at k 11 hlt (by omega)] at c2
                    have c3 := hm5.cell ((Bl.orders.getD k []).getD 10 0)
                    rw [cw_at m _ (by rw [HMO.out.len]; exact Bl.order_lt k 10)] at c3
                    have c4 := hm5.cell ((Bl.orders.getD k []).getD 11 0)
                    rw [cw_at m _ (by rw [HMO.out.len]; exact Bl.order_lt k 11)] at c4
                    have l1 := Bl.order_lt k 10
                    have l2 := Bl.order_lt k 11
                    clear hr5 hm5
                    obtain ⟨x6, hz5⟩ : ∃ y, y = mixS m (Bl.orders.getD k []) x5 1 6 11 12 10 11 := ⟨_, rfl⟩
                    have HX6 := Lib.hid hz5
                    have hy5 := hz5
                    rw [mixS] at hy5
                    clear hz5
                    have HC := Lib.hid (fun nq => rmix_any pv x5 1 6 11 12 (m.getD ((Bl.orders.getD k []).getD 10 0) 0) (m.getD ((Bl.orders.getD k []).getD 11 0) 0) (by decide) (by decide) (by decide) (by decide) (w14.drewN nq) (V16.here (HVx5.out.row.kept ((Kept.refl _).drewN nq)) HVx5.out.ok))
                    rw [← hy5] at HC
                    clear hy5
                    generalize m.getD ((Bl.orders.getD k []).getD 10 0) 0 = p1 at *
                    generalize m.getD ((Bl.orders.getD k []).getD 11 0) 0 = p2 at *
                    generalize (Bl.orders.getD k []).getD 10 0 = q1 at *
                    generalize (Bl.orders.getD k []).getD 11 0 = q2 at *
                    go_wp2_with fail
                    refine (wpIn_wide (n := 0)).1 ?_
                    refine wpIn_region_quiet_tail_lit 8 (by kernel_rfl) (by kernel_rfl) (by kernel_rfl) ?_
                    simp only [List.take_succ_cons, List.take_zero, List.drop_succ_cons, List.drop_zero]
                    repeat (gi_big_quiet_step (fail))
                    refine wpQuietIn_nil ?_
                    intro _ hw'
                    obtain ⟨nq, hw''⟩ := hw'
                    subst hw''
                    gi_wp2_with fail
                    refine callsIn_wide.2 ((HC.out nq).mono ?_)
                    rintro e w15 ⟨rfl, hw⟩
                    have HVx6 := Lib.hid (V16.trans (gr_trans HVx5.out.grown (gr_kept ((Kept.refl _).drewN nq) _)) hw)
                    clear hw HC c1 c2 c3 c4 l1 l2 HVx5
                    gi_wp2
                    have hr6 := other_row HRb.out HVx6.out.grown (by omega)
                    have hm6 := other_row HBb.out HVx6.out.grown (by omega)
                    have c1 := hr6.cell 12
                    rw [ordR_at k 12 hlt (by omega)] at c1
                    have c2 := hr6.cell 13
                    rw [ordR_at k 13 hlt (by omega)] at c2
                    have c3 := hm6.cell ((Bl.orders.getD k []).getD 12 0)
                    rw [cw_at m _ (by rw [HMO.out.len]; exact Bl.order_lt k 12)] at c3
                    have c4 := hm6.cell ((Bl.orders.getD k []).getD 13 0)
                    rw [cw_at m _ (by rw [HMO.out.len]; exact Bl.order_lt k 13)] at c4
                    have l1 := Bl.order_lt k 12
                    have l2 := Bl.order_lt k 13
                    clear hr6 hm6
                    obtain ⟨x7, hz6⟩ : ∃ y, y = mixS m (Bl.orders.getD k []) x6 2 7 8 13 12 13 := ⟨_, rfl⟩
                    have HX7 := Lib.hid hz6
                    have hy6 := hz6
                    rw [mixS] at hy6
                    clear hz6
                    have HC := Lib.hid (fun nq => rmix_any pv x6 2 7 8 13 (m.getD ((Bl.orders.getD k []).getD 12 0) 0) (m.getD ((Bl.orders.getD k []).getD 13 0) 0) (by decide) (by decide) (by decide) (by decide) (w15.drewN nq) (V16.here (HVx6.out.row.kept ((Kept.refl _).drewN nq)) HVx6.out.ok))
                    rw [← hy6] at HC
                    clear hy6
                    generalize m.getD ((Bl.orders.getD k []).getD 12 0) 0 = p1 at *
                    generalize m.getD ((Bl.orders.getD k []).getD 13 0) 0 = p2 at *
                    generalize (Bl.orders.getD k []).getD 12 0 = q1 at *
                    generalize (Bl.orders.getD k []).getD 13 0 = q2 at *
                    go_wp2_with fail
                    refine (wpIn_wide (n := 0)).1 ?_
                    refine wpIn_region_quiet_tail_lit 8 (by kernel_rfl) (by kernel_rfl) (by kernel_rfl) ?_
                    simp only [List.take_succ_cons, List.take_zero, List.drop_succ_cons, List.drop_zero]
                    repeat (gi_big_quiet_step (fail))
                    refine wpQuietIn_nil ?_
                    intro _ hw'
                    obtain ⟨nq, hw''⟩ := hw'
                    subst hw''
                    gi_wp2_with fail
                    refine callsIn_wide.2 ((HC.out nq).mono ?_)
                    rintro e w16 ⟨rfl, hw⟩
                    have HVx7 := Lib.hid (V16.trans (gr_trans HVx6.out.grown (gr_kept ((Kept.refl _).drewN nq) _)) hw)
                    clear hw HC c1 c2 c3 c4 l1 l2 HVx6
                    gi_wp2
                    have hr7 := other_row HRb.out HVx7.out.grown (by omega)
                    have hm7 := other_row HBb.out HVx7.out.grown (by omega)
                    have c1 := hr7.cell 14
                    rw [ordR_at k 14 hlt (by omega)] at c1
                    have c2 := hr7.cell 15
                    rw [ordR_at k 15 hlt (by omega)] at c2
                    have c3 := hm7.cell ((Bl.orders.getD k []).getD 14 0)
                    rw [cw_at m _ (by rw [HMO.out.len]; exact Bl.order_lt k 14)] at c3
                    have c4 := hm7.cell ((Bl.orders.getD k []).getD 15 0)
                    rw [cw_at m _ (by rw [HMO.out.len]; exact Bl.order_lt k 15)] at c4
                    have l1 := Bl.order_lt k 14
                    have l2 := Bl.order_lt k 15
                    clear hr7 hm7
                    obtain ⟨x8, hz7⟩ : ∃ y, y = mixS m (Bl.orders.getD k []) x7 3 4 9 14 14 15 := ⟨_, rfl⟩
                    have HX8 := Lib.hid hz7
                    have hy7 := hz7
                    rw [mixS] at hy7
                    clear hz7
                    have HC := Lib.hid (fun nq => rmix_any pv x7 3 4 9 14 (m.getD ((Bl.orders.getD k []).getD 14 0) 0) (m.getD ((Bl.orders.getD k []).getD 15 0) 0) (by decide) (by decide) (by decide) (by decide) (w16.drewN nq) (V16.here (HVx7.out.row.kept ((Kept.refl _).drewN nq)) HVx7.out.ok))
                    rw [← hy7] at HC
                    clear hy7
                    generalize m.getD ((Bl.orders.getD k []).getD 14 0) 0 = p1 at *
                    generalize m.getD ((Bl.orders.getD k []).getD 15 0) 0 = p2 at *
                    generalize (Bl.orders.getD k []).getD 14 0 = q1 at *
                    generalize (Bl.orders.getD k []).getD 15 0 = q2 at *
                    go_wp2_with fail
                    refine (wpIn_wide (n := 0)).1 ?_
                    refine wpIn_region_quiet_tail_lit 8 (by kernel_rfl) (by kernel_rfl) (by kernel_rfl) ?_
                    simp only [List.take_succ_cons, List.take_zero, List.drop_succ_cons, List.drop_zero]
                    repeat (gi_big_quiet_step (fail))
                    refine wpQuietIn_nil ?_
                    intro _ hw'
                    obtain ⟨nq, hw''⟩ := hw'
                    subst hw''
                    gi_wp2_with fail
                    refine callsIn_wide.2 ((HC.out nq).mono ?_)
                    rintro e w17 ⟨rfl, hw⟩
                    have HVx8 := Lib.hid (V16.trans (gr_trans HVx7.out.grown (gr_kept ((Kept.refl _).drewN nq) _)) hw)
                    clear hw HC c1 c2 c3 c4 l1 l2 HVx7
                    gi_wp2
                    go_wp2
                    go_roundw
                    case rel =>
                      refine ⟨k + 1, by omega, by go_num, ?_⟩
                      have hv := HVx8.out
                      rw [HX8.out, HX7.out, HX6.out, HX5.out, HX4.out, HX3.out, HX2.out, HX1.out, HX0.out] at hv
                      rw [rounds_step, half8]
                      simp only [mixS] at hv
                      exact V16.trans HG7.out hv
                    case measure => simp [intOf]; omega
                · obtain rfl : k = 10 := by omega
                  have HH9 := Lib.hid (other_row HH7.out HVk.out.grown (by omega))
                  have HK9 := Lib.hid (HVk.out.kept HK7.out (by have := HPM.out; omega))
                  obtain ⟨v, hv⟩ : ∃ v, v = Bl.rounds m v0 10 := ⟨_, rfl⟩
                  have HVV := Lib.hid hv
                  have hv9 := HVk.out
                  rw [← hv] at hv9
                  have HV9 := Lib.hid hv9
                  clear hv hv9 HVk HV7 HO7 HBM7 HH7 HK7
                  go_wp2_with fail
                  go_loopw [16] (fun i wx => ∃ k : Nat, k ≤ 8 ∧ i = .int .i64 k ∧ V8 wr g (Bl.fin h v k) wx) (fun i _ => 8 - (intOf i).toNat)
                  case atStart => exact ⟨0, by omega, rfl, V8.here HH9.out HV.out.ok⟩
                  case round =>
                    obtain ⟨k, hk, rfl, hv⟩ := hrel
                    have HVk := Lib.hid hv
                    clear hv
                    by_cases hlt : k < 8
                    · as_aux_lemma =>
                        have hpr := other_row HV9.out.row HVk.out.grown (by omega)
                        have c1 := HVk.out.cell k (by omega)
                        have f1 := HVk.out.free k
                        have c2 := hpr.cell k
                        rw [cw_at _ _ (by rw [HV9.out.ok.len]; omega)] at c2
                        have c3 := hpr.cell (k + 8)
                        rw [cw_at _ _ (by rw [HV9.out.ok.len]; omega)] at c3
                        have l1 := HVk.out.ok.at k
                        have l2 := HV9.out.ok.at k
                        have l3 := HV9.out.ok.at (k + 8)
                        have e1 := x32 _ _ l1 l2
                        have e2 := x32 _ _ (Bl.xor_lt l1 l2) l3
                        have hst : ∀ nq, V8 _ g (Bl.fin h v (k + 1)) ((wr.drewN nq).setCell ⟨g, k, none⟩ (.int .u32 (((Bl.fin h v k).getD k 0 ^^^ v.getD k 0 ^^^ v.getD (k + 8) 0 : Nat) : Int))) := fun nq => by
                          have q := HVk.out.put nq k (Bl.xor_lt (Bl.xor_lt l1 l2) l3)
                          rw [show (Bl.fin h v k).set k ((Bl.fin h v k).getD k 0 ^^^ v.getD k 0 ^^^ v.getD (k + 8) 0) = Bl.fin h v (k + 1) by rw [Nat.add_comm k 8]; rfl] at q
                          exact q
                        have HST := Lib.hid hst
                        clear hst hpr l1 l2 l3
                        generalize (Bl.fin h v k).getD k 0 ^^^ v.getD k 0 ^^^ v.getD (k + 8) 0 = z at *
                        generalize (Bl.fin h v k).getD k 0 ^^^ v.getD k 0 = y at *
                        generalize v.getD (k + 8) 0 = x3 at *
                        generalize v.getD k 0 = x2 at *
                        generalize (Bl.fin h v k).getD k 0 = x1 at *
                        go_wp2_with fail
                        refine (wpIn_wide (n := 0)).1 ?_
                        refine wpIn_region_quiet_tail_lit 18 (by kernel_rfl) (by kernel_rfl) (by kernel_rfl) ?_
                        simp only [List.take_succ_cons, List.take_zero, List.drop_succ_cons, List.drop_zero]
                        repeat (gi_big_quiet_step (fail))
                        refine wpQuietIn_nil ?_
                        intro _ hw'
                        obtain ⟨nq, hw''⟩ := hw'
                        subst hw''
                        gi_wp2
                        go_wp2
                        go_roundw
                        case rel => exact ⟨k + 1, by omega, by go_num, HST.out nq⟩
                        case measure => simp [intOf]; omega
                    · obtain rfl : k = 8 := by omega
                      go_wp2
                      go_end0
                      refine ⟨rfl, ?_⟩
                      have hf := HVk.out
                      rw [HVV.out, HV0.out, HM.out] at hf
                      exact ⟨hf.row, gr_trans (gr_kept HK9.out (some g)) hf.grown, hf.ok⟩
          · as_aux_lemma =>
              have hsg : IntKind.u32.signed = false := rfl
              have HKP := Lib.hid (HV8.out.kept HK5.out (by have := HPM.out; omega))
              have hgl : g < pv := by omega
              clear HBB
              have c12 := HV8.out.cell 12 (by omega)
              have c13 := HV8.out.cell 13 (by omega)
              have f12 := HV8.out.free 12
              have f13 := HV8.out.free 13
              have u12 := HV8.out.ok.at 12
              have u13 := HV8.out.ok.at 13
              have e1 := up32 n
              have hn2 : n / 4294967296 % 4294967296 = n / 4294967296 := Nat.mod_eq_of_lt (by omega)
              have e3 := x32 _ (n % 4294967296) u12 (Nat.mod_lt _ (by decide))
              have e4 : bits .xor .u32 ((h ++ Bl.begins).getD 13 0 : Nat) ((n : Int) / 4294967296) = (((h ++ Bl.begins).getD 13 0 ^^^ n / 4294967296 % 4294967296 : Nat) : Int) := by
                rw [hn2, show (n : Int) / 4294967296 = ((n / 4294967296 : Nat) : Int) by omega]
                exact x32 _ _ u13 (by omega)
              clear hn2
              have c14 := HV8.out.cell 14 (by omega)
              have f14 := HV8.out.free 14
              have e5 := inv32 _ (HV8.out.ok.at 14)
              have hst := (HV8.out.put0 12 (Bl.xor_lt u12 (Nat.mod_lt n (by decide)))).put0 13 (Bl.xor_lt u13 (Nat.mod_lt (n / 4294967296) (by decide)))
              have hst := hst.put0 14 (Bl.inv_lt ((h ++ Bl.begins).getD 14 0))
              rw [start_set_t h n] at hst
              have HST := Lib.hid hst
              clear hst u12 u13
              generalize (h ++ Bl.begins).getD 12 0 ^^^ n % 4294967296 = y12 at *
              generalize (h ++ Bl.begins).getD 13 0 ^^^ n / 4294967296 % 4294967296 = y13 at *
              generalize Bl.inv ((h ++ Bl.begins).getD 14 0) = y14 at *
              generalize (h ++ Bl.begins).getD 14 0 = y14a at *
              generalize (h ++ Bl.begins).getD 12 0 = y12a at *
              generalize (h ++ Bl.begins).getD 13 0 = y13a at *
              generalize n % 4294967296 = n1 at *
              go_wp2_with fail
              refine (rrows_any _).mono ?_
              rintro e w6 ⟨rfl, hk6⟩
              have HV6 := Lib.hid (HST.out.on hk6)
              clear hk6 HST HV8 c12 c13 f12 f13 e1 e3 e4 c14 f14 e5
              have HBM6 := Lib.hid (other_row HBM5.out HV6.out.grown (by omega))
              have HH6 := Lib.hid (other_row HH5.out HV6.out.grown (by omega))
              have HK6 := Lib.hid (HV6.out.kept HK5.out (by have := HPM.out; omega))
              clear HBM5 HH5 HK5 HKP hsg
              go_wp2_with (first
                | (with_reducible refine wpList_alloc_block rfl 73 rfl ord0 Tryd.zeroOrd ?_)
                | (refine wpList_store_block rfl 73 (.tmp 13) (.tmp 75) rfl w6.heap.size ordV ord0 73 rfl rfl (BlockAt.new _ _ _) (by rw [ordV_size]; exact Tryd.infoOrd) (by rw [ordV_size, ord0, Array.size_replicate]) ordV_one ?_))
              obtain ⟨w7, hw7⟩ : ∃ w7, w7 = (w6.alloc (.cells ord0 73)).setRow w6.heap.size ordV := ⟨_, rfl⟩
              rw [← hw7]
              have hk7 : Kept w6 w7 := by rw [hw7]; exact ((Kept.refl w6).alloc _).setRow (Nat.le_refl _) _
              have hb7 : BlockAt w7 w6.heap.size ordV 73 := by rw [hw7]; exact (BlockAt.new w6 _ _).setRow _
              have hvo : pv < w6.heap.size := HV6.out.row.lt
              obtain ⟨po, hpo⟩ : ∃ po, po = w6.heap.size := ⟨_, rfl⟩
              rw [← hpo] at hb7 hvo ⊢
              obtain ⟨v0, hv0⟩ : ∃ v0, v0 = Bl.start h n true := ⟨_, rfl⟩
              have HV0 := Lib.hid hv0
              have hv7 := V16.here (HV6.out.row.kept hk7) HV6.out.ok
              rw [← hv0] at hv7
              have HV7 := Lib.hid hv7
              have HO7 := Lib.hid hb7
              have HK7 := Lib.hid (HK6.out.trans hk7)
              have HBM7 := Lib.hid (HBM6.out.kept hk7)
              have HH7 := Lib.hid (HH6.out.kept hk7)
              clear hw7 hk7 hb7 HV6 HBM6 HH6 HK6 hpo hv0 hv7
              go_wp2_with fail
              go_loopw [14] (fun i wx => ∃ k : Nat, k ≤ 10 ∧ i = .int .i64 k ∧ V16 w7 pv (Bl.rounds m v0 k) wx) (fun i _ => 10 - (intOf i).toNat)
              case atStart => exact ⟨0, by omega, rfl, HV7.out⟩
              case round =>
                obtain ⟨k, hk, rfl, hv⟩ := hrel
                have HVk := Lib.hid hv
                clear hv
                by_cases hlt : k < 10
                · as_aux_lemma =>
                    have HOk := Lib.hid (other_row HO7.out HVk.out.grown (by omega))
                    have HBk := Lib.hid (other_row HBM7.out HVk.out.grown (by omega))
                    go_wp2_with (first
                      | (with_reducible refine wpList_alloc_block rfl 72 rfl row0 Tryd.zeroRow ?_)
                      | (refine wpList_load_part rfl 72 (.tmp 81) rfl ⟨po, k * 16, none⟩ rfl (ordR k) _ (ord_part HOk.out hlt) Tryd.underlying72 rfl (by rw [ordR_size k hlt]; exact Tryd.infoRow) ?_)
                      | (refine wpList_store_block rfl 72 (.tmp 15) (.tmp 82) rfl wr.heap.size (ordR k) row0 72 rfl rfl (BlockAt.new _ _ _) (by rw [ordR_size k hlt]; exact Tryd.infoRow) (by rw [ordR_size k hlt, row0, Array.size_replicate]) (ordR_one k) ?_))
                    obtain ⟨wb, hwb⟩ : ∃ wb, wb = (wr.alloc (.cells row0 72)).setRow wr.heap.size (ordR k) := ⟨_, rfl⟩
                    rw [← hwb]
                    have hkb : Kept wr wb := by rw [hwb]; exact ((Kept.refl wr).alloc _).setRow (Nat.le_refl _) _
                    have hrb : BlockAt wb wr.heap.size (ordR k) 72 := by rw [hwb]; exact (BlockAt.new wr _ _).setRow _
                    have hor : po < wr.heap.size := HOk.out.lt
                    obtain ⟨pr, hpr⟩ : ∃ pr, pr = wr.heap.size := ⟨_, rfl⟩
                    rw [← hpr] at hrb hor ⊢
                    obtain ⟨x0, hx0⟩ : ∃ x0, x0 = Bl.rounds m v0 k := ⟨_, rfl⟩
                    have HX0 := Lib.hid hx0
                    have hg7 := gr_trans HVk.out.grown (gr_kept hkb (some pv))
                    have hv0 := V16.here (HVk.out.row.kept hkb) HVk.out.ok
                    rw [← hx0] at hv0
                    have HVx0 := Lib.hid hv0
                    have HRb := Lib.hid hrb
                    have HBb := Lib.hid (HBk.out.kept hkb)
                    have HG7 := Lib.hid hg7
                    clear hwb hkb hrb hpr hx0 hg7 hv0 HOk HBk
                    simp only [Act.put, List.setIfInBounds_toArray, List.set_cons_zero, List.set_cons_succ]
                    have hr0 := other_row HRb.out HVx0.out.grown (by omega)
                    have hm0 := other_row HBb.out HVx0.out.grown (by omega)
                    have c1 := hr0.cell 0
                    rw [ordR_at k 0 hlt (by omega)] at c1
                    have c2 := hr0.cell 1
                    rw [ordR_at k 1 hlt (by omega)] at c2
                    have c3 := hm0.cell ((Bl.orders.getD k []).getD 0 0)
                    rw [cw_at m _ (by rw [HMO.out.len]; exact Bl.order_lt k 0)] at c3
                    have c4 := hm0.cell ((Bl.orders.getD k []).getD 1 0)
                    rw [cw_at m _ (by rw [HMO.out.len]; exact Bl.order_lt k 1)] at c4
                    have l1 := Bl.order_lt k 0
                    have l2 := Bl.order_lt k 1
                    clear hr0 hm0
                    obtain ⟨x1, hz0⟩ : ∃ y, y = mixS m (Bl.orders.getD k []) x0 0 4 8 12 0 1 := ⟨_, rfl⟩
                    have HX1 := Lib.hid hz0
                    have hy0 := hz0
                    rw [mixS] at hy0
                    clear hz0
                    have HC := Lib.hid (fun nq => rmix_any pv x0 0 4 8 12 (m.getD ((Bl.orders.getD k []).getD 0 0) 0) (m.getD ((Bl.orders.getD k []).getD 1 0) 0) (by decide) (by decide) (by decide) (by decide) (wb.drewN nq) (V16.here (HVx0.out.row.kept ((Kept.refl _).drewN nq)) HVx0.out.ok))
                    rw [← hy0] at HC
                    clear hy0
                    generalize m.getD ((Bl.orders.getD k []).getD 0 0) 0 = p1 at *
                    generalize m.getD ((Bl.orders.getD k []).getD 1 0) 0 = p2 at *
                    generalize (Bl.orders.getD k []).getD 0 0 = q1 at *
                    generalize (Bl.orders.getD k []).getD 1 0 = q2 at *
                    go_wp2_with fail
                    refine (wpIn_wide (n := 0)).1 ?_
                    refine wpIn_region_quiet_tail_lit 8 (by kernel_rfl) (by kernel_rfl) (by kernel_rfl) ?_
                    simp only [List.take_succ_cons, List.take_zero, List.drop_succ_cons, List.drop_zero]
                    repeat (gi_big_quiet_step (fail))
                    refine wpQuietIn_nil ?_
                    intro _ hw'
                    obtain ⟨nq, hw''⟩ := hw'
                    subst hw''
                    gi_wp2_with fail
                    refine callsIn_wide.2 ((HC.out nq).mono ?_)
                    rintro e w10 ⟨rfl, hw⟩
                    have HVx1 := Lib.hid (V16.trans (gr_trans HVx0.out.grown (gr_kept ((Kept.refl _).drewN nq) _)) hw)
                    clear hw HC c1 c2 c3 c4 l1 l2 HVx0
                    gi_wp2
                    have hr1 := other_row HRb.out HVx1.out.grown (by omega)
                    have hm1 := other_row HBb.out HVx1.out.grown (by omega)
                    have c1 := hr1.cell 2
                    rw [ordR_at k 2 hlt (by omega)] at c1
                    have c2 := hr1.cell 3
                    rw [ordR_at k 3 hlt (by omega)] at c2
                    have c3 := hm1.cell ((Bl.orders.getD k []).getD 2 0)
                    rw [cw_at m _ (by rw [HMO.out.len]; exact Bl.order_lt k 2)] at c3
                    have c4 := hm1.cell ((Bl.orders.getD k []).getD 3 0)
                    rw [cw_at m _ (by rw [HMO.out.len]; exact Bl.order_lt k 3)] at c4
                    have l1 := Bl.order_lt k 2
                    have l2 := Bl.order_lt k 3
                    clear hr1 hm1
                    obtain ⟨x2, hz1⟩ : ∃ y, y = mixS m (Bl.orders.getD k []) x1 1 5 9 13 2 3 := ⟨_, rfl⟩
                    have HX2 := Lib.hid hz1
                    have hy1 := hz1
                    rw [mixS] at hy1
                    clear hz1
                    have HC := Lib.hid (fun nq => rmix_any pv x1 1 5 9 13 (m.getD ((Bl.orders.getD k []).getD 2 0) 0) (m.getD ((Bl.orders.getD k []).getD 3 0) 0) (by decide) (by decide) (by decide) (by decide) (w10.drewN nq) (V16.here (HVx1.out.row.kept ((Kept.refl _).drewN nq)) HVx1.out.ok))
                    rw [← hy1] at HC
                    clear hy1
                    generalize m.getD ((Bl.orders.getD k []).getD 2 0) 0 = p1 at *
                    generalize m.getD ((Bl.orders.getD k []).getD 3 0) 0 = p2 at *
                    generalize (Bl.orders.getD k []).getD 2 0 = q1 at *
                    generalize (Bl.orders.getD k []).getD 3 0 = q2 at *
                    go_wp2_with fail
                    refine (wpIn_wide (n := 0)).1 ?_
                    refine wpIn_region_quiet_tail_lit 8 (by kernel_rfl) (by kernel_rfl) (by kernel_rfl) ?_
                    simp only [List.take_succ_cons, List.take_zero, List.drop_succ_cons, List.drop_zero]
                    repeat (gi_big_quiet_step (fail))
                    refine wpQuietIn_nil ?_
                    intro _ hw'
                    obtain ⟨nq, hw''⟩ := hw'
                    subst hw''
                    gi_wp2_with fail
                    refine callsIn_wide.2 ((HC.out nq).mono ?_)
                    rintro e w11 ⟨rfl, hw⟩
                    have HVx2 := Lib.hid (V16.trans (gr_trans HVx1.out.grown (gr_kept ((Kept.refl _).drewN nq) _)) hw)
                    clear hw HC c1 c2 c3 c4 l1 l2 HVx1
                    gi_wp2
                    have hr2 := other_row HRb.out HVx2.out.grown (by omega)
                    have hm2 := other_row HBb.out HVx2.out.grown (by omega)
                    have c1 := hr2.cell 4
                    rw [ordR_at k 4 hlt (by omega)] at c1
                    have c2 := hr2.cell 5
                    rw [ordR_at k 5 hlt (by omega)] at c2
                    have c3 := hm2.cell ((Bl.orders.getD k []).getD 4 0)
                    rw [cw_at m _ (by rw [HMO.out.len]; exact Bl.order_lt k 4)] at c3
                    have c4 := hm2.cell ((Bl.orders.getD k []).getD 5 0)
                    rw [cw_at m _ (by rw [HMO.out.len]; exact Bl.order_lt k 5)] at c4
                    have l1 := Bl.order_lt k 4
                    have l2 := Bl.order_lt k 5
                    clear hr2 hm2
                    obtain ⟨x3, hz2⟩ : ∃ y, y = mixS m (Bl.orders.getD k []) x2 2 6 10 14 4 5 := ⟨_, rfl⟩
                    have HX3 := Lib.hid hz2
                    have hy2 := hz2
                    rw [mixS] at hy2
                    clear hz2
                    have HC := Lib.hid (fun nq => rmix_any pv x2 2 6 10 14 (m.getD ((Bl.orders.getD k []).getD 4 0) 0) (m.getD ((Bl.orders.getD k []).getD 5 0) 0) (by decide) (by decide) (by decide) (by decide) (w11.drewN nq) (V16.here (HVx2.out.row.kept ((Kept.refl _).drewN nq)) HVx2.out.ok))
                    rw [← hy2] at HC
                    clear hy2
                    generalize m.getD ((Bl.orders.getD k []).getD 4 0) 0 = p1 at *
                    generalize m.getD ((Bl.orders.getD k []).getD 5 0) 0 = p2 at *
                    generalize (Bl.orders.getD k []).getD 4 0 = q1 at *
                    generalize (Bl.orders.getD k []).getD 5 0 = q2 at *
                    go_wp2_with fail
                    refine (wpIn_wide (n := 0)).1 ?_
                    refine wpIn_region_quiet_tail_lit 8 (by kernel_rfl) (by kernel_rfl) (by kernel_rfl) ?_
                    simp only [List.take_succ_cons, List.take_zero, List.drop_succ_cons, List.drop_zero]
                    repeat (gi_big_quiet_step (fail))
                    refine wpQuietIn_nil ?_
                    intro _ hw'
                    obtain ⟨nq, hw''⟩ := hw'
                    subst hw''
                    gi_wp2_with fail
                    refine callsIn_wide.2 ((HC.out nq).mono ?_)
                    rintro e w12 ⟨rfl, hw⟩
                    have HVx3 := Lib.hid (V16.trans (gr_trans HVx2.out.grown (gr_kept ((Kept.refl _).drewN nq) _)) hw)
                    clear hw HC c1 c2 c3 c4 l1 l2 HVx2
                    gi_wp2
                    have hr3 := other_row HRb.out HVx3.out.grown (by omega)
                    have hm3 := other_row HBb.out HVx3.out.grown (by omega)
                    have c1 := hr3.cell 6
                    rw [ordR_at k 6 hlt (by omega)] at c1
                    have c2 := hr3.cell 7
                    rw [ordR_at k 7 hlt (by omega)] at c2
                    have c3 := hm3.cell ((Bl.orders.getD k []).getD 6 0)
                    rw [cw_at m _ (by rw [HMO.out.len]; exact Bl.order_lt k 6)] at c3
                    have c4 := hm3.cell ((Bl.orders.getD k []).getD 7 0)
                    rw [cw_at m _ (by rw [HMO.out.len]; exact Bl.order_lt k 7)] at c4
                    have l1 := Bl.order_lt k 6
                    have l2 := Bl.order_lt k 7
                    clear hr3 hm3
                    obtain ⟨x4, hz3⟩ : ∃ y, y = mixS m (Bl.orders.getD k []) x3 3 7 11 15 6 7 := ⟨_, rfl⟩
                    have HX4 := Lib.hid hz3
                    have hy3 := hz3
                    rw [mixS] at hy3
                    clear hz3
                    have HC := Lib.hid (fun nq => rmix_any pv x3 3 7 11 15 (m.getD ((Bl.orders.getD k []).getD 6 0) 0) (m.getD ((Bl.orders.getD k []).getD 7 0) 0) (by decide) (by decide) (by decide) (by decide) (w12.drewN nq) (V16.here (HVx3.out.row.kept ((Kept.refl _).drewN nq)) HVx3.out.ok))
                    rw [← hy3] at HC
                    clear hy3
                    generalize m.getD ((Bl.orders.getD k []).getD 6 0) 0 = p1 at *
                    generalize m.getD ((Bl.orders.getD k []).getD 7 0) 0 = p2 at *
                    generalize (Bl.orders.getD k []).getD 6 0 = q1 at *
                    generalize (Bl.orders.getD k []).getD 7 0 = q2 at *
                    go_wp2_with fail
                    refine (wpIn_wide (n := 0)).1 ?_
                    refine wpIn_region_quiet_tail_lit 8 (by kernel_rfl) (by kernel_rfl) (by kernel_rfl) ?_
                    simp only [List.take_succ_cons, List.take_zero, List.drop_succ_cons, List.drop_zero]
                    repeat (gi_big_quiet_step (fail))
                    refine wpQuietIn_nil ?_
                    intro _ hw'
                    obtain ⟨nq, hw''⟩ := hw'
                    subst hw''
                    gi_wp2_with fail
                    refine callsIn_wide.2 ((HC.out nq).mono ?_)
                    rintro e w13 ⟨rfl, hw⟩
                    have HVx4 := Lib.hid (V16.trans (gr_trans HVx3.out.grown (gr_kept ((Kept.refl _).drewN nq) _)) hw)
                    clear hw HC c1 c2 c3 c4 l1 l2 HVx3
                    gi_wp2
                    have hr4 := other_row HRb.out HVx4.out.grown (by omega)
                    have hm4 := other_row HBb.out HVx4.out.grown (by omega)
                    have c1 := hr4.cell 8
                    rw [ordR_at k 8 hlt (by omega)] at c1
                    have c2 := hr4.cell 9
                    rw [ordR_at k 9 hlt (by omega)] at c2
                    have c3 := hm4.cell ((Bl.orders.getD k []).getD 8 0)
                    rw [cw_at m _ (by rw [HMO.out.len]; exact Bl.order_lt k 8)] at c3
                    have c4 := hm4.cell ((Bl.orders.getD k []).getD 9 0)
                    rw [cw_at m _ (by rw [HMO.out.len]; exact Bl.order_lt k 9)] at c4
                    have l1 := Bl.order_lt k 8
                    have l2 := Bl.order_lt k 9
                    clear hr4 hm4
                    obtain ⟨x5, hz4⟩ : ∃ y, y = mixS m (Bl.orders.getD k []) x4 0 5 10 15 8 9 := ⟨_, rfl⟩
                    have HX5 := Lib.hid hz4
                    have hy4 := hz4
                    rw [mixS] at hy4
                    clear hz4
                    have HC := Lib.hid (fun nq => rmix_any pv x4 0 5 10 15 (m.getD ((Bl.orders.getD k []).getD 8 0) 0) (m.getD ((Bl.orders.getD k []).getD 9 0) 0) (by decide) (by decide) (by decide) (by decide) (w13.drewN nq) (V16.here (HVx4.out.row.kept ((Kept.refl _).drewN nq)) HVx4.out.ok))
                    rw [← hy4] at HC
                    clear hy4
                    generalize m.getD ((Bl.orders.getD k []).getD 8 0) 0 = p1 at *
                    generalize m.getD ((Bl.orders.getD k []).getD 9 0) 0 = p2 at *
                    generalize (Bl.orders.getD k []).getD 8 0 = q1 at *
                    generalize (Bl.orders.getD k []).getD 9 0 = q2 at *
                    go_wp2_with fail
                    refine (wpIn_wide (n := 0)).1 ?_
                    refine wpIn_region_quiet_tail_lit 8 (by kernel_rfl) (by kernel_rfl) (by kernel_rfl) ?_
                    simp only [List.take_succ_cons, List.take_zero, List.drop_succ_cons, List.drop_zero]
                    repeat (gi_big_quiet_step (fail))
                    refine wpQuietIn_nil ?_
                    intro _ hw'
                    obtain ⟨nq, hw''⟩ := hw'
                    subst hw''
                    gi_wp2_with fail
                    refine callsIn_wide.2 ((HC.out nq).mono ?_)
                    rintro e w14 ⟨rfl, hw⟩
                    have HVx5 := Lib.hid (V16.trans (gr_trans HVx4.out.grown (gr_kept ((Kept.refl _).drewN nq) _)) hw)
                    clear hw HC c1 c2 c3 c4 l1 l2 HVx4
                    gi_wp2
                    have hr5 := other_row HRb.out HVx5.out.grown (by omega)
                    have hm5 := other_row HBb.out HVx5.out.grown (by omega)
                    have c1 := hr5.cell 10
                    rw [ordR_at k 10 hlt (by omega)] at c1
                    have c2 := hr5.cell 11
                    rw [ordR_at k 11 hlt (by omega)] at c2
                    have c3 := hm5.cell ((Bl.orders.getD k []).getD 10 0)
                    rw [cw_at m _ (by rw [HMO.out.len]; exact Bl.order_lt k 10)] at c3
                    have c4 := hm5.cell ((Bl.orders.getD k []).getD 11 0)
                    rw [cw_at m _ (by rw [HMO.out.len]; exact Bl.order_lt k 11)] at c4
                    have l1 := Bl.order_lt k 10
                    have l2 := Bl.order_lt k 11
                    clear hr5 hm5
                    obtain ⟨x6, hz5⟩ : ∃ y, y = mixS m (Bl.orders.getD k []) x5 1 6 11 12 10 11 := ⟨_, rfl⟩
                    have HX6 := Lib.hid hz5
                    have hy5 := hz5
                    rw [mixS] at hy5
                    clear hz5
                    have HC := Lib.hid (fun nq => rmix_any pv x5 1 6 11 12 (m.getD ((Bl.orders.getD k []).getD 10 0) 0) (m.getD ((Bl.orders.getD k []).getD 11 0) 0) (by decide) (by decide) (by decide) (by decide) (w14.drewN nq) (V16.here (HVx5.out.row.kept ((Kept.refl _).drewN nq)) HVx5.out.ok))
                    rw [← hy5] at HC
                    clear hy5
                    generalize m.getD ((Bl.orders.getD k []).getD 10 0) 0 = p1 at *
                    generalize m.getD ((Bl.orders.getD k []).getD 11 0) 0 = p2 at *
                    generalize (Bl.orders.getD k []).getD 10 0 = q1 at *
                    generalize (Bl.orders.getD k []).getD 11 0 = q2 at *
                    go_wp2_with fail
                    refine (wpIn_wide (n := 0)).1 ?_
                    refine wpIn_region_quiet_tail_lit 8 (by kernel_rfl) (by kernel_rfl) (by kernel_rfl) ?_
                    simp only [List.take_succ_cons, List.take_zero, List.drop_succ_cons, List.drop_zero]
                    repeat (gi_big_quiet_step (fail))
                    refine wpQuietIn_nil ?_
                    intro _ hw'
                    obtain ⟨nq, hw''⟩ := hw'
                    subst hw''
                    gi_wp2_with fail
                    refine callsIn_wide.2 ((HC.out nq).mono ?_)
                    rintro e w15 ⟨rfl, hw⟩
                    have HVx6 := Lib.hid (V16.trans (gr_trans HVx5.out.grown (gr_kept ((Kept.refl _).drewN nq) _)) hw)
                    clear hw HC c1 c2 c3 c4 l1 l2 HVx5
                    gi_wp2
                    have hr6 := other_row HRb.out HVx6.out.grown (by omega)
                    have hm6 := other_row HBb.out HVx6.out.grown (by omega)
                    have c1 := hr6.cell 12
                    rw [ordR_at k 12 hlt (by omega)] at c1
                    have c2 := hr6.cell 13
                    rw [ordR_at k 13 hlt (by omega)] at c2
                    have c3 := hm6.cell ((Bl.orders.getD k []).getD 12 0)
                    rw [cw_at m _ (by rw [HMO.out.len]; exact Bl.order_lt k 12)] at c3
                    have c4 := hm6.cell ((Bl.orders.getD k []).getD 13 0)
                    rw [cw_at m _ (by rw [HMO.out.len]; exact Bl.order_lt k 13)] at c4
                    have l1 := Bl.order_lt k 12
                    have l2 := Bl.order_lt k 13
                    clear hr6 hm6
                    obtain ⟨x7, hz6⟩ : ∃ y, y = mixS m (Bl.orders.getD k []) x6 2 7 8 13 12 13 := ⟨_, rfl⟩
                    have HX7 := Lib.hid hz6
                    have hy6 := hz6
                    rw [mixS] at hy6
                    clear hz6
                    have HC := Lib.hid (fun nq => rmix_any pv x6 2 7 8 13 (m.getD ((Bl.orders.getD k []).getD 12 0) 0) (m.getD ((Bl.orders.getD k []).getD 13 0) 0) (by decide) (by decide) (by decide) (by decide) (w15.drewN nq) (V16.here (HVx6.out.row.kept ((Kept.refl _).drewN nq)) HVx6.out.ok))
                    rw [← hy6] at HC
                    clear hy6
                    generalize m.getD ((Bl.orders.getD k []).getD 12 0) 0 = p1 at *
                    generalize m.getD ((Bl.orders.getD k []).getD 13 0) 0 = p2 at *
                    generalize (Bl.orders.getD k []).getD 12 0 = q1 at *
                    generalize (Bl.orders.getD k []).getD 13 0 = q2 at *
                    go_wp2_with fail
                    refine (wpIn_wide (n := 0)).1 ?_
                    refine wpIn_region_quiet_tail_lit 8 (by kernel_rfl) (by kernel_rfl) (by kernel_rfl) ?_
                    simp only [List.take_succ_cons, List.take_zero, List.drop_succ_cons, List.drop_zero]
                    repeat (gi_big_quiet_step (fail))
                    refine wpQuietIn_nil ?_
                    intro _ hw'
                    obtain ⟨nq, hw''⟩ := hw'
                    subst hw''
                    gi_wp2_with fail
                    refine callsIn_wide.2 ((HC.out nq).mono ?_)
                    rintro e w16 ⟨rfl, hw⟩
                    have HVx7 := Lib.hid (V16.trans (gr_trans HVx6.out.grown (gr_kept ((Kept.refl _).drewN nq) _)) hw)
                    clear hw HC c1 c2 c3 c4 l1 l2 HVx6
                    gi_wp2
                    have hr7 := other_row HRb.out HVx7.out.grown (by omega)
                    have hm7 := other_row HBb.out HVx7.out.grown (by omega)
                    have c1 := hr7.cell 14
                    rw [ordR_at k 14 hlt (by omega)] at c1
                    have c2 := hr7.cell 15
                    rw [ordR_at k 15 hlt (by omega)] at c2
                    have c3 := hm7.cell ((Bl.orders.getD k []).getD 14 0)
                    rw [cw_at m _ (by rw [HMO.out.len]; exact Bl.order_lt k 14)] at c3
                    have c4 := hm7.cell ((Bl.orders.getD k []).getD 15 0)
                    rw [cw_at m _ (by rw [HMO.out.len]; exact Bl.order_lt k 15)] at c4
                    have l1 := Bl.order_lt k 14
                    have l2 := Bl.order_lt k 15
                    clear hr7 hm7
                    obtain ⟨x8, hz7⟩ : ∃ y, y = mixS m (Bl.orders.getD k []) x7 3 4 9 14 14 15 := ⟨_, rfl⟩
                    have HX8 := Lib.hid hz7
                    have hy7 := hz7
                    rw [mixS] at hy7
                    clear hz7
                    have HC := Lib.hid (fun nq => rmix_any pv x7 3 4 9 14 (m.getD ((Bl.orders.getD k []).getD 14 0) 0) (m.getD ((Bl.orders.getD k []).getD 15 0) 0) (by decide) (by decide) (by decide) (by decide) (w16.drewN nq) (V16.here (HVx7.out.row.kept ((Kept.refl _).drewN nq)) HVx7.out.ok))
                    rw [← hy7] at HC
                    clear hy7
                    generalize m.getD ((Bl.orders.getD k []).getD 14 0) 0 = p1 at *
                    generalize m.getD ((Bl.orders.getD k []).getD 15 0) 0 = p2 at *
                    generalize (Bl.orders.getD k []).getD 14 0 = q1 at *
                    generalize (Bl.orders.getD k []).getD 15 0 = q2 at *
                    go_wp2_with fail
                    refine (wpIn_wide (n := 0)).1 ?_
                    refine wpIn_region_quiet_tail_lit 8 (by kernel_rfl) (by kernel_rfl) (by kernel_rfl) ?_
                    simp only [List.take_succ_cons, List.take_zero, List.drop_succ_cons, List.drop_zero]
                    repeat (gi_big_quiet_step (fail))
                    refine wpQuietIn_nil ?_
                    intro _ hw'
                    obtain ⟨nq, hw''⟩ := hw'
                    subst hw''
                    gi_wp2_with fail
                    refine callsIn_wide.2 ((HC.out nq).mono ?_)
                    rintro e w17 ⟨rfl, hw⟩
                    have HVx8 := Lib.hid (V16.trans (gr_trans HVx7.out.grown (gr_kept ((Kept.refl _).drewN nq) _)) hw)
                    clear hw HC c1 c2 c3 c4 l1 l2 HVx7
                    gi_wp2
                    go_wp2
                    go_roundw
                    case rel =>
                      refine ⟨k + 1, by omega, by go_num, ?_⟩
                      have hv := HVx8.out
                      rw [HX8.out, HX7.out, HX6.out, HX5.out, HX4.out, HX3.out, HX2.out, HX1.out, HX0.out] at hv
                      rw [rounds_step, half8]
                      simp only [mixS] at hv
                      exact V16.trans HG7.out hv
                    case measure => simp [intOf]; omega
                · obtain rfl : k = 10 := by omega
                  have HH9 := Lib.hid (other_row HH7.out HVk.out.grown (by omega))
                  have HK9 := Lib.hid (HVk.out.kept HK7.out (by have := HPM.out; omega))
                  obtain ⟨v, hv⟩ : ∃ v, v = Bl.rounds m v0 10 := ⟨_, rfl⟩
                  have HVV := Lib.hid hv
                  have hv9 := HVk.out
                  rw [← hv] at hv9
                  have HV9 := Lib.hid hv9
                  clear hv hv9 HVk HV7 HO7 HBM7 HH7 HK7
                  go_wp2_with fail
                  go_loopw [16] (fun i wx => ∃ k : Nat, k ≤ 8 ∧ i = .int .i64 k ∧ V8 wr g (Bl.fin h v k) wx) (fun i _ => 8 - (intOf i).toNat)
                  case atStart => exact ⟨0, by omega, rfl, V8.here HH9.out HV.out.ok⟩
                  case round =>
                    obtain ⟨k, hk, rfl, hv⟩ := hrel
                    have HVk := Lib.hid hv
                    clear hv
                    by_cases hlt : k < 8
                    · as_aux_lemma =>
                        have hpr := other_row HV9.out.row HVk.out.grown (by omega)
                        have c1 := HVk.out.cell k (by omega)
                        have f1 := HVk.out.free k
                        have c2 := hpr.cell k
                        rw [cw_at _ _ (by rw [HV9.out.ok.len]; omega)] at c2
                        have c3 := hpr.cell (k + 8)
                        rw [cw_at _ _ (by rw [HV9.out.ok.len]; omega)] at c3
                        have l1 := HVk.out.ok.at k
                        have l2 := HV9.out.ok.at k
                        have l3 := HV9.out.ok.at (k + 8)
                        have e1 := x32 _ _ l1 l2
                        have e2 := x32 _ _ (Bl.xor_lt l1 l2) l3
                        have hst : ∀ nq, V8 _ g (Bl.fin h v (k + 1)) ((wr.drewN nq).setCell ⟨g, k, none⟩ (.int .u32 (((Bl.fin h v k).getD k 0 ^^^ v.getD k 0 ^^^ v.getD (k + 8) 0 : Nat) : Int))) := fun nq => by
                          have q := HVk.out.put nq k (Bl.xor_lt (Bl.xor_lt l1 l2) l3)
                          rw [show (Bl.fin h v k).set k ((Bl.fin h v k).getD k 0 ^^^ v.getD k 0 ^^^ v.getD (k + 8) 0) = Bl.fin h v (k + 1) by rw [Nat.add_comm k 8]; rfl] at q
                          exact q
                        have HST := Lib.hid hst
                        clear hst hpr l1 l2 l3
                        generalize (Bl.fin h v k).getD k 0 ^^^ v.getD k 0 ^^^ v.getD (k + 8) 0 = z at *
                        generalize (Bl.fin h v k).getD k 0 ^^^ v.getD k 0 = y at *
                        generalize v.getD (k + 8) 0 = x3 at *
                        generalize v.getD k 0 = x2 at *
                        generalize (Bl.fin h v k).getD k 0 = x1 at *
                        go_wp2_with fail
                        refine (wpIn_wide (n := 0)).1 ?_
                        refine wpIn_region_quiet_tail_lit 18 (by kernel_rfl) (by kernel_rfl) (by kernel_rfl) ?_
                        simp only [List.take_succ_cons, List.take_zero, List.drop_succ_cons, List.drop_zero]
                        repeat (gi_big_quiet_step (fail))
                        refine wpQuietIn_nil ?_
                        intro _ hw'
                        obtain ⟨nq, hw''⟩ := hw'
                        subst hw''
                        gi_wp2
                        go_wp2
                        go_roundw
                        case rel => exact ⟨k + 1, by omega, by go_num, HST.out nq⟩
                        case measure => simp [intOf]; omega
                    · obtain rfl : k = 8 := by omega
                      go_wp2
                      go_end0
                      refine ⟨rfl, ?_⟩
                      have hf := HVk.out
                      rw [HVV.out, HV0.out, HM.out] at hf
                      exact ⟨hf.row, gr_trans (gr_kept HK9.out (some g)) hf.grown, hf.ok⟩
end Go.Proofs.YtdllenoclnmmdaaDoor
