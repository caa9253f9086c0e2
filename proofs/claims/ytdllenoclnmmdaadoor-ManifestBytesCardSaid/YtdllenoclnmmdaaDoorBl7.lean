/- A block turned in by the program (digest.turn: a block of at most 64 bytes, both tables as they are laid). -/
import Derived.Test.YtdllenoclnmmdaaDoorBl6
import Derived.BigFrameIn
namespace Go.Proofs.YtdllenoclnmmdaaDoor
open Go.RowKit Go.Shelf
attribute [local go_sem] Oper.semAt_some

theorem wpListIn_copy_run {F : Fence} {n : Nat} {P : Program} (w : World) {ops : Array Oper} {rest : List Oper} {o : Oper} {a : Act} {Q : Exit → Act → World → Prop} (hgd : o.guard = none) (d s : Operand) (t t' : TypeId)
    (ho : o.op = .call { callee := .builtin .copy, args := #[d, s], argTypes := #[t, t'] }) (v u : Value) (hd : a.eval d = v) (hs : a.eval s = u) {v' : Value} {w' : World}
    (hr : (Builtin.copy_ #[t, t'] o.type #[v, u]).run P w = .ok v' w') (h : wpListIn F n P ops Q rest (a.put o.dst v') w') : wpListIn F n P ops Q (o :: rest) a w := by
  refine wpListIn_plain hgd fun K hK' => ?_
  unfold Oper.wpIn
  refine ⟨?_, ?_⟩
  · simp [Oper.about, ho, resolve, Target.leads, Sem.run_pure]
  · rw [Oper.semAt_plain F _ _ (by rw [ho]; intro c hc'; cases hc')]
    simp [execOp, ho, resolve, invoke, builtin, hd, hs, hr, Result.andThen]
    exact hK' _ _ h
/-- the sixteen numbers, laid behind the eight -/
def lay2 (h : List Nat) : Nat → List Nat
  | 0 => h ++ List.replicate 8 0
  | k + 1 => (lay2 h k).set (8 + k) (Bl.begins.getD k 0)
theorem lay2_ok {h : List Nat} (hh : Bl.W 8 h) : ∀ k, Bl.W 16 (lay2 h k)
  | 0 => Bl.both_ok hh (Bl.W.zeros 8)
  | k + 1 => (lay2_ok hh k).set _ (Bl.begins_ok.at _)
theorem lay2_all {h : List Nat} (hh : Bl.W 8 h) : lay2 h 8 = h ++ Bl.begins := by
  obtain ⟨h1, _⟩ := hh
  match h, h1 with
  | [a, b, c, d, e, f, g, i], _ => rfl
theorem cw_append (a b : List Nat) : (cw (a ++ b)).toList = (cw a).toList ++ (cw b).toList := by simp [cw]
theorem copied (h : List Nat) (hh : Bl.W 8 h) : ((z16.toList.take 0 ++ (cw h).toList) ++ z16.toList.drop (0 + (cw h).toList.length)).toArray = cw (h ++ List.replicate 8 0) := by
  rw [Array.length_toList, size8 hh]
  apply Array.ext'
  rw [cw_append]
  rfl
theorem Tryd.infoO8 : (Tryd.prog.info? 81).map (·.size) = some 160 := by kernel_rfl
theorem Tryd.infoO16 : (Tryd.prog.info? 80).map (·.size) = some 16 := by kernel_rfl
def rowB0 : Array Value := Array.replicate 16 (.int .u8 0)
theorem Tryd.zeroO16 : (Tryd.prog.info? 80).map (·.zero) = some (some (.agg rowB0)) := by kernel_rfl
theorem index_order (k : Nat) (hk : k < 10) (w : World) : (Instr.index 81 (.agg ordB) (.int .i64 k)).run Tryd.prog w = .ok (.agg (ordBR k)) w := by
  rw [← ordB_row k hk]
  exact run_index_row w _ _ 10 16 _ _ k _ Tryd.underlying81 hk Tryd.infoO16 Tryd.underlying80 rfl
set_option maxRecDepth 100000 in
set_option maxHeartbeats 2000000 in
theorem turn_any (h : List Nat) (s : ByteArray) (n : Nat) (last : Bool) (hh : Bl.W 8 h) (hs : s.size ≤ 64) (hn : n < 9223372036854775808) (w : World) (hB : Begins w) (hO : Orders w) :
    Calls Tryd.prog 37 #[.agg (cw h), .string s, .int .i64 n, .bool last] w fun e w' => e = .returned (.agg (cw (Bl.block h s.data.toList n last))) ∧ Kept w w' := by
  have HBG := Lib.hid hB
  have HOR := Lib.hid hO
  have HH := Lib.hid hh
  clear hB hO hh
  go_enter Tryd.func37, Tryd.ntmps37
  go_wp2_with (first
    | (with_reducible refine wpList_box_block rfl 54 (.tmp 0) rfl (cw h) rfl ?_)
    | (with_reducible refine wpList_alloc_block rfl 54 rfl z8 Tryd.zero8 ?_))
  refine (words_any s hs _).mono ?_
  rintro e w2 ⟨rfl, hk2⟩
  obtain ⟨ps, hps⟩ : ∃ ps, ps = w.heap.size := ⟨_, rfl⟩
  have hs2 : BlockAt w2 ps (cw h) 54 := by rw [hps]; exact ((BlockAt.new w _ _).kept ((Kept.refl _).alloc _)).kept hk2
  have he2 : BlockAt w2 (ps + 1) z8 54 := by
    have q := BlockAt.new (w.alloc (.cells (cw h) 54)) z8 54
    rw [World.size_alloc] at q
    rw [hps]
    exact q.kept hk2
  have hkk2 : Kept w w2 := (((Kept.refl w).alloc _).alloc _).trans hk2
  rw [← hps]
  obtain ⟨m, hm⟩ : ∃ m, m = Bl.words s.data.toList s.size := ⟨_, rfl⟩
  have HM := Lib.hid hm
  have hmo : Bl.W 16 m := by rw [hm]; exact Bl.words_ok _ _
  have HMO := Lib.hid hmo
  rw [← hm]
  have HPS := Lib.hid hps
  have HS2 := Lib.hid hs2
  have HE2 := Lib.hid he2
  have HK2 := Lib.hid hkk2
  clear hk2 hkk2 hs2 he2 hmo hm hps
  have hsm : ps + 1 < w2.heap.size := HE2.out.lt
  go_upto_region 2 with (first
    | (with_reducible refine wpList_alloc_block rfl 71 rfl z16 Tryd.zero16 ?_)
    | (refine wpList_store_block rfl 71 (.tmp 9) (.tmp 19) rfl w2.heap.size (cw m) z16 71 rfl rfl (BlockAt.new _ _ _) (by rw [size16 HMO.out]; exact Tryd.info16) (by rw [size16 HMO.out]; exact z16_size) (cw_one _) ?_))
  obtain ⟨w3, hw3⟩ : ∃ w3, w3 = (w2.alloc (.cells z16 71)).setRow w2.heap.size (cw m) := ⟨_, rfl⟩
  rw [← hw3]
  have hk3 : Kept w2 w3 := by rw [hw3]; exact ((Kept.refl w2).alloc _).setRow (Nat.le_refl _) _
  have hb3 : BlockAt w3 w2.heap.size (cw m) 71 := by rw [hw3]; exact (BlockAt.new w2 _ _).setRow _
  obtain ⟨pm, hpm⟩ : ∃ pm, pm = w2.heap.size := ⟨_, rfl⟩
  rw [← hpm] at hb3 hsm ⊢
  have HBM3 := Lib.hid hb3
  have HS3 := Lib.hid (HS2.out.kept hk3)
  have HE3 := Lib.hid (HE2.out.kept hk3)
  have HK3 := Lib.hid (HK2.out.trans hk3)
  clear hw3 hk3 hb3 hpm HS2 HE2 HK2
  have hmv : pm < w3.heap.size := HBM3.out.lt
  go_upto_region 3 with (first
    | (with_reducible refine wpList_alloc_block rfl 71 rfl z16 Tryd.zero16 ?_)
    | (with_reducible refine wpList_build_zero rfl 71 rfl z16 Tryd.built16 ?_)
    | (refine wpList_store_block rfl 71 (.tmp 10) (.tmp 20) rfl w3.heap.size z16 z16 71 rfl rfl (BlockAt.new _ _ _) Tryd.info16 rfl z16_one ?_))
  obtain ⟨w4, hw4⟩ : ∃ w4, w4 = (w3.alloc (.cells z16 71)).setRow w3.heap.size z16 := ⟨_, rfl⟩
  rw [← hw4]
  have hk4 : Kept w3 w4 := by rw [hw4]; exact ((Kept.refl w3).alloc _).setRow (Nat.le_refl _) _
  have hb4 : BlockAt w4 w3.heap.size z16 71 := by rw [hw4]; exact (BlockAt.new w3 _ _).setRow _
  obtain ⟨pv, hpv⟩ : ∃ pv, pv = w3.heap.size := ⟨_, rfl⟩
  rw [← hpv] at hb4 hmv ⊢
  have HBM4 := Lib.hid (HBM3.out.kept hk4)
  have HS4 := Lib.hid (HS3.out.kept hk4)
  have HE4 := Lib.hid (HE3.out.kept hk4)
  have HK4 := Lib.hid (HK3.out.trans hk4)
  have HB4 := Lib.hid hb4
  clear hw4 hk4 hb4 hpv HBM3 HS3 HE3 HK3
  have hrun : ∀ nq, (Builtin.copy_ #[79, 79] 3 #[.slice (some ⟨pv, 0, none⟩) 8 16, .slice (some ⟨ps, 0, none⟩) 8 8]).run Tryd.prog (w4.drewN nq) = .ok (goInt 8) ((w4.drewN nq).setRow pv (cw (h ++ List.replicate 8 0))) := fun nq => by
    have q := run_copy_row (P := Tryd.prog) (w4.drewN nq) 79 79 3 53 pv 0 8 16 ⟨ps, 0, none⟩ 8 8 z16 71 (cw h).toList Tryd.underlying79 Tryd.info32 HB4.out (by rw [Array.length_toList, size8 HH.out]; rfl)
      (fun j v hj => by rw [add_none, Nat.zero_add]; exact (HS4.out.kept ((Kept.refl _).drewN nq)).cell j ▸ (by rw [← Array.getElem?_toList]; exact hj)) (by rw [Array.length_toList, size8 HH.out, z16_size]; decide) (fun v hv => Array.all_eq_true'.1 (cw_one h) v (by simpa using hv))
    rw [copied h HH.out, Array.length_toList, size8 HH.out] at q
    exact q
  have HRUN := Lib.hid hrun
  clear hrun
  go_wp2_with fail
  simp only [Act.put, List.setIfInBounds_toArray, List.set_cons_zero, List.set_cons_succ]
  refine (wpIn_wide (n := 0)).1 ?_
  refine wpIn_region_quiet_tail_lit 2 (by kernel_rfl) (by kernel_rfl) (by kernel_rfl) ?_
  simp only [List.take_succ_cons, List.take_zero, List.drop_succ_cons, List.drop_zero]
  repeat (gi_big_quiet_step (fail))
  refine wpQuietIn_nil ?_
  intro _ hw'
  obtain ⟨nq, hw''⟩ := hw'
  subst hw''
  gi_wp2_with (refine wpListIn_copy_run _ rfl _ _ 79 79 rfl _ _ rfl rfl (HRUN.out nq) ?_)
  obtain ⟨w5, hw5⟩ : ∃ w5, w5 = (w4.drewN nq).setRow pv (cw (h ++ List.replicate 8 0)) := ⟨_, rfl⟩
  rw [← hw5]
  have hv5 : V16 w4 pv (lay2 h 0) w5 := by
    rw [hw5]
    exact ⟨BlockAt.setRow (t := 71) (HB4.out.kept ((Kept.refl _).drewN nq)) _, gr_trans (gr_kept ((Kept.refl _).drewN nq) _) (grown_row _ _ _), Bl.both_ok HH.out (Bl.W.zeros 8)⟩
  have HBM5 := Lib.hid (other_row HBM4.out hv5.grown (by omega))
  have HS5 := Lib.hid (other_row HS4.out hv5.grown (by omega))
  have HE5 := Lib.hid (other_row HE4.out hv5.grown (by omega))
  have HK5 := Lib.hid (hv5.kept HK4.out (by have := HPS.out; omega))
  have HV5 := Lib.hid (V16.here hv5.row hv5.ok)
  clear hw5 hv5 HBM4 HS4 HE4 HK4 HB4 HRUN
  go_wp2_with (first
    | (refine wpList_load_part rfl 54 (.global 0) rfl ⟨0, 0, none⟩ rfl (cw Bl.begins) _ (HBG.out.kept HK5.out).part Tryd.underlying54 rfl Tryd.info8 ?_))
  go_loopw [25] (fun i wx => ∃ k : Nat, k ≤ 8 ∧ i = .int .i64 k ∧ V16 w5 pv (lay2 h k) wx) (fun i _ => 8 - (intOf i).toNat)
  case atStart => exact ⟨0, by omega, rfl, HV5.out⟩
  case round =>
    obtain ⟨k, hk, rfl, hv⟩ := hrel
    have HVk := Lib.hid hv
    clear hv
    by_cases hlt : k < 8
    · as_aux_lemma =>
        have hix := index8 Bl.begins_ok k hlt
        have f1 := HVk.out.free (8 + k)
        have c1 := HVk.out.cell (8 + k) (by omega)
        have HST := Lib.hid (show V16 w5 pv (lay2 h (k + 1)) _ from HVk.out.put0 (8 + k) (Bl.begins_ok.at k))
        generalize Bl.begins.getD k 0 = y at *
        go_wp2
        go_roundw
        case rel => exact ⟨k + 1, by omega, by go_num, HST.out⟩
        case measure => simp [intOf]; omega
    · obtain rfl : k = 8 := by omega
      have hv8 := HVk.out
      rw [lay2_all HH.out] at hv8
      have HV8 := Lib.hid hv8
      clear hv8 HVk HV5
      cases last
      · as_aux_lemma =>
          have hsg : IntKind.u32.signed = false := rfl
          have c12 := HV8.out.cell 12 (by omega)
          have c13 := HV8.out.cell 13 (by omega)
          have f12 := HV8.out.free 12
          have f13 := HV8.out.free 13
          have u12 := HV8.out.ok.at 12
          have u13 := HV8.out.ok.at 13
          have e1 := up32 n
          have hn2 : n / 4294967296 % 4294967296 = n / 4294967296 := Nat.mod_eq_of_lt (by omega)
          have e3 := x32 _ (n % 4294967296) u12 (Nat.mod_lt _ (by decide))
          have e4 : bits .xor .u32 ((h ++ Bl.begins).getD 13 0 : Nat) ((n : Int) / 4294967296) = (((h ++ Bl.begins).getD 13 0 ^^^ n / 4294967296 % 4294967296 : Nat) : Int) := by
            rw [hn2, show (n : Int) / 4294967296 = ((n / 4294967296 : Nat) : Int) by omega]
            exact x32 _ _ u13 (by omega)
          clear hn2
          have hst := (HV8.out.put0 12 (Bl.xor_lt u12 (Nat.mod_lt n (by decide)))).put0 13 (Bl.xor_lt u13 (Nat.mod_lt (n / 4294967296) (by decide)))
          rw [start_set_f h n] at hst
          obtain ⟨v0, hv0⟩ : ∃ v0, v0 = Bl.start h n false := ⟨_, rfl⟩
          have HV0 := Lib.hid hv0
          rw [← hv0] at hst
          have HST := Lib.hid hst
          clear hst u12 u13 hv0
          generalize (h ++ Bl.begins).getD 12 0 ^^^ n % 4294967296 = y12 at *
          generalize (h ++ Bl.begins).getD 13 0 ^^^ n / 4294967296 % 4294967296 = y13 at *
          generalize (h ++ Bl.begins).getD 12 0 = y12a at *
          generalize (h ++ Bl.begins).getD 13 0 = y13a at *
          generalize n % 4294967296 = n1 at *
          go_upto_region 13 with fail
          generalize World.setCell _ _ _ = w7 at HST ⊢
          have HBM7 := Lib.hid (other_row HBM5.out HST.out.grown (by omega))
          have HS7 := Lib.hid (other_row HS5.out HST.out.grown (by omega))
          have HE7 := Lib.hid (other_row HE5.out HST.out.grown (by omega))
          have HK7 := Lib.hid (HST.out.kept HK5.out (by have := HPS.out; omega))
          have HV7 := Lib.hid (V16.here HST.out.row HST.out.ok)
          clear HV8 HST HBM5 HS5 HE5 HK5 c12 c13 f12 f13 e1 e3 e4
          go_wp2_with (first
            | (refine wpList_load_part rfl 81 (.global 1) rfl ⟨1, 0, none⟩ rfl ordB _ (HOR.out.kept HK7.out).part Tryd.underlying81 rfl (by rw [ordB_size]; exact Tryd.infoO8) ?_))
          go_loopw [54] (fun i wx => ∃ k : Nat, k ≤ 10 ∧ i = .int .i64 k ∧ V16 w7 pv (Bl.rounds m v0 k) wx) (fun i _ => 10 - (intOf i).toNat)
          case atStart => exact ⟨0, by omega, rfl, HV7.out⟩
          case round =>
            obtain ⟨k, hk, rfl, hv⟩ := hrel
            have HVk := Lib.hid hv
            clear hv
            by_cases hlt : k < 10
            · as_aux_lemma =>
                have HBk := Lib.hid (other_row HBM7.out HVk.out.grown (by omega))
                have hix := index_order k hlt
                go_upto_region 16 with (first
                  | (with_reducible refine wpList_alloc_block rfl 80 rfl rowB0 Tryd.zeroO16 ?_)
                  | (refine wpList_store_block rfl 80 (.tmp 14) (.tmp 56) rfl wr.heap.size (ordBR k) rowB0 80 rfl rfl (BlockAt.new _ _ _) (by rw [ordBR_size k hlt]; exact Tryd.infoO16) (by rw [ordBR_size k hlt, rowB0, Array.size_replicate]) (ordBR_one k) ?_))
                obtain ⟨wb, hwb⟩ : ∃ wb, wb = (wr.alloc (.cells rowB0 80)).setRow wr.heap.size (ordBR k) := ⟨_, rfl⟩
                rw [← hwb]
                have hkb : Kept wr wb := by rw [hwb]; exact ((Kept.refl wr).alloc _).setRow (Nat.le_refl _) _
                have hrb : BlockAt wb wr.heap.size (ordBR k) 80 := by rw [hwb]; exact (BlockAt.new wr _ _).setRow _
                have hor : pv < wr.heap.size := HVk.out.row.lt
                obtain ⟨pr, hpr⟩ : ∃ pr, pr = wr.heap.size := ⟨_, rfl⟩
                rw [← hpr] at hrb hor ⊢
                obtain ⟨x0, hx0⟩ : ∃ x0, x0 = Bl.rounds m v0 k := ⟨_, rfl⟩
                have HX0 := Lib.hid hx0
                have hg7 := gr_trans HVk.out.grown (gr_kept hkb (some pv))
                have hv0 := V16.here (HVk.out.row.kept hkb) HVk.out.ok
                rw [← hx0] at hv0
                have HVx0 := Lib.hid hv0
                have HRb := Lib.hid hrb
                have HBb := Lib.hid (HBk.out.kept hkb)
                have HG7 := Lib.hid hg7
                clear hwb hkb hrb hpr hx0 hg7 hv0 HBk hix
                go_wp2_with fail
                go_loopw [57] (fun i wx => ∃ j : Nat, j ≤ 4 ∧ i = .int .i64 j ∧ V16 wb pv (Bl.halfA m (Bl.orders.getD k []) x0 j) wx) (fun i _ => 4 - (intOf i).toNat)
                case atStart => exact ⟨0, by omega, rfl, HVx0.out⟩
                case round =>
                  obtain ⟨j, hj, rfl, hv⟩ := hrel
                  have HVj := Lib.hid hv
                  clear hv
                  by_cases hjt : j < 4
                  · as_aux_lemma =>
                      have hr := other_row HRb.out HVj.out.grown (by omega)
                      have hm := other_row HBb.out HVj.out.grown (by omega)
                      have c1 := hr.cell (2 * j)
                      rw [ordBR_at k _ hlt (by omega)] at c1
                      have c2 := hr.cell (2 * j + 1)
                      rw [ordBR_at k _ hlt (by omega)] at c2
                      have c3 := hm.cell ((Bl.orders.getD k []).getD (2 * j) 0)
                      rw [cw_at m _ (by rw [HMO.out.len]; exact Bl.order_lt k _)] at c3
                      have c4 := hm.cell ((Bl.orders.getD k []).getD (2 * j + 1) 0)
                      rw [cw_at m _ (by rw [HMO.out.len]; exact Bl.order_lt k _)] at c4
                      have l1 := Bl.order_lt k (2 * j)
                      have l2 := Bl.order_lt k (2 * j + 1)
                      clear hr hm
                      have hc : ∀ nq, Calls Tryd.prog 43 #[.pointer (some ⟨pv, 0, none⟩), .int .i64 j, .int .i64 (4 + (j : Int)), .int .i64 (8 + (j : Int)), .int .i64 (12 + (j : Int)), .int .u32 (m.getD ((Bl.orders.getD k []).getD (2 * j) 0) 0 : Nat), .int .u32 (m.getD ((Bl.orders.getD k []).getD (2 * j + 1) 0) 0 : Nat)] (wr.drewN nq) fun e w' => e = .returned (.tuple #[]) ∧ V16 (wr.drewN nq) pv (Bl.halfA m (Bl.orders.getD k []) x0 (j + 1)) w' := fun nq => by
                        have q := mix_any pv (Bl.halfA m (Bl.orders.getD k []) x0 j) j (4 + j) (8 + j) (12 + j) (m.getD ((Bl.orders.getD k []).getD (2 * j) 0) 0) (m.getD ((Bl.orders.getD k []).getD (2 * j + 1) 0) 0) (by omega) (by omega) (by omega) (by omega) (wr.drewN nq) (V16.here (HVj.out.row.kept ((Kept.refl _).drewN nq)) HVj.out.ok)
                        simp only [Int.natCast_add, Int.cast_ofNat_Int] at q
                        exact q
                      have HC := Lib.hid hc
                      clear hc
                      generalize m.getD ((Bl.orders.getD k []).getD (2 * j) 0) 0 = p1 at *
                      generalize m.getD ((Bl.orders.getD k []).getD (2 * j + 1) 0) 0 = p2 at *
                      generalize (Bl.orders.getD k []).getD (2 * j) 0 = q1 at *
                      generalize (Bl.orders.getD k []).getD (2 * j + 1) 0 = q2 at *
                      go_wp2_with fail
                      refine (wpIn_wide (n := 0)).1 ?_
                      refine wpIn_region_quiet_tail_lit 20 (by kernel_rfl) (by kernel_rfl) (by kernel_rfl) ?_
                      simp only [List.take_succ_cons, List.take_zero, List.drop_succ_cons, List.drop_zero]
                      repeat (gi_big_quiet_step (fail))
                      refine wpQuietIn_nil ?_
                      intro _ hw'
                      obtain ⟨nq, hw''⟩ := hw'
                      subst hw''
                      gi_wp2_with fail
                      refine callsIn_wide.2 ((HC.out nq).mono ?_)
                      rintro e w19 ⟨rfl, hw⟩
                      have HVz := Lib.hid (V16.trans (gr_trans HVj.out.grown (gr_kept ((Kept.refl _).drewN nq) _)) hw)
                      clear hw HC c1 c2 c3 c4 l1 l2 HVj
                      gi_wp2
                      go_wp2
                      go_roundw
                      case rel => exact ⟨j + 1, by omega, by go_num, HVz.out⟩
                      case measure => simp [intOf]; omega
                  · obtain rfl : j = 4 := by omega
                    have HVa := Lib.hid (V16.here HVj.out.row HVj.out.ok)
                    have HRa := Lib.hid (other_row HRb.out HVj.out.grown (by omega))
                    have HBa := Lib.hid (other_row HBb.out HVj.out.grown (by omega))
                    have HGa := Lib.hid (gr_trans HG7.out HVj.out.grown)
                    obtain ⟨x4, hx4⟩ : ∃ x4, x4 = Bl.halfA m (Bl.orders.getD k []) x0 4 := ⟨_, rfl⟩
                    have HX4 := Lib.hid hx4
                    rw [← hx4] at HVa
                    clear hx4 HVj HVx0 HRb HBb HG7
                    obtain ⟨wa, hwa⟩ : ∃ wa, wa = wr := ⟨_, rfl⟩
                    rw [← hwa] at HVa HRa HBa HGa ⊢
                    clear hwa
                    go_wp2_with fail
                    go_loopw [82] (fun i wx => ∃ j : Nat, j ≤ 4 ∧ i = .int .i64 j ∧ V16 wa pv (Bl.halfB m (Bl.orders.getD k []) x4 j) wx) (fun i _ => 4 - (intOf i).toNat)
                    case atStart => exact ⟨0, by omega, rfl, HVa.out⟩
                    case round =>
                      obtain ⟨j, hj, rfl, hv⟩ := hrel
                      have HVj := Lib.hid hv
                      clear hv
                      by_cases hjt : j < 4
                      · as_aux_lemma =>
                          obtain ⟨r1, hr1⟩ : ∃ r, r = (j + 1) % 4 := ⟨_, rfl⟩
                          obtain ⟨r2, hr2⟩ : ∃ r, r = (j + 2) % 4 := ⟨_, rfl⟩
                          obtain ⟨r3, hr3⟩ : ∃ r, r = (j + 3) % 4 := ⟨_, rfl⟩
                          have t1 : ((j : Int) + 1) % 4 = (r1 : Int) := by omega
                          have t2 : ((j : Int) + 2) % 4 = (r2 : Int) := by omega
                          have t3 : ((j : Int) + 3) % 4 = (r3 : Int) := by omega
                          have s1 : ((j : Int) + 1).tmod 4 = (r1 : Int) := by rw [Int.tmod_eq_emod_of_nonneg (by omega)]; exact t1
                          have s2 : ((j : Int) + 2).tmod 4 = (r2 : Int) := by rw [Int.tmod_eq_emod_of_nonneg (by omega)]; exact t2
                          have s3 : ((j : Int) + 3).tmod 4 = (r3 : Int) := by rw [Int.tmod_eq_emod_of_nonneg (by omega)]; exact t3
                          have hl1 : r1 < 4 := by omega
                          have hl2 : r2 < 4 := by omega
                          have hl3 : r3 < 4 := by omega
                          have hr := other_row HRa.out HVj.out.grown (by omega)
                          have hm := other_row HBa.out HVj.out.grown (by omega)
                          have c1 := hr.cell (8 + 2 * j)
                          rw [ordBR_at k _ hlt (by omega)] at c1
                          have c2 := hr.cell (9 + 2 * j)
                          rw [ordBR_at k _ hlt (by omega)] at c2
                          have c3 := hm.cell ((Bl.orders.getD k []).getD (8 + 2 * j) 0)
                          rw [cw_at m _ (by rw [HMO.out.len]; exact Bl.order_lt k _)] at c3
                          have c4 := hm.cell ((Bl.orders.getD k []).getD (9 + 2 * j) 0)
                          rw [cw_at m _ (by rw [HMO.out.len]; exact Bl.order_lt k _)] at c4
                          have l1 := Bl.order_lt k (8 + 2 * j)
                          have l2 := Bl.order_lt k (9 + 2 * j)
                          clear hr hm
                          have hc : ∀ nq, Calls Tryd.prog 43 #[.pointer (some ⟨pv, 0, none⟩), .int .i64 j, .int .i64 (4 + (r1 : Int)), .int .i64 (8 + (r2 : Int)), .int .i64 (12 + (r3 : Int)), .int .u32 (m.getD ((Bl.orders.getD k []).getD (8 + 2 * j) 0) 0 : Nat), .int .u32 (m.getD ((Bl.orders.getD k []).getD (9 + 2 * j) 0) 0 : Nat)] (wr.drewN nq) fun e w' => e = .returned (.tuple #[]) ∧ V16 (wr.drewN nq) pv (Bl.halfB m (Bl.orders.getD k []) x4 (j + 1)) w' := fun nq => by
                            have q := mix_any pv (Bl.halfB m (Bl.orders.getD k []) x4 j) j (4 + r1) (8 + r2) (12 + r3) (m.getD ((Bl.orders.getD k []).getD (8 + 2 * j) 0) 0) (m.getD ((Bl.orders.getD k []).getD (9 + 2 * j) 0) 0) (by omega) (by omega) (by omega) (by omega) (wr.drewN nq) (V16.here (HVj.out.row.kept ((Kept.refl _).drewN nq)) HVj.out.ok)
                            simp only [Int.natCast_add, Int.cast_ofNat_Int] at q
                            rw [show Bl.halfB m (Bl.orders.getD k []) x4 (j + 1) = Bl.mix (Bl.halfB m (Bl.orders.getD k []) x4 j) j (4 + r1) (8 + r2) (12 + r3) (m.getD ((Bl.orders.getD k []).getD (8 + 2 * j) 0) 0) (m.getD ((Bl.orders.getD k []).getD (9 + 2 * j) 0) 0) by rw [hr1, hr2, hr3]; rfl]
                            exact q
                          have HC := Lib.hid hc
                          clear hc hr1 hr2 hr3
                          generalize m.getD ((Bl.orders.getD k []).getD (8 + 2 * j) 0) 0 = p1 at *
                          generalize m.getD ((Bl.orders.getD k []).getD (9 + 2 * j) 0) 0 = p2 at *
                          generalize (Bl.orders.getD k []).getD (8 + 2 * j) 0 = q1 at *
                          generalize (Bl.orders.getD k []).getD (9 + 2 * j) 0 = q2 at *
                          go_wp2_with fail
                          refine (wpIn_wide (n := 0)).1 ?_
                          refine wpIn_region_quiet_tail_lit 27 (by kernel_rfl) (by kernel_rfl) (by kernel_rfl) ?_
                          simp only [List.take_succ_cons, List.take_zero, List.drop_succ_cons, List.drop_zero]
                          repeat (gi_big_quiet_step (fail))
                          refine wpQuietIn_nil ?_
                          intro _ hw'
                          obtain ⟨nq, hw''⟩ := hw'
                          subst hw''
                          gi_wp2_with fail
                          refine callsIn_wide.2 ((HC.out nq).mono ?_)
                          rintro e w19 ⟨rfl, hw⟩
                          have HVz := Lib.hid (V16.trans (gr_trans HVj.out.grown (gr_kept ((Kept.refl _).drewN nq) _)) hw)
                          clear hw HC c1 c2 c3 c4 l1 l2 HVj
                          gi_wp2
                          go_wp2
                          go_roundw
                          case rel => exact ⟨_, _, _, _, _, _, _, _, _, _, _, _, _, _, _, _, _, _, _, _, _, _, _, _, _, _, _, _, _, _, _, _, _, ⟨j + 1, by omega, by go_num, HVz.out⟩, rfl⟩
                          case measure => simp [intOf]; omega
                      · obtain rfl : j = 4 := by omega
                        go_wp2
                        go_roundw
                        case rel =>
                          refine ⟨k + 1, by omega, by go_num, ?_⟩
                          have hv := HVj.out
                          rw [HX4.out, HX0.out] at hv
                          rw [rounds_step]
                          exact V16.trans HGa.out hv
                        case measure => simp [intOf]; omega
            · obtain rfl : k = 10 := by omega
              have HS9 := Lib.hid (other_row HS7.out HVk.out.grown (by omega))
              have HE9 := Lib.hid (other_row HE7.out HVk.out.grown (by omega))
              have HK9 := Lib.hid (HVk.out.kept HK7.out (by have := HPS.out; omega))
              obtain ⟨v, hv⟩ : ∃ v, v = Bl.rounds m v0 10 := ⟨_, rfl⟩
              have HVV := Lib.hid hv
              have hv9 := HVk.out
              rw [← hv] at hv9
              have HV9 := Lib.hid hv9
              clear hv hv9 HVk HV7 HBM7 HS7 HE7 HK7
              go_wp2_with fail
              go_loopw [115] (fun i wx => ∃ k : Nat, k ≤ 8 ∧ i = .int .i64 k ∧ V8 wr ps (Bl.fin h v k) wx) (fun i _ => 8 - (intOf i).toNat)
              case atStart => exact ⟨0, by omega, rfl, V8.here HS9.out HH.out⟩
              case round =>
                obtain ⟨k, hk, rfl, hv⟩ := hrel
                have HVk := Lib.hid hv
                clear hv
                by_cases hlt : k < 8
                · as_aux_lemma =>
                    have hpr := other_row HV9.out.row HVk.out.grown (by omega)
                    have c1 := HVk.out.cell k (by omega)
                    have f1 := HVk.out.free k
                    have c2 := hpr.cell k
                    rw [cw_at _ _ (by rw [HV9.out.ok.len]; omega)] at c2
                    have c3 := hpr.cell (8 + k)
                    rw [cw_at _ _ (by rw [HV9.out.ok.len]; omega)] at c3
                    have l1 := HVk.out.ok.at k
                    have l2 := HV9.out.ok.at k
                    have l3 := HV9.out.ok.at (8 + k)
                    have e1 := x32 _ _ l2 l3
                    have e2 := x32 _ _ l1 (Bl.xor_lt l2 l3)
                    have hst : ∀ nq, V8 _ ps (Bl.fin h v (k + 1)) ((wr.drewN nq).setCell ⟨ps, k, none⟩ (.int .u32 (((Bl.fin h v k).getD k 0 ^^^ (v.getD k 0 ^^^ v.getD (8 + k) 0) : Nat) : Int))) := fun nq => by
                      have q := HVk.out.put nq k (Bl.xor_lt l1 (Bl.xor_lt l2 l3))
                      rw [show (Bl.fin h v k).set k ((Bl.fin h v k).getD k 0 ^^^ (v.getD k 0 ^^^ v.getD (8 + k) 0)) = Bl.fin h v (k + 1) by rw [← Nat.xor_assoc]; rfl] at q
                      exact q
                    have HST := Lib.hid hst
                    clear hst hpr l1 l2 l3
                    generalize (Bl.fin h v k).getD k 0 ^^^ (v.getD k 0 ^^^ v.getD (8 + k) 0) = z at *
                    generalize v.getD k 0 ^^^ v.getD (8 + k) 0 = y at *
                    generalize v.getD (8 + k) 0 = x3 at *
                    generalize v.getD k 0 = x2 at *
                    generalize (Bl.fin h v k).getD k 0 = x1 at *
                    go_wp2_with fail
                    refine (wpIn_wide (n := 0)).1 ?_
                    refine wpIn_region_quiet_tail_lit 13 (by kernel_rfl) (by kernel_rfl) (by kernel_rfl) ?_
                    simp only [List.take_succ_cons, List.take_zero, List.drop_succ_cons, List.drop_zero]
                    repeat (gi_big_quiet_step (fail))
                    refine wpQuietIn_nil ?_
                    intro _ hw'
                    obtain ⟨nq, hw''⟩ := hw'
                    subst hw''
                    gi_wp2
                    go_wp2
                    go_roundw
                    case rel => exact ⟨k + 1, by omega, by go_num, HST.out nq⟩
                    case measure => simp [intOf]; omega
                · obtain rfl : k = 8 := by omega
                  have hf := HVk.out
                  rw [HVV.out, HV0.out, HM.out] at hf
                  have hf2 : V8 _ ps (Bl.block h s.data.toList n false) wr := hf
                  obtain ⟨V, hV⟩ : ∃ V, V = Bl.block h s.data.toList n false := ⟨_, rfl⟩
                  have HVB := Lib.hid hV
                  rw [← hV] at hf2
                  have HF := Lib.hid hf2
                  have HR := Lib.hid (other_row HE9.out hf2.grown (by omega))
                  have HKK := Lib.hid (hf2.kept HK9.out (by have := HPS.out; omega))
                  clear hf hf2 HVk hV
                  go_wp2_with (first
                    | (refine wpList_load_row rfl 54 (.tmp 4) rfl ps rfl 54 (cw V) (0, 0) _ HF.out.row Tryd.underlying54 rfl (by rw [size8 HF.out.ok]; exact Tryd.info8) ?_)
                    | (refine wpList_store_block rfl 54 (.tmp 8) (.tmp 132) rfl (ps + 1) (cw V) z8 54 rfl rfl HR.out (by rw [size8 HF.out.ok]; exact Tryd.info8) (by rw [size8 HF.out.ok]; exact z8_size) (cw_one _) ?_))
                  refine bodyPost_ret (v := .agg (cw V)) ?_ rfl ⟨by rw [HVB.out], HKK.out.setRow (by have := HPS.out; omega) _⟩
                  exact results_cell_row rfl _ _ (ps + 1) 54 (cw V) (0, 0) _ rfl (HR.out.setRow _) Tryd.underlying54 rfl (by rw [size8 HF.out.ok]; exact Tryd.info8)
      · as_aux_lemma =>
          have hsg : IntKind.u32.signed = false := rfl
          have c12 := HV8.out.cell 12 (by omega)
          have c13 := HV8.out.cell 13 (by omega)
          have f12 := HV8.out.free 12
          have f13 := HV8.out.free 13
          have u12 := HV8.out.ok.at 12
          have u13 := HV8.out.ok.at 13
          have e1 := up32 n
          have hn2 : n / 4294967296 % 4294967296 = n / 4294967296 := Nat.mod_eq_of_lt (by omega)
          have e3 := x32 _ (n % 4294967296) u12 (Nat.mod_lt _ (by decide))
          have e4 : bits .xor .u32 ((h ++ Bl.begins).getD 13 0 : Nat) ((n : Int) / 4294967296) = (((h ++ Bl.begins).getD 13 0 ^^^ n / 4294967296 % 4294967296 : Nat) : Int) := by
            rw [hn2, show (n : Int) / 4294967296 = ((n / 4294967296 : Nat) : Int) by omega]
            exact x32 _ _ u13 (by omega)
          clear hn2
          have c14 := HV8.out.cell 14 (by omega)
          have f14 := HV8.out.free 14
          have e5 := inv32 _ (HV8.out.ok.at 14)
          have hst := (HV8.out.put0 12 (Bl.xor_lt u12 (Nat.mod_lt n (by decide)))).put0 13 (Bl.xor_lt u13 (Nat.mod_lt (n / 4294967296) (by decide)))
          have hst := hst.put0 14 (Bl.inv_lt ((h ++ Bl.begins).getD 14 0))
          rw [start_set_t h n] at hst
          obtain ⟨v0, hv0⟩ : ∃ v0, v0 = Bl.start h n true := ⟨_, rfl⟩
          have HV0 := Lib.hid hv0
          rw [← hv0] at hst
          have HST := Lib.hid hst
          clear hst u12 u13 hv0
          generalize (h ++ Bl.begins).getD 12 0 ^^^ n % 4294967296 = y12 at *
          generalize (h ++ Bl.begins).getD 13 0 ^^^ n / 4294967296 % 4294967296 = y13 at *
          generalize Bl.inv ((h ++ Bl.begins).getD 14 0) = y14 at *
          generalize (h ++ Bl.begins).getD 14 0 = y14a at *
          generalize (h ++ Bl.begins).getD 12 0 = y12a at *
          generalize (h ++ Bl.begins).getD 13 0 = y13a at *
          generalize n % 4294967296 = n1 at *
          go_upto_region 13 with fail
          generalize World.setCell _ _ _ = w7 at HST ⊢
          have HBM7 := Lib.hid (other_row HBM5.out HST.out.grown (by omega))
          have HS7 := Lib.hid (other_row HS5.out HST.out.grown (by omega))
          have HE7 := Lib.hid (other_row HE5.out HST.out.grown (by omega))
          have HK7 := Lib.hid (HST.out.kept HK5.out (by have := HPS.out; omega))
          have HV7 := Lib.hid (V16.here HST.out.row HST.out.ok)
          clear HV8 HST HBM5 HS5 HE5 HK5 c12 c13 f12 f13 e1 e3 e4 c14 f14 e5
          go_wp2_with (first
            | (refine wpList_load_part rfl 81 (.global 1) rfl ⟨1, 0, none⟩ rfl ordB _ (HOR.out.kept HK7.out).part Tryd.underlying81 rfl (by rw [ordB_size]; exact Tryd.infoO8) ?_))
          go_loopw [54] (fun i wx => ∃ k : Nat, k ≤ 10 ∧ i = .int .i64 k ∧ V16 w7 pv (Bl.rounds m v0 k) wx) (fun i _ => 10 - (intOf i).toNat)
          case atStart => exact ⟨0, by omega, rfl, HV7.out⟩
          case round =>
            obtain ⟨k, hk, rfl, hv⟩ := hrel
            have HVk := Lib.hid hv
            clear hv
            by_cases hlt : k < 10
            · as_aux_lemma =>
                have HBk := Lib.hid (other_row HBM7.out HVk.out.grown (by omega))
                have hix := index_order k hlt
                go_upto_region 16 with (first
                  | (with_reducible refine wpList_alloc_block rfl 80 rfl rowB0 Tryd.zeroO16 ?_)
                  | (refine wpList_store_block rfl 80 (.tmp 14) (.tmp 56) rfl wr.heap.size (ordBR k) rowB0 80 rfl rfl (BlockAt.new _ _ _) (by rw [ordBR_size k hlt]; exact Tryd.infoO16) (by rw [ordBR_size k hlt, rowB0, Array.size_replicate]) (ordBR_one k) ?_))
                obtain ⟨wb, hwb⟩ : ∃ wb, wb = (wr.alloc (.cells rowB0 80)).setRow wr.heap.size (ordBR k) := ⟨_, rfl⟩
                rw [← hwb]
                have hkb : Kept wr wb := by rw [hwb]; exact ((Kept.refl wr).alloc _).setRow (Nat.le_refl _) _
                have hrb : BlockAt wb wr.heap.size (ordBR k) 80 := by rw [hwb]; exact (BlockAt.new wr _ _).setRow _
                have hor : pv < wr.heap.size := HVk.out.row.lt
                obtain ⟨pr, hpr⟩ : ∃ pr, pr = wr.heap.size := ⟨_, rfl⟩
                rw [← hpr] at hrb hor ⊢
                obtain ⟨x0, hx0⟩ : ∃ x0, x0 = Bl.rounds m v0 k := ⟨_, rfl⟩
                have HX0 := Lib.hid hx0
                have hg7 := gr_trans HVk.out.grown (gr_kept hkb (some pv))
                have hv0 := V16.here (HVk.out.row.kept hkb) HVk.out.ok
                rw [← hx0] at hv0
                have HVx0 := Lib.hid hv0
                have HRb := Lib.hid hrb
                have HBb := Lib.hid (HBk.out.kept hkb)
                have HG7 := Lib.hid hg7
                clear hwb hkb hrb hpr hx0 hg7 hv0 HBk hix
                go_wp2_with fail
                go_loopw [57] (fun i wx => ∃ j : Nat, j ≤ 4 ∧ i = .int .i64 j ∧ V16 wb pv (Bl.halfA m (Bl.orders.getD k []) x0 j) wx) (fun i _ => 4 - (intOf i).toNat)
                case atStart => exact ⟨0, by omega, rfl, HVx0.out⟩
                case round =>
                  obtain ⟨j, hj, rfl, hv⟩ := hrel
                  have HVj := Lib.hid hv
                  clear hv
                  by_cases hjt : j < 4
                  · as_aux_lemma =>
                      have hr := other_row HRb.out HVj.out.grown (by omega)
                      have hm := other_row HBb.out HVj.out.grown (by omega)
                      have c1 := hr.cell (2 * j)
                      rw [ordBR_at k _ hlt (by omega)] at c1
                      have c2 := hr.cell (2 * j + 1)
                      rw [ordBR_at k _ hlt (by omega)] at c2
                      have c3 := hm.cell ((Bl.orders.getD k []).getD (2 * j) 0)
                      rw [cw_at m _ (by rw [HMO.out.len]; exact Bl.order_lt k _)] at c3
                      have c4 := hm.cell ((Bl.orders.getD k []).getD (2 * j + 1) 0)
                      rw [cw_at m _ (by rw [HMO.out.len]; exact Bl.order_lt k _)] at c4
                      have l1 := Bl.order_lt k (2 * j)
                      have l2 := Bl.order_lt k (2 * j + 1)
                      clear hr hm
                      have hc : ∀ nq, Calls Tryd.prog 43 #[.pointer (some ⟨pv, 0, none⟩), .int .i64 j, .int .i64 (4 + (j : Int)), .int .i64 (8 + (j : Int)), .int .i64 (12 + (j : Int)), .int .u32 (m.getD ((Bl.orders.getD k []).getD (2 * j) 0) 0 : Nat), .int .u32 (m.getD ((Bl.orders.getD k []).getD (2 * j + 1) 0) 0 : Nat)] (wr.drewN nq) fun e w' => e = .returned (.tuple #[]) ∧ V16 (wr.drewN nq) pv (Bl.halfA m (Bl.orders.getD k []) x0 (j + 1)) w' := fun nq => by
                        have q := mix_any pv (Bl.halfA m (Bl.orders.getD k []) x0 j) j (4 + j) (8 + j) (12 + j) (m.getD ((Bl.orders.getD k []).getD (2 * j) 0) 0) (m.getD ((Bl.orders.getD k []).getD (2 * j + 1) 0) 0) (by omega) (by omega) (by omega) (by omega) (wr.drewN nq) (V16.here (HVj.out.row.kept ((Kept.refl _).drewN nq)) HVj.out.ok)
                        simp only [Int.natCast_add, Int.cast_ofNat_Int] at q
                        exact q
                      have HC := Lib.hid hc
                      clear hc
                      generalize m.getD ((Bl.orders.getD k []).getD (2 * j) 0) 0 = p1 at *
                      generalize m.getD ((Bl.orders.getD k []).getD (2 * j + 1) 0) 0 = p2 at *
                      generalize (Bl.orders.getD k []).getD (2 * j) 0 = q1 at *
                      generalize (Bl.orders.getD k []).getD (2 * j + 1) 0 = q2 at *
                      go_wp2_with fail
                      refine (wpIn_wide (n := 0)).1 ?_
                      refine wpIn_region_quiet_tail_lit 20 (by kernel_rfl) (by kernel_rfl) (by kernel_rfl) ?_
                      simp only [List.take_succ_cons, List.take_zero, List.drop_succ_cons, List.drop_zero]
                      repeat (gi_big_quiet_step (fail))
                      refine wpQuietIn_nil ?_
                      intro _ hw'
                      obtain ⟨nq, hw''⟩ := hw'
                      subst hw''
                      gi_wp2_with fail
                      refine callsIn_wide.2 ((HC.out nq).mono ?_)
                      rintro e w19 ⟨rfl, hw⟩
                      have HVz := Lib.hid (V16.trans (gr_trans HVj.out.grown (gr_kept ((Kept.refl _).drewN nq) _)) hw)
                      clear hw HC c1 c2 c3 c4 l1 l2 HVj
                      gi_wp2
                      go_wp2
                      go_roundw
                      case rel => exact ⟨j + 1, by omega, by go_num, HVz.out⟩
                      case measure => simp [intOf]; omega
                  · obtain rfl : j = 4 := by omega
                    have HVa := Lib.hid (V16.here HVj.out.row HVj.out.ok)
                    have HRa := Lib.hid (other_row HRb.out HVj.out.grown (by omega))
                    have HBa := Lib.hid (other_row HBb.out HVj.out.grown (by omega))
                    have HGa := Lib.hid (gr_trans HG7.out HVj.out.grown)
                    obtain ⟨x4, hx4⟩ : ∃ x4, x4 = Bl.halfA m (Bl.orders.getD k []) x0 4 := ⟨_, rfl⟩
                    have HX4 := Lib.hid hx4
                    rw [← hx4] at HVa
                    clear hx4 HVj HVx0 HRb HBb HG7
                    obtain ⟨wa, hwa⟩ : ∃ wa, wa = wr := ⟨_, rfl⟩
                    rw [← hwa] at HVa HRa HBa HGa ⊢
                    clear hwa
                    go_wp2_with fail
                    go_loopw [82] (fun i wx => ∃ j : Nat, j ≤ 4 ∧ i = .int .i64 j ∧ V16 wa pv (Bl.halfB m (Bl.orders.getD k []) x4 j) wx) (fun i _ => 4 - (intOf i).toNat)
                    case atStart => exact ⟨0, by omega, rfl, HVa.out⟩
                    case round =>
                      obtain ⟨j, hj, rfl, hv⟩ := hrel
                      have HVj := Lib.hid hv
                      clear hv
                      by_cases hjt : j < 4
                      · as_aux_lemma =>
                          obtain ⟨r1, hr1⟩ : ∃ r, r = (j + 1) % 4 := ⟨_, rfl⟩
                          obtain ⟨r2, hr2⟩ : ∃ r, r = (j + 2) % 4 := ⟨_, rfl⟩
                          obtain ⟨r3, hr3⟩ : ∃ r, r = (j + 3) % 4 := ⟨_, rfl⟩
                          have t1 : ((j : Int) + 1) % 4 = (r1 : Int) := by omega
                          have t2 : ((j : Int) + 2) % 4 = (r2 : Int) := by omega
                          have t3 : ((j : Int) + 3) % 4 = (r3 : Int) := by omega
                          have s1 : ((j : Int) + 1).tmod 4 = (r1 : Int) := by rw [Int.tmod_eq_emod_of_nonneg (by omega)]; exact t1
                          have s2 : ((j : Int) + 2).tmod 4 = (r2 : Int) := by rw [Int.tmod_eq_emod_of_nonneg (by omega)]; exact t2
                          have s3 : ((j : Int) + 3).tmod 4 = (r3 : Int) := by rw [Int.tmod_eq_emod_of_nonneg (by omega)]; exact t3
                          have hl1 : r1 < 4 := by omega
                          have hl2 : r2 < 4 := by omega
                          have hl3 : r3 < 4 := by omega
                          have hr := other_row HRa.out HVj.out.grown (by omega)
                          have hm := other_row HBa.out HVj.out.grown (by omega)
                          have c1 := hr.cell (8 + 2 * j)
                          rw [ordBR_at k _ hlt (by omega)] at c1
                          have c2 := hr.cell (9 + 2 * j)
                          rw [ordBR_at k _ hlt (by omega)] at c2
                          have c3 := hm.cell ((Bl.orders.getD k []).getD (8 + 2 * j) 0)
                          rw [cw_at m _ (by rw [HMO.out.len]; exact Bl.order_lt k _)] at c3
                          have c4 := hm.cell ((Bl.orders.getD k []).getD (9 + 2 * j) 0)
                          rw [cw_at m _ (by rw [HMO.out.len]; exact Bl.order_lt k _)] at c4
                          have l1 := Bl.order_lt k (8 + 2 * j)
                          have l2 := Bl.order_lt k (9 + 2 * j)
                          clear hr hm
                          have hc : ∀ nq, Calls Tryd.prog 43 #[.pointer (some ⟨pv, 0, none⟩), .int .i64 j, .int .i64 (4 + (r1 : Int)), .int .i64 (8 + (r2 : Int)), .int .i64 (12 + (r3 : Int)), .int .u32 (m.getD ((Bl.orders.getD k []).getD (8 + 2 * j) 0) 0 : Nat), .int .u32 (m.getD ((Bl.orders.getD k []).getD (9 + 2 * j) 0) 0 : Nat)] (wr.drewN nq) fun e w' => e = .returned (.tuple #[]) ∧ V16 (wr.drewN nq) pv (Bl.halfB m (Bl.orders.getD k []) x4 (j + 1)) w' := fun nq => by
                            have q := mix_any pv (Bl.halfB m (Bl.orders.getD k []) x4 j) j (4 + r1) (8 + r2) (12 + r3) (m.getD ((Bl.orders.getD k []).getD (8 + 2 * j) 0) 0) (m.getD ((Bl.orders.getD k []).getD (9 + 2 * j) 0) 0) (by omega) (by omega) (by omega) (by omega) (wr.drewN nq) (V16.here (HVj.out.row.kept ((Kept.refl _).drewN nq)) HVj.out.ok)
                            simp only [Int.natCast_add, Int.cast_ofNat_Int] at q
                            rw [show Bl.halfB m (Bl.orders.getD k []) x4 (j + 1) = Bl.mix (Bl.halfB m (Bl.orders.getD k []) x4 j) j (4 + r1) (8 + r2) (12 + r3) (m.getD ((Bl.orders.getD k []).getD (8 + 2 * j) 0) 0) (m.getD ((Bl.orders.getD k []).getD (9 + 2 * j) 0) 0) by rw [hr1, hr2, hr3]; rfl]
                            exact q
                          have HC := Lib.hid hc
                          clear hc hr1 hr2 hr3
                          generalize m.getD ((Bl.orders.getD k []).getD (8 + 2 * j) 0) 0 = p1 at *
                          generalize m.getD ((Bl.orders.getD k []).getD (9 + 2 * j) 0) 0 = p2 at *
                          generalize (Bl.orders.getD k []).getD (8 + 2 * j) 0 = q1 at *
                          generalize (Bl.orders.getD k []).getD (9 + 2 * j) 0 = q2 at *
                          go_wp2_with fail
                          refine (wpIn_wide (n := 0)).1 ?_
                          refine wpIn_region_quiet_tail_lit 27 (by kernel_rfl) (by kernel_rfl) (by kernel_rfl) ?_
                          simp only [List.take_succ_cons, List.take_zero, List.drop_succ_cons, List.drop_zero]
                          repeat (gi_big_quiet_step (fail))
                          refine wpQuietIn_nil ?_
                          intro _ hw'
                          obtain ⟨nq, hw''⟩ := hw'
                          subst hw''
                          gi_wp2_with fail
                          refine callsIn_wide.2 ((HC.out nq).mono ?_)
                          rintro e w19 ⟨rfl, hw⟩
                          have HVz := Lib.hid (V16.trans (gr_trans HVj.out.grown (gr_kept ((Kept.refl _).drewN nq) _)) hw)
                          clear hw HC c1 c2 c3 c4 l1 l2 HVj
                          gi_wp2
                          go_wp2
                          go_roundw
                          case rel => exact ⟨_, _, _, _, _, _, _, _, _, _, _, _, _, _, _, _, _, _, _, _, _, _, _, _, _, _, _, _, _, _, _, _, _, ⟨j + 1, by omega, by go_num, HVz.out⟩, rfl⟩
                          case measure => simp [intOf]; omega
                      · obtain rfl : j = 4 := by omega
                        go_wp2
                        go_roundw
                        case rel =>
                          refine ⟨k + 1, by omega, by go_num, ?_⟩
                          have hv := HVj.out
                          rw [HX4.out, HX0.out] at hv
                          rw [rounds_step]
                          exact V16.trans HGa.out hv
                        case measure => simp [intOf]; omega
            · obtain rfl : k = 10 := by omega
              have HS9 := Lib.hid (other_row HS7.out HVk.out.grown (by omega))
              have HE9 := Lib.hid (other_row HE7.out HVk.out.grown (by omega))
              have HK9 := Lib.hid (HVk.out.kept HK7.out (by have := HPS.out; omega))
              obtain ⟨v, hv⟩ : ∃ v, v = Bl.rounds m v0 10 := ⟨_, rfl⟩
              have HVV := Lib.hid hv
              have hv9 := HVk.out
              rw [← hv] at hv9
              have HV9 := Lib.hid hv9
              clear hv hv9 HVk HV7 HBM7 HS7 HE7 HK7
              go_wp2_with fail
              go_loopw [115] (fun i wx => ∃ k : Nat, k ≤ 8 ∧ i = .int .i64 k ∧ V8 wr ps (Bl.fin h v k) wx) (fun i _ => 8 - (intOf i).toNat)
              case atStart => exact ⟨0, by omega, rfl, V8.here HS9.out HH.out⟩
              case round =>
                obtain ⟨k, hk, rfl, hv⟩ := hrel
                have HVk := Lib.hid hv
                clear hv
                by_cases hlt : k < 8
                · as_aux_lemma =>
                    have hpr := other_row HV9.out.row HVk.out.grown (by omega)
                    have c1 := HVk.out.cell k (by omega)
                    have f1 := HVk.out.free k
                    have c2 := hpr.cell k
                    rw [cw_at _ _ (by rw [HV9.out.ok.len]; omega)] at c2
                    have c3 := hpr.cell (8 + k)
                    rw [cw_at _ _ (by rw [HV9.out.ok.len]; omega)] at c3
                    have l1 := HVk.out.ok.at k
                    have l2 := HV9.out.ok.at k
                    have l3 := HV9.out.ok.at (8 + k)
                    have e1 := x32 _ _ l2 l3
                    have e2 := x32 _ _ l1 (Bl.xor_lt l2 l3)
                    have hst : ∀ nq, V8 _ ps (Bl.fin h v (k + 1)) ((wr.drewN nq).setCell ⟨ps, k, none⟩ (.int .u32 (((Bl.fin h v k).getD k 0 ^^^ (v.getD k 0 ^^^ v.getD (8 + k) 0) : Nat) : Int))) := fun nq => by
                      have q := HVk.out.put nq k (Bl.xor_lt l1 (Bl.xor_lt l2 l3))
                      rw [show (Bl.fin h v k).set k ((Bl.fin h v k).getD k 0 ^^^ (v.getD k 0 ^^^ v.getD (8 + k) 0)) = Bl.fin h v (k + 1) by rw [← Nat.xor_assoc]; rfl] at q
                      exact q
                    have HST := Lib.hid hst
                    clear hst hpr l1 l2 l3
                    generalize (Bl.fin h v k).getD k 0 ^^^ (v.getD k 0 ^^^ v.getD (8 + k) 0) = z at *
                    generalize v.getD k 0 ^^^ v.getD (8 + k) 0 = y at *
                    generalize v.getD (8 + k) 0 = x3 at *
                    generalize v.getD k 0 = x2 at *
                    generalize (Bl.fin h v k).getD k 0 = x1 at *
                    go_wp2_with fail
                    refine (wpIn_wide (n := 0)).1 ?_
                    refine wpIn_region_quiet_tail_lit 13 (by kernel_rfl) (by kernel_rfl) (by kernel_rfl) ?_
                    simp only [List.take_succ_cons, List.take_zero, List.drop_succ_cons, List.drop_zero]
                    repeat (gi_big_quiet_step (fail))
                    refine wpQuietIn_nil ?_
                    intro _ hw'
                    obtain ⟨nq, hw''⟩ := hw'
                    subst hw''
                    gi_wp2
                    go_wp2
                    go_roundw
                    case rel => exact ⟨k + 1, by omega, by go_num, HST.out nq⟩
                    case measure => simp [intOf]; omega
                · obtain rfl : k = 8 := by omega
                  have hf := HVk.out
                  rw [HVV.out, HV0.out, HM.out] at hf
                  have hf2 : V8 _ ps (Bl.block h s.data.toList n true) wr := hf
                  obtain ⟨V, hV⟩ : ∃ V, V = Bl.block h s.data.toList n true := ⟨_, rfl⟩
                  have HVB := Lib.hid hV
                  rw [← hV] at hf2
                  have HF := Lib.hid hf2
                  have HR := Lib.hid (other_row HE9.out hf2.grown (by omega))
                  have HKK := Lib.hid (hf2.kept HK9.out (by have := HPS.out; omega))
                  clear hf hf2 HVk hV
                  go_wp2_with (first
                    | (refine wpList_load_row rfl 54 (.tmp 4) rfl ps rfl 54 (cw V) (0, 0) _ HF.out.row Tryd.underlying54 rfl (by rw [size8 HF.out.ok]; exact Tryd.info8) ?_)
                    | (refine wpList_store_block rfl 54 (.tmp 8) (.tmp 132) rfl (ps + 1) (cw V) z8 54 rfl rfl HR.out (by rw [size8 HF.out.ok]; exact Tryd.info8) (by rw [size8 HF.out.ok]; exact z8_size) (cw_one _) ?_))
                  refine bodyPost_ret (v := .agg (cw V)) ?_ rfl ⟨by rw [HVB.out], HKK.out.setRow (by have := HPS.out; omega) _⟩
                  exact results_cell_row rfl _ _ (ps + 1) 54 (cw V) (0, 0) _ rfl (HR.out.setRow _) Tryd.underlying54 rfl (by rw [size8 HF.out.ok]; exact Tryd.info8)
end Go.Proofs.YtdllenoclnmmdaaDoor
