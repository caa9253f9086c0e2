/- What both mixes make of the sixteen numbers (indexes below 16). -/
import Derived.Test.YtdllenoclnmmdaaDoorBl1
namespace Go.Proofs.YtdllenoclnmmdaaDoor
open Go.RowKit Go.Shelf
attribute [local go_sem] Oper.semAt_some

/-- sixteen numbers in a block, the one that was written since -/
structure V16 (w : World) (g : Nat) (v : List Nat) (W : World) : Prop where
  row : BlockAt W g (cw v) 71
  grown : w.grownBy W (some g)
  ok : Bl.W 16 v
theorem V16.cell {w W : World} {g : Nat} {v : List Nat} (h : V16 w g v W) (i : Nat) (hi : i < 16) : W.cell? ⟨g, i, none⟩ = some (.int .u32 (v.getD i 0 : Nat)) := by
  rw [h.row.cell]
  exact cw_at v i (by rw [h.ok.len]; exact hi)
theorem V16.free {w W : World} {g : Nat} {v : List Nat} (h : V16 w g v W) (i : Nat) : W.frozen? ⟨g, i, none⟩ = false := h.row.free i
theorem gr_refl (w : World) (row : Option Nat) : w.grownBy w row := ⟨rfl, rfl, rfl, Nat.le_refl _, fun _ _ _ => rfl⟩
theorem gr_trans {a b c : World} {row : Option Nat} (h : a.grownBy b row) (k : b.grownBy c row) : a.grownBy c row :=
  ⟨k.os.trans h.os, k.tape.trans h.tape, k.output.trans h.output, Nat.le_trans h.size k.size, fun i hi hne => (k.block i (Nat.lt_of_lt_of_le hi h.size) hne).trans (h.block i hi hne)⟩
theorem gr_kept {a b : World} (h : Kept a b) (row : Option Nat) : a.grownBy b row := ⟨Below.os h, Below.tape h, Below.output h, Below.size h, fun k hk _ => Below.block h k hk⟩
theorem gr_set (w : World) (b i : Nat) (v : Value) : w.grownBy (w.setCell ⟨b, i, none⟩ v) (some b) :=
  ⟨rfl, rfl, rfl, by simp, fun k _ hne => Below.heap_setCell w ⟨b, i, none⟩ v k (fun e => hne (by rw [e]))⟩
theorem Kept.gr {W a b : World} {row : Option Nat} (h : Kept W a) (g : a.grownBy b row) (hr : ∀ k, row = some k → W.heap.size ≤ k) : Kept W b := Below.grown h g (Below.size h) hr
theorem grown_setCell {w W : World} {g : Nat} (h : w.grownBy W (some g)) (nq i : Nat) (x : Value) : w.grownBy ((W.drewN nq).setCell ⟨g, i, none⟩ x) (some g) :=
  gr_trans h (gr_trans (gr_kept ((Kept.refl W).drewN nq) _) (gr_set _ _ _ _))
theorem V16.put {w W : World} {g : Nat} {v : List Nat} (h : V16 w g v W) (nq i : Nat) {x : Nat} (hx : x < 4294967296) : V16 w g (v.set i x) ((W.drewN nq).setCell ⟨g, i, none⟩ (.int .u32 (x : Int))) := by
  refine ⟨?_, grown_setCell h.grown nq i _, h.ok.set i hx⟩
  have hb : BlockAt (W.drewN nq) g (cw v) 71 := h.row
  rw [← cw_set]
  exact hb.set _
set_option maxRecDepth 100000 in
set_option maxHeartbeats 4000000 in
theorem mix_any (g : Nat) (v : List Nat) (a b c d x y : Nat) (ha : a < 16) (hb : b < 16) (hc : c < 16) (hd : d < 16) (w : World) (hv : V16 w g v w) :
    Calls Tryd.prog 43 #[.pointer (some ⟨g, 0, none⟩), .int .i64 a, .int .i64 b, .int .i64 c, .int .i64 d, .int .u32 x, .int .u32 y] w fun e w' => e = .returned (.tuple #[]) ∧ V16 w g (Bl.mix v a b c d x y) w' := by
  have HV0 := Lib.hid hv
  clear hv
  go_enter Tryd.func43, Tryd.ntmps43
  obtain ⟨p, hp⟩ : ∃ p, p = v.getD a 0 := ⟨_, rfl⟩
  obtain ⟨q, hq⟩ : ∃ q, q = v.getD b 0 := ⟨_, rfl⟩
  have c1 := HV0.out.cell a ha
  have c2 := HV0.out.cell b hb
  have f1 := HV0.out.free a
  rw [← hp] at c1
  rw [← hq] at c2
  have e1 := a32 q x
  have e2 := a32 p (Bl.add q x)
  rw [← Bl.add_assoc] at e2
  have HN := Lib.hid (fun nq => HV0.out.put nq a (Bl.add_lt (Bl.add p q) x))
  have HE := Lib.hid (show v.set a (Bl.add (Bl.add p q) x) = Bl.s0 v a b x by rw [hp, hq]; rfl)
  clear hp hq
  go_wp2_with fail
  refine (wpIn_wide (n := 0)).1 ?_
  refine wpIn_region_quiet_tail_lit 15 (by kernel_rfl) (by kernel_rfl) (by kernel_rfl) ?_
  simp only [List.take_succ_cons, List.take_zero, List.drop_succ_cons, List.drop_zero]
  repeat (gi_big_quiet_step (fail))
  refine wpQuietIn_nil ?_
  intro _ hw'
  obtain ⟨nq, hw''⟩ := hw'
  subst hw''
  gi_wp2
  have HV1' := Lib.hid (HN.out nq)
  clear HN c1 c2 f1 e1 e2
  generalize World.setCell _ _ _ = w1 at HV1' ⊢
  have hv1 := HV1'.out
  rw [HE.out] at hv1
  have HV1 := Lib.hid hv1
  clear hv1 HV1' HE HV0
  obtain ⟨v1, hw1⟩ : ∃ v1, v1 = (Bl.s0 v a b x) := ⟨_, rfl⟩
  have HW1 := Lib.hid hw1
  rw [← hw1] at HV1
  clear hw1
  obtain ⟨p, hp⟩ : ∃ p, p = v1.getD d 0 := ⟨_, rfl⟩
  obtain ⟨q, hq⟩ : ∃ q, q = v1.getD a 0 := ⟨_, rfl⟩
  have c1 := HV1.out.cell d hd
  have c2 := HV1.out.cell a ha
  have f1 := HV1.out.free d
  have hpl : p < 4294967296 := by rw [hp]; exact HV1.out.ok.at _
  have hql : q < 4294967296 := by rw [hq]; exact HV1.out.ok.at _
  rw [← hp] at c1
  rw [← hq] at c2
  have hxl := Bl.xor_lt hpl hql
  have e1 := x32 p q hpl hql
  have HN := Lib.hid (fun nq => HV1.out.put nq d (Bl.rot_lt hxl 16))
  have HE := Lib.hid (show v1.set d (Bl.rot (p ^^^ q) 16) = Bl.s1 v1 d a 16 by rw [hp, hq]; rfl)
  clear hpl hql
  generalize p ^^^ q = z at *
  clear hp hq
  go_wp2_with fail
  refine (wpIn_wide (n := 0)).1 ?_
  refine wpIn_region_quiet_tail_lit 16 (by kernel_rfl) (by kernel_rfl) (by kernel_rfl) ?_
  simp only [List.take_succ_cons, List.take_zero, List.drop_succ_cons, List.drop_zero]
  repeat (gi_big_quiet_step ((gi_at_call 45; exact callsIn_wide.2 (Calls.quiet_of_same (rotate16 _ hxl _)))))
  refine wpQuietIn_nil ?_
  intro _ hw'
  obtain ⟨nq, hw''⟩ := hw'
  subst hw''
  gi_wp2
  have HV2' := Lib.hid (HN.out nq)
  clear HN c1 c2 f1 e1 hxl
  generalize World.setCell _ _ _ = w2 at HV2' ⊢
  have hv2 := HV2'.out
  rw [HE.out] at hv2
  have HV2 := Lib.hid hv2
  clear hv2 HV2' HE HV1
  obtain ⟨v2, hw2⟩ : ∃ v2, v2 = (Bl.s1 v1 d a 16) := ⟨_, rfl⟩
  have HW2 := Lib.hid hw2
  rw [← hw2] at HV2
  clear hw2
  obtain ⟨p, hp⟩ : ∃ p, p = v2.getD c 0 := ⟨_, rfl⟩
  obtain ⟨q, hq⟩ : ∃ q, q = v2.getD d 0 := ⟨_, rfl⟩
  have c1 := HV2.out.cell c hc
  have c2 := HV2.out.cell d hd
  have f1 := HV2.out.free c
  rw [← hp] at c1
  rw [← hq] at c2
  have e1 := a32 p q
  have HN := Lib.hid (fun nq => HV2.out.put nq c (Bl.add_lt p q))
  have HE := Lib.hid (show v2.set c (Bl.add p q) = Bl.s2 v2 c d by rw [hp, hq]; rfl)
  clear hp hq
  go_wp2_with fail
  refine (wpIn_wide (n := 0)).1 ?_
  refine wpIn_region_quiet_tail_lit 13 (by kernel_rfl) (by kernel_rfl) (by kernel_rfl) ?_
  simp only [List.take_succ_cons, List.take_zero, List.drop_succ_cons, List.drop_zero]
  repeat (gi_big_quiet_step (fail))
  refine wpQuietIn_nil ?_
  intro _ hw'
  obtain ⟨nq, hw''⟩ := hw'
  subst hw''
  gi_wp2
  have HV3' := Lib.hid (HN.out nq)
  clear HN c1 c2 f1 e1
  generalize World.setCell _ _ _ = w3 at HV3' ⊢
  have hv3 := HV3'.out
  rw [HE.out] at hv3
  have HV3 := Lib.hid hv3
  clear hv3 HV3' HE HV2
  obtain ⟨v3, hw3⟩ : ∃ v3, v3 = (Bl.s2 v2 c d) := ⟨_, rfl⟩
  have HW3 := Lib.hid hw3
  rw [← hw3] at HV3
  clear hw3
  obtain ⟨p, hp⟩ : ∃ p, p = v3.getD b 0 := ⟨_, rfl⟩
  obtain ⟨q, hq⟩ : ∃ q, q = v3.getD c 0 := ⟨_, rfl⟩
  have c1 := HV3.out.cell b hb
  have c2 := HV3.out.cell c hc
  have f1 := HV3.out.free b
  have hpl : p < 4294967296 := by rw [hp]; exact HV3.out.ok.at _
  have hql : q < 4294967296 := by rw [hq]; exact HV3.out.ok.at _
  rw [← hp] at c1
  rw [← hq] at c2
  have hxl := Bl.xor_lt hpl hql
  have e1 := x32 p q hpl hql
  have HN := Lib.hid (fun nq => HV3.out.put nq b (Bl.rot_lt hxl 12))
  have HE := Lib.hid (show v3.set b (Bl.rot (p ^^^ q) 12) = Bl.s1 v3 b c 12 by rw [hp, hq]; rfl)
  clear hpl hql
  generalize p ^^^ q = z at *
  clear hp hq
  go_wp2_with fail
  refine (wpIn_wide (n := 0)).1 ?_
  refine wpIn_region_quiet_tail_lit 16 (by kernel_rfl) (by kernel_rfl) (by kernel_rfl) ?_
  simp only [List.take_succ_cons, List.take_zero, List.drop_succ_cons, List.drop_zero]
  repeat (gi_big_quiet_step ((gi_at_call 45; exact callsIn_wide.2 (Calls.quiet_of_same (rotate12 _ hxl _)))))
  refine wpQuietIn_nil ?_
  intro _ hw'
  obtain ⟨nq, hw''⟩ := hw'
  subst hw''
  gi_wp2
  have HV4' := Lib.hid (HN.out nq)
  clear HN c1 c2 f1 e1 hxl
  generalize World.setCell _ _ _ = w4 at HV4' ⊢
  have hv4 := HV4'.out
  rw [HE.out] at hv4
  have HV4 := Lib.hid hv4
  clear hv4 HV4' HE HV3
  obtain ⟨v4, hw4⟩ : ∃ v4, v4 = (Bl.s1 v3 b c 12) := ⟨_, rfl⟩
  have HW4 := Lib.hid hw4
  rw [← hw4] at HV4
  clear hw4
  obtain ⟨p, hp⟩ : ∃ p, p = v4.getD a 0 := ⟨_, rfl⟩
  obtain ⟨q, hq⟩ : ∃ q, q = v4.getD b 0 := ⟨_, rfl⟩
  have c1 := HV4.out.cell a ha
  have c2 := HV4.out.cell b hb
  have f1 := HV4.out.free a
  rw [← hp] at c1
  rw [← hq] at c2
  have e1 := a32 q y
  have e2 := a32 p (Bl.add q y)
  rw [← Bl.add_assoc] at e2
  have HN := Lib.hid (fun nq => HV4.out.put nq a (Bl.add_lt (Bl.add p q) y))
  have HE := Lib.hid (show v4.set a (Bl.add (Bl.add p q) y) = Bl.s0 v4 a b y by rw [hp, hq]; rfl)
  clear hp hq
  go_wp2_with fail
  refine (wpIn_wide (n := 0)).1 ?_
  refine wpIn_region_quiet_tail_lit 15 (by kernel_rfl) (by kernel_rfl) (by kernel_rfl) ?_
  simp only [List.take_succ_cons, List.take_zero, List.drop_succ_cons, List.drop_zero]
  repeat (gi_big_quiet_step (fail))
  refine wpQuietIn_nil ?_
  intro _ hw'
  obtain ⟨nq, hw''⟩ := hw'
  subst hw''
  gi_wp2
  have HV5' := Lib.hid (HN.out nq)
  clear HN c1 c2 f1 e1 e2
  generalize World.setCell _ _ _ = w5 at HV5' ⊢
  have hv5 := HV5'.out
  rw [HE.out] at hv5
  have HV5 := Lib.hid hv5
  clear hv5 HV5' HE HV4
  obtain ⟨v5, hw5⟩ : ∃ v5, v5 = (Bl.s0 v4 a b y) := ⟨_, rfl⟩
  have HW5 := Lib.hid hw5
  rw [← hw5] at HV5
  clear hw5
  obtain ⟨p, hp⟩ : ∃ p, p = v5.getD d 0 := ⟨_, rfl⟩
  obtain ⟨q, hq⟩ : ∃ q, q = v5.getD a 0 := ⟨_, rfl⟩
  have c1 := HV5.out.cell d hd
  have c2 := HV5.out.cell a ha
  have f1 := HV5.out.free d
  have hpl : p < 4294967296 := by rw [hp]; exact HV5.out.ok.at _
  have hql : q < 4294967296 := by rw [hq]; exact HV5.out.ok.at _
  rw [← hp] at c1
  rw [← hq] at c2
  have hxl := Bl.xor_lt hpl hql
  have e1 := x32 p q hpl hql
  have HN := Lib.hid (fun nq => HV5.out.put nq d (Bl.rot_lt hxl 8))
  have HE := Lib.hid (show v5.set d (Bl.rot (p ^^^ q) 8) = Bl.s1 v5 d a 8 by rw [hp, hq]; rfl)
  clear hpl hql
  generalize p ^^^ q = z at *
  clear hp hq
  go_wp2_with fail
  refine (wpIn_wide (n := 0)).1 ?_
  refine wpIn_region_quiet_tail_lit 16 (by kernel_rfl) (by kernel_rfl) (by kernel_rfl) ?_
  simp only [List.take_succ_cons, List.take_zero, List.drop_succ_cons, List.drop_zero]
  repeat (gi_big_quiet_step ((gi_at_call 45; exact callsIn_wide.2 (Calls.quiet_of_same (rotate8 _ hxl _)))))
  refine wpQuietIn_nil ?_
  intro _ hw'
  obtain ⟨nq, hw''⟩ := hw'
  subst hw''
  gi_wp2
  have HV6' := Lib.hid (HN.out nq)
  clear HN c1 c2 f1 e1 hxl
  generalize World.setCell _ _ _ = w6 at HV6' ⊢
  have hv6 := HV6'.out
  rw [HE.out] at hv6
  have HV6 := Lib.hid hv6
  clear hv6 HV6' HE HV5
  obtain ⟨v6, hw6⟩ : ∃ v6, v6 = (Bl.s1 v5 d a 8) := ⟨_, rfl⟩
  have HW6 := Lib.hid hw6
  rw [← hw6] at HV6
  clear hw6
  obtain ⟨p, hp⟩ : ∃ p, p = v6.getD c 0 := ⟨_, rfl⟩
  obtain ⟨q, hq⟩ : ∃ q, q = v6.getD d 0 := ⟨_, rfl⟩
  have c1 := HV6.out.cell c hc
  have c2 := HV6.out.cell d hd
  have f1 := HV6.out.free c
  rw [← hp] at c1
  rw [← hq] at c2
  have e1 := a32 p q
  have HN := Lib.hid (fun nq => HV6.out.put nq c (Bl.add_lt p q))
  have HE := Lib.hid (show v6.set c (Bl.add p q) = Bl.s2 v6 c d by rw [hp, hq]; rfl)
  clear hp hq
  go_wp2_with fail
  refine (wpIn_wide (n := 0)).1 ?_
  refine wpIn_region_quiet_tail_lit 13 (by kernel_rfl) (by kernel_rfl) (by kernel_rfl) ?_
  simp only [List.take_succ_cons, List.take_zero, List.drop_succ_cons, List.drop_zero]
  repeat (gi_big_quiet_step (fail))
  refine wpQuietIn_nil ?_
  intro _ hw'
  obtain ⟨nq, hw''⟩ := hw'
  subst hw''
  gi_wp2
  have HV7' := Lib.hid (HN.out nq)
  clear HN c1 c2 f1 e1
  generalize World.setCell _ _ _ = w7 at HV7' ⊢
  have hv7 := HV7'.out
  rw [HE.out] at hv7
  have HV7 := Lib.hid hv7
  clear hv7 HV7' HE HV6
  obtain ⟨v7, hw7⟩ : ∃ v7, v7 = (Bl.s2 v6 c d) := ⟨_, rfl⟩
  have HW7 := Lib.hid hw7
  rw [← hw7] at HV7
  clear hw7
  obtain ⟨p, hp⟩ : ∃ p, p = v7.getD b 0 := ⟨_, rfl⟩
  obtain ⟨q, hq⟩ : ∃ q, q = v7.getD c 0 := ⟨_, rfl⟩
  have c1 := HV7.out.cell b hb
  have c2 := HV7.out.cell c hc
  have f1 := HV7.out.free b
  have hpl : p < 4294967296 := by rw [hp]; exact HV7.out.ok.at _
  have hql : q < 4294967296 := by rw [hq]; exact HV7.out.ok.at _
  rw [← hp] at c1
  rw [← hq] at c2
  have hxl := Bl.xor_lt hpl hql
  have e1 := x32 p q hpl hql
  have HN := Lib.hid (fun nq => HV7.out.put nq b (Bl.rot_lt hxl 7))
  have HE := Lib.hid (show v7.set b (Bl.rot (p ^^^ q) 7) = Bl.s1 v7 b c 7 by rw [hp, hq]; rfl)
  clear hpl hql
  generalize p ^^^ q = z at *
  clear hp hq
  go_wp2_with fail
  refine (wpIn_wide (n := 0)).1 ?_
  refine wpIn_region_quiet_tail_lit 16 (by kernel_rfl) (by kernel_rfl) (by kernel_rfl) ?_
  simp only [List.take_succ_cons, List.take_zero, List.drop_succ_cons, List.drop_zero]
  repeat (gi_big_quiet_step ((gi_at_call 45; exact callsIn_wide.2 (Calls.quiet_of_same (rotate7 _ hxl _)))))
  refine wpQuietIn_nil ?_
  intro _ hw'
  obtain ⟨nq, hw''⟩ := hw'
  subst hw''
  gi_wp2
  have HV8' := Lib.hid (HN.out nq)
  clear HN c1 c2 f1 e1 hxl
  generalize World.setCell _ _ _ = w8 at HV8' ⊢
  have hv8 := HV8'.out
  rw [HE.out] at hv8
  have HV8 := Lib.hid hv8
  clear hv8 HV8' HE HV7
  obtain ⟨v8, hw8⟩ : ∃ v8, v8 = (Bl.s1 v7 b c 7) := ⟨_, rfl⟩
  have HW8 := Lib.hid hw8
  rw [← hw8] at HV8
  clear hw8
  go_wp2
  go_end0
  refine ⟨rfl, ?_⟩
  have h := HV8.out
  rw [HW8.out, HW7.out, HW6.out, HW5.out, HW4.out, HW3.out, HW2.out, HW1.out] at h
  exact h
set_option maxRecDepth 100000 in
set_option maxHeartbeats 4000000 in
theorem rmix_any (g : Nat) (v : List Nat) (a b c d x y : Nat) (ha : a < 16) (hb : b < 16) (hc : c < 16) (hd : d < 16) (w : World) (hv : V16 w g v w) :
    Calls Tryd.prog 39 #[.pointer (some ⟨g, 0, none⟩), .int .i64 a, .int .i64 b, .int .i64 c, .int .i64 d, .int .u32 x, .int .u32 y] w fun e w' => e = .returned (.tuple #[]) ∧ V16 w g (Bl.mix v a b c d x y) w' := by
  have HV0 := Lib.hid hv
  clear hv
  go_enter Tryd.func39, Tryd.ntmps39
  obtain ⟨p, hp⟩ : ∃ p, p = v.getD a 0 := ⟨_, rfl⟩
  obtain ⟨q, hq⟩ : ∃ q, q = v.getD b 0 := ⟨_, rfl⟩
  have c1 := HV0.out.cell a ha
  have c2 := HV0.out.cell b hb
  have f1 := HV0.out.free a
  rw [← hp] at c1
  rw [← hq] at c2
  have e1 := a32 p q
  have e2 := a32 (Bl.add p q) x
  have HN := Lib.hid (fun nq => HV0.out.put nq a (Bl.add_lt (Bl.add p q) x))
  have HE := Lib.hid (show v.set a (Bl.add (Bl.add p q) x) = Bl.s0 v a b x by rw [hp, hq]; rfl)
  clear hp hq
  go_wp2_with fail
  refine (wpIn_wide (n := 0)).1 ?_
  refine wpIn_region_quiet_tail_lit 17 (by kernel_rfl) (by kernel_rfl) (by kernel_rfl) ?_
  simp only [List.take_succ_cons, List.take_zero, List.drop_succ_cons, List.drop_zero]
  repeat (gi_big_quiet_step (fail))
  refine wpQuietIn_nil ?_
  intro _ hw'
  obtain ⟨nq, hw''⟩ := hw'
  subst hw''
  gi_wp2
  have HV1' := Lib.hid (HN.out nq)
  clear HN c1 c2 f1 e1 e2
  generalize World.setCell _ _ _ = w1 at HV1' ⊢
  have hv1 := HV1'.out
  rw [HE.out] at hv1
  have HV1 := Lib.hid hv1
  clear hv1 HV1' HE HV0
  obtain ⟨v1, hw1⟩ : ∃ v1, v1 = (Bl.s0 v a b x) := ⟨_, rfl⟩
  have HW1 := Lib.hid hw1
  rw [← hw1] at HV1
  clear hw1
  obtain ⟨p, hp⟩ : ∃ p, p = v1.getD d 0 := ⟨_, rfl⟩
  obtain ⟨q, hq⟩ : ∃ q, q = v1.getD a 0 := ⟨_, rfl⟩
  have c1 := HV1.out.cell d hd
  have c2 := HV1.out.cell a ha
  have f1 := HV1.out.free d
  have hpl : p < 4294967296 := by rw [hp]; exact HV1.out.ok.at _
  have hql : q < 4294967296 := by rw [hq]; exact HV1.out.ok.at _
  rw [← hp] at c1
  rw [← hq] at c2
  have hxl := Bl.xor_lt hpl hql
  have e1 := x32 p q hpl hql
  have HN := Lib.hid (fun nq => HV1.out.put nq d (Bl.rot_lt hxl 16))
  have HE := Lib.hid (show v1.set d (Bl.rot (p ^^^ q) 16) = Bl.s1 v1 d a 16 by rw [hp, hq]; rfl)
  clear hpl hql
  generalize p ^^^ q = z at *
  clear hp hq
  go_wp2_with fail
  refine (wpIn_wide (n := 0)).1 ?_
  refine wpIn_region_quiet_tail_lit 16 (by kernel_rfl) (by kernel_rfl) (by kernel_rfl) ?_
  simp only [List.take_succ_cons, List.take_zero, List.drop_succ_cons, List.drop_zero]
  repeat (gi_big_quiet_step ((gi_at_call 44; exact callsIn_wide.2 (Calls.quiet_of (turned_any _ 16 hxl (by decide) _)))))
  refine wpQuietIn_nil ?_
  intro _ hw'
  obtain ⟨nq, hw''⟩ := hw'
  subst hw''
  gi_wp2
  have HV2' := Lib.hid (HN.out nq)
  clear HN c1 c2 f1 e1 hxl
  generalize World.setCell _ _ _ = w2 at HV2' ⊢
  have hv2 := HV2'.out
  rw [HE.out] at hv2
  have HV2 := Lib.hid hv2
  clear hv2 HV2' HE HV1
  obtain ⟨v2, hw2⟩ : ∃ v2, v2 = (Bl.s1 v1 d a 16) := ⟨_, rfl⟩
  have HW2 := Lib.hid hw2
  rw [← hw2] at HV2
  clear hw2
  obtain ⟨p, hp⟩ : ∃ p, p = v2.getD c 0 := ⟨_, rfl⟩
  obtain ⟨q, hq⟩ : ∃ q, q = v2.getD d 0 := ⟨_, rfl⟩
  have c1 := HV2.out.cell c hc
  have c2 := HV2.out.cell d hd
  have f1 := HV2.out.free c
  rw [← hp] at c1
  rw [← hq] at c2
  have e1 := a32 p q
  have HN := Lib.hid (fun nq => HV2.out.put nq c (Bl.add_lt p q))
  have HE := Lib.hid (show v2.set c (Bl.add p q) = Bl.s2 v2 c d by rw [hp, hq]; rfl)
  clear hp hq
  go_wp2_with fail
  refine (wpIn_wide (n := 0)).1 ?_
  refine wpIn_region_quiet_tail_lit 15 (by kernel_rfl) (by kernel_rfl) (by kernel_rfl) ?_
  simp only [List.take_succ_cons, List.take_zero, List.drop_succ_cons, List.drop_zero]
  repeat (gi_big_quiet_step (fail))
  refine wpQuietIn_nil ?_
  intro _ hw'
  obtain ⟨nq, hw''⟩ := hw'
  subst hw''
  gi_wp2
  have HV3' := Lib.hid (HN.out nq)
  clear HN c1 c2 f1 e1
  generalize World.setCell _ _ _ = w3 at HV3' ⊢
  have hv3 := HV3'.out
  rw [HE.out] at hv3
  have HV3 := Lib.hid hv3
  clear hv3 HV3' HE HV2
  obtain ⟨v3, hw3⟩ : ∃ v3, v3 = (Bl.s2 v2 c d) := ⟨_, rfl⟩
  have HW3 := Lib.hid hw3
  rw [← hw3] at HV3
  clear hw3
  obtain ⟨p, hp⟩ : ∃ p, p = v3.getD b 0 := ⟨_, rfl⟩
  obtain ⟨q, hq⟩ : ∃ q, q = v3.getD c 0 := ⟨_, rfl⟩
  have c1 := HV3.out.cell b hb
  have c2 := HV3.out.cell c hc
  have f1 := HV3.out.free b
  have hpl : p < 4294967296 := by rw [hp]; exact HV3.out.ok.at _
  have hql : q < 4294967296 := by rw [hq]; exact HV3.out.ok.at _
  rw [← hp] at c1
  rw [← hq] at c2
  have hxl := Bl.xor_lt hpl hql
  have e1 := x32 p q hpl hql
  have HN := Lib.hid (fun nq => HV3.out.put nq b (Bl.rot_lt hxl 12))
  have HE := Lib.hid (show v3.set b (Bl.rot (p ^^^ q) 12) = Bl.s1 v3 b c 12 by rw [hp, hq]; rfl)
  clear hpl hql
  generalize p ^^^ q = z at *
  clear hp hq
  go_wp2_with fail
  refine (wpIn_wide (n := 0)).1 ?_
  refine wpIn_region_quiet_tail_lit 16 (by kernel_rfl) (by kernel_rfl) (by kernel_rfl) ?_
  simp only [List.take_succ_cons, List.take_zero, List.drop_succ_cons, List.drop_zero]
  repeat (gi_big_quiet_step ((gi_at_call 44; exact callsIn_wide.2 (Calls.quiet_of (turned_any _ 12 hxl (by decide) _)))))
  refine wpQuietIn_nil ?_
  intro _ hw'
  obtain ⟨nq, hw''⟩ := hw'
  subst hw''
  gi_wp2
  have HV4' := Lib.hid (HN.out nq)
  clear HN c1 c2 f1 e1 hxl
  generalize World.setCell _ _ _ = w4 at HV4' ⊢
  have hv4 := HV4'.out
  rw [HE.out] at hv4
  have HV4 := Lib.hid hv4
  clear hv4 HV4' HE HV3
  obtain ⟨v4, hw4⟩ : ∃ v4, v4 = (Bl.s1 v3 b c 12) := ⟨_, rfl⟩
  have HW4 := Lib.hid hw4
  rw [← hw4] at HV4
  clear hw4
  obtain ⟨p, hp⟩ : ∃ p, p = v4.getD a 0 := ⟨_, rfl⟩
  obtain ⟨q, hq⟩ : ∃ q, q = v4.getD b 0 := ⟨_, rfl⟩
  have c1 := HV4.out.cell a ha
  have c2 := HV4.out.cell b hb
  have f1 := HV4.out.free a
  rw [← hp] at c1
  rw [← hq] at c2
  have e1 := a32 p q
  have e2 := a32 (Bl.add p q) y
  have HN := Lib.hid (fun nq => HV4.out.put nq a (Bl.add_lt (Bl.add p q) y))
  have HE := Lib.hid (show v4.set a (Bl.add (Bl.add p q) y) = Bl.s0 v4 a b y by rw [hp, hq]; rfl)
  clear hp hq
  go_wp2_with fail
  refine (wpIn_wide (n := 0)).1 ?_
  refine wpIn_region_quiet_tail_lit 17 (by kernel_rfl) (by kernel_rfl) (by kernel_rfl) ?_
  simp only [List.take_succ_cons, List.take_zero, List.drop_succ_cons, List.drop_zero]
  repeat (gi_big_quiet_step (fail))
  refine wpQuietIn_nil ?_
  intro _ hw'
  obtain ⟨nq, hw''⟩ := hw'
  subst hw''
  gi_wp2
  have HV5' := Lib.hid (HN.out nq)
  clear HN c1 c2 f1 e1 e2
  generalize World.setCell _ _ _ = w5 at HV5' ⊢
  have hv5 := HV5'.out
  rw [HE.out] at hv5
  have HV5 := Lib.hid hv5
  clear hv5 HV5' HE HV4
  obtain ⟨v5, hw5⟩ : ∃ v5, v5 = (Bl.s0 v4 a b y) := ⟨_, rfl⟩
  have HW5 := Lib.hid hw5
  rw [← hw5] at HV5
  clear hw5
  obtain ⟨p, hp⟩ : ∃ p, p = v5.getD d 0 := ⟨_, rfl⟩
  obtain ⟨q, hq⟩ : ∃ q, q = v5.getD a 0 := ⟨_, rfl⟩
  have c1 := HV5.out.cell d hd
  have c2 := HV5.out.cell a ha
  have f1 := HV5.out.free d
  have hpl : p < 4294967296 := by rw [hp]; exact HV5.out.ok.at _
  have hql : q < 4294967296 := by rw [hq]; exact HV5.out.ok.at _
  rw [← hp] at c1
  rw [← hq] at c2
  have hxl := Bl.xor_lt hpl hql
  have e1 := x32 p q hpl hql
  have HN := Lib.hid (fun nq => HV5.out.put nq d (Bl.rot_lt hxl 8))
  have HE := Lib.hid (show v5.set d (Bl.rot (p ^^^ q) 8) = Bl.s1 v5 d a 8 by rw [hp, hq]; rfl)
  clear hpl hql
  generalize p ^^^ q = z at *
  clear hp hq
  go_wp2_with fail
  refine (wpIn_wide (n := 0)).1 ?_
  refine wpIn_region_quiet_tail_lit 16 (by kernel_rfl) (by kernel_rfl) (by kernel_rfl) ?_
  simp only [List.take_succ_cons, List.take_zero, List.drop_succ_cons, List.drop_zero]
  repeat (gi_big_quiet_step ((gi_at_call 44; exact callsIn_wide.2 (Calls.quiet_of (turned_any _ 8 hxl (by decide) _)))))
  refine wpQuietIn_nil ?_
  intro _ hw'
  obtain ⟨nq, hw''⟩ := hw'
  subst hw''
  gi_wp2
  have HV6' := Lib.hid (HN.out nq)
  clear HN c1 c2 f1 e1 hxl
  generalize World.setCell _ _ _ = w6 at HV6' ⊢
  have hv6 := HV6'.out
  rw [HE.out] at hv6
  have HV6 := Lib.hid hv6
  clear hv6 HV6' HE HV5
  obtain ⟨v6, hw6⟩ : ∃ v6, v6 = (Bl.s1 v5 d a 8) := ⟨_, rfl⟩
  have HW6 := Lib.hid hw6
  rw [← hw6] at HV6
  clear hw6
  obtain ⟨p, hp⟩ : ∃ p, p = v6.getD c 0 := ⟨_, rfl⟩
  obtain ⟨q, hq⟩ : ∃ q, q = v6.getD d 0 := ⟨_, rfl⟩
  have c1 := HV6.out.cell c hc
  have c2 := HV6.out.cell d hd
  have f1 := HV6.out.free c
  rw [← hp] at c1
  rw [← hq] at c2
  have e1 := a32 p q
  have HN := Lib.hid (fun nq => HV6.out.put nq c (Bl.add_lt p q))
  have HE := Lib.hid (show v6.set c (Bl.add p q) = Bl.s2 v6 c d by rw [hp, hq]; rfl)
  clear hp hq
  go_wp2_with fail
  refine (wpIn_wide (n := 0)).1 ?_
  refine wpIn_region_quiet_tail_lit 15 (by kernel_rfl) (by kernel_rfl) (by kernel_rfl) ?_
  simp only [List.take_succ_cons, List.take_zero, List.drop_succ_cons, List.drop_zero]
  repeat (gi_big_quiet_step (fail))
  refine wpQuietIn_nil ?_
  intro _ hw'
  obtain ⟨nq, hw''⟩ := hw'
  subst hw''
  gi_wp2
  have HV7' := Lib.hid (HN.out nq)
  clear HN c1 c2 f1 e1
  generalize World.setCell _ _ _ = w7 at HV7' ⊢
  have hv7 := HV7'.out
  rw [HE.out] at hv7
  have HV7 := Lib.hid hv7
  clear hv7 HV7' HE HV6
  obtain ⟨v7, hw7⟩ : ∃ v7, v7 = (Bl.s2 v6 c d) := ⟨_, rfl⟩
  have HW7 := Lib.hid hw7
  rw [← hw7] at HV7
  clear hw7
  obtain ⟨p, hp⟩ : ∃ p, p = v7.getD b 0 := ⟨_, rfl⟩
  obtain ⟨q, hq⟩ : ∃ q, q = v7.getD c 0 := ⟨_, rfl⟩
  have c1 := HV7.out.cell b hb
  have c2 := HV7.out.cell c hc
  have f1 := HV7.out.free b
  have hpl : p < 4294967296 := by rw [hp]; exact HV7.out.ok.at _
  have hql : q < 4294967296 := by rw [hq]; exact HV7.out.ok.at _
  rw [← hp] at c1
  rw [← hq] at c2
  have hxl := Bl.xor_lt hpl hql
  have e1 := x32 p q hpl hql
  have HN := Lib.hid (fun nq => HV7.out.put nq b (Bl.rot_lt hxl 7))
  have HE := Lib.hid (show v7.set b (Bl.rot (p ^^^ q) 7) = Bl.s1 v7 b c 7 by rw [hp, hq]; rfl)
  clear hpl hql
  generalize p ^^^ q = z at *
  clear hp hq
  go_wp2_with fail
  refine (wpIn_wide (n := 0)).1 ?_
  refine wpIn_region_quiet_tail_lit 16 (by kernel_rfl) (by kernel_rfl) (by kernel_rfl) ?_
  simp only [List.take_succ_cons, List.take_zero, List.drop_succ_cons, List.drop_zero]
  repeat (gi_big_quiet_step ((gi_at_call 44; exact callsIn_wide.2 (Calls.quiet_of (turned_any _ 7 hxl (by decide) _)))))
  refine wpQuietIn_nil ?_
  intro _ hw'
  obtain ⟨nq, hw''⟩ := hw'
  subst hw''
  gi_wp2
  have HV8' := Lib.hid (HN.out nq)
  clear HN c1 c2 f1 e1 hxl
  generalize World.setCell _ _ _ = w8 at HV8' ⊢
  have hv8 := HV8'.out
  rw [HE.out] at hv8
  have HV8 := Lib.hid hv8
  clear hv8 HV8' HE HV7
  obtain ⟨v8, hw8⟩ : ∃ v8, v8 = (Bl.s1 v7 b c 7) := ⟨_, rfl⟩
  have HW8 := Lib.hid hw8
  rw [← hw8] at HV8
  clear hw8
  go_wp2
  go_end0
  refine ⟨rfl, ?_⟩
  have h := HV8.out
  rw [HW8.out, HW7.out, HW6.out, HW5.out, HW4.out, HW3.out, HW2.out, HW1.out] at h
  exact h
end Go.Proofs.YtdllenoclnmmdaaDoor
