/- The reference's Span, by what it answers (numbers within the limits). -/
import Derived.Test.YtlncjheifkbomaaSpn2
import Derived.Test.YtlncjheifkbomaaStd
import Derived.Maps.AppendAt
namespace Go.Proofs.Ytlncjheifkbomaa
open Go.RowKit
theorem Try.infoPart : (Try.prog.info? 84).map (fun i => (i.zero, i.size, i.bytes)) = some (some (.agg #[.int .i64 0, .int .i64 0, .int .i64 0]), 3, 24) := by kernel_rfl
theorem kept_gr3 {W a b : World} {row : Option Nat} (h : Kept W a) (g : a.grownBy b row) (hr : ∀ k, row = some k → W.heap.size ≤ k) : Kept W b :=
  ⟨g.os.trans h.os, g.tape.trans h.tape, g.output.trans h.output, Nat.le_trans h.size g.size, fun k hk => (g.block k (by have := h.size; omega) (fun e => by have := hr k e.symm; omega)).trans (h.block k hk)⟩
theorem spA_step (q f e j : Nat) (hq : 1 ≤ q) (hfe : f ≤ e) (h : j + 1 < spN q f e) : spA q f e j + 1 ≤ spA q f e (j + 1) := by
  have h1 := (spA_lt q f e j hq).2 (by omega)
  have h2 := spA_div q f e j hq h1
  have h3 := spA_next q f e j hq hfe
  have h4 := Nat.lt_mul_div_succ (spA q f e j) (show 0 < q by omega)
  rw [h2, Nat.mul_comm] at h4
  omega
set_option maxRecDepth 100000 in
set_option maxHeartbeats 4000000 in
theorem span_ref (k m s : Int) (n f : Nat) (many : Int) (q e : Nat) (hq : k * s = (q : Int)) (hq1 : 1 ≤ q ∧ q ≤ 960) (hn : n ≤ 2000) (hf : f ≤ n) (hm : 0 ≤ many) (he : (e : Int) = if many < (n : Int) - (f : Int) then (f : Int) + many else (n : Int)) (w : World) :
    Calls Try.prog 31 #[.agg #[.int .i64 k, .int .i64 m, .int .i64 s], .int .i64 n, .int .i64 f, .int .i64 many] w fun x w' => ∃ a cap, x = .returned (.slice a (spN q f e) cap) ∧ PartsIn w' a (spN q f e) (spL q f e) ∧ Kept w w' := by
  obtain ⟨i0, hi, hz0, hz1, hz2⟩ := info_parts Try.infoPart
  have HI := Lib.hid (And.intro hi (And.intro hz0 (And.intro hz1 hz2)))
  have HB := Lib.hid (BlockAt.new w #[.int .i64 k, .int .i64 m, .int .i64 s] 31)
  have HK := Lib.hid ((Kept.refl w).alloc (.cells #[.int .i64 k, .int .i64 m, .int .i64 s] 31))
  obtain ⟨hq2, hq3⟩ := hq1
  have hen : e ≤ n ∧ f ≤ e := by split at he <;> omega
  obtain ⟨nf, hnf⟩ : ∃ nf : Nat, nf = n - f := ⟨_, rfl⟩
  have e1 : (n : Int) - (f : Int) = (nf : Int) := by omega
  have hbig : (k * s : Int) = (q : Int) := hq
  have HE := Lib.hid he
  clear hi hz0 hz1 hz2 hq he hnf
  go_enter Try.func31, Try.ntmps31
  go_upto_region 1 with (fail)
  generalize w.alloc (.cells #[.int .i64 k, .int .i64 m, .int .i64 s] 31) = w1 at *
  obtain ⟨a0, a1, a2⟩ := box3c HB.out
  go_upto_region 4 with (fail)
  clear a0 a1 a2 hbig
  by_cases hmm : many < (nf : Int)
  · have e2 : (f : Int) + many = (e : Int) := by have he := HE.out; rw [e1, if_pos hmm] at he; exact he.symm
    have hd0 : decide (many < (nf : Int)) = true := decide_eq_true hmm
    go_upto_region 6 with (fail)
    clear e1 e2 hd0 hmm HE
    have hnb : spN q f e ≤ 2000 := by
      have h1 : ∀ j, j < spN q f e → f + j ≤ spA q f e j := fun j => by
        induction j with
        | zero => intro _; rw [spA_zero]; omega
        | succ j ih =>
          intro h
          have h2 := ih (by omega)
          have h3 := spA_step q f e j hq2 hen.2 (by omega)
          omega
      by_cases h0 : spN q f e = 0
      · omega
      · have h2 := h1 (spN q f e - 1) (by omega)
        have h3 := (spA_lt q f e (spN q f e - 1) hq2).2 (by omega)
        omega
    go_wp2_with fail
    go_loopw [9, 12] (fun v i wr => ∃ j : Nat, j ≤ spN q f e ∧ i = .int .i64 (spA q f e j : Nat) ∧ wr.ownsRow w1.heap.size 84 3 v j (spv ((spL q f e).take j)) ∧ Kept w1 wr) (fun _ i _ => e + 1 - (intOf i).toNat)
    case atStart => exact ⟨0, by omega, by rw [spA_zero], World.ownsRow_nil _ _ _ _, Kept.refl _⟩
    case round =>
      obtain ⟨j, hj, rfl, hown, hkr⟩ := hrel
      have HO := Lib.hid hown
      have HKr := Lib.hid hkr
      clear hown hkr
      have hlt := spA_lt q f e j hq2
      have hdv := spA_div q f e j hq2
      have hnx := spA_next q f e j hq2 hen.2
      obtain ⟨x, hx⟩ : ∃ x, spA q f e j = x := ⟨_, rfl⟩
      rw [hx] at hlt hdv
      rw [hx]
      have HX := Lib.hid hx
      by_cases hxe : x < e
      · have hd1 : decide ((x : Int) < e) = true := decide_eq_true (by omega)
        have HJL := Lib.hid (hlt.1 hxe)
        have hjn := hlt.1 hxe
        obtain ⟨kk, hkk⟩ : ∃ kk, f / q + j = kk := ⟨_, rfl⟩
        have hd := hdv hxe
        rw [hkk] at hd hnx
        have HKK := Lib.hid hkk
        obtain ⟨Z, hZ⟩ : ∃ Z, kk * q = Z := ⟨_, rfl⟩
        obtain ⟨Y, hY⟩ : ∃ Y, (kk + 1) * q = Y := ⟨_, rfl⟩
        have HZ := Lib.hid hZ
        have hzx : Z ≤ x := by rw [← hZ, ← hd]; exact Nat.div_mul_le_self x q
        have hYZ : Y = Z + q := by rw [← hY, ← hZ, Nat.succ_mul]
        have hxY : x < Y := by
          have := Nat.lt_mul_div_succ x (show 0 < q by omega)
          rw [hd, Nat.mul_comm, hY] at this
          exact this
        have f1 : (x : Int) / (q : Int) = (kk : Int) := by rw [← hd]; simp
        have f1t : (x : Int).tdiv (q : Int) = (kk : Int) := by rw [Int.tdiv_eq_ediv_of_nonneg (by omega)]; exact f1
        have f2 : ((q : Int) == 0) = false := by rw [beq_eq_false_iff_ne]; omega
        obtain ⟨k1, hk1⟩ : ∃ k1 : Nat, k1 = kk + 1 := ⟨_, rfl⟩
        have f3 : (kk : Int) + 1 = (k1 : Int) := by omega
        have f4 : (k1 : Int) * (q : Int) = (Y : Int) := by rw [hk1, ← hY]; simp
        have f5 : (kk : Int) * (q : Int) = (Z : Int) := by rw [← hZ]; simp
        obtain ⟨lo9, hl9⟩ : ∃ lo9 : Nat, lo9 = x - Z := ⟨_, rfl⟩
        have f6 : (x : Int) - (Z : Int) = (lo9 : Int) := by omega
        have hkx : kk ≤ x := by rw [← hd]; exact Nat.div_le_self x q
        rw [hY] at hnx
        have hY3 : Y ≤ 3000 := by omega
        have HL9 := Lib.hid hl9
        have hZY : Z ≤ Y := by omega
        clear hlt hdv hx hkk hZ hY hd hk1 hl9 hYZ
        by_cases hYe : Y < e
        · have HNX := Lib.hid (show spA q f e (j + 1) = Y by rw [hnx]; omega)
          clear hnx
          have hzx : Y - Z = Y - Z := rfl
          have f7 : (Y : Int) - (Z : Int) = ((Y - Z : Nat) : Int) := by omega
          obtain ⟨hi9, hh9⟩ : ∃ hi9 : Nat, hi9 = Y - Z := ⟨_, rfl⟩
          rw [← hh9] at f7
          have HP := Lib.hid (show spP q f e j = ((kk : Int), (lo9 : Int), (hi9 : Int)) by
            unfold spP
            rw [HX.out, HNX.out, HKK.out, HZ.out, HL9.out, hh9])
          have HH9 := Lib.hid hh9
          clear hzx hh9
          go_wp2_with (at_builtin; refine wpList_append_own_at _ rfl _ _ 56 rfl w1.heap.size 84 i0 (.agg #[.int .i64 0, .int .i64 0, .int .i64 0]) 3 24 Try.underlying56 HI.out.1 HI.out.2.1 HI.out.2.2.1 HI.out.2.2.2 rfl (by decide) _ _ _ rfl (HO.out.alloc _) ⟨wr.heap.size, 0, none⟩ 1 1 [.int .i64 (kk : Int), .int .i64 (lo9 : Int), .int .i64 (hi9 : Int)] rfl rfl (by
            intro j' u hj'
            match j', hj' with
            | 0, hj' => simp at hj'; subst hj'; simp [Addr.add]
            | 1, hj' => simp at hj'; subst hj'; simp [Addr.add]
            | 2, hj' => simp at hj'; subst hj'; simp [Addr.add]) (by intro u hu; simp at hu; rcases hu with rfl | rfl | rfl <;> rfl) (by unfold maxLen; omega) (by omega) (by have := HKr.out.size; simp; omega) ?_)
          intro v' w9 hown9 hgrow _ _
          have HO9 := Lib.hid hown9
          have HK9 := Lib.hid (kept_gr3 (HKr.out.alloc (.cells #[.int .i64 (kk : Int), .int .i64 (lo9 : Int), .int .i64 (hi9 : Int)] 84)) hgrow (fun g e => (HO.out.lt g e).1))
          clear hown9 hgrow
          go_wp2
          go_roundw
          case rel => exact ⟨j + 1, by omega, by rw [HNX.out], by rw [spL_take q f e j HJL.out, spv_append, HP.out]; exact HO9.out, HK9.out⟩
          case measure => simp [intOf]; omega
        · have HNX := Lib.hid (show spA q f e (j + 1) = e by rw [hnx]; omega)
          clear hnx
          have hzx : e - Z = e - Z := rfl
          have f7 : (e : Int) - (Z : Int) = ((e - Z : Nat) : Int) := by omega
          obtain ⟨hi9, hh9⟩ : ∃ hi9 : Nat, hi9 = e - Z := ⟨_, rfl⟩
          rw [← hh9] at f7
          have HP := Lib.hid (show spP q f e j = ((kk : Int), (lo9 : Int), (hi9 : Int)) by
            unfold spP
            rw [HX.out, HNX.out, HKK.out, HZ.out, HL9.out, hh9])
          have HH9 := Lib.hid hh9
          clear hzx hh9
          go_wp2_with (at_builtin; refine wpList_append_own_at _ rfl _ _ 56 rfl w1.heap.size 84 i0 (.agg #[.int .i64 0, .int .i64 0, .int .i64 0]) 3 24 Try.underlying56 HI.out.1 HI.out.2.1 HI.out.2.2.1 HI.out.2.2.2 rfl (by decide) _ _ _ rfl (HO.out.alloc _) ⟨wr.heap.size, 0, none⟩ 1 1 [.int .i64 (kk : Int), .int .i64 (lo9 : Int), .int .i64 (hi9 : Int)] rfl rfl (by
            intro j' u hj'
            match j', hj' with
            | 0, hj' => simp at hj'; subst hj'; simp [Addr.add]
            | 1, hj' => simp at hj'; subst hj'; simp [Addr.add]
            | 2, hj' => simp at hj'; subst hj'; simp [Addr.add]) (by intro u hu; simp at hu; rcases hu with rfl | rfl | rfl <;> rfl) (by unfold maxLen; omega) (by omega) (by have := HKr.out.size; simp; omega) ?_)
          intro v' w9 hown9 hgrow _ _
          have HO9 := Lib.hid hown9
          have HK9 := Lib.hid (kept_gr3 (HKr.out.alloc (.cells #[.int .i64 (kk : Int), .int .i64 (lo9 : Int), .int .i64 (hi9 : Int)] 84)) hgrow (fun g e => (HO.out.lt g e).1))
          clear hown9 hgrow
          go_wp2
          go_roundw
          case rel => exact ⟨j + 1, by omega, by rw [HNX.out], by rw [spL_take q f e j HJL.out, spv_append, HP.out]; exact HO9.out, HK9.out⟩
          case measure => simp [intOf]; omega
      · have hd1 : decide ((x : Int) < e) = false := decide_eq_false (by omega)
        have hje : j = spN q f e := by
          have : ¬ j < spN q f e := fun h => hxe (hlt.2 h)
          omega
        clear hdv hnx hx hlt
        have hown := HO.out
        rw [List.take_of_length_le (by rw [spL_length]; omega), hje] at hown
        obtain ⟨a', cap', rfl, hcl, hst⟩ := parts_own hown (spL_length q f e)
        have HST := Lib.hid hst
        clear hown hst
        go_wp2
        go_ret
        exact ⟨_, _, rfl, HST.out, HK.out.trans HKr.out⟩
  · have hne : e = n := by have he := HE.out; rw [e1, if_neg hmm] at he; omega
    have hd0 : decide (many < (nf : Int)) = false := decide_eq_false hmm
    go_upto_region 6 with (fail)
    clear e1 hd0 hmm HE
    subst hne
    have hnb : spN q f e ≤ 2000 := by
      have h1 : ∀ j, j < spN q f e → f + j ≤ spA q f e j := fun j => by
        induction j with
        | zero => intro _; rw [spA_zero]; omega
        | succ j ih =>
          intro h
          have h2 := ih (by omega)
          have h3 := spA_step q f e j hq2 hen.2 (by omega)
          omega
      by_cases h0 : spN q f e = 0
      · omega
      · have h2 := h1 (spN q f e - 1) (by omega)
        have h3 := (spA_lt q f e (spN q f e - 1) hq2).2 (by omega)
        omega
    go_wp2_with fail
    go_loopw [9, 12] (fun v i wr => ∃ j : Nat, j ≤ spN q f e ∧ i = .int .i64 (spA q f e j : Nat) ∧ wr.ownsRow w1.heap.size 84 3 v j (spv ((spL q f e).take j)) ∧ Kept w1 wr) (fun _ i _ => e + 1 - (intOf i).toNat)
    case atStart => exact ⟨0, by omega, by rw [spA_zero], World.ownsRow_nil _ _ _ _, Kept.refl _⟩
    case round =>
      obtain ⟨j, hj, rfl, hown, hkr⟩ := hrel
      have HO := Lib.hid hown
      have HKr := Lib.hid hkr
      clear hown hkr
      have hlt := spA_lt q f e j hq2
      have hdv := spA_div q f e j hq2
      have hnx := spA_next q f e j hq2 hen.2
      obtain ⟨x, hx⟩ : ∃ x, spA q f e j = x := ⟨_, rfl⟩
      rw [hx] at hlt hdv
      rw [hx]
      have HX := Lib.hid hx
      by_cases hxe : x < e
      · have hd1 : decide ((x : Int) < e) = true := decide_eq_true (by omega)
        have HJL := Lib.hid (hlt.1 hxe)
        have hjn := hlt.1 hxe
        obtain ⟨kk, hkk⟩ : ∃ kk, f / q + j = kk := ⟨_, rfl⟩
        have hd := hdv hxe
        rw [hkk] at hd hnx
        have HKK := Lib.hid hkk
        obtain ⟨Z, hZ⟩ : ∃ Z, kk * q = Z := ⟨_, rfl⟩
        obtain ⟨Y, hY⟩ : ∃ Y, (kk + 1) * q = Y := ⟨_, rfl⟩
        have HZ := Lib.hid hZ
        have hzx : Z ≤ x := by rw [← hZ, ← hd]; exact Nat.div_mul_le_self x q
        have hYZ : Y = Z + q := by rw [← hY, ← hZ, Nat.succ_mul]
        have hxY : x < Y := by
          have := Nat.lt_mul_div_succ x (show 0 < q by omega)
          rw [hd, Nat.mul_comm, hY] at this
          exact this
        have f1 : (x : Int) / (q : Int) = (kk : Int) := by rw [← hd]; simp
        have f1t : (x : Int).tdiv (q : Int) = (kk : Int) := by rw [Int.tdiv_eq_ediv_of_nonneg (by omega)]; exact f1
        have f2 : ((q : Int) == 0) = false := by rw [beq_eq_false_iff_ne]; omega
        obtain ⟨k1, hk1⟩ : ∃ k1 : Nat, k1 = kk + 1 := ⟨_, rfl⟩
        have f3 : (kk : Int) + 1 = (k1 : Int) := by omega
        have f4 : (k1 : Int) * (q : Int) = (Y : Int) := by rw [hk1, ← hY]; simp
        have f5 : (kk : Int) * (q : Int) = (Z : Int) := by rw [← hZ]; simp
        obtain ⟨lo9, hl9⟩ : ∃ lo9 : Nat, lo9 = x - Z := ⟨_, rfl⟩
        have f6 : (x : Int) - (Z : Int) = (lo9 : Int) := by omega
        have hkx : kk ≤ x := by rw [← hd]; exact Nat.div_le_self x q
        rw [hY] at hnx
        have hY3 : Y ≤ 3000 := by omega
        have HL9 := Lib.hid hl9
        have hZY : Z ≤ Y := by omega
        clear hlt hdv hx hkk hZ hY hd hk1 hl9 hYZ
        by_cases hYe : Y < e
        · have HNX := Lib.hid (show spA q f e (j + 1) = Y by rw [hnx]; omega)
          clear hnx
          have hzx : Y - Z = Y - Z := rfl
          have f7 : (Y : Int) - (Z : Int) = ((Y - Z : Nat) : Int) := by omega
          obtain ⟨hi9, hh9⟩ : ∃ hi9 : Nat, hi9 = Y - Z := ⟨_, rfl⟩
          rw [← hh9] at f7
          have HP := Lib.hid (show spP q f e j = ((kk : Int), (lo9 : Int), (hi9 : Int)) by
            unfold spP
            rw [HX.out, HNX.out, HKK.out, HZ.out, HL9.out, hh9])
          have HH9 := Lib.hid hh9
          clear hzx hh9
          go_wp2_with (at_builtin; refine wpList_append_own_at _ rfl _ _ 56 rfl w1.heap.size 84 i0 (.agg #[.int .i64 0, .int .i64 0, .int .i64 0]) 3 24 Try.underlying56 HI.out.1 HI.out.2.1 HI.out.2.2.1 HI.out.2.2.2 rfl (by decide) _ _ _ rfl (HO.out.alloc _) ⟨wr.heap.size, 0, none⟩ 1 1 [.int .i64 (kk : Int), .int .i64 (lo9 : Int), .int .i64 (hi9 : Int)] rfl rfl (by
            intro j' u hj'
            match j', hj' with
            | 0, hj' => simp at hj'; subst hj'; simp [Addr.add]
            | 1, hj' => simp at hj'; subst hj'; simp [Addr.add]
            | 2, hj' => simp at hj'; subst hj'; simp [Addr.add]) (by intro u hu; simp at hu; rcases hu with rfl | rfl | rfl <;> rfl) (by unfold maxLen; omega) (by omega) (by have := HKr.out.size; simp; omega) ?_)
          intro v' w9 hown9 hgrow _ _
          have HO9 := Lib.hid hown9
          have HK9 := Lib.hid (kept_gr3 (HKr.out.alloc (.cells #[.int .i64 (kk : Int), .int .i64 (lo9 : Int), .int .i64 (hi9 : Int)] 84)) hgrow (fun g e => (HO.out.lt g e).1))
          clear hown9 hgrow
          go_wp2
          go_roundw
          case rel => exact ⟨j + 1, by omega, by rw [HNX.out], by rw [spL_take q f e j HJL.out, spv_append, HP.out]; exact HO9.out, HK9.out⟩
          case measure => simp [intOf]; omega
        · have HNX := Lib.hid (show spA q f e (j + 1) = e by rw [hnx]; omega)
          clear hnx
          have hzx : e - Z = e - Z := rfl
          have f7 : (e : Int) - (Z : Int) = ((e - Z : Nat) : Int) := by omega
          obtain ⟨hi9, hh9⟩ : ∃ hi9 : Nat, hi9 = e - Z := ⟨_, rfl⟩
          rw [← hh9] at f7
          have HP := Lib.hid (show spP q f e j = ((kk : Int), (lo9 : Int), (hi9 : Int)) by
            unfold spP
            rw [HX.out, HNX.out, HKK.out, HZ.out, HL9.out, hh9])
          have HH9 := Lib.hid hh9
          clear hzx hh9
          go_wp2_with (at_builtin; refine wpList_append_own_at _ rfl _ _ 56 rfl w1.heap.size 84 i0 (.agg #[.int .i64 0, .int .i64 0, .int .i64 0]) 3 24 Try.underlying56 HI.out.1 HI.out.2.1 HI.out.2.2.1 HI.out.2.2.2 rfl (by decide) _ _ _ rfl (HO.out.alloc _) ⟨wr.heap.size, 0, none⟩ 1 1 [.int .i64 (kk : Int), .int .i64 (lo9 : Int), .int .i64 (hi9 : Int)] rfl rfl (by
            intro j' u hj'
            match j', hj' with
            | 0, hj' => simp at hj'; subst hj'; simp [Addr.add]
            | 1, hj' => simp at hj'; subst hj'; simp [Addr.add]
            | 2, hj' => simp at hj'; subst hj'; simp [Addr.add]) (by intro u hu; simp at hu; rcases hu with rfl | rfl | rfl <;> rfl) (by unfold maxLen; omega) (by omega) (by have := HKr.out.size; simp; omega) ?_)
          intro v' w9 hown9 hgrow _ _
          have HO9 := Lib.hid hown9
          have HK9 := Lib.hid (kept_gr3 (HKr.out.alloc (.cells #[.int .i64 (kk : Int), .int .i64 (lo9 : Int), .int .i64 (hi9 : Int)] 84)) hgrow (fun g e => (HO.out.lt g e).1))
          clear hown9 hgrow
          go_wp2
          go_roundw
          case rel => exact ⟨j + 1, by omega, by rw [HNX.out], by rw [spL_take q f e j HJL.out, spv_append, HP.out]; exact HO9.out, HK9.out⟩
          case measure => simp [intOf]; omega
      · have hd1 : decide ((x : Int) < e) = false := decide_eq_false (by omega)
        have hje : j = spN q f e := by
          have : ¬ j < spN q f e := fun h => hxe (hlt.2 h)
          omega
        clear hdv hnx hx hlt
        have hown := HO.out
        rw [List.take_of_length_le (by rw [spL_length]; omega), hje] at hown
        obtain ⟨a', cap', rfl, hcl, hst⟩ := parts_own hown (spL_length q f e)
        have HST := Lib.hid hst
        clear hown hst
        go_wp2
        go_ret
        exact ⟨_, _, rfl, HST.out, HK.out.trans HKr.out⟩
end Go.Proofs.Ytlncjheifkbomaa
