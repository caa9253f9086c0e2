/- check.mul: a product of polynomials, by what it answers (numbers below 2^64). -/
import Derived.Test.YtboheogbllgfjaaDoorChkMul
import Derived.Test.YtboheogbllgfjaaDoorRes
namespace Go.Proofs.YtboheogbllgfjaaDoor
open Go.RowKit Go.Shelf
attribute [local go_sem] Oper.semAt_some

def sumTo (a b : Nat) (is : List Nat) : Nat := is.foldl (fun s k => s ^^^ (if a / 2 ^ (63 - k) % 2 = 1 then Crc.bitsN k b else 0)) 0
theorem BlockAt.own' {A B : World} {b : Nat} {C : Array Value} {t : TypeId} {row : Option Nat} (h : BlockAt A b C t) (hg : A.grownBy B row) (hr : ∀ r, row = some r → ∃ o : Obj, A.heap[r]? = some o ∧ o.isCells = false) : BlockAt B b C t := by
  refine (hg.block b h.lt (fun e => ?_)).trans h
  obtain ⟨o, h1, h2⟩ := hr b e.symm
  have h' : A.heap[b]? = some (.cells C t (0, 0)) := h
  rw [h'] at h1
  cases h1
  cases h2
theorem sumTo_snoc (a b : Nat) (is : List Nat) (k : Nat) : sumTo a b (is ++ [k]) = sumTo a b is ^^^ (if a / 2 ^ (63 - k) % 2 = 1 then Crc.bitsN k b else 0) := by simp [sumTo]
theorem sumTo_range (a b : Nat) : ∀ n, sumTo a b (List.range n) = Crc.mulTo a b n
  | 0 => rfl
  | n + 1 => by rw [List.range_succ, sumTo_snoc, sumTo_range a b n]; rfl
theorem mulTo_lt (a : Nat) {b : Nat} (hb : b < 2 ^ 64) : ∀ n, Crc.mulTo a b n < 2 ^ 64
  | 0 => by simp [Crc.mulTo]
  | n + 1 => by
    simp only [Crc.mulTo]
    refine Nat.xor_lt_two_pow (mulTo_lt a hb n) ?_
    split
    · exact Crc.bits_lt n hb
    · decide
theorem sumTo_lt (a : Nat) {b : Nat} (hb : b < 2 ^ 64) : ∀ is : List Nat, sumTo a b is < 2 ^ 64 := by
  suffices h : ∀ (is : List Nat) (s : Nat), s < 2 ^ 64 → is.foldl (fun s k => s ^^^ (if a / 2 ^ (63 - k) % 2 = 1 then Crc.bitsN k b else 0)) s < 2 ^ 64 from fun is => h is 0 (by decide)
  intro is
  induction is with
  | nil => exact fun s h => h
  | cons k is ih =>
    intro s h
    refine ih _ (Nat.xor_lt_two_pow h ?_)
    split
    · exact Crc.bits_lt k hb
    · decide

set_option maxRecDepth 100000 in
set_option maxHeartbeats 2000000 in
theorem mul_any (a b : Nat) (ha : a < 2 ^ 64) (hb : b < 2 ^ 64) (w : World) :
    Calls Tryd.prog 16 #[.int .u64 a, .int .u64 b] w fun e w' => e = .returned (.int .u64 (Crc.mul a b : Nat)) ∧ Kept w w' := by
  refine callsIn_wide.1 (callsIn_of_wp_marks (n := 8) Tryd.func16 rfl trivial ?_ rfl)
  simp only [Tryd.ntmps16, List.size_toArray, List.length_nil, List.length_cons, Nat.reduceAdd, Nat.reduceSub, Array.replicate_succ, Array.replicate_zero, List.push_toArray, List.append_toArray, List.nil_append, List.cons_append]
  refine wpIn_wide.2 ?_
  go_wp2_with fail
  go_step3
  go_wp2_with fail
  go_step3
  go_wp2_with fail
  refine (show Calls Tryd.prog 18 #[.int .u64 b, .int .i64 64] _ _ from steps_any b 64 _).mono ?_
  rintro e w1 ⟨rfl, hw1⟩
  simp only [World.size_alloc]
  have hK : Kept w w1 := by rw [hw1]; exact ((((Kept.refl w).alloc _).alloc _).alloc _).alloc _
  have hba : BlockAt w1 w.heap.size #[.int .u64 a] 26 := by rw [hw1]; exact (BlockAt.new w _ _).kept ((((Kept.refl _).alloc _).alloc _).alloc _)
  have hbs : BlockAt w1 (w.heap.size + 1) #[.int .u64 0] 26 := by rw [hw1]; exact (BlockAt.new1 w _ _ _).kept (((Kept.refl _).alloc _).alloc _)
  have hbc : BlockAt w1 (w.heap.size + 1 + 1) #[.int .u64 b] 26 := by rw [hw1]; exact (BlockAt.new2 w _ _ _ _).kept ((Kept.refl _).alloc _)
  have hbn : BlockAt w1 (w.heap.size + 1 + 1 + 1) #[.int .i64 ((64 : Nat) : Int)] 3 := by rw [hw1]; exact BlockAt.new3 w _ _ _ _ _
  have hz : w1.heap.size = w.heap.size + 4 := by rw [hw1]; simp
  clear hw1
  generalize hp : w.heap.size + 1 = p1 at *
  have hpz := Nat.le_of_eq hp
  have hpz2 := Nat.le_of_eq hp.symm
  clear hp
  obtain ⟨p0, hp0⟩ : ∃ p0, w.heap.size = p0 := ⟨_, rfl⟩
  rw [hp0] at hba ⊢
  have hq0 := Nat.le_of_eq hp0
  have hq1 := Nat.le_of_eq hp0.symm
  clear hp0
  go_wp2
  refine wp_of_in 8 ?_
  refine wpIn_rangeFunc_S rfl (by omega) (gf := 19) (lb := #[.pointer (some ⟨p1 + 1, 0, none⟩), .pointer (some ⟨p1 + 1 + 1, 0, none⟩)]) rfl trivial (enters_of Tryd.func19 (by kernel_rfl) rfl)
    (steps_stops 7 (by omega) (fun k => k = p1) b hb 64 (by omega) (p1 + 1) (p1 + 1 + 1) w1 hbc hbn) (CellsBut.refl _) CellsBut.trans CellsBut.putObj (Below.refl _ _) (fun _ => rfl)
    (fun pre W => (BlockAt W p0 #[.int .u64 a] 26 ∧ BlockAt W p1 #[.int .u64 (sumTo a b (ixs pre) : Nat)] 26) ∧ Below w.heap.size w W)
    (fun _ _ _ => False)
    (OwnFrom.and (Own.from (fun s A B row hs hg hr => ⟨BlockAt.own' hs.1 hg hr, BlockAt.own' hs.2 hg hr⟩) _) (ownFrom_below (Nat.le_refl _) (by omega)))
    (fun _ _ _ _ _ hs _ _ => hs)
    ⟨⟨hba, hbs⟩, hK⟩ ?round ?done ?stop
  case round =>
    rintro l ⟨k, hk⟩ W K hK'
    have HK := Lib.hid hK'
    clear hK'
    gi_wp2
    refine HK.out _ ?_
    clear HK
    rintro l pre W ⟨⟨iA, iS⟩, iK⟩ hlen
    have c1 := box1 iA
    have c2 := box1 iS
    have c3 := iS.free 0
    have HA := Lib.hid iA
    have HS := Lib.hid iS
    have HKK := Lib.hid iK
    have hsn := ixs_snoc pre k hk
    have hst := sumTo_snoc a b (ixs pre) k
    rw [← hsn] at hst
    have hsl := sumTo_lt a hb (ixs pre)
    have hxl := Crc.bits_lt k hb
    have hax : a / 2 ^ (63 - k) < 2 ^ 64 := Nat.lt_of_le_of_lt (Nat.div_le_self _ _) ha
    have han := and1 _ hax
    have hxx := x64 _ _ hsl hxl
    clear iA iS iK hsn
    generalize sumTo a b (ixs pre) = sv at *
    generalize Crc.bitsN k b = bv at *
    have HST := Lib.hid hst
    clear hst
    have hcast : ((a / 2 ^ (63 - k) : Nat) : Int) = (a : Int) / 2 ^ (63 - k) := by simp
    rw [hcast] at han
    clear hcast hax
    by_cases h1 : a / 2 ^ (63 - k) % 2 = 1
    · rw [h1] at han
      have HST := Lib.hid (HST.out.trans (by rw [if_pos h1]))
      clear h1
      gi_wp2
      refine ⟨KeepsOthers.setCell _ _ _, CellsBut.setCell _ _ rfl, ⟨HA.out.setOther _ (by omega), ?_⟩, HKK.out.setCell (p := ⟨p1, 0, none⟩) (by show w.heap.size ≤ p1; omega) _⟩
      rw [HST.out]
      exact HS.out.set _
    · rw [show a / 2 ^ (63 - k) % 2 = 0 by omega] at han
      have HST := Lib.hid (HST.out.trans (by rw [if_neg h1, Nat.xor_zero]))
      clear h1
      gi_wp2
      refine ⟨KeepsOthers.refl _, CellsBut.refl _ _, ⟨HA.out, ?_⟩, HKK.out⟩
      rw [HST.out]
      exact HS.out
  case done =>
    rintro D ys W hD hys ⟨⟨iA, iS⟩, iK⟩ hK
    rw [hys, sumTo_range] at iS
    have c2 := box1 iS
    have hmm : Crc.mul a b = Crc.mulTo a b 64 := rfl
    have HM := Lib.hid hmm
    clear iA iS hmm
    go_wp2
    refine noGoto_ret ?_
    refine ⟨by simp, .inl ⟨_, _, rfl, run_takeDeferred hK, ?_⟩⟩
    exact ⟨_, results_tmp rfl _ _ _, by rw [HM.out]; rfl, Below.grown iK (grown_put W D _) (Below.size iK) (fun k e => by cases e; omega)⟩
  case stop =>
    rintro D code pre W hD _ h _
    exact h.elim
theorem and1i (i : Nat) (hi : i < 9223372036854775808) : bits .and .i64 (i : Int) 1 = ((i % 2 : Nat) : Int) := by
  have hx : i &&& 1 < 2 := by rw [Nat.and_one_is_mod]; omega
  show IntKind.i64.wrap ((BitVec.ofInt 64 (i : Int) &&& BitVec.ofInt 64 (1 : Int)).toNat : Int) = _
  rw [BitVec.toNat_and, ofInt_u64 i (by omega), show (BitVec.ofInt 64 (1 : Int)).toNat = 1 from rfl, Nat.and_one_is_mod, IntKind.wrap_i64]
  omega
set_option maxRecDepth 100000 in
set_option maxHeartbeats 1000000 in
theorem zeros_any (n : Nat) (hn : n ≤ 9223372036854775807) (w : World) :
    Calls Tryd.prog 17 #[.int .i64 n] w fun e w' => e = .returned (.int .u64 (Crc.pw (8 * n) : Nat)) ∧ Kept w w' := by
  have h0 : Crc.pw 0 = 9223372036854775808 := by decide +kernel
  have h8 : Crc.pw 8 = 36028797018963968 := by decide +kernel
  have H0 := Lib.hid h0
  have H8 := Lib.hid h8
  clear h0 h8
  go_enter Tryd.func17, Tryd.ntmps17
  go_wp2_with fail
  go_loopw [3, 4, 5] (fun r q i wr => ∃ k x y : Nat, k ≤ n ∧ i = .int .i64 k ∧ r = .int .u64 (Crc.pw x : Nat) ∧ q = .int .u64 (Crc.pw y : Nat) ∧ x + y * k = 8 * n ∧ Kept w wr) (fun _ _ i _ => (intOf i).toNat)
  case atStart => exact ⟨n, 0, 8, by omega, rfl, by rw [H0.out]; rfl, by rw [H8.out]; rfl, by omega, Kept.refl _⟩
  case round =>
    obtain ⟨k, x, y, hk, rfl, rfl, rfl, hxy, hK⟩ := hrel
    have HK := Lib.hid hK
    have HXY := Lib.hid hxy
    clear hK hxy
    by_cases h0 : 0 < k
    · have hd : decide ((0 : Int) < k) = true := decide_eq_true (by omega)
      have han := and1i k (by omega)
      obtain ⟨h, hh⟩ : ∃ h, h = k / 2 := ⟨_, rfl⟩
      have hh2 : (k : Int) / 2 = (h : Int) := by omega
      have hlt : h < k := by omega
      have hyy := fun w => mul_any (Crc.pw y) (Crc.pw y) (Crc.pw_lt y) (Crc.pw_lt y) w
      have hxy := fun w => mul_any (Crc.pw x) (Crc.pw y) (Crc.pw_lt x) (Crc.pw_lt y) w
      rw [Crc.pw_mul] at hyy hxy
      have HYY := Lib.hid hyy
      have HMX := Lib.hid hxy
      clear hyy hxy
      by_cases h1 : k % 2 = 1
      · rw [h1] at han
        have he : x + y + (y + y) * h = 8 * n := by
          have := HXY.out
          obtain ⟨m, rfl⟩ : ∃ m, k = 2 * m + 1 := ⟨k / 2, by omega⟩
          have : h = m := by omega
          subst this
          rw [Nat.mul_add, Nat.mul_one, Nat.mul_comm 2 h, ← Nat.mul_assoc] at this
          rw [Nat.add_mul]
          omega
        have HE := Lib.hid he
        clear he hh h1
        go_wp2_with fail
        refine (HMX.out _).mono ?_
        rintro e w1 ⟨rfl, hk1⟩
        go_wp2_with fail
        refine (HYY.out _).mono ?_
        rintro e w2 ⟨rfl, hk2⟩
        have HK2 := Lib.hid ((HK.out.trans hk1).trans hk2)
        clear hk1 hk2
        go_wp2_with fail
        go_roundw
        case rel => exact ⟨h, x + y, y + y, by omega, rfl, rfl, rfl, HE.out, HK2.out⟩
        case measure => simp [intOf]; omega
      · rw [show k % 2 = 0 by omega] at han
        have he : x + (y + y) * h = 8 * n := by
          have := HXY.out
          obtain ⟨m, rfl⟩ : ∃ m, k = 2 * m := ⟨k / 2, by omega⟩
          have : h = m := by omega
          subst this
          rw [Nat.mul_comm 2 h, ← Nat.mul_assoc] at this
          rw [Nat.add_mul]
          omega
        have HE := Lib.hid he
        clear he hh h1
        go_wp2_with fail
        refine (HYY.out _).mono ?_
        rintro e w2 ⟨rfl, hk2⟩
        have HK2 := Lib.hid (HK.out.trans hk2)
        clear hk2
        go_wp2_with fail
        go_roundw
        case rel => exact ⟨h, x, y + y, by omega, rfl, rfl, rfl, HE.out, HK2.out⟩
        case measure => simp [intOf]; omega
    · obtain rfl : k = 0 := by omega
      have hx : x = 8 * n := by have := HXY.out; omega
      have HX := Lib.hid hx
      clear hx
      go_wp2
      go_ret
      exact ⟨by rw [← HX.out]; rfl, HK.out⟩
set_option maxRecDepth 100000 in
theorem zeros_neg (n : Int) (hn : n ≤ 0) (w : World) :
    Calls Tryd.prog 17 #[.int .i64 n] w fun e w' => e = .returned (.int .u64 (Crc.pw 0 : Nat)) ∧ Kept w w' := by
  have h0 : Crc.pw 0 = 9223372036854775808 := by decide +kernel
  have H0 := Lib.hid h0
  have hd : decide ((0 : Int) < n) = false := decide_eq_false (by omega)
  clear h0
  go_enter Tryd.func17, Tryd.ntmps17
  go_wp2_with fail
  go_loopw [3, 5] (fun r i wr => r = .int .u64 9223372036854775808 ∧ i = .int .i64 n ∧ w = wr) (fun _ _ _ => 0)
  case atStart => exact ⟨rfl, rfl, rfl⟩
  case round =>
    obtain ⟨rfl, rfl, rfl⟩ := hrel
    go_wp2
    go_ret
    exact ⟨by rw [H0.out]; rfl, Kept.refl _⟩
/-- what n bytes 0 make of a sum -/
def shifted (a : Nat) (n : Int) : Nat := Crc.bitsN (8 * n.toNat) a
set_option maxRecDepth 100000 in
theorem both_any (a b : Nat) (n : Int) (ha : a < 2 ^ 64) (hb : b < 2 ^ 64) (hn : n ≤ 9223372036854775807) (w : World) :
    Calls Tryd.prog 11 #[.int .u64 a, .int .u64 b, .int .i64 n] w fun e w' => e = .returned (.int .u64 (shifted a n ^^^ b : Nat)) ∧ Kept w w' := by
  have hz : ∀ w, Calls Tryd.prog 17 #[.int .i64 n] w fun e w' => e = .returned (.int .u64 (Crc.pw (8 * n.toNat) : Nat)) ∧ Kept w w' := fun w => by
    by_cases h : n ≤ 0
    · rw [show n.toNat = 0 by omega]; exact zeros_neg n h w
    · obtain ⟨m, rfl⟩ : ∃ m : Nat, n = m := ⟨n.toNat, by omega⟩
      rw [Int.toNat_natCast]
      exact zeros_any m (by omega) w
  have hm := fun w => mul_any a (Crc.pw (8 * n.toNat)) ha (Crc.pw_lt _) w
  rw [Crc.mul_pw ha] at hm
  have hsl : shifted a n < 2 ^ 64 := Crc.bits_lt _ ha
  have hs : Crc.bitsN (8 * n.toNat) a = shifted a n := rfl
  rw [hs] at hm
  have hx := x64 _ _ hsl hb
  have HZ := Lib.hid hz
  have HM := Lib.hid hm
  clear hz hm hs
  generalize shifted a n = s at *
  generalize Crc.pw (8 * n.toNat) = z at *
  go_enter Tryd.func11, Tryd.ntmps11
  go_wp2_with fail
  refine (HZ.out _).mono ?_
  rintro e w1 ⟨rfl, hk1⟩
  go_wp2_with fail
  refine (HM.out _).mono ?_
  rintro e w2 ⟨rfl, hk2⟩
  have HK2 := Lib.hid (hk1.trans hk2)
  clear hk1 hk2
  go_wp2
  go_ret
  exact ⟨rfl, HK2.out⟩
set_option maxRecDepth 100000 in
set_option maxHeartbeats 1000000 in
theorem both_ref (a b n : Nat) (ha : a < 2 ^ 64) (hb : b < 2 ^ 64) (hn : n ≤ 1000000) (w : World) :
    Calls Tryd.prog 14 #[.int .u64 a, .int .u64 b, .int .i64 n] w fun e w' => e = .returned (.int .u64 (shifted a n ^^^ b : Nat)) ∧ w = w' := by
  have hs : shifted a n = Crc.bitsN (8 * n) a := by unfold shifted; rw [Int.toNat_natCast]
  have HS := Lib.hid hs
  clear hs
  go_enter Tryd.func14, Tryd.ntmps14
  go_wp2
  go_loop [0, 7] (fun x i => ∃ k : Nat, k ≤ 8 * n ∧ i = .int .i64 k ∧ x = .int .u64 (Crc.bitsN k a : Nat)) (fun _ i => 8 * n - (intOf i).toNat)
  case atStart => exact ⟨0, by omega, rfl, rfl⟩
  case round =>
    obtain ⟨k, hk, rfl, rfl⟩ := hrel
    have hyl : Crc.bitsN k a < 2 ^ 64 := Crc.bits_lt k ha
    by_cases hj8 : k < 8 * n
    · have hd : decide ((k : Int) < 8 * n) = true := decide_eq_true (by omega)
      have hjs := Crc.bitsN_succ k a
      generalize Crc.bitsN k a = z at hyl hjs
      have han := and1 z hyl
      have HJ := Lib.hid hjs
      clear hjs
      by_cases h1 : z % 2 = 1
      · rw [h1] at han
        have ho := Lib.hid (stp_odd z hyl h1)
        clear h1
        go_wp2
        go_round
        case rel => exact ⟨k + 1, by omega, by go_num, by rw [HJ.out, ho.out]⟩
        case measure => simp [intOf]; omega
      · have h0 : z % 2 = 0 := by omega
        rw [h0] at han
        have he := Lib.hid (stp_even64 z h0)
        clear h0 h1
        go_wp2
        go_round
        case rel => exact ⟨k + 1, by omega, by go_num, by rw [HJ.out, he.out]⟩
        case measure => simp [intOf]; omega
    · have hd : decide ((k : Int) < 8 * n) = false := decide_eq_false (by omega)
      obtain rfl : k = 8 * n := by omega
      have hx := x64 _ _ hyl hb
      generalize Crc.bitsN (8 * n) a = z at *
      go_wp2
      go_ret
      exact ⟨by rw [HS.out]; rfl, rfl⟩
/-- a number brought below another one -/
def wthn (x : Int) (n : Nat) : Nat := (IntKind.u64.wrap x % (n : Int)).toNat
theorem wthn_lt (x : Int) {n : Nat} (h : 0 < n) : wthn x n < n := by
  have h1 := Int.emod_nonneg (IntKind.u64.wrap x) (show (n : Int) ≠ 0 by omega)
  have h2 := Int.emod_lt_of_pos (IntKind.u64.wrap x) (show (0 : Int) < (n : Int) by omega)
  unfold wthn
  omega
theorem within_ref (x : Int) (n : Nat) (hn : 1 ≤ n ∧ n ≤ 1099511627776) (w : World) : Calls Tryd.prog 13 #[.int .i64 x, .int .i64 n] w fun e w' => e = .returned (.int .i64 (wthn x n : Nat)) ∧ w = w' := by
  have hu : IntKind.u64.wrap (n : Int) = (n : Int) := by rw [IntKind.wrap_u64]; omega
  have hne : ((n : Int) == 0) = false := by rw [beq_eq_false_iff_ne]; omega
  have h0 : 0 ≤ IntKind.u64.wrap x := by rw [IntKind.wrap_u64]; omega
  go_enter Tryd.func13, Tryd.ntmps13
  go_wp2
  go_ret
  have h1 := Int.emod_nonneg (IntKind.u64.wrap x) (show (n : Int) ≠ 0 by omega)
  have h2 := Int.emod_lt_of_pos (IntKind.u64.wrap x) (show (0 : Int) < (n : Int) by omega)
  have h3 : wrap64 (IntKind.u64.wrap x % (n : Int)) = IntKind.u64.wrap x % (n : Int) := by
    unfold wrap64
    omega
  refine ⟨?_, rfl⟩
  unfold wthn
  rw [Int.toNat_of_nonneg h1]
  show Ending.returned (.int .i64 (wrap64 (IntKind.u64.wrap x % (n : Int)))) = _
  rw [h3]
end Go.Proofs.YtboheogbllgfjaaDoor
