/- What a law of layer 8 asks first: whether its argument is great, whether it wakes, the error's number; span.Parts and the reference's Span beside each other (no conditions). -/
import Derived.Test.YtlncjheifkbomaaAsk8
import Derived.Test.YtlncjheifkbomaaCutH
import Derived.Test.YtlncjheifkbomaaSpn6
import Derived.Test.YtlncjheifkbomaaSpn4
namespace Go.Proofs.Ytlncjheifkbomaa
open Go.RowKit

theorem num8_any (n : Int) (w : World) : Calls Try.prog 32 #[.int .i64 n] w fun e w' => e = .returned (.int .i64 n) ∧ w = w' := by
  go_enter Try.func32, Try.ntmps32
  go_wp2
  go_ret
  exact ⟨rfl, rfl⟩
theorem box7 {W : World} {b : Nat} {x0 x1 x2 x3 x4 x5 x6 : Value} {t : TypeId} (h : BlockAt W b #[x0, x1, x2, x3, x4, x5, x6] t) : W.cell? ⟨b, 0, none⟩ = some x0 ∧ W.cell? ⟨b, 1, none⟩ = some x1 ∧ W.cell? ⟨b, 2, none⟩ = some x2 ∧ W.cell? ⟨b, 3, none⟩ = some x3 ∧ W.cell? ⟨b, 4, none⟩ = some x4 ∧ W.cell? ⟨b, 5, none⟩ = some x5 ∧ W.cell? ⟨b, 6, none⟩ = some x6 :=
  ⟨by simpa using h.cell 0, by simpa using h.cell 1, by simpa using h.cell 2, by simpa using h.cell 3, by simpa using h.cell 4, by simpa using h.cell 5, by simpa using h.cell 6⟩
set_option maxRecDepth 100000 in
set_option maxHeartbeats 800000 in
theorem heavy8_any (ax : Option Addr) (ls cs : Nat) (al : Option Addr) (ll cl : Nat) (ss : List ByteArray) (ab : Option Addr) (lb cb : Nat) (n a b : Int) (ap : Option Addr) (lp cp : Nat) (w : World) (h : AskC w ax ls cs al ll cl ss) :
    Calls Try.prog 29 #[.agg #[.slice ax ls cs, .slice al ll cl, .slice ab lb cb, .int .i64 n, .int .i64 a, .int .i64 b, .slice ap lp cp]] w fun e w' => (e = .returned (.bool true) ∨ (e = .returned (.bool false) ∧ (ll ≤ 4000 ∧ ls ≤ 50 ∧ ∀ i, i < ll → (ss.getD i ByteArray.empty).size ≤ 4000) ∧ lp ≤ 200)) ∧ Kept w w' := by
  have HC := Lib.hid (h.kept ((Kept.refl w).alloc (.cells #[.slice ax ls cs, .slice al ll cl, .slice ab lb cb, .int .i64 n, .int .i64 a, .int .i64 b, .slice ap lp cp] 58)))
  have HK := Lib.hid ((Kept.refl w).alloc (.cells #[.slice ax ls cs, .slice al ll cl, .slice ab lb cb, .int .i64 n, .int .i64 a, .int .i64 b, .slice ap lp cp] 58))
  have c0 := BlockAt.new w #[.slice ax ls cs, .slice al ll cl, .slice ab lb cb, .int .i64 n, .int .i64 a, .int .i64 b, .slice ap lp cp] 58
  clear h
  go_enter Try.func29, Try.ntmps29
  go_upto_region 1 with (fail)
  generalize w.alloc (.cells #[.slice ax ls cs, .slice al ll cl, .slice ab lb cb, .int .i64 n, .int .i64 a, .int .i64 b, .slice ap lp cp] 58) = w1 at *
  have HB := Lib.hid c0
  obtain ⟨a0, a1, a2, a3, a4, a5, a6⟩ := box7 c0
  clear c0
  go_wp2_with fail
  refine (heavy4_any ax ls cs al ll cl ss ab lb cb _ HC.out).mono ?_
  rintro e w2 ⟨he, hk2⟩
  obtain ⟨b0, b1, b2, b3, b4, b5, b6⟩ := box7 (HB.out.kept hk2)
  have HK2 := Lib.hid (HK.out.trans hk2)
  clear hk2 a0 a1 a2 a3 a4 a5 a6
  rcases he with rfl | ⟨rfl, hs⟩
  · go_wp2
    go_ret
    exact ⟨.inl rfl, HK2.out⟩
  · have HS := Lib.hid hs
    clear hs
    by_cases hp : lp ≤ 200
    · have hd : decide ((200 : Int) < lp) = false := decide_eq_false (by omega)
      go_wp2
      go_ret
      exact ⟨.inr ⟨rfl, HS.out, hp⟩, HK2.out⟩
    · have hd : decide ((200 : Int) < lp) = true := decide_eq_true (by omega)
      go_wp2
      go_ret
      exact ⟨.inl rfl, HK2.out⟩
theorem parts_lit (W : World) (b : Nat) (ps : List (Int × Int × Int)) (h : BlockAt W b (spv ps).toArray 84) (hl : ps.length ≤ 9223372036854775807) : PartsIn W (some ⟨b, 0, none⟩) ps.length ps :=
  ⟨rfl, hl, b, 0, fun _ => rfl, fun i hi => by
    obtain ⟨h1, h2, h3⟩ := spv_get ps i hi
    have hc : ∀ k, W.cell? ⟨b, k, none⟩ = (spv ps)[k]? := fun k => by simpa using h.cell k
    refine ⟨h.lt, ?_, ?_, ?_⟩
    · rw [Nat.zero_add, hc]; exact h1
    · rw [Nat.zero_add, hc]; exact h2
    · rw [Nat.zero_add, hc]; exact h3⟩
set_option maxRecDepth 100000 in
set_option maxHeartbeats 800000 in
theorem wakes8_any (w : World) : Calls Try.prog 34 #[] w fun e w' => e = .returned (.bool true) ∧ Kept w w' := by
  have hg := fun u => sparts_good 1 0 2 5 1 3 2 2 (by decide) rfl (by omega) (by omega) (by decide) u
  rw [show spN 2 1 3 = 2 from by decide, show spL 2 1 3 = [(0, 1, 2), (1, 0, 1)] from by decide] at hg
  have HG := Lib.hid hg
  clear hg
  go_enter Try.func34, Try.ntmps34
  go_wp2_with fail
  refine (HG.out _).mono ?_
  rintro e w1 ⟨a, cap, rfl, hp, hk⟩
  have HP := Lib.hid hp
  have HK := Lib.hid hk
  clear hp hk
  go_wp2_with fail
  refine (num8_any _ _).mono ?_
  rintro e w2 ⟨rfl, rfl⟩
  go_wp2_with fail
  have hb := BlockAt.new w1 #[.int .i64 0, .int .i64 1, .int .i64 2, .int .i64 1, .int .i64 0, .int .i64 1] 84
  have hq := parts_lit _ _ [(0, 1, 2), (1, 0, 1)] hb (by decide)
  refine (eq_parts a _ 2 cap _ [(0, 1, 2), (1, 0, 1)] _ (HP.out.kept ((Kept.refl _).alloc _)) hq).mono ?_
  rintro e w3 ⟨rfl, hk3⟩
  have HK3 := Lib.hid (((HK.out.alloc _)).trans hk3)
  clear hk3 hb hq
  go_wp2
  go_ret
  exact ⟨rfl, HK3.out⟩
/-- span.Parts beside the reference's Span, whatever is asked -/
theorem span_all (k m s n f many : Int) : ∃ (N : Nat) (E : Int) (PS : List (Int × Int × Int)), (∀ w, Calls Try.prog 30 #[.agg #[.int .i64 k, .int .i64 m, .int .i64 s], .int .i64 n, .int .i64 f, .int .i64 many] w fun x w' => ∃ a cap, x = .returned (.tuple #[.slice a N cap, .int .i64 E]) ∧ PartsIn w' a N PS ∧ Kept w w') ∧
    ((spB k m s n f many = false ∧ E = 1 ∧ N = 0 ∧ PS = []) ∨
     (spB k m s n f many = true ∧ E = 0 ∧ ∀ w, Calls Try.prog 31 #[.agg #[.int .i64 k, .int .i64 m, .int .i64 s], .int .i64 n, .int .i64 f, .int .i64 many] w fun x w' => ∃ a cap, x = .returned (.slice a N cap) ∧ PartsIn w' a N PS ∧ Kept w w')) := by
  cases hb : spB k m s n f many with
  | false =>
    refine ⟨0, 1, [], fun w => (sparts_bad k m s n f many hb w).mono ?_, .inl ⟨rfl, rfl, rfl, rfl⟩⟩
    rintro e w' ⟨h1, h2⟩
    exact ⟨none, 0, h1, PartsIn.nil _ _, h2⟩
  | true =>
    unfold spB at hb
    simp only [Bool.and_eq_true, decide_eq_true_eq] at hb
    obtain ⟨hst, ⟨hf0, hfn⟩, hm⟩ := hb
    have hst' := hst
    unfold stB at hst'
    simp only [Bool.and_eq_true, decide_eq_true_eq] at hst'
    obtain ⟨hsh, hn0, hn2⟩ := hst'
    have hkb := ks_bounds hsh
    obtain ⟨n', rfl⟩ : ∃ n' : Nat, n = n' := ⟨n.toNat, by omega⟩
    obtain ⟨f', rfl⟩ : ∃ f' : Nat, f = f' := ⟨f.toNat, by omega⟩
    obtain ⟨q, hq⟩ : ∃ q : Nat, k * s = q := ⟨(k * s).toNat, by omega⟩
    obtain ⟨e, he⟩ : ∃ e : Nat, (e : Int) = (f' : Int) + min many ((n' : Int) - (f' : Int)) := ⟨((f' : Int) + min many ((n' : Int) - (f' : Int))).toNat, by rw [Int.toNat_of_nonneg]; omega⟩
    exact ⟨spN q f' e, 0, spL q f' e, fun w => sparts_good k m s n' f' e many q hst hq (by omega) hm he w, .inr ⟨rfl, rfl, fun w => span_ref k m s n' f' many q e hq (by omega) (by omega) (by omega) hm (by
      by_cases h : many < (n' : Int) - (f' : Int)
      · rw [if_pos h, he, Int.min_eq_left (by omega)]
      · rw [if_neg h, he, Int.min_eq_right (by omega)]; omega) w⟩⟩
end Go.Proofs.Ytlncjheifkbomaa
