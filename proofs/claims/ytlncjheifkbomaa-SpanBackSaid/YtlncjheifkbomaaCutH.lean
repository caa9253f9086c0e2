/- What a law of layer 7 asks first: whether its argument is great, whether it wakes; the error's number (no conditions). -/
import Derived.Test.YtlncjheifkbomaaCutB
namespace Go.Proofs.Ytlncjheifkbomaa
open Go.RowKit

set_option maxRecDepth 100000 in
set_option maxHeartbeats 800000 in
theorem heavy4_any (ax : Option Addr) (ls cs : Nat) (al : Option Addr) (ll cl : Nat) (ss : List ByteArray) (ab : Option Addr) (lb cb : Nat) (w : World) (h : AskC w ax ls cs al ll cl ss) :
    Calls Try.prog 11 #[.agg #[.slice ax ls cs, .slice al ll cl, .slice ab lb cb]] w fun e w' => (e = .returned (.bool true) ∨ (e = .returned (.bool false) ∧ ll ≤ 4000 ∧ ls ≤ 50 ∧ ∀ i, i < ll → (ss.getD i ByteArray.empty).size ≤ 4000)) ∧ Kept w w' := by
  have HS := Lib.hid (h.texts.kept ((Kept.refl w).alloc (.cells #[.slice ax ls cs, .slice al ll cl, .slice ab lb cb] 26)))
  have HK := Lib.hid ((Kept.refl w).alloc (.cells #[.slice ax ls cs, .slice al ll cl, .slice ab lb cb] 26))
  have c0 := BlockAt.new w #[.slice ax ls cs, .slice al ll cl, .slice ab lb cb] 26
  clear h
  go_enter Try.func11, Try.ntmps11
  go_wp2_with fail
  generalize w.alloc (.cells #[.slice ax ls cs, .slice al ll cl, .slice ab lb cb] 26) = w1 at *
  obtain ⟨a0, a1, a2⟩ := box3c c0
  go_wp2_with fail
  refine (texts_sum _ _ _ ss _ HS.out).mono ?_
  rintro e w2 ⟨⟨n, rfl, hn⟩, rfl⟩
  have HN := Lib.hid hn
  have h0 := hn.nonneg
  clear hn c0
  by_cases h4 : n ≤ 4000
  · have hd : decide ((4000 : Int) < n) = false := decide_eq_false (by omega)
    by_cases h5 : lb ≤ 100
    · have hd2 : decide ((100 : Int) < lb) = false := decide_eq_false (by omega)
      by_cases h6 : ls ≤ 50
      · have hd3 : decide ((50 : Int) < ls) = false := decide_eq_false (by omega)
        go_wp2
        go_ret
        exact ⟨.inr ⟨rfl, by have := HN.out.many (by omega); omega, h6, fun i hi => by have := HN.out.each (by omega) i hi; omega⟩, HK.out⟩
      · have hd3 : decide ((50 : Int) < ls) = true := decide_eq_true (by omega)
        go_wp2
        go_ret
        exact ⟨.inl rfl, HK.out⟩
    · have hd2 : decide ((100 : Int) < lb) = true := decide_eq_true (by omega)
      go_wp2
      go_ret
      exact ⟨.inl rfl, HK.out⟩
  · have hd : decide ((4000 : Int) < n) = true := decide_eq_true (by omega)
    go_wp2
    go_ret
    exact ⟨.inl rfl, HK.out⟩
theorem num7_any (n : Int) (w : World) : Calls Try.prog 16 #[.int .i64 n] w fun e w' => e = .returned (.int .i64 n) ∧ w = w' := by
  go_enter Try.func16, Try.ntmps16
  go_wp2
  go_ret
  exact ⟨rfl, rfl⟩
set_option maxRecDepth 100000 in
theorem wakes7_any (w : World) : Calls Try.prog 20 #[] w fun e w' => e = .returned (.bool true) ∧ Kept w w' := by
  go_enter Try.func20, Try.ntmps20
  go_wp2_with fail
  refine (stripes_any 2 1 3 1 _).mono ?_
  rintro e w1 ⟨rfl, hk⟩
  have HK := Lib.hid hk
  rw [show stN 2 1 3 1 = 1 from rfl, show stE 2 1 3 1 = 0 from rfl]
  clear hk
  go_wp2_with fail
  refine (num7_any _ _).mono ?_
  rintro e w2 ⟨rfl, rfl⟩
  go_wp2
  go_ret
  exact ⟨rfl, HK.out⟩
end Go.Proofs.Ytlncjheifkbomaa
