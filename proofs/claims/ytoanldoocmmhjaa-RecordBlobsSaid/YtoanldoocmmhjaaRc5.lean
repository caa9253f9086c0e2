/- record.number, by what it answers: bytes appended to bytes of the call's own (no conditions but on lengths). -/
import Derived.Test.YtoanldoocmmhjaaOwn
import Derived.Test.YtoanldoocmmhjaaRc0
namespace Go.Proofs.Ytoanldoocmmhjaa
open Go.RowKit
theorem hi_getElem (n : Int) : ∀ (k i : Nat) (h : i < k), (Rc.hi n k)[i]'(by rw [Rc.hi_length]; exact h) = UInt8.ofNat (n / 2 ^ (8 * (k - 1 - i)) % 256).toNat
  | k + 1, 0, _ => by simp [Rc.hi]
  | k + 1, i + 1, h => by
    have := hi_getElem n k i (by omega)
    simp only [Rc.hi, List.getElem_cons_succ, this]
    rw [show k - 1 - i = k + 1 - 1 - (i + 1) by omega]
theorem hi_take (n : Int) (k j : Nat) (h1 : 1 ≤ j) (hj : j ≤ k) : (Rc.hi n k).take (k - j + 1) = (Rc.hi n k).take (k - j) ++ [UInt8.ofNat (n / 2 ^ (8 * (j - 1)) % 256).toNat] := by
  rw [List.take_succ_eq_append_getElem (by rw [Rc.hi_length]; omega), hi_getElem n k (k - j) (by omega), show k - 1 - (k - j) = j - 1 by omega]
theorem hi_val (n : Int) (j : Nat) : bv [UInt8.ofNat (n / 2 ^ (8 * j) % 256).toNat] = [.int .u8 (n / 2 ^ (8 * j) % 256)] := by
  have h0 : 0 ≤ n / 2 ^ (8 * j) % 256 := Int.emod_nonneg _ (by decide)
  have h1 : n / 2 ^ (8 * j) % 256 < 256 := Int.emod_lt_of_pos _ (by decide)
  generalize n / 2 ^ (8 * j) % 256 = x at h0 h1
  simp only [bv, List.map_cons, List.map_nil, List.cons.injEq, Value.int.injEq, and_true, true_and]
  rw [UInt8.toNat_ofNat']
  omega
set_option maxRecDepth 100000 in
set_option maxHeartbeats 800000 in
theorem number_any (base : Nat) (v : Value) (l : Nat) (xs : List UInt8) (n : Int) (k : Nat) (w : World) (hown : w.ownsRow base 5 1 v l (bv xs)) (hl : l ≤ 1000000000) (hk : k ≤ 8) (_hn : 0 ≤ n ∧ n < 18446744073709551616) (hb : base ≤ w.heap.size) :
    Calls Try.prog 48 #[v, .int .u64 n, .int .i64 k] w fun e w' => ∃ v', e = .returned v' ∧ w'.ownsRow base 5 1 v' (l + k) (bv (xs ++ Rc.hi n k)) ∧ Spare base 5 w w' := by
  obtain ⟨i0, hi, hz0, hz1, hz2⟩ := info_parts Try.infoU8
  have HI := Lib.hid (And.intro hi (And.intro hz0 (And.intro hz1 hz2)))
  clear hi hz0 hz1 hz2
  have HOW := Lib.hid hown
  clear hown
  go_enter Try.func48, Try.ntmps48
  go_wp2_with fail
  go_loopw [0, 7] (fun u i wr => ∃ j : Nat, j ≤ k ∧ i = .int .i64 ((j : Int) - 1) ∧ wr.ownsRow base 5 1 u (l + (k - j)) (bv (xs ++ (Rc.hi n k).take (k - j))) ∧ Spare base 5 w wr) (fun _ i _ => (intOf i + 1).toNat)
  case atStart => exact ⟨k, Nat.le_refl _, rfl, by simpa using HOW.out, Spare.refl _ _ _⟩
  case round =>
    obtain ⟨j, hj, rfl, hown, hS⟩ := hrel
    have HS := Lib.hid hS
    have HO := Lib.hid hown
    clear hS hown
    by_cases h1 : 1 ≤ j
    · have hz := HS.out.size
      have HV := Lib.hid (hi_take n k j h1 hj)
      have HU := Lib.hid (hi_val n (j - 1))
      go_wp2_with (at_builtin; refine wpList_append_own _ rfl _ _ 38 rfl base 5 i0 (.int .u8 0) 1 1 Try.underlying38 HI.out.1 HI.out.2.1 HI.out.2.2.1 HI.out.2.2.2 rfl (by decide) _ _ _ rfl (own_kept HO.out ((Kept.refl _).alloc _)) ⟨wr.heap.size, 0, none⟩ 1 1 [.int .u8 (n / 2 ^ (8 * (j - 1)) % 256)] rfl rfl ?c1 ?c2 ?c3 ?c4 ?c5 ?_)
      case c1 =>
        intro j u hj
        match j, hj with
        | 0, hj => simp at hj; subst hj; simp [Addr.add]
      case c2 => intro u hu; simp at hu; subst hu; rfl
      case c3 => unfold maxLen; omega
      case c4 => omega
      case c5 => simp; omega
      intro v' w1 hown' hgrow _
      have HO' := Lib.hid hown'
      have HS' := Lib.hid ((HS.out.alloc _).trans (Spare.of_grown (own_kept HO.out ((Kept.refl _).alloc _)) hgrow))
      clear hown' hgrow
      go_wp2
      go_roundw
      case rel => exact ⟨j - 1, by omega, by congr 1; omega, by
        have := HO'.out
        rw [show k - (j - 1) = k - j + 1 by omega, HV.out, ← List.append_assoc, bv_append, HU.out, ← Nat.add_assoc]
        exact this, HS'.out⟩
      case measure => simp [intOf]; omega
    · obtain rfl : j = 0 := by omega
      go_wp2
      go_ret
      refine ⟨_, rfl, ?_, HS.out⟩
      have := HO.out
      rw [List.take_of_length_le (by rw [Rc.hi_length]; omega), Nat.sub_zero] at this
      exact this
end Go.Proofs.Ytoanldoocmmhjaa
