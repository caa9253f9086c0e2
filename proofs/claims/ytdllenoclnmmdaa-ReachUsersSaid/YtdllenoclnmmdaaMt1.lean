/- manifest.sized, rising, few, made, Check (lists of no great length). -/
import Derived.Test.YtdllenoclnmmdaaMt0
import Derived.Test.YtdllenoclnmmdaaPj
namespace Go.Proofs.Ytdllenoclnmmdaa
open Go.RowKit Go.Shelf
attribute [local go_sem] Oper.semAt_some

theorem size_szB_snoc (l : List ByteArray) (k : Nat) (h : k < l.length) : szB (l.take (k + 1)) = (szB (l.take k) && decide ((txt l k).size = 32)) := all_snoc l _ k ByteArray.empty h
set_option maxRecDepth 100000 in
set_option maxHeartbeats 1000000 in
theorem sized_any (a : Option Addr) (l cap : Nat) (ss : List ByteArray) (w : World) (h : StrsIn w a l ss) :
    Calls Try.prog 59 #[.slice a l cap] w fun e w' => e = .returned (.bool (szB ss)) ∧ Kept w w' := by
  have hle := h.le
  have HS := Lib.hid h
  have HL := Lib.hid h.len_eq
  clear h
  go_enter Try.func59, Try.ntmps59
  go_wp2_with fail
  go_loopw [4, 7] (fun _ i wr => ∃ k : Nat, k ≤ l ∧ i = .int .i64 k ∧ Hid (szB (ss.take k) = true) ∧ Kept w wr) (fun _ i _ => l - (intOf i).toNat)
  case atStart => exact ⟨0, by omega, rfl, Lib.hid rfl, Kept.refl _⟩
  case round =>
    obtain ⟨k, hk, rfl, HZ, hkr⟩ := hrel
    have HK := Lib.hid hkr
    clear hkr
    by_cases hlt : k < l
    · have hd1 : decide (k < l) = true := decide_eq_true hlt
      obtain ⟨b, off, rfl, hc⟩ := HS.out.at (by omega)
      have c0 := hc k hlt _ HK.out
      have HSN := Lib.hid (size_szB_snoc ss k (by rw [HL.out]; exact hlt))
      have HF := Lib.hid (fun hp => all_at ss (fun d => decide (d.size = 32)) k ByteArray.empty (by rw [HL.out]; exact hlt) hp)
      obtain ⟨t, ht⟩ : ∃ t, t = ss.getD k ByteArray.empty := ⟨_, rfl⟩
      have hts := HS.out.size k hlt
      unfold txt at HSN
      rw [← ht] at c0 HSN HF hts
      clear hc ht
      by_cases h32 : t.size = 32
      · have hne : ((t.size : Int) != 32) = false := by simp [h32]
        have HN := Lib.hid (show szB (ss.take (k + 1)) = true by rw [HSN.out, HZ.out, decide_eq_true h32]; rfl)
        clear h32
        go_wp2
        go_roundw
        case rel => exact ⟨k + 1, by omega, by go_num, HN, HK.out⟩
        case measure => simp [intOf]; omega
      · have hne : ((t.size : Int) != 32) = true := by simp; omega
        have HN := Lib.hid (show szB ss = false from HF.out (decide_eq_false h32))
        clear h32
        go_wp2
        go_ret
        rw [HN.out]
        exact ⟨rfl, HK.out⟩
    · obtain rfl : l = k := by omega
      have hd1 : decide (l < l) = false := decide_eq_false (by omega)
      have HN := Lib.hid (show szB ss = true by rw [← HZ.out, List.take_of_length_le (by rw [HL.out]; omega)])
      go_wp2
      go_ret
      rw [HN.out]
      exact ⟨rfl, HK.out⟩
set_option maxRecDepth 100000 in
set_option maxHeartbeats 1000000 in
theorem rising_any (a : Option Addr) (l cap : Nat) (ss : List ByteArray) (w : World) (h : StrsIn w a l ss) :
    Calls Try.prog 62 #[.slice a l cap] w fun e w' => e = .returned (.bool (riB ss)) ∧ Kept w w' := by
  have hle := h.le
  have HS := Lib.hid h
  have HL := Lib.hid h.len_eq
  clear h
  go_enter Try.func62, Try.ntmps62
  go_wp2_with fail
  refine wp_scope_straight ?_
  go_wp2_with fail
  refine wp_label ?_
  go_wp2_with fail
  go_loopw [3, 4, 7] (fun x _ i wr => ∃ k : Nat, k ≤ l ∧ i = .int .i64 k ∧ x = .bool true ∧ Hid (riK ss k = true) ∧ Kept w wr) (fun _ _ i _ => l - (intOf i).toNat)
  case atStart => exact ⟨0, by omega, rfl, rfl, Lib.hid rfl, Kept.refl _⟩
  case round =>
    obtain ⟨k, hk, rfl, rfl, HZ, hkr⟩ := hrel
    have HK := Lib.hid hkr
    clear hkr
    by_cases hlt : k < l
    · have hd1 : decide (k < l) = true := decide_eq_true hlt
      obtain ⟨b, off, rfl, hc⟩ := HS.out.at (by omega)
      by_cases h0 : k = 0
      · subst h0
        have HN := Lib.hid (show riK ss (0 + 1) = true from rfl)
        clear hc
        go_wp2_with fail
        go_quiet (fail)
        go_wp2
        go_roundw
        case rel => exact ⟨0 + 1, by omega, by go_num, rfl, HN, HK.out.drewN nq⟩
        case measure => simp [intOf]; omega
      · obtain ⟨j, rfl⟩ : ∃ j, k = j + 1 := ⟨k - 1, by omega⟩
        have c0 := hc j (by omega) _ HK.out
        have c1 := hc (j + 1) hlt _ HK.out
        have HSN := Lib.hid (riK_succ ss (j + 1))
        have HF := Lib.hid (fun hp => riK_false (l := ss) (n := l) (i := j + 1) hlt (by omega) hp)
        rw [Nat.add_sub_cancel] at HSN HF
        unfold txt at HSN HF
        obtain ⟨t, ht⟩ : ∃ t, t = ss.getD j ByteArray.empty := ⟨_, rfl⟩
        obtain ⟨u, hu⟩ : ∃ u, u = ss.getD (j + 1) ByteArray.empty := ⟨_, rfl⟩
        rw [← ht] at c0 HSN HF
        rw [← hu] at c1 HSN HF
        clear hc ht hu
        obtain ⟨m, hm⟩ : ∃ m, m = j + 1 := ⟨_, rfl⟩
        rw [← hm] at c1 HSN HZ hlt hd1 hk ⊢
        have hmi : (m : Int) - 1 = (j : Int) := by omega
        have hwj : IntKind.i64.wrap (j : Int) = (j : Int) := IntWalk.i64_in _ (by omega)
        have hm0 : decide (0 < m) = true := decide_eq_true (by omega)
        have hjl : j < l := by omega
        clear hm
        cases hq : ltB t u with
        | true =>
          have hop := run_geq hq
          have HN := Lib.hid (show riK ss (m + 1) = true by rw [HSN.out, HZ.out, hq]; simp)
          clear h0 hq
          go_wp2_with fail
          go_quiet (fail)
          go_wp2
          go_roundw
          case rel => exact ⟨m + 1, by omega, by go_num, rfl, HN, HK.out.drewN nq⟩
          case measure => simp [intOf]; omega
        | false =>
          have hop := run_geq hq
          have HN := Lib.hid (show riB ss = false by unfold riB; rw [HL.out]; exact HF.out hq)
          clear h0 hq
          go_wp2_with fail
          go_quiet (fail)
          go_wp2
          (refine noGoto_ret ?_; go_ret)
          rw [HN.out]
          exact ⟨rfl, HK.out.drewN nq⟩
    · obtain rfl : l = k := by omega
      have hd1 : decide (l < l) = false := decide_eq_false (by omega)
      have HN := Lib.hid (show riB ss = true by unfold riB; rw [HL.out]; exact HZ.out)
      go_wp2
      (refine noGoto_ret ?_; go_ret)
      rw [HN.out]
      exact ⟨rfl, HK.out⟩
end Go.Proofs.Ytdllenoclnmmdaa
