/- check.step, steps and mul: products of polynomials, by what they answer (numbers below 2^64). -/
import Derived.Test.YtboheogbllgfjaaDoorChk
import Derived.Test.YtboheogbllgfjaaDoorRound
namespace Go.Proofs.YtboheogbllgfjaaDoor
open Go.RowKit Go.Shelf
attribute [local go_sem] Oper.semAt_some

set_option maxRecDepth 100000 in
theorem step_any (c : Nat) (hc : c < 2 ^ 64) (w : World) : Calls Tryd.prog 20 #[.int .u64 c] w fun e w' => e = .returned (.int .u64 (Crc.stp c : Nat)) ∧ w = w' := by
  have han := and1 c hc
  by_cases h1 : c % 2 = 1
  · rw [h1] at han
    have ho := Lib.hid (stp_odd c hc h1)
    clear h1
    go_enter Tryd.func20, Tryd.ntmps20
    go_wp2
    go_ret
    exact ⟨by rw [← ho.out]; rfl, rfl⟩
  · rw [show c % 2 = 0 by omega] at han
    have he := Lib.hid (stp_even64 c (by omega))
    clear h1
    go_enter Tryd.func20, Tryd.ntmps20
    go_wp2
    go_ret
    exact ⟨by rw [← he.out]; rfl, rfl⟩
theorem steps_any (c N : Nat) (w : World) :
    Calls Tryd.prog 18 #[.int .u64 c, .int .i64 N] w fun e w' => e = .returned (.func (.func 19) #[] #[.pointer (some ⟨w.heap.size, 0, none⟩), .pointer (some ⟨w.heap.size + 1, 0, none⟩)]) ∧
      w' = (w.alloc (.cells #[.int .u64 c] 26)).alloc (.cells #[.int .i64 N] 3) := by
  go_enter Tryd.func18, Tryd.ntmps18
  go_wp2
  go_ret
  exact ⟨rfl, rfl⟩

set_option maxRecDepth 100000 in
set_option maxHeartbeats 2000000 in
theorem steps_stops (n : Nat) (hn : 1 ≤ n) (R : Nat → Prop) (c : Nat) (hc : c < 2 ^ 64) (N : Nat) (hN : N ≤ 1000) (pc pn : Nat) (w : World)
    (hpc : BlockAt w pc #[.int .u64 (c : Int)] 26) (hpn : BlockAt w pn #[.int .i64 (N : Int)] 3) :
    SeqStopsK Fence.wide n Tryd.prog 19 #[.pointer (some ⟨pc, 0, none⟩), .pointer (some ⟨pn, 0, none⟩)]
      (fun k : { k : Nat // k < N } => #[Value.int .i64 (k.1 : Int), .int .u64 (Crc.bitsN k.1 c : Nat)]) (CellsBut R)
      (fun xs => ixs xs = List.range N) (fun pre => ∃ k, k < N ∧ ixs pre = List.range (k + 1)) N w := fun l J Jx W hW hJ _ hY h0 => by
  have cc := (hpc.kept hW).cell 0
  have cn := (hpn.kept hW).cell 0
  simp only [List.getElem?_toArray, List.getElem?_cons_zero] at cc cn
  refine callsIn_of_wp Tryd.func19 rfl trivial ?_ rfl
  simp only [Tryd.ntmps19, List.size_toArray, List.length_nil, List.length_cons, Nat.reduceAdd, Nat.reduceSub, Array.replicate_succ, Array.replicate_zero, List.push_toArray, List.append_toArray, List.nil_append, List.cons_append]
  refine wpIn_wide.2 ?_
  have HJ := Lib.hid h0
  clear hpc hpn hW h0
  go_wp2_with fail
  clear cc cn
  refine wp_of_in n ?_
  gi_loopw [4, 8] (fun x i wr => ∃ k : Nat, k ≤ N ∧ i = .int .i64 k ∧ x = .int .u64 (Crc.bitsN k c : Nat) ∧ ∃ pre : List { k : Nat // k < N }, ixs pre = List.range k ∧ J pre wr) (fun _ i _ => N - (intOf i).toNat)
  case atStart => exact ⟨0, by omega, rfl, rfl, [], rfl, HJ.out⟩
  case round =>
    obtain ⟨k, hk, rfl, rfl, pre, hpre, hJk⟩ := hrel
    have HPre := Lib.hid hpre
    have hlen : pre.length = k := by have := congrArg List.length hpre; rw [ixs_length] at this; simpa using this
    have HLen := Lib.hid hlen
    have hzl := Crc.bits_lt k hc
    have hzs := Crc.bitsN_succ k c
    clear hpre hlen
    by_cases hlt : k < N
    · have hd : decide ((k : Int) < N) = true := decide_eq_true (by omega)
      obtain ⟨f1, t1, a1, b1, hy1, hR1⟩ := hY pre ⟨k, hlt⟩ wr hJk (by rw [HLen.out]; exact hlt)
      have HZS := Lib.hid hzs
      clear hzs
      generalize hz : Crc.bitsN k c = z at *
      have HZ := Lib.hid hz
      clear hz
      gi_wp2_with fail
      refine hR1.mono ?_
      rintro e W3 (⟨rfl, hJ3, hkp⟩ | ⟨rfl, hx3⟩)
      · have HJ3 := Lib.hid hJ3
        clear hkp hJ3 hJk
        gi_wp2_with (refine ⟨trivial, ?_⟩; gi_at_call 20; refine (callsIn_wide.2 (step_any z hzl _)).mono ?_; rintro e w' ⟨rfl, rfl⟩)
        go_roundw
        case rel => exact ⟨k + 1, by omega, by go_num, by rw [HZS.out], pre ++ [⟨k, hlt⟩], by rw [ixs_snoc, HPre.out, List.range_succ], HJ3.out⟩
        case measure => simp [intOf]; omega
      · gi_wp2
        refine bodyPost_ret (results_none rfl _ _ _) rfl ?_
        exact ⟨⟨_, rfl⟩, .inr ⟨pre ++ [⟨k, hlt⟩], ⟨k, hlt, by rw [ixs_snoc, HPre.out, List.range_succ]⟩, hx3⟩⟩
    · have hd : decide ((k : Int) < N) = false := decide_eq_false (by omega)
      have hke : k = N := by omega
      have HKE := Lib.hid hke
      clear hke hzs hzl
      gi_wp2
      go_end0
      exact ⟨⟨_, rfl⟩, .inl ⟨pre, by rw [HPre.out, HKE.out], hJk⟩⟩
end Go.Proofs.YtboheogbllgfjaaDoor
