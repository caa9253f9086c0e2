/- The walk of the law LaneOrders: it answers true and changes nothing that was there (no conditions). -/
import Derived.Test.YtlpjpeonejbpjaaLaneBack
import Derived.Test.YtlpjpeonejbpjaaLaneSum
namespace Go.Proofs.Ytlpjpeonejbpjaa
open Go.ChangeShapes Go.WideShapes Go.ChangeAt Go.RowKit Go.Joins

theorem fitE_ok (ss : List ByteArray) (q : Nat) (hq : q ≤ 8192) (h : ∀ s ∈ ss, s.size = q) : fitE ss = 0 := by
  have h1 : ss.any long = false := by
    rw [List.any_eq_false]
    intro s hs
    have := h s hs
    simp [long]
    omega
  have h2 : ss.any (unlike ss) = false := by
    rw [List.any_eq_false]
    intro s hs
    cases ss with
    | nil => cases hs
    | cons t l =>
      have e1 := h s hs
      have e2 := h t (by simp)
      simp [unlike, e1, e2]
  unfold fitE
  rw [h1, h2]
  rfl
theorem order_one (a b : ByteArray) (q : Nat) (ha : a.size = q) (hb : b.size = q) : sumTo [a, zeroS q, b, a] 3 = b := by
  show addedS (addedS (addedS a (zeroS q)) b) a = b
  refine ext_byteAt (by rw [addedS_size, addedS_size, addedS_size, ha, hb]) (fun i hi => ?_)
  rw [addedS_size, addedS_size, addedS_size] at hi
  rw [byteAt_added _ _ i (by rw [addedS_size, addedS_size]; exact hi), byteAt_added _ _ i (by rw [addedS_size]; exact hi), byteAt_added _ _ i hi, byteAt_zero q i (by omega), UInt8.xor_zero,
    UInt8.xor_comm (byteAt a i), UInt8.xor_assoc, UInt8.xor_self, UInt8.xor_zero]
theorem order_two (a b : ByteArray) (q : Nat) : sumTo [b, a, a, zeroS q, zeroS q] 4 = b := by
  show addedS (addedS (addedS (addedS b a) a) (zeroS q)) (zeroS q) = b
  rw [added_twice, added_twice]

theorem within_53 (w : World) : Calls Try.prog 28 #[.int .i64 5, .int .i64 3] w fun e w' => e = .returned (.int .i64 2) ∧ w = w' := by
  go_enter Try.func28, Try.ntmps28
  go_wp2
  go_ret
  exact ⟨rfl, rfl⟩

set_option maxRecDepth 100000 in
set_option maxHeartbeats 1000000 in
theorem laneOrders_walk {W : World} {v : Value} {a : Option Addr} {l cap : Nat} {ss : List ByteArray} {c : Nat} {n : Int} (h : AskL W v a l cap ss c n) :
    Calls Try.prog 6 #[v] W fun e W' => e = .returned (.bool true) ∧ Below W.heap.size W W' := by
  obtain ⟨rfl, hS, hc, hn⟩ := h
  clear hn
  have hle := hS.le
  have HS := Lib.hid (hS.kept ((Kept.refl W).alloc (.cells #[.slice a l cap, .int .u8 (c : Int), .int .i64 n] 24)))
  clear hS
  have hask : ∀ wr, Kept (W.alloc (.cells #[.slice a l cap, .int .u8 (c : Int), .int .i64 n] 24)) wr → wr.cell? ⟨W.heap.size, 0, none⟩ = some (.slice a l cap) ∧ wr.cell? ⟨W.heap.size, 1, none⟩ = some (.int .u8 (c : Int)) :=
    fun wr h => ⟨h.cell (by simp) (cell_new _ _ _ 0), h.cell (by simp) (cell_new _ _ _ 1)⟩
  have hend : ∀ wr, Kept (W.alloc (.cells #[.slice a l cap, .int .u8 (c : Int), .int .i64 n] 24)) wr → Below W.heap.size W wr := fun wr h => ((Kept.refl W).alloc _).trans h
  have HE := Lib.hid hend
  have HA := Lib.hid hask
  clear hend hask
  go_enter Try.func6, Try.ntmps6
  go_wp2_with fail
  refine (heavy2_any _ _ _ ss _ _ _ HS.out).mono ?_
  rintro e w1 ⟨⟨b, rfl⟩, hB⟩
  have hca := (HA.out w1 hB).1
  have hSr := HS.out.kept hB
  have HB := Lib.hid hB
  clear hB
  cases b
  rotate_left
  · clear hSr
    go_wp2
    go_ret
    exact ⟨rfl, HE.out _ HB.out⟩
  by_cases h2 : l < 2
  · clear hSr
    have hd : decide ((l : Int) < 2) = true := decide_eq_true (by omega)
    go_wp2
    go_ret
    exact ⟨rfl, HE.out _ HB.out⟩
  · have hd : decide ((l : Int) < 2) = false := decide_eq_false (by omega)
    obtain ⟨bb, off, ha, hcell⟩ := hSr.cells
    obtain rfl := ha (by omega)
    obtain ⟨hbb, hc0⟩ := hcell 0 (by omega)
    obtain ⟨_, hc1⟩ := hcell 1 (by omega)
    rw [Nat.add_zero] at hc0
    have hs0 := hSr.size 0 (by omega)
    have hs1 := hSr.size 1 (by omega)
    generalize ss.getD 0 ByteArray.empty = s at hc0 hs0
    generalize ss.getD 1 ByteArray.empty = t at hc1 hs1
    have hl0 : 0 < l := by omega
    have hl1 : 1 < l := by omega
    clear hcell hSr ha h2
    go_wp2_with fail
    go_quiet (fail)
    obtain ⟨q, hq, hqs, hqt⟩ : ∃ q : Nat, (if t.size < s.size then (t.size : Int) else (s.size : Int)) = (q : Int) ∧ q ≤ s.size ∧ q ≤ t.size := by
      by_cases h : t.size < s.size
      · exact ⟨t.size, if_pos h, by omega, Nat.le_refl _⟩
      · exact ⟨s.size, if_neg h, Nat.le_refl _, by omega⟩
    rw [hq]
    clear hq
    have HK' := Lib.hid (HB.out.drewN nq)
    have hc0 : (w1.drewN nq).cell? ⟨bb, off, none⟩ = some (.string s) := hc0
    have hc1 : (w1.drewN nq).cell? ⟨bb, off + 1, none⟩ = some (.string t) := hc1
    have hca : (w1.drewN nq).cell? ⟨W.heap.size, 0, none⟩ = some (.slice (some ⟨bb, off, none⟩) l cap) := hca
    generalize w1.drewN nq = w2 at HK' hc0 hc1 hca ⊢
    clear HB
    by_cases hbig : 2000 < q
    · go_wp2
      go_ret
      exact ⟨rfl, HE.out _ HK'.out⟩
    · have hq2 : q ≤ 2000 := by omega
      clear hbig
      go_wp2_with fail
      refine (zero_any q (by omega) _).mono ?_
      rintro e w3 ⟨rfl, h3⟩
      have hc0 := h3.cell (cell_lt hc0) hc0
      have hc1 := h3.cell (cell_lt hc1) hc1
      have hca := h3.cell (cell_lt hca) hca
      have HK3 := Lib.hid (HK'.out.trans h3)
      clear h3 HK'
      go_wp2_with fail
      go_quiet (fail)
      have hAs := extract_size s q hqs
      have hBs := extract_size t q hqt
      generalize s.extract 0 q = A at hAs ⊢
      generalize t.extract 0 q = B at hBs ⊢
      have HK4 := Lib.hid (HK3.out.drewN nq)
      clear HK3 hc0 hc1 hca hbb hs0 hs1 hqs hqt hl0 hl1 hd
      generalize w3.drewN nq = w4 at HK4 ⊢
      have hzs := zeroS_size q
      have hsz : ∀ s, s = A ∨ s = zeroS q ∨ s = B → s.size = q := by
        rintro s (rfl | rfl | rfl)
        · exact hAs
        · exact hzs
        · exact hBs
      have HZ := Lib.hid hsz
      have HO1 := Lib.hid (order_one A B q hAs hBs)
      have HO2 := Lib.hid (order_two A B q)
      clear hsz hzs hAs hBs
      generalize zeroS q = Z at HZ HO1 HO2 ⊢
      have hf1 : fitE [A, Z, B, A] = 0 := fitE_ok _ q (by omega) (fun s hs => HZ.out s (by simp only [List.mem_cons, List.not_mem_nil, or_false] at hs; rcases hs with h | h | h | h <;> simp [h]))
      have hf2 : fitE [B, A, A, Z, Z] = 0 := fitE_ok _ q (by omega) (fun s hs => HZ.out s (by simp only [List.mem_cons, List.not_mem_nil, or_false] at hs; rcases hs with h | h | h | h | h <;> simp [h]))
      have HF1 := Lib.hid hf1
      have HF2 := Lib.hid hf2
      clear hf1 hf2
      go_wp2_with fail
      refine (sum_any (some ⟨w4.heap.size, 0, none⟩) 3 4 [A, Z, B, A] _ (StrsIn.built w4 [A, Z, B, A] 9 (by simp) (fun s hs => ?_)) (by omega) HF1.out).mono ?_
      · have := HZ.out s (by simp only [List.mem_cons, List.not_mem_nil, or_false] at hs; rcases hs with h | h | h | h <;> simp [h])
        omega
      rintro e w5 ⟨rfl, h5⟩
      rw [HO1.out]
      have HK5 := Lib.hid ((HK4.out.alloc (.cells #[.string A, .string Z, .string B, .string A] 9)).trans h5)
      clear h5
      go_wp2_with fail
      refine (sum_any (some ⟨w5.heap.size, 0, none⟩) 4 5 [B, A, A, Z, Z] _ (StrsIn.built w5 [B, A, A, Z, Z] 9 (by simp) (fun s hs => ?_)) (by omega) HF2.out).mono ?_
      · have := HZ.out s (by simp only [List.mem_cons, List.not_mem_nil, or_false] at hs; rcases hs with h | h | h | h | h <;> simp [h])
        omega
      rintro e w6 ⟨rfl, h6⟩
      rw [HO2.out]
      have HK6 := Lib.hid ((HK5.out.alloc (.cells #[.string B, .string A, .string A, .string Z, .string Z] 9)).trans h6)
      clear h6 HO1 HO2 HF1 HF2
      go_wp2_with (first | (go_at_call 18; refine (num2_any _ _).mono ?_; rintro e w' ⟨rfl, rfl⟩) | (go_at_call 28; refine (within_53 _).mono ?_; rintro e w' ⟨rfl, rfl⟩) | (go_at_call 23; refine (wakes2_any _).mono ?_; rintro e w' ⟨rfl, hB⟩))
      go_ret
      exact ⟨rfl, HE.out _ (HK6.out.trans hB)⟩
end Go.Proofs.Ytlpjpeonejbpjaa
