/- lane.Sum, by what it answers (no condition but that lengths fit an int). -/
import Derived.Test.YtlpjpeonejbpjaaLanePure
import Derived.Test.YtlpjpeonejbpjaaTail
namespace Go.Proofs.Ytlpjpeonejbpjaa
open Go.RowKit Go.Shelf

/-- the bytes summed so far -/
def sumTo (ss : List ByteArray) (k : Nat) : ByteArray := ((ss.drop 1).take k).foldl addedS (ss.getD 0 ByteArray.empty)
theorem sumTo_zero (ss : List ByteArray) : sumTo ss 0 = ss.getD 0 ByteArray.empty := rfl
theorem sumTo_succ (ss : List ByteArray) (k : Nat) (h : k + 1 < ss.length) : sumTo ss (k + 1) = addedS (sumTo ss k) (ss.getD (k + 1) ByteArray.empty) := by
  unfold sumTo
  have e : (ss.drop 1).take (k + 1) = (ss.drop 1).take k ++ [ss.getD (k + 1) ByteArray.empty] := by
    rw [List.take_succ_eq_append_getElem (by simp; omega)]
    simp [List.getD, h]
  rw [e, List.foldl_append]
  rfl
theorem sumTo_size (ss : List ByteArray) : ∀ k, k < ss.length → (sumTo ss k).size = (ss.getD 0 ByteArray.empty).size
  | 0, _ => rfl
  | k + 1, h => by rw [sumTo_succ ss k h, addedS_size, sumTo_size ss k (by omega)]

set_option maxRecDepth 100000 in
set_option maxHeartbeats 400000 in
theorem sum_bad (a : Option Addr) (l cap : Nat) (ss : List ByteArray) (w : World) (h : StrsIn w a l ss) (hf : fitE ss ≠ 0) :
    Calls Try.prog 25 #[.slice a l cap] w fun e w' => e = .returned (.tuple #[.string ByteArray.empty, .int .i64 (fitE ss)]) ∧ w = w' := by
  have hz : (fitE ss != 0) = true := by rw [bne_iff_ne]; exact hf
  have H := Lib.hid h
  clear h hf
  go_enter Try.func25, Try.ntmps25
  go_wp2_with (go_at_call 66; refine (fit_any _ l cap ss _ H.out).mono ?_; rintro e w1 ⟨rfl, rfl⟩)
  go_ret2
  exact ⟨rfl, rfl⟩
theorem sum_none (a : Option Addr) (cap : Nat) (w : World) (h : StrsIn w a 0 []) :
    Calls Try.prog 25 #[.slice a 0 cap] w fun e w' => e = .returned (.tuple #[.string ByteArray.empty, .int .i64 1]) ∧ w = w' := by
  have hz : fitE [] = 0 := by decide
  have H := Lib.hid h
  clear h
  go_enter Try.func25, Try.ntmps25
  go_wp2_with (go_at_call 66; refine (fit_any _ 0 cap [] _ H.out).mono ?_; rintro e w1 ⟨rfl, rfl⟩; rw [hz])
  go_ret2
  exact ⟨rfl, rfl⟩
theorem fitE_zero (ss : List ByteArray) (h : fitE ss = 0) (k : Nat) (hk : k < ss.length) : (ss.getD k ByteArray.empty).size ≤ 8192 ∧ (ss.getD k ByteArray.empty).size = (ss.getD 0 ByteArray.empty).size := by
  have hm : ss.getD k ByteArray.empty ∈ ss := by simp [List.getD, hk]
  unfold fitE at h
  by_cases h1 : ss.any long
  · rw [if_pos h1] at h; cases h
  · rw [if_neg h1] at h
    by_cases h2 : ss.any (unlike ss)
    · rw [if_pos h2] at h; cases h
    · constructor
      · apply Nat.le_of_not_lt
        intro hl
        exact h1 (List.any_eq_true.2 ⟨_, hm, by simpa [long] using hl⟩)
      · apply Classical.byContradiction
        intro hl
        exact h2 (List.any_eq_true.2 ⟨_, hm, by simpa [unlike] using hl⟩)

set_option maxRecDepth 100000 in
set_option maxHeartbeats 1000000 in
theorem sum_any (a : Option Addr) (n cap : Nat) (ss : List ByteArray) (w : World) (h : StrsIn w a (n + 1) ss) (hcap : n + 1 ≤ cap) (hf : fitE ss = 0) :
    Calls Try.prog 25 #[.slice a (n + 1) cap] w fun e w' => e = .returned (.tuple #[.string (sumTo ss n), .int .i64 0]) ∧ Kept w w' := by
  have hle := h.le
  have hlen := h.len_eq
  have H := Lib.hid h
  obtain ⟨b, off, ha, hcell⟩ := h.cells
  obtain rfl := ha (by omega)
  have hz := fun k (hk : k < n + 1) => fitE_zero ss hf k (by omega)
  have hc0 := (hcell 0 (by omega)).2
  have HC := Lib.hid hcell
  have HZ := Lib.hid hz
  have HL := Lib.hid hlen
  have HF := Lib.hid hf
  rw [Nat.add_zero] at hc0
  have hconv := bytes_of (P := Try.prog) 9 44 5 (ss.getD 0 ByteArray.empty) Try.underlying9 Try.underlying44 Try.underlying5
  have hk := bytesBehind_kept w 5 (ss.getD 0 ByteArray.empty)
  have hb := bytesBehind_buf w 5 (ss.getD 0 ByteArray.empty)
  have HK := Lib.hid hk
  have HB := Lib.hid hb
  have hs0 := (hz 0 (by omega)).1
  generalize he0 : ss.getD 0 ByteArray.empty = s0 at hc0 hconv hs0 HK HB
  have HE0 := Lib.hid he0
  clear hz hlen hcell h ha hk hb hf he0
  go_enter Try.func25, Try.ntmps25
  go_wp2_with (go_at_call 66; refine (fit_any _ (n + 1) cap ss _ H.out).mono ?_; rintro e w1 ⟨rfl, rfl⟩; rw [HF.out])
  · obtain rfl : n = 0 := by omega
    clear hconv
    generalize bytesBehind w 5 s0 = w1 at HB HK ⊢
    go_loopw [24] (fun i wr => i = .int .i64 0 ∧ w1 = wr) (fun _ _ => 0)
    case atStart => exact ⟨rfl, rfl⟩
    case round =>
      obtain ⟨rfl, rfl⟩ := hrel
      have hconv := HB.out.string (P := Try.prog) 44 9 5 Try.underlying44 Try.underlying5 Try.underlying9 (grownCap w s0.size 0 5)
      rw [str_size] at hconv
      have hconv' : (convert 44 9 (.slice (some ⟨w.heap.size, 0, none⟩) s0.size (grownCap w s0.size 0 5))).run Try.prog w1 = .ok (.string s0) w1 := hconv
      clear hconv
      go_wp2
      go_ret2
      exact ⟨by show Ending.returned (.tuple #[.string s0, .int .i64 0]) = _; rw [sumTo_zero, HE0.out], HK.out⟩
  · clear hconv
    generalize bytesBehind w 5 s0 = w1 at HB HK ⊢
    generalize grownCap w s0.size 0 5 = gc
    generalize hBe : w.heap.size = B at HB ⊢
    have HBE := Lib.hid (Nat.le_of_eq hBe)
    clear hBe
    go_loopw [24] (fun i wr => ∃ k : Nat, k ≤ n ∧ i = .int .i64 k ∧ Buf wr B (sumTo ss k).data.toList ∧ Kept w wr) (fun i _ => n - (intOf i).toNat)
    case atStart => exact ⟨0, by omega, rfl, by rw [sumTo_zero, HE0.out]; exact HB.out, HK.out⟩
    case round =>
      obtain ⟨k, hk, rfl, hbuf, hkept⟩ := hrel
      have HK2 := Lib.hid hkept
      have HB2 := Lib.hid hbuf
      by_cases hlt : k < n
      · have hct := hkept.cell (HC.out (k + 1) (by omega)).1 (HC.out (k + 1) (by omega)).2
        rw [show off + (k + 1) = off + 1 + k by omega] at hct
        have hts := (HZ.out (k + 1) (by omega)).2
        rw [HE0.out] at hts
        have hss := sumTo_size ss k (by have := HL.out; omega)
        rw [HE0.out] at hss
        have hsc := sumTo_succ ss k (by have := HL.out; omega)
        generalize ss.getD (k + 1) ByteArray.empty = t at hct hts hsc
        have HSC := Lib.hid hsc
        have HSS := Lib.hid hss
        clear hbuf hkept hsc hss
        go_wp2_with fail
        have hl := str_size (sumTo ss k)
        have HLs := Lib.hid hl
        clear hl
        go_loopw [30] (fun i wr' => ∃ j : Nat, j ≤ s0.size ∧ i = .int .i64 j ∧ Buf wr' B (upto (fun i x => x ^^^ byteAt t i) (sumTo ss k).data.toList j) ∧ Kept w wr') (fun i _ => s0.size - (intOf i).toNat)
        case atStart => exact ⟨0, by omega, rfl, by rw [upto_zero]; exact HB2.out, HK2.out⟩
        case round =>
          obtain ⟨j, hj, rfl, hbuf, hkept⟩ := hrel
          have HK3 := Lib.hid hkept
          have HB3 := Lib.hid hbuf
          by_cases hjt : j < s0.size
          · have hjl : j < (sumTo ss k).data.toList.length := by rw [HLs.out, HSS.out]; exact hjt
            have hju : j < (upto (fun i x => x ^^^ byteAt t i) (sumTo ss k).data.toList j).length := by rw [upto_length]; exact hjl
            have hcl := hbuf.cell j hju
            rw [upto_get _ _ _ hjl] at hcl
            have hfr := hbuf.free j hju
            have hst := fun (q : Nat) => (hbuf.kept ((Kept.refl _).drewN q)).set j hju ((sumTo ss k).data.toList[j] ^^^ byteAt t j)
            simp only [upto_set (fun i x => x ^^^ byteAt t i) _ j hjl, UInt8.toNat_xor] at hst
            have hjt2 : j < t.size := by rw [hts]; exact hjt
            rw [← byteAt_get t j hjt2] at hst
            have hx := UInt8.toNat_lt (sumTo ss k).data.toList[j]
            have hy := UInt8.toNat_lt t[j]
            generalize (sumTo ss k).data.toList[j] = x at hcl hst hx
            have HST := Lib.hid hst
            clear hbuf hkept hst hju hjl
            go_wp2_with fail
            refine (wpIn_wide (n := 0)).1 ?_
            refine wpIn_region_quiet_tail_lit 11 (by kernel_rfl) (by kernel_rfl) (by kernel_rfl) ?_
            simp only [List.take_succ_cons, List.take_zero, List.drop_succ_cons, List.drop_zero]
            repeat (gi_big_quiet_step ((gi_at_call 69; exact callsIn_wide.2 (quietly (add_any _ _ hx hy _)))))
            refine wpQuietIn_nil ?_
            intro _ hw'
            obtain ⟨nq, hw''⟩ := hw'
            subst hw''
            gi_wp2
            go_wp2
            go_roundw
            case rel => exact ⟨j + 1, by omega, by go_num, HST.out nq, (HK3.out.drewN nq).setCell HBE.out _⟩
            case measure => simp [intOf]; omega
          · rw [upto_all _ _ _ (by rw [HLs.out, HSS.out]; omega)] at hbuf
            have HB4 := Lib.hid hbuf
            clear hkept hbuf
            go_wp2
            go_roundw
            case rel => exact ⟨k + 1, by omega, by go_num, by rw [HSC.out]; exact HB4.out, HK3.out⟩
            case measure => simp [intOf]; omega
      · obtain rfl : k = n := by omega
        have hconv := hbuf.string (P := Try.prog) 44 9 5 Try.underlying44 Try.underlying5 Try.underlying9 gc
        have hss := sumTo_size ss k (by have := HL.out; omega)
        rw [HE0.out] at hss
        rw [str_size, hss] at hconv
        have hconv' : (convert 44 9 (.slice (some ⟨B, 0, none⟩) s0.size gc)).run Try.prog wr = .ok (.string (sumTo ss k)) wr := hconv
        clear hconv hbuf hkept hss
        go_wp2
        go_ret2
        exact ⟨rfl, HK2.out⟩
end Go.Proofs.Ytlpjpeonejbpjaa
