/- A number read of bytes, the highest first; the bytes of a number: plain mathematics, and siloref11.Number, High (no conditions but on lengths). -/
import Derived.Test.YtoanldoocmmhjaaOwn
import Derived.Test.YtoanldoocmmhjaaRc0
import Derived.Laws.BitsAllLaws
namespace Go.Proofs.Ytoanldoocmmhjaa
open Go.RowKit

def numL (l : List UInt8) : Nat := l.foldl (fun n c => n * 256 + c.toNat) 0
theorem numL_snoc (l : List UInt8) (c : UInt8) : numL (l ++ [c]) = numL l * 256 + c.toNat := by simp [numL]
theorem numL_lt : ∀ l : List UInt8, numL l < 256 ^ l.length := fun l => by
  have h : ∀ (n : Nat) (l : List UInt8), l.length = n → numL l < 256 ^ n := by
    intro n
    induction n with
    | zero => intro l hl; rw [List.length_eq_zero_iff.1 hl]; decide
    | succ n ih =>
      intro l hl
      have hne : l ≠ [] := by intro h; rw [h] at hl; cases hl
      rw [← List.dropLast_concat_getLast hne, numL_snoc, Nat.pow_succ]
      have h1 := ih l.dropLast (by rw [List.length_dropLast]; omega)
      have h2 := (l.getLast hne).toNat_lt
      omega
  exact h l.length l rfl
theorem numL_take (s : ByteArray) (k : Nat) (h : k < s.size) : numL (s.data.toList.take (k + 1)) = numL (s.data.toList.take k) * 256 + s[k].toNat := by
  rw [List.take_succ_eq_append_getElem (by simpa using h), numL_snoc]
  rfl
theorem numL_small (s : ByteArray) (k : Nat) (h : k ≤ 6) : numL (s.data.toList.take k) < 281474976710656 := by
  have h1 := numL_lt (s.data.toList.take k)
  have h2 : (s.data.toList.take k).length ≤ 6 := by rw [List.length_take]; omega
  have h3 : 256 ^ (s.data.toList.take k).length ≤ 256 ^ 6 := Nat.pow_le_pow_right (by decide) h2
  have h4 : 256 ^ 6 = 281474976710656 := by decide
  omega
theorem ofInt_64 (a : Nat) (h : a < 18446744073709551616) : (BitVec.ofInt 64 (a : Int)).toNat = a := by
  rw [BitVec.toNat_ofInt]
  omega
theorem or256 (x c : Nat) (hx : x < 36028797018963968) (hc : c < 256) : bits .or .i64 (wrap64 ((x : Int) * 256)) (wrap64 (c : Int)) = ((x * 256 + c : Nat) : Int) := by
  have e1 : wrap64 ((x : Int) * 256) = ((x * 256 : Nat) : Int) := by rw [IntWalk.wrap64_in _ (by omega)]; simp
  have e2 : wrap64 (c : Int) = (c : Int) := IntWalk.wrap64_in _ (by omega)
  rw [e1, e2]
  have hj : (x * 256) ||| c = x * 256 + c := nat_join8 _ _ (by omega) hc
  show IntKind.i64.wrap ((BitVec.ofInt 64 ((x * 256 : Nat) : Int) ||| BitVec.ofInt 64 (c : Int)).toNat : Int) = _
  rw [BitVec.toNat_or, ofInt_64 _ (by omega), ofInt_64 _ (by omega), hj]
  exact IntWalk.i64_in _ (by omega)
theorem or256' (x c : Nat) (hx : x < 36028797018963968) (hc : c < 256) : bits .or .i64 ((x : Int) * 256) (wrap64 (c : Int)) = ((x * 256 + c : Nat) : Int) := by
  rw [← or256 x c hx hc, IntWalk.wrap64_in ((x : Int) * 256) (by omega)]
theorem or256c (x c : Nat) (hx : x < 36028797018963968) (hc : c < 256) : bits .or .i64 ((x : Int) * 256) (c : Int) = ((x * 256 + c : Nat) : Int) := by
  rw [← or256 x c hx hc, IntWalk.wrap64_in ((x : Int) * 256) (by omega), IntWalk.wrap64_in (c : Int) (by omega)]
set_option maxRecDepth 100000 in
theorem num_of (s : ByteArray) (w : World) (hz : s.size ≤ 7) :
    Calls Try.prog 40 #[.string s] w fun e w' => e = .returned (.int .i64 (numL s.data.toList)) ∧ w = w' := by
  go_enter Try.func40, Try.ntmps40
  go_wp2
  go_loop [3, 4] (fun n i => ∃ (k : Nat) (x : Nat), k ≤ s.size ∧ i = .int .i64 k ∧ n = .int .i64 x ∧ x = numL (s.data.toList.take k)) (fun _ i => s.size - (intOf i).toNat)
  case atStart => exact ⟨0, 0, by omega, rfl, rfl, rfl⟩
  case round =>
    obtain ⟨k, x, hk, rfl, rfl, hx⟩ := hrel
    have HX := Lib.hid hx
    by_cases hlt : k < s.size
    · have hb := numL_small s k (by omega)
      rw [← hx] at hb
      have HT := Lib.hid (numL_take s k hlt)
      have HO := Lib.hid (or256' x s[k].toNat (by omega) (s[k].toNat_lt))
      clear hx
      go_wp2
      go_round
      case rel => exact ⟨k + 1, x * 256 + s[k].toNat, by omega, by go_num, by rw [HO.out], by rw [HT.out, HX.out]⟩
      case measure => simp [intOf]; omega
    · obtain rfl : k = s.size := by omega
      clear hx
      go_wp2
      go_ret
      exact ⟨by rw [HX.out, List.take_of_length_le (by simp)]; rfl, rfl⟩
theorem made_own (u : World) (n base : Nat) (hb : base ≤ u.heap.size) (hn : n ≤ 1000000) : (u.alloc (.cells (madeCells #[.int .u8 0] n) 5)).ownsRow base 5 1 (.slice (some ⟨u.heap.size, 0, none⟩) n n) n (bv (List.replicate n 0)) := by
  have hc : madeCells #[.int .u8 0] n = (bv (List.replicate n 0)).toArray := by
    unfold bv
    rw [List.map_replicate]
    apply Array.ext
    · simp [madeCells]
    · intro i h1 h2
      simp [madeCells, Nat.mod_one]
  rw [hc]
  exact ⟨by simp [bv], .inr ⟨u.heap.size, n, _, rfl, hb, BlockAt.new u _ _, Nat.le_refl _, by unfold maxLen; omega, by simp [bv], by simp [bv]⟩⟩
/-- 'make([]byte, n)' -/
theorem make_bytes (n : Nat) (hn : n ≤ 281474976710656) : ∀ u : World, (Instr.makeSlice 38 (.int .i64 n) (.int .i64 n)).run Try.prog u =
    .ok (.slice (some ⟨u.heap.size, 0, none⟩) n n) (u.alloc (.cells (madeCells #[.int .u8 0] n) 5)) := fun u => by
  obtain ⟨i0, hi, hz0, hz1, hz2⟩ := info_parts Try.infoU8
  have h := run_make (P := Try.prog) u 38 5 i0 (.int .u8 0) Try.underlying38 hi hz0 .i64 .i64 (n : Int) (n : Int) (by omega) (Int.le_refl _) (by rw [hz2]; omega) (by omega)
  simpa [hz1, Value.cells] using h
theorem made_buf (u : World) (n : Nat) : Buf (u.alloc (.cells (madeCells #[.int .u8 0] n) 5)) u.heap.size (List.replicate n 0) := by
  refine ⟨by simp, fun i hi => ?_, fun i hi => ?_⟩
  · rw [cell_new]
    have hi' : i < n := by simpa using hi
    simp [madeCells, hi', Nat.mod_one]
  · exact (BlockAt.new u (madeCells #[.int .u8 0] n) 5).free i
/-- the last k bytes, ahead of them zeros -/
def hiz (n : Int) (many k : Nat) : List UInt8 := List.replicate (many - k) 0 ++ Rc.hi n k
theorem hiz_zero (n : Int) (many : Nat) : hiz n many 0 = List.replicate many 0 := by simp [hiz, Rc.hi]
theorem hiz_all (n : Int) (many : Nat) : hiz n many many = Rc.hi n many := by simp [hiz]
theorem hiz_length (n : Int) (many k : Nat) (h : k ≤ many) : (hiz n many k).length = many := by simp [hiz, Rc.hi_length]; omega
theorem hiz_set (n : Int) (many k : Nat) (h : k < many) : (hiz n many k).set (many - k - 1) (UInt8.ofNat (n / 2 ^ (8 * k) % 256).toNat) = hiz n many (k + 1) := by
  unfold hiz
  rw [show many - k = (many - (k + 1)) + 1 by omega, List.replicate_succ', List.append_assoc, List.set_append_right _ _ (by simp)]
  simp [Rc.hi]
theorem div_step (n : Int) (k : Nat) : n / 2 ^ (8 * k) / 256 = n / 2 ^ (8 * (k + 1)) := by
  rw [Int.ediv_ediv_of_nonneg (Int.pow_nonneg (by decide)), show (2 : Int) ^ (8 * (k + 1)) = 2 ^ (8 * k) * 256 by rw [show 8 * (k + 1) = 8 * k + 8 by omega, Int.pow_add]; rfl]
theorem div_bound (n : Int) (k : Nat) (h : -9223372036854775808 ≤ n ∧ n ≤ 9223372036854775807) : -9223372036854775808 ≤ n / 2 ^ (8 * k) ∧ n / 2 ^ (8 * k) ≤ 9223372036854775807 := by
  have hp : (0 : Int) < 2 ^ (8 * k) := Int.pow_pos (by decide)
  generalize (2 : Int) ^ (8 * k) = d at hp
  constructor
  · by_cases h0 : 0 ≤ n
    · have := Int.ediv_nonneg h0 (Int.le_of_lt hp); omega
    · have h1 : n ≤ n / d := by
        rw [Int.le_ediv_iff_mul_le hp]
        have : n * d ≤ n * 1 := Int.mul_le_mul_of_nonpos_left (by omega) (by omega)
        omega
      omega
  · by_cases h0 : 0 ≤ n
    · have := Int.ediv_le_self d h0; omega
    · have : n / d < 0 := Int.ediv_neg_of_neg_of_pos (by omega) hp
      omega
set_option maxRecDepth 100000 in
set_option maxHeartbeats 800000 in
theorem high_any (n : Int) (many : Nat) (w : World) (hn : -9223372036854775808 ≤ n ∧ n ≤ 9223372036854775807) (hm : many ≤ 8) :
    Calls Try.prog 35 #[.int .i64 n, .int .i64 many] w fun e w' => e = .returned (.string ⟨(Rc.hi n many).toArray⟩) ∧ Kept w w' := by
  have hmk := make_bytes many (by omega)
  have hb0 := made_buf w many
  rw [← hiz_zero n many] at hb0
  have HK := Lib.hid ((Kept.refl w).alloc (.cells (madeCells #[.int .u8 0] many) 5))
  have HN := Lib.hid hn
  generalize madeCells #[.int .u8 0] many = Z at *
  have HB := Lib.hid hb0
  clear hb0 hn
  go_enter Try.func35, Try.ntmps35
  go_wp2_with fail
  clear hmk
  generalize w.alloc (.cells Z 5) = w1 at *
  go_loopw [0, 6] (fun x i wr => ∃ (k : Nat) (y : Int), k ≤ many ∧ i = .int .i64 ((many : Int) - k - 1) ∧ x = .int .i64 y ∧ y = n / 2 ^ (8 * k) ∧ Buf wr w.heap.size (hiz n many k) ∧ Kept w wr) (fun _ i _ => (intOf i + 1).toNat)
  case atStart => exact ⟨0, n, by omega, by congr 1, rfl, by simp, HB.out, HK.out⟩
  case round =>
    obtain ⟨k, y, hk, rfl, rfl, hy, hbf, hK⟩ := hrel
    have HY := Lib.hid hy
    have HBF := Lib.hid hbf
    have HKW := Lib.hid hK
    have hyb : -9223372036854775808 ≤ y ∧ y ≤ 9223372036854775807 := by rw [hy]; exact div_bound n k HN.out
    clear hy hbf hK
    by_cases hlt : k < many
    · have hl := hiz_length n many k hk
      obtain ⟨m, hm'⟩ : ∃ m : Nat, m = many - k - 1 := ⟨_, rfl⟩
      obtain ⟨u, c⟩ : ∃ u : UInt8, wr.cell? ⟨w.heap.size, m, none⟩ = some (.int .u8 (u.toNat : Int)) := ⟨_, HBF.out.cell m (by omega)⟩
      have f := HBF.out.free m (by omega)
      have hst := HBF.out.set m (by omega) (UInt8.ofNat (y % 256).toNat)
      have hv : (((UInt8.ofNat (y % 256).toNat).toNat : Nat) : Int) = y % 256 := by
        rw [UInt8.toNat_ofNat']
        have h0 : 0 ≤ y % 256 := Int.emod_nonneg _ (by decide)
        have h1 : y % 256 < 256 := Int.emod_lt_of_pos _ (by decide)
        omega
      rw [hv, hm', HY.out, hiz_set n many k hlt, ← HY.out, ← hm'] at hst
      have HST := Lib.hid hst
      have hm1 : (many : Int) - k - 1 = (m : Int) := by omega
      have hmm : m < many := by omega
      have HM := Lib.hid hm'
      rw [hm1]
      clear hl hv hm' hm1 hst
      go_wp2
      go_roundw
      case rel => exact ⟨k + 1, y / 256, by omega, by congr 1; (have := HM.out; omega), rfl, by rw [HY.out]; exact div_step n k, HST.out, HKW.out.setCell (Nat.le_refl _) _⟩
      case measure => simp [intOf]
    · obtain rfl : many = k := by omega
      have hcv := HBF.out.string (P := Try.prog) 38 9 5 Try.underlying38 Try.underlying5 Try.underlying9 many
      rw [hiz_all, Rc.hi_length] at hcv
      have hm1 : (many : Int) - many - 1 = -1 := by omega
      rw [hm1]
      clear hm1
      go_wp2
      go_ret
      exact ⟨rfl, HKW.out⟩
theorem high1 (n : Int) (w : World) (hn : -9223372036854775808 ≤ n ∧ n ≤ 9223372036854775807) :
    Calls Try.prog 35 #[.int .i64 n, .int .i64 1] w fun e w' => e = .returned (.string ⟨(Rc.hi n 1).toArray⟩) ∧ Kept w w' := high_any n 1 w hn (by omega)
theorem high4 (n : Int) (w : World) (hn : -9223372036854775808 ≤ n ∧ n ≤ 9223372036854775807) :
    Calls Try.prog 35 #[.int .i64 n, .int .i64 4] w fun e w' => e = .returned (.string ⟨(Rc.hi n 4).toArray⟩) ∧ Kept w w' := high_any n 4 w hn (by omega)
theorem rnumber_any (n : Int) (w : World) (hn : -9223372036854775808 ≤ n ∧ n ≤ 9223372036854775807) :
    Calls Try.prog 36 #[.int .i64 n] w fun e w' => e = .returned (.string ⟨(Rc.hi n 4).toArray⟩) ∧ Kept w w' := by
  go_enter Try.func36, Try.ntmps36
  go_wp2_with fail
  refine (high4 n _ hn).mono ?_
  rintro e w' ⟨rfl, hk⟩
  have HK := Lib.hid hk
  clear hk
  go_wp2
  go_ret
  exact ⟨rfl, HK.out⟩
end Go.Proofs.Ytoanldoocmmhjaa
