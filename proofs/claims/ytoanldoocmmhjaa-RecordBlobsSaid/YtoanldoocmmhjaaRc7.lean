/- record's reader, by what it answers (no conditions but that numbers are ints). -/
import Derived.Test.YtoanldoocmmhjaaRc4
import Derived.Test.YtoanldoocmmhjaaNum
import Derived.Test.YtoanldoocmmhjaaShelf
namespace Go.Proofs.Ytoanldoocmmhjaa
open Go.RowKit
/-- a text's first bytes, the others -/
def tk (s : ByteArray) (n : Nat) : ByteArray := s.extract 0 n
def dr (s : ByteArray) (n : Nat) : ByteArray := s.extract n s.size
theorem tk_size (s : ByteArray) (n : Nat) (h : n ≤ s.size) : (tk s n).size = n := by unfold tk; rw [ByteArray.size_extract]; omega
theorem dr_size (s : ByteArray) (n : Nat) : (dr s n).size = s.size - n := by unfold dr; rw [ByteArray.size_extract]; omega
/-- what reading n bytes comes to: the text, what is left, is it short? -/
def rdT (s : ByteArray) (n : Nat) : ByteArray := if n ≤ s.size then tk s n else ByteArray.empty
def rdS (s : ByteArray) (n : Nat) : ByteArray := if n ≤ s.size then dr s n else ByteArray.empty
def rdB (s : ByteArray) (b : Bool) (n : Nat) : Bool := if n ≤ s.size then b else true
theorem rdS_size (s : ByteArray) (n : Nat) : (rdS s n).size ≤ s.size := by
  unfold rdS
  split
  · rw [dr_size]; omega
  · exact Nat.zero_le _
theorem rdT_size (s : ByteArray) (n : Nat) : (rdT s n).size ≤ n ∧ (rdT s n).size ≤ s.size := by
  unfold rdT
  split
  · rename_i h; rw [tk_size s n h]; omega
  · exact ⟨Nat.zero_le _, Nat.zero_le _⟩
set_option maxRecDepth 100000 in
theorem text_any (p : Nat) (rest : ByteArray) (short : Bool) (n : Nat) (w : World) (h : BlockAt w p #[.string rest, .bool short] 63) (_hz : rest.size ≤ 9223372036854775807) :
    Calls Try.prog 51 #[.pointer (some ⟨p, 0, none⟩), .int .i64 n] w fun e w' => e = .returned (.string (rdT rest n)) ∧ BlockAt w' p #[.string (rdS rest n), .bool (rdB rest short n)] 63 ∧ w.grownBy w' (some p) := by
  have c0 : w.cell? ⟨p, 0, none⟩ = some (.string rest) := h.cell 0
  have c1 : w.cell? ⟨p, 1, none⟩ = some (.bool short) := h.cell 1
  have f0 := h.free 0
  have f1 := h.free 1
  have HH := Lib.hid h
  clear h
  by_cases hn : n ≤ rest.size
  · have hd : decide (rest.size < n) = false := decide_eq_false (by omega)
    have HT := Lib.hid (show rdT rest n = rest.extract 0 n by unfold rdT; rw [if_pos hn]; rfl)
    have HS := Lib.hid (show rdS rest n = rest.extract n rest.size by unfold rdS; rw [if_pos hn]; rfl)
    have HB := Lib.hid (show rdB rest short n = short by unfold rdB; rw [if_pos hn])
    go_enter Try.func51, Try.ntmps51
    go_wp2
    go_ret
    exact ⟨by rw [HT.out]; rfl, by rw [HS.out, HB.out]; exact HH.out.set _, gr_set _ _ _ _⟩
  · have hd : decide (rest.size < n) = true := decide_eq_true (by omega)
    have HT := Lib.hid (show rdT rest n = ByteArray.empty by unfold rdT; rw [if_neg hn])
    have HS := Lib.hid (show rdS rest n = ByteArray.empty by unfold rdS; rw [if_neg hn])
    have HB := Lib.hid (show rdB rest short n = true by unfold rdB; rw [if_neg hn])
    go_enter Try.func51, Try.ntmps51
    go_wp2
    go_ret
    have h1 := HH.out.set (i := 0) (.string ByteArray.empty)
    have h2 := h1.set (i := 1) (.bool true)
    exact ⟨by rw [HT.out]; rfl, by rw [HS.out, HB.out]; exact h2, gr_trans (gr_set _ _ _ _) (gr_set _ _ _ _)⟩
set_option maxRecDepth 100000 in
set_option maxHeartbeats 800000 in
theorem value_any (p : Nat) (rest : ByteArray) (short : Bool) (n : Nat) (w : World) (h : BlockAt w p #[.string rest, .bool short] 63) (hz : rest.size ≤ 9223372036854775807) (hn : n ≤ 7) :
    Calls Try.prog 49 #[.pointer (some ⟨p, 0, none⟩), .int .i64 n] w fun e w' => e = .returned (.int .i64 (numL (rdT rest n).data.toList)) ∧ BlockAt w' p #[.string (rdS rest n), .bool (rdB rest short n)] 63 ∧ w.grownBy w' (some p) := by
  have HH := Lib.hid h
  clear h
  go_enter Try.func49, Try.ntmps49
  go_wp2_with fail
  refine (text_any p rest short n _ HH.out hz).mono ?_
  rintro e w1 ⟨rfl, hb1, hs1⟩
  have HB1 := Lib.hid hb1
  have HS1 := Lib.hid hs1
  have hsz := (rdT_size rest n).1
  clear hb1 hs1
  obtain ⟨s, hse⟩ : ∃ s, s = rdT rest n := ⟨_, rfl⟩
  rw [← hse] at hsz ⊢
  have HSE := Lib.hid hse
  clear hse
  have hcv := bytes_of (P := Try.prog) 9 38 5 s Try.underlying9 Try.underlying38 Try.underlying5 w1
  have HK2 := Lib.hid (bytesBehind_kept w1 5 s)
  have HBF := Lib.hid (bytesBehind_buf w1 5 s)
  generalize bytesBehind w1 5 s = w2 at *
  generalize grownCap w1 s.size 0 5 = cp at *
  go_wp2_with fail
  clear hcv
  go_loop [5, 13] (fun n i => ∃ (k : Nat) (x : Nat), k ≤ s.size ∧ i = .int .i64 k ∧ n = .int .i64 x ∧ x = numL (s.data.toList.take k)) (fun _ i => s.size - (intOf i).toNat)
  case atStart => exact ⟨0, 0, by omega, rfl, rfl, rfl⟩
  case round =>
    obtain ⟨k, x, hk, rfl, rfl, hx⟩ := hrel
    have HX := Lib.hid hx
    by_cases hlt : k < s.size
    · have hb := numL_small s k (by omega)
      rw [← hx] at hb
      have c : w2.cell? ⟨w1.heap.size, k, none⟩ = some (.int .u8 (s[k].toNat : Int)) := HBF.out.cell k (by simpa using hlt)
      have HT := Lib.hid (numL_take s k hlt)
      have HO := Lib.hid (or256c x s[k].toNat (by omega) (s[k].toNat_lt))
      have hc := s[k].toNat_lt
      generalize s[k].toNat = cc at *
      clear hx
      go_wp2
      go_round
      case rel => exact ⟨k + 1, x * 256 + cc, by omega, by go_num, by rw [HO.out], by rw [HT.out, HX.out]⟩
      case measure => simp [intOf]; omega
    · obtain rfl : s.size = k := by omega
      clear hx
      go_wp2
      go_ret
      exact ⟨by rw [HX.out, ← HSE.out, List.take_of_length_le (by simp)]; rfl, HB1.out.kept HK2.out, gr_trans HS1.out (gr_kept HK2.out _)⟩
theorem value1 (p : Nat) (rest : ByteArray) (short : Bool) (w : World) (h : BlockAt w p #[.string rest, .bool short] 63) (hz : rest.size ≤ 9223372036854775807) :
    Calls Try.prog 49 #[.pointer (some ⟨p, 0, none⟩), .int .i64 1] w fun e w' => e = .returned (.int .i64 (numL (rdT rest 1).data.toList)) ∧ BlockAt w' p #[.string (rdS rest 1), .bool (rdB rest short 1)] 63 ∧ w.grownBy w' (some p) := value_any p rest short 1 w h hz (by omega)
theorem value4 (p : Nat) (rest : ByteArray) (short : Bool) (w : World) (h : BlockAt w p #[.string rest, .bool short] 63) (hz : rest.size ≤ 9223372036854775807) :
    Calls Try.prog 49 #[.pointer (some ⟨p, 0, none⟩), .int .i64 4] w fun e w' => e = .returned (.int .i64 (numL (rdT rest 4).data.toList)) ∧ BlockAt w' p #[.string (rdS rest 4), .bool (rdB rest short 4)] 63 ∧ w.grownBy w' (some p) := value_any p rest short 4 w h hz (by omega)
theorem text32 (p : Nat) (rest : ByteArray) (short : Bool) (w : World) (h : BlockAt w p #[.string rest, .bool short] 63) (hz : rest.size ≤ 9223372036854775807) :
    Calls Try.prog 51 #[.pointer (some ⟨p, 0, none⟩), .int .i64 32] w fun e w' => e = .returned (.string (rdT rest 32)) ∧ BlockAt w' p #[.string (rdS rest 32), .bool (rdB rest short 32)] 63 ∧ w.grownBy w' (some p) := text_any p rest short 32 w h hz
/-- a number of 32 bits with its sign -/
def sgn (x : Nat) : Int := if x < 2147483648 then (x : Int) else (x : Int) - 4294967296
theorem numL_rd (s : ByteArray) (n : Nat) (h : n ≤ 4) : numL (rdT s n).data.toList < 4294967296 := by
  have h1 := numL_lt (rdT s n).data.toList
  have h2 : (rdT s n).data.toList.length ≤ 4 := by
    have := (rdT_size s n).1
    have e : (rdT s n).data.toList.length = (rdT s n).size := by simp
    omega
  have h3 : 256 ^ (rdT s n).data.toList.length ≤ 256 ^ 4 := Nat.pow_le_pow_right (by decide) h2
  have h4 : 256 ^ 4 = 4294967296 := by decide
  omega
theorem sgn_wrap (x : Nat) (h : x < 4294967296) : wrap64 (wrap32 (x : Int)) = sgn x := by
  unfold wrap64 wrap32 sgn
  split <;> omega
theorem sgn_bounds (x : Nat) (h : x < 4294967296) : -2147483648 ≤ sgn x ∧ sgn x ≤ 2147483647 := by
  unfold sgn
  split <;> omega
set_option maxRecDepth 100000 in
theorem signed_any (p : Nat) (rest : ByteArray) (short : Bool) (w : World) (h : BlockAt w p #[.string rest, .bool short] 63) (hz : rest.size ≤ 9223372036854775807) :
    Calls Try.prog 52 #[.pointer (some ⟨p, 0, none⟩)] w fun e w' => e = .returned (.int .i64 (sgn (numL (rdT rest 4).data.toList))) ∧ BlockAt w' p #[.string (rdS rest 4), .bool (rdB rest short 4)] 63 ∧ w.grownBy w' (some p) := by
  have hx := numL_rd rest 4 (by omega)
  go_enter Try.func52, Try.ntmps52
  go_wp2_with fail
  refine (value4 p rest short _ h hz).mono ?_
  rintro e w1 ⟨rfl, hb1, hs1⟩
  have HB1 := Lib.hid hb1
  have HS1 := Lib.hid hs1
  clear hb1 hs1 h
  obtain ⟨x, hxe⟩ : ∃ x, x = numL (rdT rest 4).data.toList := ⟨_, rfl⟩
  rw [← hxe] at hx ⊢
  have HW := Lib.hid (sgn_wrap x hx)
  have HX := Lib.hid hxe
  clear hxe
  go_wp2
  go_ret
  exact ⟨by rw [← HX.out, ← HW.out]; rfl, HB1.out, HS1.out⟩
end Go.Proofs.Ytoanldoocmmhjaa
