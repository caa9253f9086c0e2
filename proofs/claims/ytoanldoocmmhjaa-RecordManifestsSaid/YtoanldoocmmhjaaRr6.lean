/- siloref13's reader, by what it answers; record.Take, Bytes, Check (no conditions but on the text's length). -/
import Derived.Test.YtoanldoocmmhjaaRc8
namespace Go.Proofs.Ytoanldoocmmhjaa
open Go.RowKit
/-- the reference's reader: what is left, or that it is bad -/
def RdR (w : World) (p : Nat) (s : St) : Prop := ∃ t : ByteArray, BlockAt w p #[.string t, .bool s.2] 67 ∧ (s.2 = false → t = s.1) ∧ (s.2 = true → s.1 = ByteArray.empty)
theorem RdR.gr {w w' : World} {p : Nat} {s : St} {row : Option Nat} (h : RdR w p s) (g : w.grownBy w' row) (hne : some p ≠ row) : RdR w' p s := by
  obtain ⟨t, h1, h2⟩ := h
  exact ⟨t, h1.gr g hne, h2⟩
theorem RdR.kept {w w' : World} {p : Nat} {s : St} (h : RdR w p s) (k : Kept w w') : RdR w' p s := by
  obtain ⟨t, h1, h2⟩ := h
  exact ⟨t, h1.kept k, h2⟩
theorem RdR.lt {w : World} {p : Nat} {s : St} (h : RdR w p s) : p < w.heap.size := by
  obtain ⟨t, h1, _⟩ := h
  exact h1.lt
theorem rd_empty (n : Nat) : rdT ByteArray.empty n = ByteArray.empty ∧ rdS ByteArray.empty n = ByteArray.empty ∧ rdB ByteArray.empty true n = true := by
  have h0 : ByteArray.empty.size = 0 := rfl
  unfold rdT rdS rdB tk dr
  by_cases h : n = 0
  · subst h; exact ⟨rfl, rfl, rfl⟩
  · rw [if_neg (by omega), if_neg (by omega), if_neg (by omega)]
    exact ⟨rfl, rfl, rfl⟩
set_option maxRecDepth 100000 in
theorem rtake_any (p : Nat) (s : St) (n : Nat) (w : World) (h : RdR w p s) (hz : s.1.size ≤ 9223372036854775807) :
    Calls Try.prog 41 #[.pointer (some ⟨p, 0, none⟩), .int .i64 n] w fun e w' => e = .returned (.string (pt n s)) ∧ RdR w' p (ps n s) ∧ w.grownBy w' (some p) := by
  obtain ⟨rest, bad⟩ := s
  obtain ⟨t, hb, h1, h2⟩ := h
  dsimp only at hb h1 h2 hz
  have c0 : w.cell? ⟨p, 0, none⟩ = some (.string t) := hb.cell 0
  have c1 : w.cell? ⟨p, 1, none⟩ = some (.bool bad) := hb.cell 1
  have f0 := hb.free 0
  have f1 := hb.free 1
  have HB := Lib.hid hb
  clear hb
  cases bad with
  | true =>
    obtain rfl := h2 rfl
    obtain ⟨e1, e2, e3⟩ := rd_empty n
    have HT := Lib.hid (show pt n (ByteArray.empty, true) = ByteArray.empty from e1)
    have HS := Lib.hid (show ps n (ByteArray.empty, true) = (ByteArray.empty, true) by unfold ps; rw [e2, e3])
    clear h1 h2 e1 e2 e3
    go_enter Try.func41, Try.ntmps41
    go_wp2
    go_ret
    refine ⟨by rw [HT.out]; rfl, ?_, gr_set _ _ _ _⟩
    rw [HS.out]
    exact ⟨t, HB.out.set (i := 1) (.bool true), (fun h => by cases h), fun _ => rfl⟩
  | false =>
    obtain rfl := h1 rfl
    by_cases hn : n ≤ t.size
    · have hd : decide (t.size < n) = false := decide_eq_false (by omega)
      have HT := Lib.hid (show pt n (t, false) = t.extract 0 n by unfold pt rdT; rw [if_pos hn]; rfl)
      have HS := Lib.hid (show ps n (t, false) = (t.extract n t.size, false) by unfold ps rdS rdB; rw [if_pos hn, if_pos hn]; rfl)
      clear h1 h2
      go_enter Try.func41, Try.ntmps41
      go_wp2
      go_ret
      refine ⟨by rw [HT.out]; rfl, ?_, gr_set _ _ _ _⟩
      rw [HS.out]
      exact ⟨_, HB.out.set (i := 0) _, fun _ => rfl, fun h => by cases h⟩
    · have hd : decide (t.size < n) = true := decide_eq_true (by omega)
      have HT := Lib.hid (show pt n (t, false) = ByteArray.empty by unfold pt rdT; rw [if_neg hn])
      have HS := Lib.hid (show ps n (t, false) = (ByteArray.empty, true) by unfold ps rdS rdB; rw [if_neg hn, if_neg hn])
      clear h1 h2
      go_enter Try.func41, Try.ntmps41
      go_wp2
      go_ret
      refine ⟨by rw [HT.out]; rfl, ?_, gr_set _ _ _ _⟩
      rw [HS.out]
      exact ⟨t, HB.out.set (i := 1) (.bool true), (fun h => by cases h), fun _ => rfl⟩
theorem pt_size (n : Nat) (s : St) : (pt n s).size ≤ n := (rdT_size s.1 n).1
set_option maxRecDepth 100000 in
theorem rnum_any (p : Nat) (s : St) (w : World) (h : RdR w p s) (hz : s.1.size ≤ 9223372036854775807) :
    Calls Try.prog 42 #[.pointer (some ⟨p, 0, none⟩)] w fun e w' => e = .returned (.int .i64 ((pv 4 s : Nat) : Int)) ∧ RdR w' p (ps 4 s) ∧ w.grownBy w' (some p) := by
  have HH := Lib.hid h
  clear h
  go_enter Try.func42, Try.ntmps42
  go_wp2_with fail
  refine (rtake_any p s 4 _ HH.out hz).mono ?_
  rintro e w1 ⟨rfl, h1, h2⟩
  have H1 := Lib.hid h1
  have H2 := Lib.hid h2
  have hs := pt_size 4 s
  have HP := Lib.hid (show numL (pt 4 s).data.toList = pv 4 s from rfl)
  clear h1 h2
  obtain ⟨t, ht⟩ : ∃ t, pt 4 s = t := ⟨_, rfl⟩
  rw [ht] at hs HP ⊢
  clear ht
  go_wp2_with fail
  refine (num_of t _ (by omega)).mono ?_
  rintro e w' ⟨rfl, rfl⟩
  rw [HP.out]
  go_wp2
  go_ret
  exact ⟨rfl, H1.out, H2.out⟩
theorem rtake1 (p : Nat) (s : St) (w : World) (h : RdR w p s) (hz : s.1.size ≤ 9223372036854775807) :
    Calls Try.prog 41 #[.pointer (some ⟨p, 0, none⟩), .int .i64 1] w fun e w' => e = .returned (.string (pt 1 s)) ∧ RdR w' p (ps 1 s) ∧ w.grownBy w' (some p) := rtake_any p s 1 w h hz
theorem rtake32 (p : Nat) (s : St) (w : World) (h : RdR w p s) (hz : s.1.size ≤ 9223372036854775807) :
    Calls Try.prog 41 #[.pointer (some ⟨p, 0, none⟩), .int .i64 32] w fun e w' => e = .returned (.string (pt 32 s)) ∧ RdR w' p (ps 32 s) ∧ w.grownBy w' (some p) := rtake_any p s 32 w h hz
end Go.Proofs.Ytoanldoocmmhjaa
