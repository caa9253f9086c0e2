/- silolaw3's small helpers: that the package wakes, and whether an argument is heavy (no conditions). -/
import Derived.Test.YtlpjpeonejbpjaaAsk3
namespace Go.Proofs.Ytlpjpeonejbpjaa
open Go.RowKit

def wakeF : Nat → Nat → Nat := fun i j => if i = 1 ∧ j = 0 then 0 else 1
theorem wakeF_bt : Bt wakeF := fun i j => by unfold wakeF; split <;> omega
theorem wake_rank : rankF 2 2 wakeF = 2 := by decide +kernel
theorem wake_inv : ((List.range 2).all fun i => (List.range 2).all fun j => invF 2 wakeF i j == wakeF i j) = true := by decide +kernel
theorem wake_inv' (i j : Nat) (hi : i < 2) (hj : j < 2) : invF 2 wakeF i j = wakeF i j := by
  have h := wake_inv
  rw [List.all_eq_true] at h
  have h1 := h i (List.mem_range.2 hi)
  rw [List.all_eq_true] at h1
  simpa using h1 j (List.mem_range.2 hj)
theorem wake_lit (u : World) : MatR (u.alloc (.cells #[.int .u8 1, .int .u8 1, .int .u8 0, .int .u8 1] 5)) u.heap.size 0 2 2 wakeF := fun i j hi hj => by
  rw [cell_new]
  match i, hi, j, hj with
  | 0, _, 0, _ => rfl
  | 0, _, 1, _ => rfl
  | 1, _, 0, _ => rfl
  | 1, _, 1, _ => rfl
set_option maxRecDepth 100000 in
set_option maxHeartbeats 1000000 in
theorem wakes3_any (w : World) : Calls Try.prog 47 #[] w fun e w' => e = .returned (.bool true) ∧ Below w.heap.size w w' := by
  have HWL := Lib.hid wake_lit
  go_enter Try.func47, Try.ntmps47
  go_wp2_with fail
  refine (invert_any 2 w.heap.size 0 4 wakeF (by omega) (by omega) wakeF_bt _ (by exact HWL.out w)).mono ?_
  rintro e w1 ⟨h1, _, hk⟩
  obtain ⟨b, off, rfl, hb, hm⟩ := h1 wake_rank
  have hm2 := hm.congr (G := wakeF) wake_inv'
  have HM := Lib.hid hm2
  have HK := Lib.hid (((Kept.refl w).alloc _).trans hk)
  clear h1 hb hm hm2 hk
  go_wp2_with fail
  refine (num3_any _ _).mono ?_
  rintro e w' ⟨rfl, rfl⟩
  go_wp2_with fail
  have k2 : Kept w1 ((w1.alloc (.cells #[.int .i64 2, .int .i64 2, .slice (some ⟨b, off, none⟩) 4 4] 50)).alloc (.cells #[.int .u8 1, .int .u8 1, .int .u8 0, .int .u8 1] 5)) := ((Kept.refl w1).alloc _).alloc _
  have hl := HWL.out (w1.alloc (.cells #[.int .i64 2, .int .i64 2, .slice (some ⟨b, off, none⟩) 4 4] 50))
  rw [World.size_alloc] at hl
  refine (eq_matrix 2 2 (some ⟨b, off, none⟩) (some ⟨w1.heap.size + 1, 0, none⟩) 4 4 4 (flat 2 wakeF) (by omega) _ (by exact (HM.out.kept k2).cell.flat) (by exact hl.flat)).mono ?_
  rintro e w2 ⟨rfl, hk2⟩
  have HK2 := Lib.hid ((HK.out.trans k2).trans hk2)
  clear k2 hl hk2
  go_wp2
  go_ret
  exact ⟨rfl, HK2.out⟩
/-- how much texts are, as the program reckons it: on beyond a million it stops -/
def txt (ss : List ByteArray) (l : Nat) : Nat → Int
  | 0 => l
  | k + 1 => if txt ss l k < 1048576 then wrap64 (txt ss l k + ((ss.getD k ByteArray.empty).size : Int)) else txt ss l k
theorem txt_stays (ss : List ByteArray) (l k : Nat) (h : ¬ txt ss l k < 1048576) : ∀ j, txt ss l (k + j) = txt ss l k
  | 0 => rfl
  | j + 1 => by
    have ih := txt_stays ss l k h j
    show (if txt ss l (k + j) < 1048576 then _ else txt ss l (k + j)) = _
    rw [ih, if_neg h]
set_option maxRecDepth 100000 in
theorem texts_val (a : Option Addr) (l cap : Nat) (ss : List ByteArray) (w : World) (h : StrsIn w a l ss) :
    Calls Try.prog 65 #[.slice a l cap] w fun e w' => e = .returned (.int .i64 (txt ss l l)) ∧ w = w' := by
  have hle := h.le
  have HH := Lib.hid h
  clear h
  go_enter Try.func65, Try.ntmps65
  go_wp2
  go_loopw [3, 4] (fun m i wr => ∃ k : Nat, k ≤ l ∧ i = .int .i64 k ∧ m = .int .i64 (txt ss l k) ∧ w = wr) (fun _ i _ => l - (intOf i).toNat)
  case atStart => exact ⟨0, by omega, rfl, rfl, rfl⟩
  case round =>
    obtain ⟨k, hk, rfl, rfl, rfl⟩ := hrel
    by_cases hlt : k < l
    · have hst := txt_stays ss l k
      have hsu : txt ss l (k + 1) = if txt ss l k < 1048576 then wrap64 (txt ss l k + ((ss.getD k ByteArray.empty).size : Int)) else txt ss l k := rfl
      have HST := Lib.hid hst
      have HSU := Lib.hid hsu
      clear hst hsu
      generalize hT : txt ss l k = T at HST HSU ⊢
      have HT := Lib.hid hT
      clear hT
      by_cases hn : T < 1048576
      · obtain ⟨b, off, ha, hc⟩ := HH.out.cells
        obtain rfl := ha (by omega)
        obtain ⟨hb, hcell⟩ := hc k hlt
        have hs := HH.out.size k hlt
        generalize ss.getD k ByteArray.empty = s at hcell hs HSU
        clear hc ha
        go_wp2
        go_roundw
        case rel => exact ⟨k + 1, by omega, by go_num, by rw [HSU.out, if_pos hn], by trivial⟩
        case measure => simp [intOf]; omega
      · go_wp2
        go_ret
        refine ⟨?_, rfl⟩
        have := HST.out hn (l - k)
        rw [show k + (l - k) = l by omega] at this
        show Ending.returned (.int .i64 T) = _
        rw [this]
    · obtain rfl : k = l := by omega
      go_wp2
      go_ret
      exact ⟨rfl, rfl⟩
/-- some Bool, and all that was there is kept -/
def SomeBool (w : World) (e : Ending) (w' : World) : Prop := (∃ b, e = .returned (.bool b)) ∧ Kept w w'
set_option maxRecDepth 100000 in
set_option maxHeartbeats 1000000 in
theorem heavy3_any (am an al : Option Addr) (lm cm ln cn ll cl : Nat) (ss : List ByteArray) (w : World) (hm : MsIn w am lm) (hs : StrsIn w al ll ss) :
    Calls Try.prog 31 #[.agg #[.slice am lm cm, .slice an ln cn, .slice al ll cl]] w (SomeBool w) := by
  have k1 : Kept w (w.alloc (.cells #[.slice am lm cm, .slice an ln cn, .slice al ll cl] 47)) := (Kept.refl w).alloc _
  have HB := Lib.hid (BlockAt.new w #[.slice am lm cm, .slice an ln cn, .slice al ll cl] 47)
  have HM := Lib.hid (hm.kept k1)
  have HS := Lib.hid (hs.kept k1)
  have HK1 := Lib.hid k1
  have hle := hm.le
  clear hm hs k1
  go_enter Try.func31, Try.ntmps31
  go_wp2_with fail
  generalize w.alloc (.cells #[.slice am lm cm, .slice an ln cn, .slice al ll cl] 47) = w1 at *
  obtain ⟨a0, a1, a2⟩ := box3 HB.out
  go_quiet ((go_at_call 65; exact quietly (texts_val al ll cl ss _ (by exact HS.out.kept ((Kept.refl w1).drewN _)))))
  have HB2 := Lib.hid (HB.out.kept ((Kept.refl w1).drewN nq))
  have HM2 := Lib.hid (HM.out.kept ((Kept.refl w1).drewN nq))
  have HK2 := Lib.hid (HK1.out.drewN nq)
  generalize w1.drewN nq = w2 at *
  clear a0 a1 a2 HB HM HS HK1
  go_wp2_with fail
  go_loopw [3, 4] (fun m i wr => ∃ (k : Nat) (z : Int), k ≤ lm ∧ i = .int .i64 k ∧ m = .int .i64 z ∧ w2 = wr) (fun _ i _ => lm - (intOf i).toNat)
  case atStart => exact ⟨0, _, by omega, rfl, rfl, rfl⟩
  case round =>
    obtain ⟨k, z, hk, rfl, rfl, rfl⟩ := hrel
    obtain ⟨a0, a1, a2⟩ := box3 HB2.out
    by_cases hlt : k < lm
    · by_cases hz : z < 1048576
      · obtain ⟨b, off, ha, hc⟩ := HM2.out.cells
        obtain rfl := ha (by omega)
        obtain ⟨r, c, x, l, cap, zs, h1, h2, h3, h4, h5, h6, h7, h8⟩ := hc k hlt
        have hll := h8.le
        have HW := Lib.hid (show wrap64 ((k : Int) + 1) = (k : Int) + 1 by unfold wrap64; omega)
        clear hc ha h8
        go_wp2
        exact ⟨⟨k + 1, _, by omega, by go_num, rfl, trivial⟩, by simp [intOf]; omega⟩
      · go_wp2
        go_ret
        exact ⟨⟨_, rfl⟩, HK2.out⟩
    · go_wp2
      go_ret
      exact ⟨⟨_, rfl⟩, HK2.out⟩
end Go.Proofs.Ytlpjpeonejbpjaa
