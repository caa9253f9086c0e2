/- What the reference of layer 13 asks first: siloref0's Between, Num, EqNumbers, EqSlotList, EqRecord, siloref13's fields and has (no conditions but that numbers are ints). -/
import Derived.Test.YtoanldoocmmhjaaRc4
import Derived.Deep.QuietTactic
import Derived.BigQuiet
namespace Go.Proofs.Ytoanldoocmmhjaa
open Go.RowKit

theorem between_any (n a b : Int) (w : World) : Calls Try.prog 29 #[.int .i64 n, .int .i64 a, .int .i64 b] w fun e w' => e = .returned (.bool (Rc.within n a b)) ∧ w = w' := by
  by_cases h : a ≤ n
  · have hb : Rc.within n a b = decide (n ≤ b) := by unfold Rc.within; simp [h]
    rw [hb]
    clear hb
    go_enter Try.func29, Try.ntmps29
    go_wp2
    go_ret
    exact ⟨by simp, rfl⟩
  · have hb : Rc.within n a b = false := by unfold Rc.within; simp [h]
    rw [hb]
    have hd : decide (a ≤ n) = false := decide_eq_false h
    clear hb
    go_enter Try.func29, Try.ntmps29
    go_wp2
    go_ret
    exact ⟨rfl, rfl⟩
theorem num_any (n b : Int) (w : World) : Calls Try.prog 32 #[.int .i64 n, .int .i64 b] w fun e w' => e = .returned (.bool (Rc.within n 0 b)) ∧ w = w' := by
  by_cases h : 0 ≤ n
  · have hb : Rc.within n 0 b = decide (n ≤ b) := by unfold Rc.within; simp [h]
    rw [hb]
    clear hb
    go_enter Try.func32, Try.ntmps32
    go_wp2
    go_ret
    exact ⟨by simp, rfl⟩
  · have hb : Rc.within n 0 b = false := by unfold Rc.within; simp [h]
    rw [hb]
    have hd : decide (0 ≤ n) = false := decide_eq_false h
    clear hb
    go_enter Try.func32, Try.ntmps32
    go_wp2
    go_ret
    exact ⟨rfl, rfl⟩
/-- is a byte in a text? -/
def hasB (s : ByteArray) (c : Nat) : Bool := s.data.toList.any fun x => x.toNat == c
theorem any_snoc {α : Type} (l : List α) (p : α → Bool) (k : Nat) (h : k < l.length) : (l.take (k + 1)).any p = ((l.take k).any p || p l[k]) := by
  rw [List.take_succ_eq_append_getElem h, List.any_append]
  simp
set_option maxRecDepth 100000 in
theorem has_any (s : ByteArray) (c : Nat) (hs : s.size ≤ 9223372036854775807) (w : World) : Calls Try.prog 31 #[.string s, .int .u8 (c : Int)] w fun e w' => e = .returned (.bool (hasB s c)) ∧ w = w' := by
  go_enter Try.func31, Try.ntmps31
  go_wp2
  go_loop [5] (fun i => ∃ k : Nat, k ≤ s.size ∧ i = .int .i64 k ∧ (s.data.toList.take k).any (fun x => x.toNat == c) = false) (fun i => s.size - (intOf i).toNat)
  case atStart => exact ⟨0, by omega, rfl, rfl⟩
  case round =>
    obtain ⟨k, hk, rfl, hn⟩ := hrel
    have HN := Lib.hid hn
    clear hn
    by_cases hlt : k < s.size
    · have HS := Lib.hid (any_snoc s.data.toList (fun x => x.toNat == c) k (by simpa using hlt))
      have HG := Lib.hid (show s.data.toList[k]'(by simpa using hlt) = s[k] from rfl)
      cases hq : (s[k].toNat == c) with
      | true =>
        have hq' : ((s[k].toNat : Int) == (c : Int)) = true := by rw [beq_iff_eq] at hq ⊢; omega
        have hv : hasB s c = true := by
          unfold hasB
          rw [List.any_eq_true]
          exact ⟨s[k], by rw [← HG.out]; exact List.getElem_mem _, hq⟩
        have HV := Lib.hid hv
        clear hv hq
        go_wp2
        go_ret
        exact ⟨by rw [HV.out]; rfl, rfl⟩
      | false =>
        have hq' : ((s[k].toNat : Int) == (c : Int)) = false := by rw [beq_eq_false_iff_ne] at hq ⊢; omega
        have HQ := Lib.hid hq
        clear hq
        go_wp2
        go_round
        case rel => exact ⟨k + 1, by omega, by go_num, by rw [HS.out, HN.out, HG.out, HQ.out]; rfl⟩
        case measure => simp [intOf]; omega
    · obtain rfl : s.size = k := by omega
      have hv : hasB s c = false := by
        have := HN.out
        rw [List.take_of_length_le (by simp)] at this
        exact this
      have HV := Lib.hid hv
      clear hv
      go_wp2
      go_ret
      exact ⟨by rw [HV.out]; rfl, rfl⟩
/-- which fields a kind names, in letters -/
def fStr (k : Int) : ByteArray :=
  if k = 1 then ⟨#[73, 83]⟩ else if k = 2 then ⟨#[73, 76, 83]⟩ else if k = 3 then ⟨#[73]⟩ else if k = 4 then ⟨#[73, 68, 76]⟩ else if k = 5 then ⟨#[73, 68, 76]⟩ else if k = 6 then ⟨#[68]⟩ else if k = 7 then ⟨#[78, 68]⟩ else ⟨#[78]⟩
set_option maxRecDepth 100000 in
theorem fields_any (k : Int) (hk : 1 ≤ k ∧ k ≤ 8) (w : World) : Calls Try.prog 30 #[.int .i64 k] w fun e w' => e = .returned (.string (fStr k)) ∧ Kept w w' := by
  have hcase : k = 1 ∨ k = 2 ∨ k = 3 ∨ k = 4 ∨ k = 5 ∨ k = 6 ∨ k = 7 ∨ k = 8 := by omega
  clear hk
  rcases hcase with rfl | rfl | rfl | rfl | rfl | rfl | rfl | rfl
  all_goals
    go_enter Try.func30, Try.ntmps30
    go_wp2
    go_ret
    exact ⟨rfl, (Kept.refl w).alloc _⟩
set_option maxRecDepth 100000 in
set_option maxHeartbeats 800000 in
theorem eq_numbers (a b : Option Addr) (l m ca cb : Nat) (xs ys : List Int) (w : World) (h : IntsIn w .i64 a l xs) (h2 : IntsIn w .i64 b m ys) :
    Calls Try.prog 37 #[.slice a l ca, .slice b m cb] w fun e w' => e = .returned (.bool (decide (xs = ys))) ∧ Kept w w' := by
  obtain ⟨D, hD⟩ : ∃ D : Bool, D = decide (xs = ys) := ⟨_, rfl⟩
  rw [← hD]
  have HD := Lib.hid hD
  have HL := Lib.hid h.len_eq
  have HM := Lib.hid h2.len_eq
  have hle := h.le
  have hle2 := h2.le
  clear hD
  by_cases hlm : l = m
  · obtain rfl : l = m := hlm
    have hgo : ∀ i : Nat, i < l → ∃ b1 o1 b2 o2, a = some ⟨b1, o1, none⟩ ∧ b = some ⟨b2, o2, none⟩ ∧ ∀ w', Kept w w' → w'.cell? ⟨b1, o1 + i, none⟩ = some (.int .i64 (xs.getD i 0)) ∧ w'.cell? ⟨b2, o2 + i, none⟩ = some (.int .i64 (ys.getD i 0)) := fun i hi => by
      obtain ⟨b1, o1, ha, hc⟩ := h.cell (by omega)
      obtain ⟨b2, o2, hb, hc2⟩ := h2.cell (by omega)
      exact ⟨b1, o1, b2, o2, ha, hb, fun w' k => ⟨hc i hi w' k, hc2 i hi w' k⟩⟩
    have HGO := Lib.hid hgo
    have hne : ((l : Int) != l) = false := by simp
    clear h h2 hgo
    go_enter Try.func37, Try.ntmps37
    go_wp2_with fail
    go_loopw [5] (fun i wr => ∃ k : Nat, k ≤ l ∧ i = .int .i64 k ∧ xs.take k = ys.take k ∧ Kept w wr) (fun i _ => l - (intOf i).toNat)
    case atStart => exact ⟨0, by omega, rfl, rfl, Kept.refl _⟩
    case round =>
      obtain ⟨k, hk, rfl, ht, hK⟩ := hrel
      have HT := Lib.hid ht
      have HK := Lib.hid hK
      clear ht hK
      by_cases hlt : k < l
      · obtain ⟨b1, o1, b2, o2, rfl, rfl, hc⟩ := HGO.out k hlt
        obtain ⟨c1, c2⟩ := hc _ HK.out
        have hki : (k : Int) < (l : Int) := by omega
        have HX := Lib.hid (show xs.take (k + 1) = xs.take k ++ [xs.getD k 0] by rw [List.take_succ_eq_append_getElem (by have := HL.out; omega)]; congr 1; simp [List.getD, show k < xs.length by have := HL.out; omega])
        have HY := Lib.hid (show ys.take (k + 1) = ys.take k ++ [ys.getD k 0] by rw [List.take_succ_eq_append_getElem (by have := HM.out; omega)]; congr 1; simp [List.getD, show k < ys.length by have := HM.out; omega])
        have HNE := Lib.hid (show xs.getD k 0 ≠ ys.getD k 0 → xs ≠ ys from fun h e => h (by rw [e]))
        generalize xs.getD k 0 = x at *
        generalize ys.getD k 0 = y at *
        clear hc
        by_cases hxy : x = y
        · subst hxy
          have hd : (x != x) = false := by simp
          go_wp2_with fail
          go_quiet (fail)
          go_wp2
          go_roundw
          case rel => exact ⟨k + 1, by omega, by go_num, by rw [HX.out, HY.out, HT.out], HK.out.drewN _⟩
          case measure => simp [intOf]; omega
        · have hd : (x != y) = true := by rw [bne_iff_ne]; exact hxy
          have hv : D = false := by rw [HD.out]; exact decide_eq_false (HNE.out hxy)
          have HV := Lib.hid hv
          clear hv hxy
          go_wp2_with fail
          go_quiet (fail)
          go_wp2
          go_ret
          exact ⟨by rw [HV.out]; rfl, HK.out.drewN _⟩
      · obtain rfl : l = k := by omega
        have hv : D = true := by
          have := HT.out
          rw [List.take_of_length_le (by have := HL.out; omega), List.take_of_length_le (by have := HM.out; omega)] at this
          rw [HD.out]; exact decide_eq_true this
        have HV := Lib.hid hv
        clear hv
        go_wp2
        go_ret
        exact ⟨by rw [HV.out]; rfl, HK.out⟩
  · have hv : D = false := by
      rw [HD.out]
      refine decide_eq_false fun e => hlm ?_
      rw [← HL.out, ← HM.out, e]
    have HV := Lib.hid hv
    have hne : ((l : Int) != m) = true := by rw [bne_iff_ne]; omega
    clear hv hlm h h2
    go_enter Try.func37, Try.ntmps37
    go_wp2
    go_ret
    exact ⟨by rw [HV.out]; rfl, Kept.refl _⟩
end Go.Proofs.Ytoanldoocmmhjaa
