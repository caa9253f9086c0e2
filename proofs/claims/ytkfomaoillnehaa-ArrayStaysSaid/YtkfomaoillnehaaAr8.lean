
/- The reference of package array: Num, asked, Is (no conditions but that the array lies as it should). -/
import Derived.Test.YtkfomaoillnehaaAr1b
import Derived.Test.YtkfomaoillnehaaAr4
namespace Go.Proofs.Ytkfomaoillnehaa
open Go.RowKit
attribute [local go_sem] Oper.semAt_some

theorem box7r {W : World} {b : Nat} {x0 x1 x2 x3 x4 x5 x6 : Value} {t : TypeId} (h : BlockAt W b #[x0, x1, x2, x3, x4, x5, x6] t) : W.cell? ⟨b, 0, none⟩ = some x0 ∧ W.cell? ⟨b, 1, none⟩ = some x1 ∧ W.cell? ⟨b, 2, none⟩ = some x2 ∧ W.cell? ⟨b, 3, none⟩ = some x3 ∧ W.cell? ⟨b, 4, none⟩ = some x4 ∧ W.cell? ⟨b, 5, none⟩ = some x5 ∧ W.cell? ⟨b, 6, none⟩ = some x6 :=
  ⟨by rw [h.cell]; rfl, by rw [h.cell]; rfl, by rw [h.cell]; rfl, by rw [h.cell]; rfl, by rw [h.cell]; rfl, by rw [h.cell]; rfl, by rw [h.cell]; rfl⟩
theorem serve_is {S : Arr} {n : Nat} {L : Bool} (hl : S.l ≠ 0) (h : L = (S.ds n).isSome) : serveA S n = if L then 0 else 8 := by
  unfold serveA
  rw [if_neg hl, h]
  cases S.ds n <;> rfl
set_option maxRecDepth 100000 in
set_option maxHeartbeats 4000000 in
theorem num_ar (n m : Int) (w : World) : Calls Try.prog 49 #[.int .i64 n, .int .i64 m] w fun e w' => e = .returned (.bool (decide (0 ≤ n ∧ n ≤ m))) ∧ Kept w w' := by
  obtain ⟨B, hB⟩ : ∃ B, B = decide (0 ≤ n ∧ n ≤ m) := ⟨_, rfl⟩
  rw [← hB]
  have HB := Lib.hid hB
  clear hB
  by_cases h1 : 0 ≤ n
  · have e1 : decide (0 ≤ n) = true := decide_eq_true h1
    by_cases h2 : n ≤ m
    · have e2 : decide (n ≤ m) = true := decide_eq_true h2
      obtain rfl : B = true := by rw [HB.out]; exact decide_eq_true ⟨h1, h2⟩
      go_enter Try.func49, Try.ntmps49
      go_wp2
      go_ret
      exact ⟨rfl, Kept.refl _⟩
    · have e2 : decide (n ≤ m) = false := decide_eq_false h2
      obtain rfl : B = false := by rw [HB.out]; exact decide_eq_false (fun q => h2 q.2)
      go_enter Try.func49, Try.ntmps49
      go_wp2
      go_ret
      exact ⟨rfl, Kept.refl _⟩
  · have e1 : decide (0 ≤ n) = false := decide_eq_false h1
    obtain rfl : B = false := by rw [HB.out]; exact decide_eq_false (fun q => h1 q.1)
    go_enter Try.func49, Try.ntmps49
    go_wp2
    go_ret
    exact ⟨rfl, Kept.refl _⟩
/-- what a call of the reference tells ahead of all -/
def askedF (S : Arr) (d : Int) (form : Bool) : Int := if isThere S d = false then 3 else if form = false then 1 else serveA S d.toNat
theorem there_num (S : Arr) (d : Int) : decide (0 ≤ d ∧ d ≤ (S.m : Int) - 1) = isThere S d := by
  unfold isThere
  by_cases h : 0 ≤ d ∧ d < (S.m : Int)
  · rw [decide_eq_true h]; exact decide_eq_true ⟨h.1, by omega⟩
  · rw [decide_eq_false h]; exact decide_eq_false (fun q => h ⟨q.1, by omega⟩)
set_option maxRecDepth 100000 in
set_option maxHeartbeats 4000000 in
theorem asked_ar {w : World} {p A D E : Nat} {K C : Nat → Nat} {S : Arr} (h : RfP w p A D E K C S) (d : Int) (form : Bool) : Calls Try.prog 50 #[.pointer (some ⟨p, 0, none⟩), .int .i64 d, .bool form] w fun e w' => e = .returned (.int .i64 (askedF S d form)) ∧ Kept w w' := by
  have HNM := Lib.hid (num_ar d ((S.m : Int) - 1) w)
  rw [there_num] at HNM
  have HP := Lib.hid h
  have hm := h.m2
  have hm1 := h.m1
  obtain ⟨a1, a2, a3, ht⟩ := h.top
  obtain ⟨c0, c1, c2, c3, c4, c5, c6⟩ := box7r ht
  obtain ⟨V, hV⟩ : ∃ V, V = askedF S d form := ⟨_, rfl⟩
  rw [← hV]
  have HV := Lib.hid hV
  clear h ht hV
  cases hT : isThere S d with
  | false =>
    rw [hT] at HNM
    obtain rfl : V = 3 := by rw [HV.out]; exact if_pos hT
    clear hT HV
    go_enter Try.func50, Try.ntmps50
    go_wp2_with fail
    refine HNM.out.mono ?_
    rintro e w2 ⟨rfl, hk⟩
    have HK := Lib.hid hk
    clear hk HNM c0 c1 c2 c3 c4 c5 c6
    go_wp2
    go_ret
    exact ⟨rfl, HK.out⟩
  | true =>
    rw [hT] at HNM
    obtain ⟨n, rfl, hn⟩ := there_nat hT
    cases form with
    | false =>
      obtain rfl : V = 1 := by rw [HV.out, askedF, if_neg (by rw [hT]; simp), if_pos rfl]
      clear hT HV
      go_enter Try.func50, Try.ntmps50
      go_wp2_with fail
      refine HNM.out.mono ?_
      rintro e w2 ⟨rfl, hk⟩
      have HK := Lib.hid hk
      clear hk HNM c0 c1 c2 c3 c4 c5 c6
      go_wp2
      go_ret
      exact ⟨rfl, HK.out⟩
    | true =>
      have hV2 : V = serveA S n := by rw [HV.out, askedF, if_neg (by rw [hT]; simp), if_neg (by simp), Int.toNat_natCast]
      have HV2 := Lib.hid hV2
      clear hT HV hV2
      by_cases hl : S.l = 0
      · obtain rfl : V = 9 := by rw [HV2.out, serveA, if_pos hl]
        have hlb : (S.l == 0) = true := by simpa using hl
        have HL := Lib.hid hl
        clear hl HV2
        go_enter Try.func50, Try.ntmps50
        go_wp2_with fail
        refine HNM.out.mono ?_
        rintro e w2 ⟨rfl, hk⟩
        have HK := Lib.hid hk
        clear c0 c1 c2 c3 c4 c5 c6
        obtain ⟨a1, a2, a3, ht⟩ := (HP.out.kept hk).top
        obtain ⟨c0, c1, c2, c3, c4, c5, c6⟩ := box7r ht
        clear ht hk HNM
        go_wp2
        go_ret
        exact ⟨rfl, HK.out⟩
      · have hlb : (S.l == 0) = false := by simpa using hl
        have HL := Lib.hid hl
        clear hl
        obtain ⟨L, hL⟩ : ∃ L, L = (S.ds n).isSome := ⟨_, rfl⟩
        have HLL := Lib.hid hL
        clear hL
        go_enter Try.func50, Try.ntmps50
        go_wp2_with fail
        refine HNM.out.mono ?_
        rintro e w2 ⟨rfl, hk⟩
        have HK := Lib.hid hk
        clear c0 c1 c2 c3 c4 c5 c6
        have l0 := (HP.out.kept hk).r.live n hn
        rw [← HLL.out] at l0
        obtain ⟨a1, a2, a3, ht⟩ := (HP.out.kept hk).top
        obtain ⟨c0, c1, c2, c3, c4, c5, c6⟩ := box7r ht
        clear ht hk HNM
        cases L with
        | false =>
          go_wp2
          go_ret
          exact ⟨by rw [HV2.out, serve_is HL.out HLL.out]; rfl, HK.out⟩
        | true =>
          go_wp2
          go_ret
          exact ⟨by rw [HV2.out, serve_is HL.out HLL.out]; rfl, HK.out⟩
end Go.Proofs.Ytkfomaoillnehaa
