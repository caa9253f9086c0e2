
/- Package array: fit, serve, Live and Read (no conditions but that the array lies as it should). -/
import Derived.Test.YtkfomaoillnehaaAr2
namespace Go.Proofs.Ytkfomaoillnehaa
open Go.RowKit
attribute [local go_sem] Oper.semAt_some

theorem ArR.live {w : World} {D : Nat} {K C : Nat → Nat} {S : Arr} {d : Nat} (h : ArR w D K C S) (hd : d < S.m) : w.cell? ⟨D, d * 3, none⟩ = some (.bool (S.ds d).isSome) :=
  h.cell d hd 0 _ (by cases S.ds d <;> rfl)
theorem ArR.kcell {w : World} {D : Nat} {K C : Nat → Nat} {S : Arr} {d : Nat} {x : Dsk} (h : ArR w D K C S) (hd : d < S.m) (hx : S.ds d = some x) : w.cell? ⟨D, d * 3 + 1, none⟩ = some (.slice (some ⟨K d, 0, none⟩) S.n S.n) :=
  h.cell d hd 1 _ (by rw [hx]; rfl)
theorem ArR.ccell {w : World} {D : Nat} {K C : Nat → Nat} {S : Arr} {d : Nat} {x : Dsk} (h : ArR w D K C S) (hd : d < S.m) (hx : S.ds d = some x) : w.cell? ⟨D, d * 3 + 2, none⟩ = some (.slice (some ⟨C d, 0, none⟩) S.n S.n) :=
  h.cell d hd 2 _ (by rw [hx]; rfl)
set_option maxRecDepth 100000 in
set_option maxHeartbeats 4000000 in
theorem fit_arr {w : World} {p D : Nat} {K C : Nat → Nat} {S : Arr} (h : ArP w p D K C S) (d s : Int) : Calls Try.prog 47 #[.pointer (some ⟨p, 0, none⟩), .int .i64 d, .int .i64 s] w fun e w' => e = .returned (.bool (isThere S d && isSec S s)) ∧ Kept w w' := by
  have HTH := Lib.hid (there_any h d)
  have HP := Lib.hid h
  obtain ⟨T, hT⟩ : ∃ T, T = isThere S d := ⟨_, rfl⟩
  obtain ⟨B, hB⟩ : ∃ B, B = isSec S s := ⟨_, rfl⟩
  rw [← hT] at HTH
  rw [← hT, ← hB]
  have HB := Lib.hid hB
  clear h hT hB
  go_enter Try.func47, Try.ntmps47
  go_wp2_with fail
  refine HTH.out.mono ?_
  rintro e w2 ⟨rfl, hk⟩
  have HK := Lib.hid hk
  obtain ⟨cap, off, bound, left, ht, _⟩ := (HP.out.kept hk).top
  obtain ⟨c0, c1, c2, c3, c4, c5⟩ := box6m ht
  clear ht hk HTH
  cases T with
  | false =>
    go_wp2
    go_ret
    exact ⟨rfl, HK.out⟩
  | true =>
    by_cases h1 : 0 ≤ s
    · have e1 : decide (0 ≤ s) = true := decide_eq_true h1
      by_cases h2 : s < (S.n : Int)
      · have e2 : decide (s < (S.n : Int)) = true := decide_eq_true h2
        obtain rfl : B = true := by rw [HB.out]; exact decide_eq_true ⟨h1, h2⟩
        go_wp2
        go_ret
        exact ⟨rfl, HK.out⟩
      · have e2 : decide (s < (S.n : Int)) = false := decide_eq_false h2
        obtain rfl : B = false := by rw [HB.out]; exact decide_eq_false (fun q => h2 q.2)
        go_wp2
        go_ret
        exact ⟨rfl, HK.out⟩
    · have e1 : decide (0 ≤ s) = false := decide_eq_false h1
      obtain rfl : B = false := by rw [HB.out]; exact decide_eq_false (fun q => h1 q.1)
      go_wp2
      go_ret
      exact ⟨rfl, HK.out⟩
set_option maxRecDepth 100000 in
set_option maxHeartbeats 4000000 in
theorem serve_arr {w : World} {p D : Nat} {K C : Nat → Nat} {S : Arr} (h : ArP w p D K C S) (d : Nat) (hd : d < S.m) : Calls Try.prog 48 #[.pointer (some ⟨p, 0, none⟩), .int .i64 d] w fun e w' => e = .returned (.int .i64 (serveA S d)) ∧ Kept w w' := by
  obtain ⟨cap, off, bound, left, ht, hp⟩ := h.top
  obtain ⟨c0, c1, c2, c3, c4, c5⟩ := box6m ht
  have hm := h.m2
  have l0 := h.r.live hd
  have ho := hp.1.off_iff
  obtain ⟨R, hR⟩ : ∃ R, R = serveA S d := ⟨_, rfl⟩
  rw [← hR]
  have HR := Lib.hid hR
  clear hR ht hp h
  by_cases hl : S.l = 0
  · obtain rfl : off = true := by rw [ho]; exact decide_eq_true hl
    obtain rfl : R = 9 := by rw [HR.out, serveA, if_pos hl]
    clear ho hl
    go_enter Try.func48, Try.ntmps48
    go_wp2
    go_ret
    exact ⟨rfl, Kept.refl _⟩
  · obtain rfl : off = false := by rw [ho]; exact decide_eq_false hl
    cases hx : (S.ds d).isSome with
    | false =>
      rw [hx] at l0
      obtain rfl : R = 8 := by
        rw [HR.out, serveA, if_neg hl, if_pos]
        revert hx
        cases S.ds d <;> simp
      clear ho hl hx
      go_enter Try.func48, Try.ntmps48
      go_wp2
      go_ret
      exact ⟨rfl, Kept.refl _⟩
    | true =>
      rw [hx] at l0
      obtain rfl : R = 0 := by
        rw [HR.out, serveA, if_neg hl, if_neg]
        revert hx
        cases S.ds d <;> simp
      clear ho hl hx
      go_enter Try.func48, Try.ntmps48
      go_wp2
      go_ret
      exact ⟨rfl, Kept.refl _⟩
end Go.Proofs.Ytkfomaoillnehaa
