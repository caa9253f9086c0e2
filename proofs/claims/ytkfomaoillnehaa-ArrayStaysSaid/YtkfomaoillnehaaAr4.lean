
/- Package array: Live and Read (no conditions but that the array lies as it should). -/
import Derived.Test.YtkfomaoillnehaaAr3
namespace Go.Proofs.Ytkfomaoillnehaa
open Go.RowKit
attribute [local go_sem] Oper.semAt_some

theorem there_nat {S : Arr} {d : Int} (h : isThere S d = true) : ∃ n : Nat, d = (n : Int) ∧ n < S.m := by
  obtain ⟨h1, h2⟩ := of_decide_eq_true h
  exact ⟨d.toNat, by omega, by omega⟩
theorem sec_nat {S : Arr} {s : Int} (h : isSec S s = true) : ∃ n : Nat, s = (n : Int) ∧ n < S.n := by
  obtain ⟨h1, h2⟩ := of_decide_eq_true h
  exact ⟨s.toNat, by omega, by omega⟩
theorem serve_zero {S : Arr} {d : Nat} (h : serveA S d = 0) : ∃ x, S.ds d = some x := by
  unfold serveA at h
  split at h
  · cases h
  · split at h
    · cases h
    · rename_i q
      cases hx : S.ds d with
      | none => rw [hx] at q; exact absurd rfl q
      | some x => exact ⟨x, rfl⟩
theorem toList_nil {t : ByteArray} : t.toList = ({ data := #[] } : ByteArray).toList ↔ t.size = 0 := by
  constructor
  · intro h
    rw [ByteArray.toList_eq, ByteArray.toList_eq] at h
    show t.data.size = 0
    rw [← Array.length_toList, h]
    rfl
  · intro h
    have e : t = { data := #[] } := by
      obtain ⟨⟨l⟩⟩ := t
      cases l with
      | nil => rfl
      | cons a r => cases h
    rw [e]
theorem isEmpty_toList (t : ByteArray) : t.toList.isEmpty = decide (t.size = 0) := by
  rw [ByteArray.toList_eq]
  obtain ⟨⟨l⟩⟩ := t
  cases l with
  | nil => rfl
  | cons a r => exact (decide_eq_false (fun e => by cases e)).symm
set_option maxRecDepth 100000 in
set_option maxHeartbeats 4000000 in
theorem live_arr {w : World} {p D : Nat} {K C : Nat → Nat} {S : Arr} (h : ArP w p D K C S) (d : Int) : Calls Try.prog 40 #[.pointer (some ⟨p, 0, none⟩), .int .i64 d] w fun e w' => e = .returned (.bool (liveA S d)) ∧ Kept w w' := by
  have HTH := Lib.hid (there_any h d)
  have HP := Lib.hid h
  cases hT : isThere S d with
  | false =>
    rw [hT] at HTH
    have hR : liveA S d = false := by unfold liveA; rw [hT]; rfl
    rw [hR]
    clear h hT hR
    go_enter Try.func40, Try.ntmps40
    go_wp2_with fail
    refine HTH.out.mono ?_
    rintro e w2 ⟨rfl, hk⟩
    have HK := Lib.hid hk
    clear hk HTH
    go_wp2
    go_ret
    exact ⟨rfl, HK.out⟩
  | true =>
    rw [hT] at HTH
    have hR : liveA S d = (S.ds d.toNat).isSome := by unfold liveA; rw [hT]; rfl
    rw [hR]
    obtain ⟨n, rfl, hn⟩ := there_nat hT
    rw [Int.toNat_natCast]
    have hm := h.m2
    obtain ⟨L, hL⟩ : ∃ L, L = (S.ds n).isSome := ⟨_, rfl⟩
    rw [← hL]
    have HL := Lib.hid hL
    clear h hT hR hL
    go_enter Try.func40, Try.ntmps40
    go_wp2_with fail
    refine HTH.out.mono ?_
    rintro e w2 ⟨rfl, hk⟩
    have HK := Lib.hid hk
    have hp := HP.out.kept hk
    have l0 := hp.r.live hn
    rw [← HL.out] at l0
    obtain ⟨cap, off, bound, left, ht, _⟩ := hp.top
    obtain ⟨c0, c1, c2, c3, c4, c5⟩ := box6m ht
    clear ht hk hp HTH
    go_wp2
    go_ret
    exact ⟨rfl, HK.out⟩
set_option maxRecDepth 100000 in
set_option maxHeartbeats 4000000 in
theorem read_arr {w : World} {p D : Nat} {K C : Nat → Nat} {S : Arr} (h : ArP w p D K C S) (d s : Int) : Calls Try.prog 18 #[.pointer (some ⟨p, 0, none⟩), .int .i64 d, .int .i64 s] w fun e w' => e = .returned (.tuple #[.string (readA S d s).1, .int .i64 (readA S d s).2]) ∧ Kept w w' := by
  have HFT := Lib.hid (fit_arr h d s)
  have HP := Lib.hid h
  cases hF : (isThere S d && isSec S s) with
  | false =>
    rw [hF] at HFT
    have hR : readA S d s = ({ data := #[] }, 3) := by
      unfold readA
      rw [if_pos]
      · rfl
      · cases h1 : isThere S d
        · exact .inl rfl
        · rw [h1] at hF; exact .inr hF
    rw [hR]
    clear h hF hR
    go_enter Try.func18, Try.ntmps18
    go_wp2_with fail
    refine HFT.out.mono ?_
    rintro e w2 ⟨rfl, hk⟩
    have HK := Lib.hid hk
    clear hk HFT
    go_wp2
    go_ret2
    exact ⟨rfl, HK.out⟩
  | true =>
    rw [hF] at HFT
    obtain ⟨hT, hS⟩ := Bool.and_eq_true_iff.1 hF
    have hR : readA S d s = if serveA S d.toNat = 0 then (match S.ds d.toNat with | none => ByteArray.empty | some x => readD x s.toNat, 0) else (ByteArray.empty, serveA S d.toNat) := by
      unfold readA
      exact if_neg (by rw [hT, hS]; simp)
    rw [hR]
    obtain ⟨n, rfl, hn⟩ := there_nat hT
    obtain ⟨q, rfl, hq⟩ := sec_nat hS
    rw [Int.toNat_natCast, Int.toNat_natCast]
    have hm := h.m2
    have hqn := h.n2
    have HSV := Lib.hid (fun w2 (k : Kept w w2) => serve_arr (h.kept k) n hn)
    obtain ⟨V, hV⟩ : ∃ V, V = serveA S n := ⟨_, rfl⟩
    rw [← hV] at HSV
    rw [← hV]
    by_cases h0 : V = 0
    · subst h0
      obtain ⟨x, hx⟩ := serve_zero hV.symm
      rw [if_pos rfl, hx]
      dsimp only
      have HX := Lib.hid hx
      obtain ⟨RR, hRR⟩ : ∃ RR, RR = readD x q := ⟨_, rfl⟩
      rw [← hRR]
      have HRR := Lib.hid hRR
      clear hRR
      clear h hF hR hT hS hV hx
      go_enter Try.func18, Try.ntmps18
      go_wp2_with fail
      refine HFT.out.mono ?_
      rintro e w2 ⟨rfl, hk⟩
      have HK := Lib.hid hk
      clear hk HFT
      go_wp2_with fail
      refine (HSV.out w2 HK.out).mono ?_
      rintro e w3 ⟨rfl, hk3⟩
      have HK3 := Lib.hid (HK.out.trans hk3)
      have hp := HP.out.kept HK3.out
      have l2 := hp.r.ccell hn HX.out
      have l1 := hp.r.kcell hn HX.out
      have t2 := (hp.r.cs n hn x HX.out).cell q hq
      have t1 := (hp.r.ks n hn x HX.out).cell q hq
      obtain ⟨cap, off, bound, left, ht, _⟩ := hp.top
      obtain ⟨c0, c1, c2, c3, c4, c5⟩ := box6m ht
      clear ht hk3 hp HSV
      by_cases hz : (x.c q).size = 0
      · have hR : RR = x.k q := by rw [HRR.out]; exact if_pos hz
        have hl : (x.c q).toList.isEmpty = true := by rw [isEmpty_toList]; exact decide_eq_true hz
        generalize x.c q = tc at *
        generalize x.k q = tk at *
        subst hR
        clear HRR hz
        go_wp2
        go_ret2
        exact ⟨rfl, HK3.out⟩
      · have hR : RR = x.c q := by rw [HRR.out]; exact if_neg hz
        have hl : (x.c q).toList.isEmpty = false := by rw [isEmpty_toList]; exact decide_eq_false hz
        generalize x.c q = tc at *
        generalize x.k q = tk at *
        subst hR
        clear HRR hz
        go_wp2
        go_ret2
        exact ⟨rfl, HK3.out⟩
    · rw [if_neg h0]
      have h0b : (V != 0) = true := by simpa using h0
      clear h hF hR hT hS hV
      go_enter Try.func18, Try.ntmps18
      go_wp2_with fail
      refine HFT.out.mono ?_
      rintro e w2 ⟨rfl, hk⟩
      have HK := Lib.hid hk
      clear hk HFT
      go_wp2_with fail
      refine (HSV.out w2 HK.out).mono ?_
      rintro e w3 ⟨rfl, hk3⟩
      have HK3 := Lib.hid (HK.out.trans hk3)
      clear hk3 HSV
      go_wp2
      go_ret2
      exact ⟨rfl, HK3.out⟩
end Go.Proofs.Ytkfomaoillnehaa
