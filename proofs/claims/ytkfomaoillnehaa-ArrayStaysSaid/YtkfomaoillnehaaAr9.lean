
/- The reference of package array: Is, Read, changes, Off (no conditions but that the array lies as it should; not too many changes). -/
import Derived.Test.YtkfomaoillnehaaAr8
import Derived.Test.YtkfomaoillnehaaAr5
namespace Go.Proofs.Ytkfomaoillnehaa
open Go.RowKit
attribute [local go_sem] Oper.semAt_some

set_option maxRecDepth 100000 in
set_option maxHeartbeats 4000000 in
theorem is_ar {w : World} {p A D E : Nat} {K C : Nat → Nat} {S : Arr} (h : RfP w p A D E K C S) (d : Int) : Calls Try.prog 41 #[.pointer (some ⟨p, 0, none⟩), .int .i64 d] w fun e w' => e = .returned (.bool (liveA S d)) ∧ Kept w w' := by
  have HNM := Lib.hid (num_ar d ((S.m : Int) - 1) w)
  rw [there_num] at HNM
  have HP := Lib.hid h
  have hm := h.m2
  have hm1 := h.m1
  obtain ⟨a1, a2, a3, ht⟩ := h.top
  obtain ⟨c0, c1, c2, c3, c4, c5, c6⟩ := box7r ht
  clear h ht
  cases hT : isThere S d with
  | false =>
    rw [hT] at HNM
    have hR : liveA S d = false := by unfold liveA; rw [hT]; rfl
    rw [hR]
    clear hT hR
    go_enter Try.func41, Try.ntmps41
    go_wp2_with fail
    refine HNM.out.mono ?_
    rintro e w2 ⟨rfl, hk⟩
    have HK := Lib.hid hk
    clear hk HNM c0 c1 c2 c3 c4 c5 c6
    go_wp2
    go_ret
    exact ⟨rfl, HK.out⟩
  | true =>
    rw [hT] at HNM
    have hR : liveA S d = (S.ds d.toNat).isSome := by unfold liveA; rw [hT]; rfl
    rw [hR]
    obtain ⟨n, rfl, hn⟩ := there_nat hT
    rw [Int.toNat_natCast]
    obtain ⟨L, hL⟩ : ∃ L, L = (S.ds n).isSome := ⟨_, rfl⟩
    rw [← hL]
    have HL := Lib.hid hL
    clear hT hR hL
    go_enter Try.func41, Try.ntmps41
    go_wp2_with fail
    refine HNM.out.mono ?_
    rintro e w2 ⟨rfl, hk⟩
    have HK := Lib.hid hk
    clear c0 c1 c2 c3 c4 c5 c6
    have l0 := (HP.out.kept hk).r.live n hn
    rw [← HL.out] at l0
    obtain ⟨a1, a2, a3, ht⟩ := (HP.out.kept hk).top
    obtain ⟨c0, c1, c2, c3, c4, c5, c6⟩ := box7r ht
    clear ht hk HNM
    go_wp2
    go_ret
    exact ⟨rfl, HK.out⟩
set_option maxRecDepth 100000 in
set_option maxHeartbeats 4000000 in
theorem read_ar {w : World} {p A D E : Nat} {K C : Nat → Nat} {S : Arr} (h : RfP w p A D E K C S) (d s : Int) : Calls Try.prog 19 #[.pointer (some ⟨p, 0, none⟩), .int .i64 d, .int .i64 s] w fun e w' => e = .returned (.tuple #[.string (readA S d s).1, .int .i64 (readA S d s).2]) ∧ Kept w w' := by
  have HNM := Lib.hid (num_ar s ((S.n : Int) - 1) w)
  have hsn : decide (0 ≤ s ∧ s ≤ (S.n : Int) - 1) = isSec S s := by
    unfold isSec
    by_cases q : 0 ≤ s ∧ s < (S.n : Int)
    · rw [decide_eq_true q]; exact decide_eq_true ⟨q.1, by omega⟩
    · rw [decide_eq_false q]; exact decide_eq_false (fun r => q ⟨r.1, by omega⟩)
  rw [hsn] at HNM
  clear hsn
  have HP := Lib.hid h
  have hm := h.m2
  have hm1 := h.m1
  have hn2 := h.n2
  have hn1 := h.n1
  obtain ⟨a1, a2, a3, ht⟩ := h.top
  obtain ⟨c0, c1, c2, c3, c4, c5, c6⟩ := box7r ht
  obtain ⟨R, hR⟩ : ∃ R, R = readA S d s := ⟨_, rfl⟩
  rw [← hR]
  obtain ⟨rt, re⟩ := R
  have HR := Lib.hid hR
  clear h ht hR
  dsimp only
  cases hS : isSec S s with
  | false =>
    rw [hS] at HNM
    have e0 : (rt, re) = (({ data := #[] } : ByteArray), (3 : Int)) := HR.out.trans (if_pos (.inr hS))
    obtain ⟨rfl, rfl⟩ := Prod.mk.inj e0
    clear hS e0 HR
    go_enter Try.func19, Try.ntmps19
    go_wp2_with fail
    refine HNM.out.mono ?_
    rintro e w2 ⟨rfl, hk⟩
    have HK := Lib.hid hk
    clear hk HNM c0 c1 c2 c3 c4 c5 c6
    go_wp2
    go_ret2
    exact ⟨rfl, HK.out⟩
  | true =>
    rw [hS] at HNM
    have HAS := Lib.hid (fun w2 (k : Kept w w2) => asked_ar (HP.out.kept k) d true)
    obtain ⟨V, hV⟩ : ∃ V, V = askedF S d true := ⟨_, rfl⟩
    rw [← hV] at HAS
    by_cases h0 : V = 0
    · have hT : isThere S d = true := by
        cases hT : isThere S d
        · rw [askedF, if_pos hT] at hV; omega
        · rfl
      have hs0 : serveA S d.toNat = 0 := by rw [askedF, if_neg (by rw [hT]; simp), if_neg (by simp)] at hV; omega
      obtain ⟨n, rfl, hn⟩ := there_nat hT
      obtain ⟨q, rfl, hq⟩ := sec_nat hS
      rw [Int.toNat_natCast] at hs0
      obtain ⟨x, hx⟩ := serve_zero hs0
      have e0 : (rt, re) = (readD x q, (0 : Int)) := by
        rw [HR.out, readA, if_neg (by rw [hT, hS]; simp), Int.toNat_natCast, Int.toNat_natCast, if_pos hs0, hx]
      obtain ⟨hrt, rfl⟩ := Prod.mk.inj e0
      have HRT := Lib.hid hrt
      have HX := Lib.hid hx
      subst h0
      clear hT hS hV hs0 hx e0 hrt HR
      go_enter Try.func19, Try.ntmps19
      go_wp2_with fail
      refine HNM.out.mono ?_
      rintro e w2 ⟨rfl, hk⟩
      have HK := Lib.hid hk
      clear hk HNM c0 c1 c2 c3 c4 c5 c6
      go_wp2_with fail
      refine (HAS.out w2 HK.out).mono ?_
      rintro e w3 ⟨rfl, hk3⟩
      have HK3 := Lib.hid (HK.out.trans hk3)
      have hp := HP.out.kept HK3.out
      obtain ⟨k1, l1, _⟩ := hp.r.disk n hn
      obtain ⟨k2, l2, _⟩ := hp.r.cach n hn
      have t1 := (hp.r.txk hn HX.out).cell q hq
      have t2 := (hp.r.txc hn HX.out).cell q hq
      obtain ⟨a1, a2, a3, ht⟩ := hp.top
      obtain ⟨c0, c1, c2, c3, c4, c5, c6⟩ := box7r ht
      clear ht hk3 hp HAS
      by_cases hz : (x.c q).size = 0
      · have hr : rt = x.k q := HRT.out.trans (if_pos hz)
        have hl : (x.c q).toList.isEmpty = true := by rw [isEmpty_toList]; exact decide_eq_true hz
        generalize x.c q = tc at *
        generalize x.k q = tk at *
        subst hr
        clear HRT hz
        go_wp2
        go_ret2
        exact ⟨rfl, HK3.out⟩
      · have hr : rt = x.c q := HRT.out.trans (if_neg hz)
        have hl : (x.c q).toList.isEmpty = false := by rw [isEmpty_toList]; exact decide_eq_false hz
        generalize x.c q = tc at *
        generalize x.k q = tk at *
        subst hr
        clear HRT hz
        go_wp2
        go_ret2
        exact ⟨rfl, HK3.out⟩
    · have h0b : (V != 0) = true := by simpa using h0
      have e0 : (rt, re) = (({ data := #[] } : ByteArray), V) := by
        rw [HR.out, readA]
        cases hT : isThere S d with
        | false =>
          rw [askedF, if_pos hT] at hV
          rw [if_pos (.inl rfl), hV]; rfl
        | true =>
          rw [askedF, if_neg (by rw [hT]; simp), if_neg (by simp)] at hV
          rw [if_neg (by rw [hS]; simp), if_neg (by rw [← hV]; exact h0), ← hV]; rfl
      obtain ⟨rfl, rfl⟩ := Prod.mk.inj e0
      clear hS hV e0 HR
      go_enter Try.func19, Try.ntmps19
      go_wp2_with fail
      refine HNM.out.mono ?_
      rintro e w2 ⟨rfl, hk⟩
      have HK := Lib.hid hk
      clear hk HNM c0 c1 c2 c3 c4 c5 c6
      go_wp2_with fail
      refine (HAS.out w2 HK.out).mono ?_
      rintro e w3 ⟨rfl, hk3⟩
      have HK3 := Lib.hid (HK.out.trans hk3)
      clear hk3 HAS
      go_wp2
      go_ret2
      exact ⟨rfl, HK3.out⟩
end Go.Proofs.Ytkfomaoillnehaa
