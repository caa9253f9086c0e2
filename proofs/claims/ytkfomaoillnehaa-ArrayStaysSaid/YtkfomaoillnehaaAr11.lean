
/- The reference of package array: Write (no conditions but that the array lies as it should; not too many changes). -/
import Derived.Test.YtkfomaoillnehaaAr10
namespace Go.Proofs.Ytkfomaoillnehaa
open Go.RowKit
attribute [local go_sem] Oper.semAt_some

theorem RfP.setC {w : World} {p A D E : Nat} {K C : Nat → Nat} {S : Arr} {x : Dsk} {d : Nat} (h : RfP w p A D E K C S) (hd : d < S.m) (hx : S.ds d = some x) (s : Nat) (t : ByteArray) : RfP (w.setCell ⟨C d, s, none⟩ (.string t)) p A D E K C (putD S d ⟨x.k, upF x.c s t⟩) := by
  obtain ⟨a1, a2, a3, ht⟩ := h.top
  exact ⟨⟨a1, a2, a3, ht.setOther _ (h.apart.2.2.2 d hd).2⟩, h.r.setT hd hx s t false, h.m1, h.m2, h.n1, h.n2⟩
theorem asked_zero {S : Arr} {d : Int} {form : Bool} (h : askedF S d form = 0) : isThere S d = true ∧ form = true ∧ serveA S d.toNat = 0 := by
  unfold askedF at h
  split at h
  · omega
  · split at h
    · omega
    · rename_i h1 h2
      exact ⟨by simpa using h1, by simpa using h2, h⟩
theorem write_ask {S : Arr} {d s : Int} {t : ByteArray} (hS : isSec S s = true) (h : askedF S d ((t.size : Int) == 64) ≠ 0) : writeA S d s t = (S, askedF S d ((t.size : Int) == 64)) := by
  unfold writeA
  cases hT : isThere S d with
  | false => rw [if_pos (.inl rfl), askedF, if_pos hT]
  | true =>
    rw [if_neg (by rw [hS]; simp)]
    by_cases ht : t.size = 64
    · have e : ((t.size : Int) == 64) = true := by rw [ht]; rfl
      rw [e] at h ⊢
      have e2 : askedF S d true = serveA S d.toNat := by rw [askedF, if_neg (by rw [hT]; simp), if_neg (by simp)]
      rw [e2] at h ⊢
      rw [if_neg (fun q => q ht), if_neg h]
    · have e : ((t.size : Int) == 64) = false := by rw [beq_eq_false_iff_ne]; omega
      rw [e, if_pos ht, askedF, if_neg (by rw [hT]; simp), if_pos rfl]
theorem write_done {S : Arr} {d s : Int} {t : ByteArray} {x : Dsk} (hS : isSec S s = true) (h : askedF S d ((t.size : Int) == 64) = 0) (hx : S.ds d.toNat = some x) : writeA S d s t = (chgA (putD S d.toNat ⟨x.k, upF x.c s.toNat t⟩), 0) := by
  obtain ⟨h1, h2, h3⟩ := asked_zero h
  have ht : t.size = 64 := by have := eq_of_beq h2; omega
  unfold writeA
  rw [if_neg (by rw [h1, hS]; simp), if_neg (fun q => q ht), if_pos h3, hx]
set_option maxRecDepth 100000 in
set_option maxHeartbeats 4000000 in
theorem write_ar {B : Nat} {w : World} {p A D E : Nat} {K C : Nat → Nat} {S : Arr} (h : RfP w p A D E K C S) (hB : B ≤ p) (hBC : ∀ d, d < S.m → B ≤ C d) (hBw : B ≤ w.heap.size) (hg : S.g ≤ 9007199254740992) (hl : S.l ≤ 9223372036854775807) (d s : Int) (t : ByteArray) :
    Calls Try.prog 29 #[.pointer (some ⟨p, 0, none⟩), .int .i64 d, .int .i64 s, .string t] w fun e w' => e = .returned (.int .i64 (writeA S d s t).2) ∧ RfP w' p A D E K C (writeA S d s t).1 ∧ RfN B w p A D E K C S.m w' K C := by
  have HNM := Lib.hid (num_ar s ((S.n : Int) - 1) w)
  have hsn : decide (0 ≤ s ∧ s ≤ (S.n : Int) - 1) = isSec S s := by
    unfold isSec
    by_cases q : 0 ≤ s ∧ s < (S.n : Int)
    · rw [decide_eq_true q]; exact decide_eq_true ⟨q.1, by omega⟩
    · rw [decide_eq_false q]; exact decide_eq_false (fun r => q ⟨r.1, by omega⟩)
  rw [hsn] at HNM
  clear hsn
  have HP := Lib.hid h
  have HB := Lib.hid (And.intro hB (And.intro hBC hBw))
  have hm := h.m2
  have hm1 := h.m1
  have hn2 := h.n2
  have hn1 := h.n1
  obtain ⟨a1, a2, a3, ht⟩ := h.top
  obtain ⟨c0, c1, c2, c3, c4, c5, c6⟩ := box7r ht
  clear h ht hB hBC hBw
  cases hS : isSec S s with
  | false =>
    rw [hS] at HNM
    have hR : writeA S d s t = (S, 3) := if_pos (.inr hS)
    rw [hR]
    clear hS hR
    go_enter Try.func29, Try.ntmps29
    go_wp2_with fail
    refine HNM.out.mono ?_
    rintro e w2 ⟨rfl, hk⟩
    have HK := Lib.hid hk
    clear hk HNM c0 c1 c2 c3 c4 c5 c6
    go_wp2
    go_ret
    exact ⟨rfl, HP.out.kept HK.out, RfN.of_kept HK.out HB.out.2.2⟩
  | true =>
    rw [hS] at HNM
    have HAS := Lib.hid (fun w2 (k : Kept w w2) => asked_ar (HP.out.kept k) d ((t.size : Int) == 64))
    by_cases h0 : askedF S d ((t.size : Int) == 64) = 0
    · obtain ⟨hT, hf, hs0⟩ := asked_zero h0
      obtain ⟨n, rfl, hn⟩ := there_nat hT
      obtain ⟨q, rfl, hq⟩ := sec_nat hS
      rw [Int.toNat_natCast] at hs0
      obtain ⟨x, hx⟩ := serve_zero hs0
      have hw := write_done hS h0 (by rw [Int.toNat_natCast]; exact hx)
      rw [Int.toNat_natCast, Int.toNat_natCast] at hw
      rw [hw]
      dsimp only
      rw [h0] at HAS
      have HX := Lib.hid hx
      clear hT hf hS h0 hs0 hx hw
      go_enter Try.func29, Try.ntmps29
      go_wp2_with fail
      refine HNM.out.mono ?_
      rintro e w2 ⟨rfl, hk⟩
      have HK := Lib.hid hk
      clear hk HNM c0 c1 c2 c3 c4 c5 c6
      go_wp2_with fail
      refine (HAS.out w2 HK.out).mono ?_
      rintro e w3 ⟨rfl, hk3⟩
      have HK3 := Lib.hid (HK.out.trans hk3)
      have hp := HP.out.kept HK3.out
      obtain ⟨k2, l2, _⟩ := hp.r.cach n hn
      have t2 := (hp.r.txc hn HX.out).cell q hq
      have u2 := (hp.r.txc hn HX.out).free q
      obtain ⟨a1, a2, a3, ht⟩ := hp.top
      obtain ⟨c0, c1, c2, c3, c4, c5, c6⟩ := box7r ht
      have HC := Lib.hid (changes_ar (hp.setC hn HX.out q t) HB.out.1 hg hl)
      have HN := Lib.hid ((RfN.of_kept (p := p) (A := A) (D := D) (E := E) (K := K) (C := C) (m := S.m) HK3.out HB.out.2.2).trans (RfN.of_one (Below.setCell (Below.refl _ _) (p := ⟨C n, q, none⟩) (HB.out.2.1 n hn) (.string t)) (CellsBut.setCell w3 (.string t) rfl) (.inr (.inr (.inr (.inr ⟨n, hn, .inr rfl⟩))))))
      clear ht hk3 hp HAS
      go_wp2_with fail
      refine HC.out.mono ?_
      rintro e w4 ⟨rfl, hp4, hn4⟩
      have HP4 := Lib.hid hp4
      have HN4 := Lib.hid (HN.out.trans hn4)
      clear hp4 hn4 HC
      go_wp2
      go_ret
      exact ⟨rfl, HP4.out, HN4.out⟩
    · rw [write_ask hS h0]
      dsimp only
      have h0b : (askedF S d ((t.size : Int) == 64) == 0) = false := by simpa using h0
      generalize askedF S d ((t.size : Int) == 64) = V at *
      clear hS h0
      go_enter Try.func29, Try.ntmps29
      go_wp2_with fail
      refine HNM.out.mono ?_
      rintro e w2 ⟨rfl, hk⟩
      have HK := Lib.hid hk
      clear hk HNM c0 c1 c2 c3 c4 c5 c6
      go_wp2_with fail
      refine (HAS.out w2 HK.out).mono ?_
      rintro e w3 ⟨rfl, hk3⟩
      have HK3 := Lib.hid (HK.out.trans hk3)
      clear hk3 HAS
      go_wp2
      go_ret
      exact ⟨rfl, HP.out.kept HK3.out, RfN.of_kept HK3.out HB.out.2.2⟩
end Go.Proofs.Ytkfomaoillnehaa
