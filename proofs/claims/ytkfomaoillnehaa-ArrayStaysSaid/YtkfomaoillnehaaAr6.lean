
/- Package array: Write (conditions: the array lies as it should; not too many changes). -/
import Derived.Test.YtkfomaoillnehaaAr5
namespace Go.Proofs.Ytkfomaoillnehaa
open Go.RowKit
attribute [local go_sem] Oper.semAt_some

theorem ArP.setC {w : World} {p D : Nat} {K C : Nat → Nat} {S : Arr} {x : Dsk} {d : Nat} (h : ArP w p D K C S) (hd : d < S.m) (hx : S.ds d = some x) (s : Nat) (t : ByteArray) : ArP (w.setCell ⟨C d, s, none⟩ (.string t)) p D K C (putD S d ⟨x.k, upF x.c s t⟩) := by
  obtain ⟨cap, off, bound, left, ht, hp⟩ := h.top
  exact ⟨⟨cap, off, bound, left, ht.but (CellsBut.setCell (R := fun b => b = C d) w (.string t) (i := s) rfl) (h.ap d hd).2, hp⟩, h.r.setC hd hx s t, h.ap, h.m1, h.m2, h.n1, h.n2⟩
theorem ArN.of_setC {B : Nat} {w : World} {p D : Nat} {K C : Nat → Nat} {m d : Nat} (hd : d < m) (hB : B ≤ C d) (s : Nat) (v : Value) : ArN B w p D K C m (w.setCell ⟨C d, s, none⟩ v) K C :=
  ⟨Below.setCell (Below.refl _ _) hB v, CellsBut.setCell w v (.inr (.inr ⟨d, hd, .inr rfl⟩)), fun _ _ => ⟨.inl rfl, .inl rfl⟩, KeepsOthers.setCell _ _ _⟩
theorem serve_on {S : Arr} {d : Nat} (h : serveA S d = 0) : S.l ≠ 0 := fun e => by
  unfold serveA at h
  rw [if_pos e] at h
  cases h
set_option maxRecDepth 100000 in
set_option maxHeartbeats 4000000 in
theorem write_arr {B : Nat} {w : World} {p D : Nat} {K C : Nat → Nat} {S : Arr} (h : ArP w p D K C S) (hB : B ≤ p) (hBC : ∀ d, d < S.m → B ≤ C d) (hg : S.g ≤ 9007199254740992) (hBw : B ≤ w.heap.size) (d s : Int) (t : ByteArray) :
    Calls Try.prog 22 #[.pointer (some ⟨p, 0, none⟩), .int .i64 d, .int .i64 s, .string t] w fun e w' => e = .returned (.int .i64 (writeA S d s t).2) ∧ ArP w' p D K C (writeA S d s t).1 ∧ ArN B w p D K C S.m w' K C := by
  have HFT := Lib.hid (fit_arr h d s)
  have HP := Lib.hid h
  have HB := Lib.hid (And.intro hB (And.intro hBC hBw))
  clear hB hBC hBw
  cases hF : (isThere S d && isSec S s) with
  | false =>
    rw [hF] at HFT
    have hR : writeA S d s t = (S, 3) := by
      unfold writeA
      exact if_pos (by
        cases h1 : isThere S d
        · exact .inl rfl
        · rw [h1] at hF; exact .inr hF)
    rw [hR]
    clear h hF hR
    go_enter Try.func22, Try.ntmps22
    go_wp2_with fail
    refine HFT.out.mono ?_
    rintro e w2 ⟨rfl, hk⟩
    have HK := Lib.hid hk
    clear hk HFT
    go_wp2
    go_ret
    exact ⟨rfl, HP.out.kept HK.out, ArN.of_kept HK.out HB.out.2.2⟩
  | true =>
    rw [hF] at HFT
    obtain ⟨hT, hS⟩ := Bool.and_eq_true_iff.1 hF
    have hR0 : writeA S d s t = if t.size ≠ 64 then ((S, 1) : Arr × Int) else if serveA S d.toNat = 0 then (match S.ds d.toNat with | none => ((S, 0) : Arr × Int) | some x => (chgA (putD S d.toNat ⟨x.k, upF x.c s.toNat t⟩), 0)) else (S, serveA S d.toNat) := by
      unfold writeA
      exact if_neg (by rw [hT, hS]; simp)
    by_cases ht : t.size = 64
    · have hR1 := hR0.trans (if_neg (fun q => q ht))
      obtain ⟨n, rfl, hn⟩ := there_nat hT
      obtain ⟨q, rfl, hq⟩ := sec_nat hS
      rw [Int.toNat_natCast, Int.toNat_natCast] at hR1
      have hm := h.m2
      have hqn := h.n2
      have htb : ((t.size : Int) != 64) = false := by rw [ht]; decide
      have HSV := Lib.hid (fun w2 (k : Kept w w2) => serve_arr (h.kept k) n hn)
      obtain ⟨V, hV⟩ : ∃ V, V = serveA S n := ⟨_, rfl⟩
      rw [← hV] at HSV hR1
      by_cases h0 : V = 0
      · subst h0
        obtain ⟨x, hx⟩ := serve_zero hV.symm
        have hl := serve_on hV.symm
        rw [hR1, if_pos rfl, hx]
        dsimp only
        have HX := Lib.hid hx
        have HL := Lib.hid hl
        clear h hF hR0 hR1 hT hS hV hx hl
        go_enter Try.func22, Try.ntmps22
        go_wp2_with fail
        refine HFT.out.mono ?_
        rintro e w2 ⟨rfl, hk⟩
        have HK := Lib.hid hk
        clear hk HFT
        go_wp2_with fail
        refine (HSV.out w2 HK.out).mono ?_
        rintro e w3 ⟨rfl, hk3⟩
        have HK3 := Lib.hid (HK.out.trans hk3)
        have hp := HP.out.kept HK3.out
        have HP3 := Lib.hid hp
        have l2 := hp.r.ccell hn HX.out
        have t2 := (hp.r.cs n hn x HX.out).cell q hq
        have u2 := (hp.r.cs n hn x HX.out).free q
        obtain ⟨cap, off, bound, left, hb, _⟩ := hp.top
        obtain ⟨c0, c1, c2, c3, c4, c5⟩ := box6m hb
        have HC := Lib.hid (changed_arr (hp.setC hn HX.out q t) HB.out.1 HL.out hg)
        have HN := Lib.hid ((ArN.of_kept (p := p) (D := D) (K := K) (C := C) (m := S.m) HK3.out HB.out.2.2).trans (ArN.of_setC hn (HB.out.2.1 n hn) q (.string t)))
        clear hb hk3 hp HSV
        go_wp2_with fail
        refine HC.out.mono ?_
        rintro e w4 ⟨rfl, hp4, hn4⟩
        have HP4 := Lib.hid hp4
        have HN4 := Lib.hid (HN.out.trans hn4)
        clear hp4 hn4 HC
        go_wp2
        go_ret
        exact ⟨rfl, HP4.out, HN4.out⟩
      · rw [hR1, if_neg h0]
        have h0b : (V != 0) = true := by simpa using h0
        clear h hF hR0 hR1 hT hS hV
        go_enter Try.func22, Try.ntmps22
        go_wp2_with fail
        refine HFT.out.mono ?_
        rintro e w2 ⟨rfl, hk⟩
        have HK := Lib.hid hk
        clear hk HFT
        go_wp2_with fail
        refine (HSV.out w2 HK.out).mono ?_
        rintro e w3 ⟨rfl, hk3⟩
        have HK3 := Lib.hid (HK.out.trans hk3)
        clear hk3 HSV
        go_wp2
        go_ret
        exact ⟨rfl, HP.out.kept HK3.out, ArN.of_kept HK3.out HB.out.2.2⟩
    · rw [hR0, if_pos ht]
      have htb : ((t.size : Int) != 64) = true := by rw [bne_iff_ne]; omega
      clear h hF hR0 hT hS
      go_enter Try.func22, Try.ntmps22
      go_wp2_with fail
      refine HFT.out.mono ?_
      rintro e w2 ⟨rfl, hk⟩
      have HK := Lib.hid hk
      clear hk HFT
      go_wp2
      go_ret
      exact ⟨rfl, HP.out.kept HK.out, ArN.of_kept HK.out HB.out.2.2⟩
end Go.Proofs.Ytkfomaoillnehaa
