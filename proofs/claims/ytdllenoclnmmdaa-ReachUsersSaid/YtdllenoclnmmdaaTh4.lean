/- The reference's At, Things, Named (no conditions but that lengths fit). -/
import Derived.Test.YtdllenoclnmmdaaTh3
import Derived.Test.YtdllenoclnmmdaaIns
import Derived.Test.YtdllenoclnmmdaaMb
namespace Go.Proofs.Ytdllenoclnmmdaa
open Go.RowKit Go.Shelf
attribute [local go_sem] Oper.semAt_some

/-- which of the things is the first of a digest; their number: none is -/
def atF : List Th → ByteArray → Nat
  | [], _ => 0
  | x :: r, d => if x.d = d then 0 else atF r d + 1
theorem atF_le : ∀ (ts : List Th) (d : ByteArray), atF ts d ≤ ts.length
  | [], _ => Nat.le_refl _
  | x :: r, d => by
    have := atF_le r d
    unfold atF
    split
    · omega
    · simp; exact this
theorem atF_of {d : ByteArray} : ∀ (ts : List Th) (k : Nat), k ≤ ts.length → (∀ i, i < k → (ts.getD i th00).d ≠ d) → (k < ts.length → (ts.getD k th00).d = d) → atF ts d = k
  | [], k, hk, _, _ => by simp at hk; subst hk; rfl
  | x :: r, 0, _, _, h => by
    have := h (Nat.succ_pos _)
    simp [List.getD] at this
    unfold atF
    rw [if_pos this]
  | x :: r, k + 1, hk, h1, h2 => by
    have h0 := h1 0 (Nat.succ_pos _)
    simp [List.getD] at h0
    have := atF_of r k (by simpa using hk) (fun i hi => by simpa [List.getD] using h1 (i + 1) (by omega)) (fun hk => by simpa [List.getD] using h2 (by simpa using hk))
    unfold atF
    rw [if_neg h0, this]
theorem atF_at {d : ByteArray} : ∀ (ts : List Th), atF ts d < ts.length → (ts.getD (atF ts d) th00).d = d
  | [], h => by simp at h
  | x :: r, h => by
    unfold atF at h ⊢
    by_cases e : x.d = d
    · rw [if_pos e]; simp [List.getD, e]
    · rw [if_neg e] at h ⊢
      have := atF_at r (by simpa using h)
      simpa [List.getD] using this
theorem atF_ne {d : ByteArray} : ∀ (ts : List Th) (i : Nat), i < atF ts d → (ts.getD i th00).d ≠ d
  | [], i, h => by simp [atF] at h
  | x :: r, 0, h => by
    unfold atF at h
    by_cases e : x.d = d
    · rw [if_pos e] at h; omega
    · simpa [List.getD] using e
  | x :: r, i + 1, h => by
    unfold atF at h
    by_cases e : x.d = d
    · rw [if_pos e] at h; omega
    · rw [if_neg e] at h
      have := atF_ne (d := d) r i (by omega)
      simpa [List.getD] using this
/-- as the reference tells it -/
def atZ (ts : List Th) (d : ByteArray) : Int := if atF ts d < ts.length then (atF ts d : Int) else -1
set_option maxRecDepth 100000 in
set_option maxHeartbeats 1000000 in
theorem rat_any (a : Option Addr) (l cap : Nat) (ts : List Th) (d : ByteArray) (w : World) (h : ThsIn w a l ts) :
    Calls Try.prog 35 #[.slice a l cap, .string d] w fun e w' => e = .returned (.int .i64 (atZ ts d)) ∧ Kept w w' := by
  have hle := h.le
  have HS := Lib.hid h
  have HL := Lib.hid h.len_eq
  clear h
  obtain ⟨R, hR⟩ : ∃ R : Int, R = atZ ts d := ⟨_, rfl⟩
  rw [← hR]
  have HR := Lib.hid hR
  clear hR
  go_enter Try.func35, Try.ntmps35
  go_wp2_with fail
  go_loopw [5] (fun i wr => ∃ k : Nat, k ≤ l ∧ i = .int .i64 k ∧ Hid (∀ q, q < k → (ts.getD q th00).d ≠ d) ∧ Kept w wr) (fun i _ => l - (intOf i).toNat)
  case atStart => exact ⟨0, by omega, rfl, Lib.hid (fun q hq => absurd hq (Nat.not_lt_zero q)), Kept.refl _⟩
  case round =>
    obtain ⟨k, hk, rfl, HZ, hkr⟩ := hrel
    have HK := Lib.hid hkr
    clear hkr
    by_cases hlt : k < l
    · have hd1 : decide (k < l) = true := decide_eq_true hlt
      obtain ⟨b, off, rfl, hc⟩ := HS.out.at (by omega)
      obtain ⟨c0, c1, c2⟩ := hc k hlt _ HK.out
      obtain ⟨t, ht⟩ : ∃ t, t = (ts.getD k th00).d := ⟨_, rfl⟩
      rw [← ht] at c0
      have HT := Lib.hid ht
      clear hc ht c1 c2
      by_cases he : t = d
      · have HE := Lib.hid (show R = (k : Int) by
          have e : atF ts d = k := atF_of ts k (by rw [HL.out]; omega) HZ.out (fun _ => by rw [← HT.out]; exact he)
          rw [HR.out]; unfold atZ; rw [e, if_pos (by rw [HL.out]; exact hlt)])
        subst he
        go_wp2_with fail
        go_ret
        exact ⟨reti HE.out, HK.out⟩
      · obtain ⟨g1, g2, g3⟩ := bytes_ne4 he
        have HN := Lib.hid (show ∀ q, q < k + 1 → (ts.getD q th00).d ≠ d from fun q hq => by
          by_cases e : q = k
          · rw [e, ← HT.out]; exact he
          · exact HZ.out q (by omega))
        clear he
        go_wp2_with fail
        go_roundw
        case rel => exact ⟨k + 1, by omega, by go_num, HN, HK.out⟩
        case measure => simp [intOf]; omega
    · obtain rfl : l = k := by omega
      have hd1 : decide (l < l) = false := decide_eq_false (by omega)
      have HE := Lib.hid (show R = -1 by
        have e : atF ts d = l := atF_of ts l (by rw [HL.out]; omega) HZ.out (fun h => by rw [HL.out] at h; omega)
        rw [HR.out]; unfold atZ; rw [e, if_neg (by rw [HL.out]; omega)])
      go_wp2
      go_ret
      exact ⟨reti HE.out, HK.out⟩
set_option maxRecDepth 100000 in
set_option maxHeartbeats 4000000 in
theorem rthings_any (a : Option Addr) (l cap : Nat) (ts : List Th) (w : World) (h : ThsIn w a l ts) :
    Calls Try.prog 22 #[.slice a l cap] w fun e w' => e = .returned (.bool (thsB ts)) ∧ Kept w w' := by
  have hle := h.le
  have HS := Lib.hid h
  have HL := Lib.hid h.len_eq
  clear h
  obtain ⟨R, hR⟩ : ∃ R : Bool, R = thsB ts := ⟨_, rfl⟩
  rw [← hR]
  have HR := Lib.hid hR
  clear hR
  go_enter Try.func22, Try.ntmps22
  go_wp2_with fail
  go_loopw [3] (fun i wr => ∃ k : Nat, k ≤ l ∧ k ≤ 61 ∧ i = .int .i64 k ∧ Hid (chkK ts k) ∧ Kept w wr) (fun i _ => l - (intOf i).toNat)
  case atStart => exact ⟨0, by omega, by omega, rfl, Lib.hid ⟨rfl, rfl⟩, Kept.refl _⟩
  case round =>
    obtain ⟨k, hk, hk61, rfl, HZ, hkr⟩ := hrel
    have HK := Lib.hid hkr
    clear hkr
    by_cases hend : k < l ∧ k ≤ 60
    · obtain ⟨hlt, h60⟩ := hend
      have hd1 : decide (k < l) = true := decide_eq_true hlt
      have hd2 : decide ((k : Int) ≤ 60) = true := decide_eq_true (by omega)
      obtain ⟨b, off, rfl, hc⟩ := HS.out.at (by omega)
      obtain ⟨c0, c1, c2⟩ := hc k hlt _ HK.out
      have hkt : k < ts.length := by rw [HL.out]; exact hlt
      have HB1 := Lib.hid (fun h => chk_bad1 hkt h)
      have HB2 := Lib.hid (fun h0 h => chk_bad2 hkt h0 h)
      have HNX := Lib.hid (fun h1 h2 => chk_next hkt HZ.out h1 h2)
      obtain ⟨x, hx⟩ : ∃ x, x = ts.getD k th00 := ⟨_, rfl⟩
      rw [← hx] at c0 c1 c2 HB1 HB2 HNX
      have HX := Lib.hid hx
      have HC := Lib.hid hc
      clear hc hx hkt
      have HTF := Lib.hid (show thB x = (decide (x.d.size = 32) && (decide (x.t.size ≤ 2000) && (!x.m || (takeM x.t).isSome))) from rfl)
      obtain ⟨ok, hok⟩ : ∃ ok, ok = (takeM x.t).isSome := ⟨_, rfl⟩
      have htk := fun w => take_caseR x.t (mfO (takeM x.t)) ok rfl hok w
      rw [← hok] at HTF
      generalize mfO (takeM x.t) = mm at *
      obtain ⟨mk, mbs, mus⟩ := mm
      dsimp only at htk
      have HTK := Lib.hid htk
      clear htk hok
      by_cases h32 : x.d.size = 32
      · have hs1 : ((x.d.size : Int) != 32) = false := by simp [h32]
        by_cases h2k : x.t.size ≤ 2000
        · have hs2 : decide (2000 < (x.t.size : Int)) = false := decide_eq_false (by omega)
          have HTG := Lib.hid (show thB x = (!x.m || ok) by rw [HTF.out, decide_eq_true h32, decide_eq_true h2k]; rfl)
          clear h32 HTF
          by_cases hord : k = 0 ∨ ltB (ts.getD (k - 1) th00).d x.d = true
          · have HORD := Lib.hid (show 0 < k → ltB (ts.getD (k - 1) th00).d x.d = true from fun h => hord.resolve_left (by omega))
            by_cases hk0 : k = 0
            · subst hk0
              clear hord
              simp only [Nat.zero_mul, Nat.add_zero] at c0 c1 c2
              go_wp2_with fail
              go_quiet (fail)
              go_wp2_with fail
              obtain ⟨c0, c1, c2⟩ := HC.out 0 hlt _ (HK.out.drewN nq)
              rw [← HX.out] at c0 c1 c2
              simp only [Nat.zero_mul, Nat.add_zero] at c0 c1 c2
              refine (HTK.out _).mono ?_
              rintro e w2 ⟨b1, e1, b2, e2, rfl, _, _, hk2⟩
              have HK2 := Lib.hid (((HK.out.drewN nq).trans hk2).alloc (.cells #[.int .i64 mk, .slice b1 mbs.length e1, .slice b2 mus.length e2] 28))
              clear hk2 c0 c1 c2
              go_upto_region 7 with (fail)
              generalize w2.alloc (.cells #[.int .i64 mk, .slice b1 mbs.length e1, .slice b2 mus.length e2] 28) = w3 at *
              obtain ⟨c0, c1, c2⟩ := HC.out 0 hlt _ HK2.out
              rw [← HX.out] at c0 c1 c2
              simp only [Nat.zero_mul, Nat.add_zero] at c0 c1 c2
              by_cases hbad : x.m = true ∧ ok = false
              · obtain ⟨hm, rfl⟩ := hbad
                have HE := Lib.hid (show R = false by rw [HR.out]; exact HB1.out (by rw [HTG.out, hm]; rfl))
                rw [hm] at c2
                clear hm
                go_wp2
                go_ret
                exact ⟨retb HE.out, HK2.out⟩
              · have HN := Lib.hid (HNX.out (by rw [HTG.out]; cases hm : x.m <;> cases ok <;> simp_all) HORD.out)
                generalize hxm : x.m = xm at c2
                have hb2 : (xm = false) ∨ (xm = true ∧ ok = true) := by
                  cases xm
                  · exact .inl rfl
                  · refine .inr ⟨rfl, ?_⟩
                    cases ok
                    · exact absurd ⟨hxm, rfl⟩ hbad
                    · rfl
                clear hbad hxm
                rcases hb2 with rfl | ⟨rfl, rfl⟩
                · go_wp2_with fail
                  go_roundw
                  case rel => exact ⟨0 + 1, by omega, by omega, by go_num, HN, HK2.out⟩
                  case measure => simp [intOf]; omega
                · go_wp2_with fail
                  go_roundw
                  case rel => exact ⟨0 + 1, by omega, by omega, by go_num, HN, HK2.out⟩
                  case measure => simp [intOf]; omega

            · have hq := hord.resolve_left hk0
              obtain ⟨m, hm⟩ : ∃ m, m = k - 1 := ⟨_, rfl⟩
              rw [← hm] at hq
              obtain ⟨d0, _, _⟩ := HC.out m (by omega) _ HK.out
              generalize (ts.getD m th00).d = y at d0 hq
              have hop := run_geq hq
              have hmi : (k : Int) - 1 = (m : Int) := by omega
              have hwj : IntKind.i64.wrap (m : Int) = (m : Int) := IntWalk.i64_in _ (by omega)
              have hm0 : decide (0 < k) = true := decide_eq_true (by omega)
              have hml : m < l := by omega
              clear hm hk0 hord hq
              go_wp2_with fail
              go_quiet (fail)
              go_wp2_with fail
              obtain ⟨c0, c1, c2⟩ := HC.out k hlt _ (HK.out.drewN nq)
              rw [← HX.out] at c0 c1 c2
              refine (HTK.out _).mono ?_
              rintro e w2 ⟨b1, e1, b2, e2, rfl, _, _, hk2⟩
              have HK2 := Lib.hid (((HK.out.drewN nq).trans hk2).alloc (.cells #[.int .i64 mk, .slice b1 mbs.length e1, .slice b2 mus.length e2] 28))
              clear hk2 c0 c1 c2
              go_upto_region 7 with (fail)
              generalize w2.alloc (.cells #[.int .i64 mk, .slice b1 mbs.length e1, .slice b2 mus.length e2] 28) = w3 at *
              obtain ⟨c0, c1, c2⟩ := HC.out k hlt _ HK2.out
              rw [← HX.out] at c0 c1 c2
              by_cases hbad : x.m = true ∧ ok = false
              · obtain ⟨hm, rfl⟩ := hbad
                have HE := Lib.hid (show R = false by rw [HR.out]; exact HB1.out (by rw [HTG.out, hm]; rfl))
                rw [hm] at c2
                clear hm
                go_wp2
                go_ret
                exact ⟨retb HE.out, HK2.out⟩
              · have HN := Lib.hid (HNX.out (by rw [HTG.out]; cases hm : x.m <;> cases ok <;> simp_all) HORD.out)
                generalize hxm : x.m = xm at c2
                have hb2 : (xm = false) ∨ (xm = true ∧ ok = true) := by
                  cases xm
                  · exact .inl rfl
                  · refine .inr ⟨rfl, ?_⟩
                    cases ok
                    · exact absurd ⟨hxm, rfl⟩ hbad
                    · rfl
                clear hbad hxm
                rcases hb2 with rfl | ⟨rfl, rfl⟩
                · go_wp2_with fail
                  go_roundw
                  case rel => exact ⟨k + 1, by omega, by omega, by go_num, HN, HK2.out⟩
                  case measure => simp [intOf]; omega
                · go_wp2_with fail
                  go_roundw
                  case rel => exact ⟨k + 1, by omega, by omega, by go_num, HN, HK2.out⟩
                  case measure => simp [intOf]; omega

          · obtain ⟨j, rfl⟩ : ∃ j, k = j + 1 := ⟨k - 1, by omega⟩
            have hq : ltB (ts.getD j th00).d x.d = false := by
              cases e : ltB (ts.getD j th00).d x.d with
              | false => rfl
              | true => exact absurd (.inr (by rw [Nat.add_sub_cancel]; exact e)) hord
            have HE := Lib.hid (show R = false by rw [HR.out]; exact HB2.out (by omega) (by rw [Nat.add_sub_cancel]; exact hq))
            obtain ⟨d0, _, _⟩ := HC.out j (by omega) _ HK.out
            generalize (ts.getD j th00).d = y at d0 hq
            have hop := run_geq hq
            obtain ⟨m, hm⟩ : ∃ m, m = j + 1 := ⟨_, rfl⟩
            rw [← hm] at c0 c1 c2 hlt hd1 hd2 ⊢
            have hmi : (m : Int) - 1 = (j : Int) := by omega
            have hwj : IntKind.i64.wrap (j : Int) = (j : Int) := IntWalk.i64_in _ (by omega)
            have hm0 : decide (0 < m) = true := decide_eq_true (by omega)
            have hjl : j < l := by omega
            clear hm hord hq
            go_wp2_with fail
            go_quiet (fail)
            go_wp2
            go_ret
            exact ⟨retb HE.out, HK.out.drewN nq⟩

        · have hs2 : decide (2000 < (x.t.size : Int)) = true := decide_eq_true (by omega)
          have HE := Lib.hid (show R = false by rw [HR.out]; exact HB1.out (by rw [HTF.out, decide_eq_false h2k, Bool.false_and, Bool.and_false]))
          clear h32 HTF
          go_wp2_with fail
          go_quiet (fail)
          go_wp2
          go_ret
          exact ⟨retb HE.out, HK.out.drewN nq⟩
      · have hs1 : ((x.d.size : Int) != 32) = true := by simp; omega
        have HE := Lib.hid (show R = false by rw [HR.out]; exact HB1.out (by rw [HTF.out, decide_eq_false h32, Bool.false_and]))
        clear h32 HTF
        go_wp2_with fail
        go_quiet (fail)
        go_wp2
        go_ret
        exact ⟨retb HE.out, HK.out.drewN nq⟩
    · have HE := Lib.hid (show R = decide (l ≤ 60) by
        rw [HR.out]
        by_cases e : l ≤ 60
        · obtain rfl : l = k := by omega
          rw [chk_all (by rw [HL.out]; exact HZ.out), HL.out]
        · rw [decide_eq_false e]
          unfold thsB
          rw [HL.out, decide_eq_false e]; rfl)
      by_cases hlt : k < l
      · have hd1 : decide (k < l) = true := decide_eq_true hlt
        have hd2 : decide ((k : Int) ≤ 60) = false := decide_eq_false (by omega)
        have hd3 : decide ((l : Int) ≤ 60) = false := decide_eq_false (by omega)
        have HE2 := Lib.hid (show R = false by rw [HE.out, decide_eq_false (by omega)])
        clear hend
        go_wp2
        go_ret
        exact ⟨retb HE2.out, HK.out⟩
      · obtain rfl : l = k := by omega
        have hd1 : decide (l < l) = false := decide_eq_false (by omega)
        clear hend
        by_cases h6 : l ≤ 60
        · have hd3 : decide ((l : Int) ≤ 60) = true := decide_eq_true (by omega)
          have HE2 := Lib.hid (show R = true by rw [HE.out, decide_eq_true h6])
          go_wp2
          go_ret
          exact ⟨retb HE2.out, HK.out⟩
        · have hd3 : decide ((l : Int) ≤ 60) = false := decide_eq_false (by omega)
          have HE2 := Lib.hid (show R = false by rw [HE.out, decide_eq_false h6])
          go_wp2
          go_ret
          exact ⟨retb HE2.out, HK.out⟩
set_option maxRecDepth 100000 in
set_option maxHeartbeats 4000000 in
theorem rnamed_any (x : Th) (w : World) : Calls Try.prog 37 #[.agg #[.string x.d, .string x.t, .bool x.m]] w (TextsP w (nmF x)) := by
  have HB := Lib.hid (BlockAt.new w #[.string x.d, .string x.t, .bool x.m] 65)
  have HK := Lib.hid ((Kept.refl w).alloc (.cells #[.string x.d, .string x.t, .bool x.m] 65))
  have HF := Lib.hid (show nmF x = if x.m = true then (mfO (takeM x.t)).bs ++ (mfO (takeM x.t)).us else [] from rfl)
  have htk := fun w => take_caseR x.t (mfO (takeM x.t)) (takeM x.t).isSome rfl rfl w
  have hfew := mfO_few (takeM x.t) x.t rfl
  generalize nmF x = R at *
  generalize (takeM x.t).isSome = ok at *
  generalize mfO (takeM x.t) = mm at *
  have HT := Lib.hid htk
  clear htk
  obtain ⟨d, t, m⟩ := x
  dsimp only at HF HT HB HK ⊢
  go_enter Try.func37, Try.ntmps37
  go_upto_region 1 with (fail)
  generalize hw1 : w.alloc (.cells #[.string d, .string t, .bool m] 65) = w1 at *
  clear hw1
  obtain ⟨a0, a1, a2⟩ := box3 HB.out
  cases m with
  | false =>
    obtain rfl : R = [] := HF.out
    clear HF
    go_wp2
    go_ret
    exact ⟨none, 0, rfl, nil_strs _ _, HK.out⟩
  | true =>
    obtain rfl : R = mm.bs ++ mm.us := HF.out
    clear HF
    obtain ⟨k, bs, us⟩ := mm
    dsimp only at HT hfew ⊢
    go_wp2_with fail
    refine (HT.out _).mono ?_
    rintro e w2 ⟨b1, g1, b2, g2, rfl, hs1, hs2, hk2⟩
    have kx := (Kept.refl w2).alloc (.cells #[.int .i64 k, .slice b1 bs.length g1, .slice b2 us.length g2] 28)
    have HB3 := Lib.hid (hs1.kept kx)
    have HU := Lib.hid (hs2.kept kx)
    have HSZ := Lib.hid (show ∀ s ∈ bs ++ us, s.size ≤ 9223372036854775807 from fun s hs => (List.mem_append.1 hs).elim (hs1.sizes s) (hs2.sizes s))
    have HK3 := Lib.hid ((HK.out.trans hk2).trans kx)
    have HM := Lib.hid (BlockAt.new w2 #[.int .i64 k, .slice b1 bs.length g1, .slice b2 us.length g2] 28)
    have HFW := Lib.hid (show bs.length + us.length ≤ 40 from hfew)
    obtain ⟨i0, hi1, hz0, hz1, hz2⟩ := info_parts Try.infoSt
    have HI := Lib.hid (And.intro hi1 (And.intro hz0 (And.intro hz1 hz2)))
    clear hk2 a0 a1 a2 hs1 hs2 hi1 hz0 hz1 hz2 HB HK HT kx hfew
    go_upto_region 4 with (fail)
    obtain ⟨p3, hp3⟩ : ∃ p3, p3 = w2.heap.size := ⟨_, rfl⟩
    generalize w2.alloc (.cells #[.int .i64 k, .slice b1 bs.length g1, .slice b2 us.length g2] 28) = w3 at *
    rw [← hp3] at HM ⊢
    have HPM := Lib.hid (show ∀ w, Kept w3 w → w.cell? ⟨p3, 0, none⟩ = some (.int .i64 k) ∧ w.cell? ⟨p3, 1, none⟩ = some (.slice b1 bs.length g1) ∧ w.cell? ⟨p3, 2, none⟩ = some (.slice b2 us.length g2) from fun w q => box3k HM.out q)
    have HCP := Lib.hid (show ∀ w, Kept w3 w → Calls Try.prog 12 #[.slice b1 bs.length g1] w fun e w' => ∃ a' cap', e = .returned (.slice a' bs.length cap') ∧ w'.ownsRow w.heap.size 9 1 (.slice a' bs.length cap') bs.length (bs.map Value.string) ∧ Kept w w' from
      fun w q => copy_strings_own b1 bs.length g1 bs w (HB3.out.kept q) (by have := HFW.out; omega))
    have HTL := Lib.hid (show ∀ w, Kept w3 w → (us.map Value.string).length = us.length * 1 ∧ ∀ ad, b2 = some ad → ∀ j u, (us.map Value.string)[j]? = some u → w.cell? (ad.add j) = some u from fun w q => ⟨by rw [Nat.mul_one]; exact (held_strs (HU.out.kept q)).1, (held_strs (HU.out.kept q)).2.2.2⟩)
    have HNO := Lib.hid (show b2 = none → us.length = 0 from (held_strs HU.out).2.2.1)
    clear hp3
    go_wp2_with fail
    refine Pj.wp_region_step (fun az0 L az w => ∃ V : Nat → Value, az = Pj.puts [(14, 0), (15, 1), (16, 2), (17, 3), (18, 4), (19, 5), (2, 6)] V az0 ∧ Pj.J w3 [Pj.Is (.pointer (some ⟨p3, 1, none⟩)), Pj.Is (.slice b1 bs.length g1), (fun _ v => ∃ a c, v = .slice a bs.length c), Pj.Is (.pointer (some ⟨p3, 2, none⟩)), Pj.Is (.slice b2 us.length g2), (fun _ v => ∃ a c, v = .slice a (bs.length + us.length) c), (fun _ _ => True)] L V w ∧ Pj.Cpy w3.heap.size 9 1 bs.length us.length (bs.map Value.string) (us.map Value.string) 2 5 L V w ∧ (L 6 → L 5 ∧ V 6 = V 5)) (by as_aux_lemma => kernel_rfl) (by as_aux_lemma => kernel_rfl) ?eh0 ?ehs ?ehe
    case eh0 =>
      intro L hL
      exact ⟨_, Pj.puts_self _ (fun j => ([14, 15, 16, 17, 18, 19, 2] : List Nat).getD j 0) [0, 1, 2, 3, 4, 5, 6], Pj.J.none (n := 7) (Nat.le_refl _) hL ((Kept.refl _).drew), Pj.Cpy.start (hL 2 (by decide)) (hL 5 (by decide)), fun h => absurd h (hL 6 (by decide))⟩
    case ehs =>
      rintro L L' az w iz opz Kq ⟨V, rfl, hJ, hI, hc6⟩ ho hopen hdep hL hKq
      have hP : Pj.AllFlat [Pj.Is (.pointer (some ⟨p3, 1, none⟩)), Pj.Is (.slice b1 bs.length g1), (fun _ v => ∃ a c, v = .slice a bs.length c), Pj.Is (.pointer (some ⟨p3, 2, none⟩)), Pj.Is (.slice b2 us.length g2), (fun _ v => ∃ a c, v = .slice a (bs.length + us.length) c), (fun _ _ => True)] := ⟨Pj.Is.flat _, Pj.Is.flat _, (fun _ _ _ h _ => h), Pj.Is.flat _, Pj.Is.flat _, (fun _ _ _ h _ => h), (fun _ _ _ _ _ => trivial), trivial⟩
      have HP := Lib.hid hP
      clear hP
      match iz, ho with
      | 0, ho =>
        simp only [List.getElem?_toArray, List.getElem?_cons_zero, Option.some.injEq] at ho
        have HJ := Lib.hid hJ
        clear hJ
        have HXhI := Lib.hid hI
        clear hI
        subst ho
        refine Pj.Step.free rfl ?_
        simp only [Pj.puts, List.foldl_cons, List.foldl_nil, Act.put, List.setIfInBounds_toArray, List.set_cons_zero, List.set_cons_succ]
        go_simp
        exact hKq _ _ ⟨Pj.vset V 0 (.pointer (some ⟨p3, 1, none⟩)), by simp only [Pj.puts, List.foldl_cons, List.foldl_nil, Act.put, List.setIfInBounds_toArray, List.set_cons_zero, List.set_cons_succ, Pj.vset, Nat.reduceEqDiff, if_true, if_false], HJ.out.flat HP.out hL (HJ.out.kp.trans (Kept.refl _)) (Kept.size (Kept.refl _)) (rfl), HXhI.out.keep (by decide) (by decide) hL (Kept.refl _), fun h => ⟨(hL 5).2 (.inr (hc6 (((hL 6).1 h).resolve_left (by decide))).1), by rw [Pj.vset_other _ _ (by decide), Pj.vset_other _ _ (by decide)]; exact (hc6 (((hL 6).1 h).resolve_left (by decide))).2⟩⟩
      | 1, ho =>
        simp only [List.getElem?_toArray, List.getElem?_cons_zero, List.getElem?_cons_succ, Option.some.injEq] at ho
        have e0 : V 0 = .pointer (some ⟨p3, 1, none⟩) := hJ.h 0 (hdep 0 (by rw [← ho]; kernel_rfl))
        obtain ⟨d0, d1, d2⟩ := HPM.out _ hJ.kp
        have HJ := Lib.hid hJ
        clear hJ
        have HXhI := Lib.hid hI
        clear hI
        subst ho
        refine Pj.Step.free rfl ?_
        simp only [Pj.puts, List.foldl_cons, List.foldl_nil, Act.put, List.setIfInBounds_toArray, List.set_cons_zero, List.set_cons_succ, e0]
        go_simp
        exact hKq _ _ ⟨Pj.vset V 1 (.slice b1 bs.length g1), by simp only [Pj.puts, List.foldl_cons, List.foldl_nil, Act.put, List.setIfInBounds_toArray, List.set_cons_zero, List.set_cons_succ, Pj.vset, Nat.reduceEqDiff, if_true, if_false, e0], HJ.out.flat HP.out hL (HJ.out.kp.trans (Kept.refl _)) (Kept.size (Kept.refl _)) (rfl), HXhI.out.keep (by decide) (by decide) hL (Kept.refl _), fun h => ⟨(hL 5).2 (.inr (hc6 (((hL 6).1 h).resolve_left (by decide))).1), by rw [Pj.vset_other _ _ (by decide), Pj.vset_other _ _ (by decide)]; exact (hc6 (((hL 6).1 h).resolve_left (by decide))).2⟩⟩
      | 2, ho =>
        simp only [List.getElem?_toArray, List.getElem?_cons_zero, List.getElem?_cons_succ, Option.some.injEq] at ho
        have e1 : V 1 = .slice b1 bs.length g1 := hJ.h 1 (hdep 1 (by rw [← ho]; kernel_rfl))
        have hcp := HCP.out w hJ.kp
        have HJ := Lib.hid hJ
        clear hJ
        have HXhI := Lib.hid hI
        clear hI
        subst ho
        refine Pj.Step.free rfl ?_
        simp only [Pj.puts, List.foldl_cons, List.foldl_nil, Act.put, List.setIfInBounds_toArray, List.set_cons_zero, List.set_cons_succ, e1]
        go_simp
        refine hcp.mono ?_
        rintro e w' ⟨a5, c5, rfl, hown5', hk9⟩
        have hown5 := own_base hown5' (Kept.size HJ.out.kp)
        exact hKq _ _ ⟨Pj.vset V 2 (.slice a5 bs.length c5), by simp only [Pj.puts, List.foldl_cons, List.foldl_nil, Act.put, List.setIfInBounds_toArray, List.set_cons_zero, List.set_cons_succ, Pj.vset, Nat.reduceEqDiff, if_true, if_false, e1], HJ.out.flat HP.out hL (HJ.out.kp.trans (hk9)) (Kept.size (hk9)) (⟨_, _, rfl⟩), HXhI.out.copied hopen (by decide) hL hown5, fun h => ⟨(hL 5).2 (.inr (hc6 (((hL 6).1 h).resolve_left (by decide))).1), by rw [Pj.vset_other _ _ (by decide), Pj.vset_other _ _ (by decide)]; exact (hc6 (((hL 6).1 h).resolve_left (by decide))).2⟩⟩
      | 3, ho =>
        simp only [List.getElem?_toArray, List.getElem?_cons_zero, List.getElem?_cons_succ, Option.some.injEq] at ho
        have HJ := Lib.hid hJ
        clear hJ
        have HXhI := Lib.hid hI
        clear hI
        subst ho
        refine Pj.Step.free rfl ?_
        simp only [Pj.puts, List.foldl_cons, List.foldl_nil, Act.put, List.setIfInBounds_toArray, List.set_cons_zero, List.set_cons_succ]
        go_simp
        exact hKq _ _ ⟨Pj.vset V 3 (.pointer (some ⟨p3, 2, none⟩)), by simp only [Pj.puts, List.foldl_cons, List.foldl_nil, Act.put, List.setIfInBounds_toArray, List.set_cons_zero, List.set_cons_succ, Pj.vset, Nat.reduceEqDiff, if_true, if_false], HJ.out.flat HP.out hL (HJ.out.kp.trans (Kept.refl _)) (Kept.size (Kept.refl _)) (rfl), HXhI.out.keep (by decide) (by decide) hL (Kept.refl _), fun h => ⟨(hL 5).2 (.inr (hc6 (((hL 6).1 h).resolve_left (by decide))).1), by rw [Pj.vset_other _ _ (by decide), Pj.vset_other _ _ (by decide)]; exact (hc6 (((hL 6).1 h).resolve_left (by decide))).2⟩⟩
      | 4, ho =>
        simp only [List.getElem?_toArray, List.getElem?_cons_zero, List.getElem?_cons_succ, Option.some.injEq] at ho
        have e3 : V 3 = .pointer (some ⟨p3, 2, none⟩) := hJ.h 3 (hdep 3 (by rw [← ho]; kernel_rfl))
        obtain ⟨d0, d1, d2⟩ := HPM.out _ hJ.kp
        have HJ := Lib.hid hJ
        clear hJ
        have HXhI := Lib.hid hI
        clear hI
        subst ho
        refine Pj.Step.free rfl ?_
        simp only [Pj.puts, List.foldl_cons, List.foldl_nil, Act.put, List.setIfInBounds_toArray, List.set_cons_zero, List.set_cons_succ, e3]
        go_simp
        exact hKq _ _ ⟨Pj.vset V 4 (.slice b2 us.length g2), by simp only [Pj.puts, List.foldl_cons, List.foldl_nil, Act.put, List.setIfInBounds_toArray, List.set_cons_zero, List.set_cons_succ, Pj.vset, Nat.reduceEqDiff, if_true, if_false, e3], HJ.out.flat HP.out hL (HJ.out.kp.trans (Kept.refl _)) (Kept.size (Kept.refl _)) (rfl), HXhI.out.keep (by decide) (by decide) hL (Kept.refl _), fun h => ⟨(hL 5).2 (.inr (hc6 (((hL 6).1 h).resolve_left (by decide))).1), by rw [Pj.vset_other _ _ (by decide), Pj.vset_other _ _ (by decide)]; exact (hc6 (((hL 6).1 h).resolve_left (by decide))).2⟩⟩
      | 5, ho =>
        simp only [List.getElem?_toArray, List.getElem?_cons_zero, List.getElem?_cons_succ, Option.some.injEq] at ho
        have l2 := hdep 2 (by rw [← ho]; kernel_rfl)
        obtain ⟨a6, c6, e2⟩ := hJ.h 2 l2
        have e4 : V 4 = .slice b2 us.length g2 := hJ.h 4 (hdep 4 (by rw [← ho]; kernel_rfl))
        have hown := hI.c1 l2 hopen
        rw [e2] at hown
        have htl := HTL.out w hJ.kp
        have HJ := Lib.hid hJ
        clear hJ
        have HXhI := Lib.hid hI
        clear hI
        subst ho
        refine Pj.Step.free rfl ?_
        simp only [Pj.puts, List.foldl_cons, List.foldl_nil, Act.put, List.setIfInBounds_toArray, List.set_cons_zero, List.set_cons_succ, e2, e4]
        refine Pj.oper_takes _ _ 23 rfl w3.heap.size 9 i0 (.string ByteArray.empty) 1 16 Try.underlying23 HI.out.1 HI.out.2.1 HI.out.2.2.1 HI.out.2.2.2 rfl (by decide) (.slice a6 bs.length c6) bs.length (bs.map Value.string) rfl hown b2 us.length g2 (us.map Value.string) rfl HNO.out htl.1 htl.2 (fun u hu => by obtain ⟨x, _, rfl⟩ := List.mem_map.1 hu; rfl) (by have := HFW.out; omega) (by decide) HJ.out.kp.size ?_
        intro v' w' hown' hgrow
        obtain ⟨a7, c7, rfl⟩ := slice_of_own1 hown'
        simp only [Act.put, List.setIfInBounds_toArray, List.set_cons_zero, List.set_cons_succ]
        exact hKq _ _ ⟨Pj.vset V 5 (.slice a7 (bs.length + us.length) c7), by simp only [Pj.puts, List.foldl_cons, List.foldl_nil, Act.put, List.setIfInBounds_toArray, List.set_cons_zero, List.set_cons_succ, Pj.vset, Nat.reduceEqDiff, if_true, if_false, e2, e4], HJ.out.flat HP.out hL (kept_gr1 HJ.out.kp hgrow (fun q e => (hown.lt q e).1) (Nat.le_refl _)) (hgrow.size) (⟨_, _, rfl⟩), Pj.Cpy.tail l2 hL hown', fun h => absurd (hc6 (((hL 6).1 h).resolve_left (by decide))).1 hopen⟩
      | 6, ho =>
        simp only [List.getElem?_toArray, List.getElem?_cons_zero, List.getElem?_cons_succ, Option.some.injEq] at ho
        have l5 := hdep 5 (by rw [← ho]; kernel_rfl)
        obtain ⟨a13, c13, e5⟩ := hJ.h 5 l5
        have HJ := Lib.hid hJ
        clear hJ
        have HXhI := Lib.hid hI
        clear hI
        subst ho
        refine Pj.Step.free rfl ?_
        simp only [Pj.puts, List.foldl_cons, List.foldl_nil, Act.put, List.setIfInBounds_toArray, List.set_cons_zero, List.set_cons_succ, e5]
        go_simp
        exact hKq _ _ ⟨Pj.vset V 6 (V 5), by simp only [Pj.puts, List.foldl_cons, List.foldl_nil, Act.put, List.setIfInBounds_toArray, List.set_cons_zero, List.set_cons_succ, Pj.vset, Nat.reduceEqDiff, if_true, if_false, e5], HJ.out.flat HP.out hL (HJ.out.kp.trans (Kept.refl _)) (Kept.size (Kept.refl _)) (trivial), HXhI.out.keep (by decide) (by decide) hL (Kept.refl _), fun _ => ⟨(hL 5).2 (.inr l5), by rw [Pj.vset_same, Pj.vset_other _ _ (by decide)]⟩⟩
      | n + 7, ho => simp at ho
    case ehe =>
      rintro L az w ⟨V, rfl, hJ, hI, hc6⟩ hall
      have e6 : V 6 = V 5 := (hc6 (hall 6 (by decide))).2
      obtain ⟨a13, c13, e5⟩ := hJ.h 5 (hall 5 (by decide))
      have hq9 := hI.q1 (hall 5 (by decide))
      rw [e5] at hq9
      have HQ9 := Lib.hid hq9
      clear hq9
      have HKj := Lib.hid hJ.kp
      clear hJ hall hI hc6
      simp only [Pj.puts, List.foldl_cons, List.foldl_nil, Act.put, List.setIfInBounds_toArray, List.set_cons_zero, List.set_cons_succ, e6, e5]
      clear e6 e5
      have HK9 := Lib.hid (HK3.out.trans HKj.out)
      obtain ⟨a', c', e', _, hst⟩ := strs_own (by rw [← List.map_append] at HQ9; exact HQ9.out) (by simp) HSZ.out
      cases e'
      have hle : bs.length + us.length = (bs ++ us).length := List.length_append.symm
      rw [hle] at hst ⊢
      have HST := Lib.hid hst
      clear hle hst HKj HQ9
      go_wp2
      go_ret
      exact ⟨_, _, rfl, HST.out, HK9.out⟩
end Go.Proofs.Ytdllenoclnmmdaa
