/- reach.thing, reach.Check, reach.names; the reference's Things, At, Named (no conditions but that lengths fit). -/
import Derived.Test.YtdllenoclnmmdaaTh1
import Derived.Test.YtdllenoclnmmdaaMn5
import Derived.Test.YtdllenoclnmmdaaAps
namespace Go.Proofs.Ytdllenoclnmmdaa
open Go.RowKit Go.Shelf
attribute [local go_sem] Oper.semAt_some

/-- a manifest that is taken: what is told, whose row the blobs are -/
theorem take_own (t : ByteArray) (w : World) :
    Calls Try.prog 17 #[.string t] w fun e w' => ∃ a c a2 c2, e = .returned (.tuple #[.agg #[.int .i64 (mfO (takeM t)).k, .slice a (mfO (takeM t)).bs.length c, .slice a2 (mfO (takeM t)).us.length c2], .int .i64 (if (takeM t).isSome = true then 0 else 7)]) ∧
      BlobsOwn w w' a c a2 (mfO (takeM t)) ∧ StrsIn w' a (mfO (takeM t)).bs.length (mfO (takeM t)).bs ∧ StrsIn w' a2 (mfO (takeM t)).us.length (mfO (takeM t)).us ∧ Kept w w' := by
  refine (mtake_any t w).mono ?_
  rintro e w' ⟨h1, h2, h3⟩
  cases ho : takeM t with
  | none => exact ⟨none, 0, none, 0, h1 ho, ⟨Nat.le_refl _, World.ownsRow_nil _ _ _ _, fun W2 _ => nil_strs _ _⟩, nil_strs _ _, nil_strs _ _, h3⟩
  | some m =>
    obtain ⟨ab, cb, au, cu, e, hb, s1, s2⟩ := h2 m ho
    exact ⟨ab, cb, au, cu, e, hb, s1, s2, h3⟩
/-- may a thing be? -/
def thB (x : Th) : Bool := decide (x.d.size = 32) && (decide (x.t.size ≤ 2000) && (!x.m || (takeM x.t).isSome))
set_option maxRecDepth 100000 in
set_option maxHeartbeats 2000000 in
theorem thing_any (x : Th) (w : World) : Calls Try.prog 51 #[.agg #[.string x.d, .string x.t, .bool x.m]] w fun e w' => e = .returned (.bool (thB x)) ∧ Kept w w' := by
  have HB := Lib.hid (BlockAt.new w #[.string x.d, .string x.t, .bool x.m] 65)
  have HK := Lib.hid ((Kept.refl w).alloc (.cells #[.string x.d, .string x.t, .bool x.m] 65))
  have HF := Lib.hid (show thB x = (decide (x.d.size = 32) && (decide (x.t.size ≤ 2000) && (!x.m || (takeM x.t).isSome))) from rfl)
  have HT := Lib.hid (take_own x.t)
  obtain ⟨R, hR⟩ : ∃ R, R = thB x := ⟨_, rfl⟩
  obtain ⟨ok, hok⟩ : ∃ ok, ok = (takeM x.t).isSome := ⟨_, rfl⟩
  rw [← hR, ← hok] at HF
  rw [← hok] at HT
  rw [← hR]
  clear hR hok
  generalize mfO (takeM x.t) = mm at *
  obtain ⟨d, t, m⟩ := x
  dsimp only at HF HT HB HK ⊢
  go_enter Try.func51, Try.ntmps51
  go_upto_region 1 with (fail)
  generalize w.alloc (.cells #[.string d, .string t, .bool m] 65) = w1 at *
  obtain ⟨a0, a1, a2⟩ := box3 HB.out
  by_cases h1 : d.size = 32
  · have d1 : ((d.size : Int) != 32) = false := by simp [h1]
    by_cases h2 : t.size ≤ 2000
    · have d2 : decide (2000 < (t.size : Int)) = false := decide_eq_false (by omega)
      cases m with
      | false =>
        have HE := Lib.hid (show R = true by rw [HF.out, decide_eq_true h1, decide_eq_true h2]; rfl)
        clear h1 HF
        go_wp2
        go_ret
        exact ⟨retb HE.out, HK.out⟩
      | true =>
        have HE := Lib.hid (show R = ok by rw [HF.out, decide_eq_true h1, decide_eq_true h2]; rfl)
        clear h1 HF
        go_wp2_with fail
        refine (HT.out _).mono ?_
        rintro e w2 ⟨b1, e1, b2, e2, rfl, _, _, _, hk2⟩
        have HK2 := Lib.hid (HK.out.trans hk2)
        clear hk2 a0 a1 a2
        cases ok with
        | false =>
          go_wp2
          go_ret
          exact ⟨retb HE.out, HK2.out.alloc _⟩
        | true =>
          go_wp2
          go_ret
          exact ⟨retb HE.out, HK2.out.alloc _⟩
    · have d2 : decide (2000 < (t.size : Int)) = true := decide_eq_true (by omega)
      have HE := Lib.hid (show R = false by rw [HF.out, decide_eq_false h2, Bool.false_and, Bool.and_false])
      clear h1 h2 HF
      go_wp2
      go_ret
      exact ⟨retb HE.out, HK.out⟩
  · have d1 : ((d.size : Int) != 32) = true := by simp; omega
    have HE := Lib.hid (show R = false by rw [HF.out, decide_eq_false h1]; rfl)
    clear h1 HF
    go_wp2
    go_ret
    exact ⟨retb HE.out, HK.out⟩
theorem mfO_few (o : Option Mf) (t : ByteArray) (h : o = takeM t) : (mfO o).bs.length + (mfO o).us.length ≤ 40 := by
  cases o with
  | none => decide
  | some m =>
    have : mfB m = true := by
      unfold takeM at h
      split at h
      · rename_i hh
        cases h
        exact hh.2.2.1
      · cases h
    have := (mfB_true this).1
    show m.bs.length + m.us.length ≤ 40
    omega
/-- a list of texts is handed back, in whatever memory -/
def TextsP (w : World) (ss : List ByteArray) (e : Ending) (w' : World) : Prop := ∃ a c, e = .returned (.slice a ss.length c) ∧ StrsIn w' a ss.length ss ∧ Kept w w'
/-- what a thing names -/
def nmF (x : Th) : List ByteArray := if x.m = true then (mfO (takeM x.t)).bs ++ (mfO (takeM x.t)).us else []
set_option maxRecDepth 100000 in
set_option maxHeartbeats 2000000 in
theorem names_any (x : Th) (w : World) : Calls Try.prog 55 #[.agg #[.string x.d, .string x.t, .bool x.m]] w (TextsP w (nmF x)) := by
  have HB := Lib.hid (BlockAt.new w #[.string x.d, .string x.t, .bool x.m] 65)
  have HK := Lib.hid ((Kept.refl w).alloc (.cells #[.string x.d, .string x.t, .bool x.m] 65))
  have HF := Lib.hid (show nmF x = if x.m = true then (mfO (takeM x.t)).bs ++ (mfO (takeM x.t)).us else [] from rfl)
  have HT := Lib.hid (take_own x.t)
  have hfew := mfO_few (takeM x.t) x.t rfl
  generalize nmF x = R at *
  generalize mfO (takeM x.t) = mm at *
  generalize (takeM x.t).isSome = ok at *
  generalize (if ok = true then (0 : Int) else 7) = E at *
  obtain ⟨d, t, m⟩ := x
  dsimp only at HF HT HB HK ⊢
  go_enter Try.func55, Try.ntmps55
  go_upto_region 1 with (fail)
  generalize hw1 : w.alloc (.cells #[.string d, .string t, .bool m] 65) = w1 at *
  clear hw1
  obtain ⟨a0, a1, a2⟩ := box3 HB.out
  cases m with
  | false =>
    obtain rfl : R = [] := HF.out
    clear HF
    go_wp2
    go_ret
    exact ⟨none, 0, rfl, nil_strs _ _, HK.out⟩
  | true =>
    obtain rfl : R = mm.bs ++ mm.us := HF.out
    clear HF
    obtain ⟨k, bs, us⟩ := mm
    dsimp only at HT ⊢
    go_wp2_with fail
    refine (HT.out _).mono ?_
    rintro e w2 ⟨b1, e1, b2, e2, rfl, hbo, hs1, hs2, hk2⟩
    have HK2 := Lib.hid (HK.out.trans hk2)
    have hsz : w.heap.size ≤ w1.heap.size := HK.out.size
    have hs12 : w1.heap.size ≤ w2.heap.size := hk2.size
    have HO := Lib.hid (own_kept hbo.2.1 ((Kept.refl w2).alloc (.cells #[.int .i64 k, .slice b1 bs.length e1, .slice b2 us.length e2] 28)))
    have HU := Lib.hid (hs2.kept ((Kept.refl w2).alloc (.cells #[.int .i64 k, .slice b1 bs.length e1, .slice b2 us.length e2] 28)))
    have HSZ := Lib.hid (show ∀ s ∈ bs ++ us, s.size ≤ 9223372036854775807 from fun s hs => (List.mem_append.1 hs).elim (hs1.sizes s) (hs2.sizes s))
    have HK3 := Lib.hid (HK2.out.alloc (.cells #[.int .i64 k, .slice b1 bs.length e1, .slice b2 us.length e2] 28))
    have HM := Lib.hid (BlockAt.new w2 #[.int .i64 k, .slice b1 bs.length e1, .slice b2 us.length e2] 28)
    obtain ⟨i0, hi1, hz0, hz1, hz2⟩ := info_parts Try.infoSt
    have HI := Lib.hid (And.intro hi1 (And.intro hz0 (And.intro hz1 hz2)))
    clear hk2 a0 a1 a2 hbo hs1 hs2 hi1 hz0 hz1 hz2 HB HK HT
    go_upto_region 4 with (fail)
    have hs3 : w1.heap.size ≤ (w2.alloc (.cells #[.int .i64 k, .slice b1 bs.length e1, .slice b2 us.length e2] 28)).heap.size := by rw [World.size_alloc]; omega
    generalize w2.alloc (.cells #[.int .i64 k, .slice b1 bs.length e1, .slice b2 us.length e2] 28) = w3 at *
    obtain ⟨a0, a1, a2⟩ := box3 HM.out
    have HFW := Lib.hid (show bs.length + us.length ≤ 40 from hfew)
    go_wp2_with (at_builtin; refine wpList_append_held rfl _ _ 23 rfl w1.heap.size 9 i0 (.string ByteArray.empty) 16 Try.underlying23 HI.out.1 HI.out.2.1 HI.out.2.2.1 HI.out.2.2.2 rfl _ _ _ rfl HO.out b2 us.length e2 (us.map Value.string) rfl (held_strs HU.out) ?c1 ?c2 ?c3 ?_)
    case c1 => have := HFW.out; unfold maxLen; omega
    case c2 => have := HFW.out; omega
    case c3 => exact hs3
    intro v' w4 hown hgr hblk
    rw [← List.map_append] at hown
    obtain ⟨a', c', rfl, _, hst⟩ := strs_own hown (by simp) HSZ.out
    have HK4 := Lib.hid (kept_gr HK3.out hgr (fun q e => Nat.le_trans hsz (HO.out.lt q e).1))
    have hle : bs.length + us.length = (bs ++ us).length := List.length_append.symm
    rw [hle] at hst ⊢
    clear hle
    have HST := Lib.hid hst
    clear hown hgr hblk hst
    go_wp2
    go_ret
    exact ⟨a', c', rfl, HST.out, HK4.out⟩
end Go.Proofs.Ytdllenoclnmmdaa
