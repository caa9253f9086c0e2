/- siloref13.Take, by what it answers, kind by kind (no conditions but on the text's length). -/
import Derived.Test.YtoanldoocmmhjaaRr7
import Derived.Test.YtoanldoocmmhjaaRr8
import Derived.Test.YtoanldoocmmhjaaRr8b
import Derived.Test.YtoanldoocmmhjaaRr8c
import Derived.Deep.AppendLies
import Derived.Deep.RegionWith
import Derived.Deep.RegionLaw
namespace Go.Proofs.Ytoanldoocmmhjaa
open Go.RowKit
set_option maxRecDepth 100000 in
set_option maxHeartbeats 4000000 in
theorem rtake_out (t : ByteArray) (w : World) (hz : t.size ≤ 140737488351232) (hno : ¬ ((ps 1 (t, false)).2 = false ∧ Rc.okK ((pv 1 (t, false) : Nat) : Int) = true)) :
    Calls Try.prog 22 #[.string t] w (TakeP (fun b => .bool b) w (takeR t)) := by
  have htk : takeR t = (Rec.zero, false) := by unfold takeR; rw [if_neg hno]
  rw [htk]
  obtain ⟨s0, hs⟩ : ∃ s0 : St, s0 = ps 1 (t, false) := ⟨_, rfl⟩
  rw [← hs] at hno
  obtain ⟨kk, hkk⟩ : ∃ kk : Int, kk = ((pv 1 (t, false) : Nat) : Int) := ⟨_, rfl⟩
  rw [← hkk] at hno
  have hkb : 0 ≤ kk ∧ kk < 256 := by have := pv1_lt (t, false); omega
  have HS0 := Lib.hid hs
  have HNO := Lib.hid hno
  clear hs hno htk
  go_enter Try.func22, Try.ntmps22
  go_upto_region 2 with (fail)
  have k0 := ((Kept.refl w).alloc (.cells #[.int .i64 0, .int .i64 0, .string ⟨#[]⟩, .string ⟨#[]⟩, .slice none 0 0, .slice none 0 0] 31)).alloc (.cells #[.string t, .bool false] 67)
  have hza := (BlockAt.new w #[.int .i64 0, .int .i64 0, .string ⟨#[]⟩, .string ⟨#[]⟩, .slice none 0 0, .slice none 0 0] 31).kept ((Kept.refl _).alloc (.cells #[.string t, .bool false] 67))
  have hra := BlockAt.new1 w #[.string t, .bool false] 67 (.cells #[.int .i64 0, .int .i64 0, .string ⟨#[]⟩, .string ⟨#[]⟩, .slice none 0 0, .slice none 0 0] 31)
  generalize (w.alloc (.cells #[.int .i64 0, .int .i64 0, .string ⟨#[]⟩, .string ⟨#[]⟩, .slice none 0 0, .slice none 0 0] 31)).alloc (.cells #[.string t, .bool false] 67) = wa at *
  obtain ⟨p, hp⟩ : ∃ p, p = w.heap.size + 1 := ⟨_, rfl⟩
  rw [← hp] at hra ⊢
  have hpw : w.heap.size < p := by omega
  clear hp
  have hra' : RdR wa p (t, false) := ⟨t, hra, fun _ => rfl, (fun h => by cases h)⟩
  clear hra
  go_wp2_with fail
  refine (rtake1 p (t, false) _ hra' (by dsimp only; omega)).mono ?_
  rintro e w1 ⟨rfl, hr1, hg1⟩
  have hp1 := pt_size 1 (t, false)
  obtain ⟨q, hq⟩ : ∃ q, pt 1 (t, false) = q := ⟨_, rfl⟩
  have HNK := Lib.hid (show ((numL q.data.toList : Nat) : Int) = kk by rw [← hq, hkk]; rfl)
  clear hkk
  rw [hq] at hp1 ⊢
  clear hq
  rw [← HS0.out] at hr1
  have hza1 := hza.gr hg1 (by simp; omega)
  have hk1 := kept_gr k0 hg1 (fun g e => by cases e; omega)
  go_wp2_with fail
  refine (num_of q _ (by omega)).mono ?_
  rintro e w' ⟨rfl, rfl⟩
  rw [HNK.out]
  have hw1 := hg1.size
  clear hza hra' hg1 k0
  go_upto_region 3 with (fail)
  have HX0 := Lib.hid (BlockAt.new w1 #[.int .i64 kk, .int .i64 0, .string ⟨#[]⟩, .string ⟨#[]⟩, .slice none 0 0, .slice none 0 0] 31)
  have k2 := (Kept.refl w1).alloc (.cells #[.int .i64 kk, .int .i64 0, .string ⟨#[]⟩, .string ⟨#[]⟩, .slice none 0 0, .slice none 0 0] 31)
  have HR0 := Lib.hid (hr1.kept k2)
  have HZ := Lib.hid (hza1.kept k2)
  have HK := Lib.hid (hk1.trans k2)
  generalize w1.alloc (.cells #[.int .i64 kk, .int .i64 0, .string ⟨#[]⟩, .string ⟨#[]⟩, .slice none 0 0, .slice none 0 0] 31) = v0 at *
  clear hr1 hza1 hk1 k2
  obtain ⟨a0, a1, a2, a3, a4, a5⟩ := box6 HX0.out
  obtain ⟨tt, r0, r1, _⟩ := HR0.out.cells
  cases hb : s0.2 with
  | true =>
    rw [hb] at r1
    clear hb
    go_wp2_with (refine wpList_store_block rfl 31 (.tmp 2) (.tmp 29) rfl _ #[.int .i64 0, .int .i64 0, .string ⟨#[]⟩, .string ⟨#[]⟩, .slice none 0 0, .slice none 0 0] #[.int .i64 0, .int .i64 0, .string ⟨#[]⟩, .string ⟨#[]⟩, .slice none 0 0, .slice none 0 0] 31 rfl rfl HZ.out Try.infoRec rfl (one6 _ _ _ _ _ _ _ _ _ _) ?_)
    refine bodyPost_ret (v := .tuple #[.agg #[.int .i64 0, .int .i64 0, .string ⟨#[]⟩, .string ⟨#[]⟩, .slice none 0 0, .slice none 0 0], .bool false]) (results_row_tmp rfl _ _ w.heap.size 31 #[.int .i64 0, .int .i64 0, .string ⟨#[]⟩, .string ⟨#[]⟩, .slice none 0 0, .slice none 0 0] _ rfl (HZ.out.setRow _) Try.underlying31 rfl Try.infoRec _ rfl) rfl ?_
    exact ⟨none, 0, none, 0, rfl, zero_in _, HK.out.setRow (by omega) _⟩
  | false =>
    have hw : Rc.within kk 1 8 = false := by
      have h1 := HNO.out
      have h2 : ¬ Rc.okK kk = true := fun h => h1 ⟨hb, h⟩
      simpa [Rc.within, Rc.okK] using h2
    have HW := Lib.hid hw
    rw [hb] at r1
    clear hb hw
    go_wp2_with fail
    refine (between_any kk 1 8 _).mono ?_
    rintro e w' ⟨rfl, rfl⟩
    rw [HW.out]
    go_wp2_with (refine wpList_store_block rfl 31 (.tmp 2) (.tmp 29) rfl _ #[.int .i64 0, .int .i64 0, .string ⟨#[]⟩, .string ⟨#[]⟩, .slice none 0 0, .slice none 0 0] #[.int .i64 0, .int .i64 0, .string ⟨#[]⟩, .string ⟨#[]⟩, .slice none 0 0, .slice none 0 0] 31 rfl rfl HZ.out Try.infoRec rfl (one6 _ _ _ _ _ _ _ _ _ _) ?_)
    refine bodyPost_ret (v := .tuple #[.agg #[.int .i64 0, .int .i64 0, .string ⟨#[]⟩, .string ⟨#[]⟩, .slice none 0 0, .slice none 0 0], .bool false]) (results_row_tmp rfl _ _ w.heap.size 31 #[.int .i64 0, .int .i64 0, .string ⟨#[]⟩, .string ⟨#[]⟩, .slice none 0 0, .slice none 0 0] _ rfl (HZ.out.setRow _) Try.underlying31 rfl Try.infoRec _ rfl) rfl ?_
    exact ⟨none, 0, none, 0, rfl, zero_in _, HK.out.setRow (by omega) _⟩
theorem rtake_all (t : ByteArray) (w : World) (hz : t.size ≤ 140737488351232) : Calls Try.prog 22 #[.string t] w (TakeP (fun b => .bool b) w (takeR t)) := by
  by_cases h : (ps 1 (t, false)).2 = false ∧ Rc.okK ((pv 1 (t, false) : Nat) : Int) = true
  · obtain ⟨h1, h2⟩ := h
    have h3 : 1 ≤ ((pv 1 (t, false) : Nat) : Int) ∧ ((pv 1 (t, false) : Nat) : Int) ≤ 8 := of_decide_eq_true h2
    have hcase : ((pv 1 (t, false) : Nat) : Int) = 1 ∨ ((pv 1 (t, false) : Nat) : Int) = 2 ∨ ((pv 1 (t, false) : Nat) : Int) = 3 ∨ ((pv 1 (t, false) : Nat) : Int) = 4 ∨ ((pv 1 (t, false) : Nat) : Int) = 5 ∨ ((pv 1 (t, false) : Nat) : Int) = 6 ∨ ((pv 1 (t, false) : Nat) : Int) = 7 ∨ ((pv 1 (t, false) : Nat) : Int) = 8 := by omega
    rcases hcase with h | h | h | h | h | h | h | h
    · exact rtake_1 t w hz h h1
    · exact rtake_2 t w hz h h1
    · exact rtake_3 t w hz h h1
    · exact rtake_4 t w hz h h1
    · exact rtake_5 t w hz h h1
    · exact rtake_6 t w hz h h1
    · exact rtake_7 t w hz h h1
    · exact rtake_8 t w hz h h1
  · exact rtake_out t w hz h
end Go.Proofs.Ytoanldoocmmhjaa
