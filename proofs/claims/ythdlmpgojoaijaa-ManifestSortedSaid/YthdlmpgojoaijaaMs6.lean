/- What the law ManifestSorted asks behind its middle: the manifest sorted once more, taken back, its lists spoiled (a list of one's own: no conditions). -/
import Derived.Test.YthdlmpgojoaijaaMh
import Derived.Test.YthdlmpgojoaijaaMr4
import Derived.Test.YthdlmpgojoaijaaMs4
import Derived.Test.YthdlmpgojoaijaaMs5
namespace Go.Proofs.Ythdlmpgojoaijaa
open Go.RowKit Go.Shelf
attribute [local go_sem] Oper.semAt_some

theorem few_iff (m : Mf) : mfFew m = decide (m.bs.length + m.us.length ≤ 20) := rfl
theorem zero_may {k : Int} {bs us : List ByteArray} {E : Int} (h : E = if mfMade ⟨k, bs, us⟩ = true then (if mfFew ⟨k, risen bs, risen us⟩ = true then 0 else 2) else 1) (he : E = 0) : mfB ⟨k, risen bs, risen us⟩ = true := by
  cases hm : mfMade ⟨k, bs, us⟩ with
  | false => rw [hm] at h; simp at h; omega
  | true =>
    cases hf : mfFew ⟨k, risen bs, risen us⟩ with
    | false => rw [hm, hf] at h; simp at h; omega
    | true => exact (sorted_may hm hf).1
theorem msorted_again (k : Int) (ab : Option Addr) (lb cb : Nat) (au : Option Addr) (lu cu : Nat) (bs us : List ByteArray) (w : World) (hb : StrsIn w ab lb bs) (hu : StrsIn w au lu us) (hl : lb ≤ 100000 ∧ lu ≤ 100000) (hm : mfB ⟨k, bs, us⟩ = true) :
    Calls Try.prog 10 #[.agg #[.int .i64 k, .slice ab lb cb, .slice au lu cu]] w fun e w' => ∃ a1 c1 a2 c2, e = .returned (.tuple #[.agg #[.int .i64 k, .slice a1 lb c1, .slice a2 lu c2], .int .i64 0]) ∧ StrsIn w' a1 lb bs ∧ StrsIn w' a2 lu us ∧ Kept w w' := by
  obtain ⟨h1, h2, h3, h4, h5, h6, h7⟩ := mfB_true hm
  dsimp only at h1 h2 h3 h4 h5 h6 h7
  have e1 := risen_same h6
  have e2 := risen_same h7
  refine (msorted_any k ab lb cb au lu cu bs us w hb hu hl).mono ?_
  rintro e w' ⟨hk, _, _, hg⟩
  have hmade : mfMade ⟨k, bs, us⟩ = true := by rw [mfMade_iff, szB_append, h4, h5, decide_eq_true h2, decide_eq_true h3]; rfl
  obtain ⟨a1, c1, a2, c2, he, n1, n2⟩ := hg hmade (by rw [few_iff]; exact decide_eq_true (by rw [e1, e2]; exact h1))
  rw [e1, hb.len_eq] at he n1
  rw [e2, hu.len_eq] at he n2
  exact ⟨a1, c1, a2, c2, he, n1.2.1, n2.2.1, hk⟩
theorem mtake_again (k : Int) (bs us : List ByteArray) (lb lu : Nat) (hb : bs.length = lb) (hu : us.length = lu) (w : World) (hm : mfB ⟨k, bs, us⟩ = true) :
    Calls Try.prog 17 #[.string (mfT ⟨k, bs, us⟩)] w fun e w' => ∃ a1 c1 a2 c2, e = .returned (.tuple #[.agg #[.int .i64 k, .slice a1 lb c1, .slice a2 lu c2], .int .i64 0]) ∧ StrsIn w' a1 lb bs ∧ StrsIn w' a2 lu us ∧ Kept w w' := by
  refine (mtake_any _ w).mono ?_
  rintro e w' ⟨_, hg, hk⟩
  obtain ⟨a1, c1, a2, c2, he, _, n1, n2⟩ := hg _ (take_back hm)
  dsimp only at he n1 n2
  rw [hb] at he n1
  rw [hu] at he n2
  exact ⟨a1, c1, a2, c2, he, n1, n2, hk⟩
/-- the lists' blocks are lists' blocks still -/
def Still (A B : World) : Prop := ∀ g cs, BlockAt A g cs 9 → (∃ cs', BlockAt B g cs' 9) ∧ ∀ j s, A.cell? ⟨g, j, none⟩ = some (.string s) → ∃ s', B.cell? ⟨g, j, none⟩ = some (.string s')
theorem Still.of_kept {A B : World} (k : Kept A B) : Still A B := fun g cs hb => ⟨⟨cs, hb.kept k⟩, fun j s h => ⟨s, by rw [(hb.kept k).cell j, ← hb.cell j]; exact h⟩⟩
theorem Still.trans {A B C : World} (h : Still A B) (k : Still B C) : Still A C := fun g cs hb => by
  obtain ⟨⟨cs', hb'⟩, hc⟩ := h g cs hb
  obtain ⟨hb2, hc2⟩ := k g cs' hb'
  exact ⟨hb2, fun j s e => by obtain ⟨s', e'⟩ := hc j s e; exact hc2 j s' e'⟩
theorem spoil_row (g l cap : Nat) (hl : l ≤ 2000000) (w : World) (hb0 : ∃ cs, BlockAt w g cs 9) (hc0 : ∀ j, j < l → ∃ s, w.cell? ⟨g, j, none⟩ = some (.string s)) :
    Calls Try.prog 18 #[.slice (some ⟨g, 0, none⟩) l cap] w fun e w' => (∃ u, e = .returned u) ∧ w.grownBy w' (some g) ∧ Still w w' := by
  have HB0 := Lib.hid hb0
  have HC0 := Lib.hid hc0
  clear hb0 hc0
  go_enter Try.func18, Try.ntmps18
  go_wp2_with fail
  go_loopw [2] (fun i wr => ∃ (k : Nat), k ≤ l ∧ i = .int .i64 k ∧ (∃ cs, BlockAt wr g cs 9) ∧ (∀ j s, w.cell? ⟨g, j, none⟩ = some (.string s) → ∃ s', wr.cell? ⟨g, j, none⟩ = some (.string s')) ∧ w.grownBy wr (some g)) (fun i _ => l - (intOf i).toNat)
  case atStart => exact ⟨0, by omega, rfl, HB0.out, fun j s h => ⟨s, h⟩, ⟨rfl, rfl, rfl, Nat.le_refl _, fun _ _ _ => rfl⟩⟩
  case round =>
    obtain ⟨k, hk, rfl, ⟨cs, hb⟩, hc, hg⟩ := hrel
    by_cases hlt : k < l
    · obtain ⟨s0, h0⟩ := HC0.out k hlt
      obtain ⟨s1, hcell⟩ := hc k s0 h0
      have hfree := hb.free k
      have hksz : k < cs.size := by
        rcases Nat.lt_or_ge k cs.size with q | q
        · exact q
        · rw [hb.cell k, Array.getElem?_eq_none q] at hcell
          cases hcell
      have HB := Lib.hid hb
      have HC := Lib.hid hc
      have HG := Lib.hid hg
      clear hb hc hg h0
      go_wp2_with fail
      go_roundw
      case rel => exact ⟨k + 1, by omega, by go_num, ⟨_, HB.out.set _⟩, fun j s h => by
        by_cases hj : j = k
        · subst hj
          rw [(HB.out.set _).cell j]
          exact ⟨_, by rw [Array.getElem?_setIfInBounds_self_of_lt hksz]⟩
        · rw [World.cell?_setCell_other (h := fun e => by have := (Addr.mk.inj e).2.1; omega)]
          exact HC.out j s h, grown_two HG.out (grown_cell _ _ _ _)⟩
      case measure => simp [intOf]; omega
    · have HB := Lib.hid hb
      have HC := Lib.hid hc
      have HG := Lib.hid hg
      clear hb hc hg
      go_wp2
      go_end0
      refine ⟨⟨_, rfl⟩, HG.out, fun g' cs' hb' => ?_⟩
      by_cases he : g' = g
      · subst he
        exact ⟨⟨_, HB.out⟩, HC.out⟩
      · have h2 := hb'.gr HG.out (fun e => he (by cases e; rfl))
        exact ⟨⟨_, h2⟩, fun j s h => ⟨s, by rw [h2.cell j, ← hb'.cell j]; exact h⟩⟩
theorem spoil_zero (a : Option Addr) (cap : Nat) (w : World) : Calls Try.prog 18 #[.slice a 0 cap] w fun e w' => (∃ u, e = .returned u) ∧ w = w' := by
  go_enter Try.func18, Try.ntmps18
  go_wp2_with fail
  go_loopw [2] (fun i wr => i = .int .i64 0 ∧ w = wr) (fun _ _ => 0)
  case atStart => exact ⟨rfl, rfl⟩
  case round =>
    obtain ⟨rfl, rfl⟩ := hrel
    go_wp2
    go_end0
    exact ⟨⟨_, rfl⟩, rfl⟩
theorem spoil_new {w0 w6 w : World} {a : Option Addr} {l cap : Nat} {ss : List ByteArray} (h : NewIn w0 w6 a l cap ss) (hs : Still w6 w) (hl : l ≤ 2000000) :
    Calls Try.prog 18 #[.slice a l cap] w fun e w' => (∃ u, e = .returned u) ∧ (Kept w0 w → Kept w0 w') ∧ Still w6 w' ∧ ∀ b C t, t ≠ 9 → BlockAt w b C t → BlockAt w' b C t := by
  rcases Nat.eq_zero_or_pos l with h0 | h0
  · subst h0
    refine (spoil_zero a cap w).mono ?_
    rintro e w' ⟨hu, rfl⟩
    exact ⟨hu, fun q => q, hs, fun b C t _ q => q⟩
  · obtain ⟨g, cs, rfl, hg, hb⟩ := h.2.2 h0
    obtain ⟨h1, h2⟩ := hs g cs hb
    refine (spoil_row g l cap hl w h1 (fun j hj => ?_)).mono ?_
    · have := h.2.1.cell_of j hj
      rw [Nat.zero_add] at this
      exact h2 j _ this
    · rintro e w' ⟨hu, hgr, hst⟩
      refine ⟨hu, fun q => Below.grown q hgr (Below.size q) (fun r e => by cases e; exact hg), hs.trans hst, fun b C t ht hb' => hb'.gr hgr (fun e => ?_)⟩
      cases e
      obtain ⟨cs1, hb1⟩ := h1
      have e2 := hb1.symm.trans hb'
      cases e2
      exact ht rfl
theorem eq_mf_same (k : Int) (ab : Option Addr) (lb cb : Nat) (au : Option Addr) (lu cu : Nat) (ab' : Option Addr) (lb' cb' : Nat) (au' : Option Addr) (lu' cu' : Nat) (bs us : List ByteArray) (w : World)
    (hb : StrsIn w ab lb bs) (hu : StrsIn w au lu us) (hb' : StrsIn w ab' lb' bs) (hu' : StrsIn w au' lu' us) :
    Calls Try.prog 15 #[.agg #[.int .i64 k, .slice ab lb cb, .slice au lu cu], .agg #[.int .i64 k, .slice ab' lb' cb', .slice au' lu' cu']] w fun e w' => e = .returned (.bool true) ∧ Kept w w' := by
  refine (eq_mf k ab lb cb au lu cu bs us k ab' lb' cb' au' lu' cu' bs us w hb hu hb' hu').mono ?_
  rintro e w' ⟨rfl, hk⟩
  exact ⟨by simp, hk⟩
end Go.Proofs.Ythdlmpgojoaijaa
