/- siloref4.Unlike: how many texts are unlike (no conditions but that lengths fit). -/
import Derived.Test.YtoonpnpooljmlaaCdA
import Derived.Test.YtoonpnpooljmlaaQa11
namespace Go.Proofs.Ytoonpnpooljmlaa
open Go.RowKit Go.Shelf
attribute [local go_sem] Oper.semAt_some

def unl (ss tt : List ByteArray) : Nat → Bool := fun q => !decide (ss.getD q ByteArray.empty = tt.getD q ByteArray.empty)
theorem cntT_le (T : Nat → Bool) : ∀ n, cntT T n ≤ n
  | 0 => Nat.le_refl 0
  | n + 1 => by
    have := cntT_le T n
    simp only [cntT]
    split <;> omega
set_option maxRecDepth 100000 in
set_option maxHeartbeats 1000000 in
theorem unlike_any (a a' : Option Addr) (l cap cap' : Nat) (ss tt : List ByteArray) (w : World) (hl : l ≤ 1000) (h : StrsIn w a l ss) (h' : StrsIn w a' l tt) :
    Calls Try.prog 30 #[.slice a l cap, .slice a' l cap'] w fun e w' => ∃ x c, e = .returned (.slice x (cntT (unl ss tt) l) c) ∧ Kept w w' := by
  obtain ⟨iA, hi2, hz3, hz4, hz5⟩ := info_parts Try.infoIc
  have HIA := Lib.hid (And.intro hi2 (And.intro hz3 (And.intro hz4 hz5)))
  have HS := Lib.hid h
  have HS' := Lib.hid h'
  clear h h' hi2 hz3 hz4 hz5
  go_enter Try.func30, Try.ntmps30
  go_wp2_with fail
  go_loopw [5, 6] (fun v iv wr => ∃ k n : Nat, Hid (n = cntT (unl ss tt) k) ∧ n ≤ k ∧ k ≤ l ∧ iv = .int .i64 k ∧ (∃ xs, wr.ownsRow w.heap.size 3 1 v n xs) ∧ Kept w wr) (fun _ iv _ => l - (intOf iv).toNat)
  case atStart => exact ⟨0, 0, Lib.hid rfl, by omega, by omega, rfl, ⟨[], World.ownsRow_nil _ _ _ _⟩, Kept.refl _⟩
  case round =>
    obtain ⟨k, n, HN, hnk, hk, rfl, ⟨xs, hown⟩, hkr⟩ := hrel
    have HO := Lib.hid hown
    have HK := Lib.hid hkr
    obtain ⟨xv, cv, rfl⟩ := slice_of_own1 hown
    clear hown
    by_cases hlt : k < l
    · obtain ⟨b, off, ha, hc⟩ := HS.out.cells
      obtain ⟨b', off', ha', hc'⟩ := HS'.out.cells
      obtain rfl := ha (by omega)
      obtain rfl := ha' (by omega)
      have hck := hkr.cell (hc k hlt).1 (hc k hlt).2
      have hck' := hkr.cell (hc' k hlt).1 (hc' k hlt).2
      have HSK := Lib.hid (HS.out.size k hlt)
      obtain ⟨t, ht⟩ : ∃ t, t = ss.getD k ByteArray.empty := ⟨_, rfl⟩
      obtain ⟨u, hu⟩ : ∃ u, u = tt.getD k ByteArray.empty := ⟨_, rfl⟩
      have HU := Lib.hid (show unl ss tt k = !decide (t = u) by unfold unl; rw [ht, hu])
      rw [← ht] at hck
      rw [← hu] at hck'
      clear hc hc' ha ha' hkr ht hu
      by_cases he : t = u
      · subst he
        have HC := Lib.hid (show n = cntT (unl ss tt) (k + 1) by show n = cntT (unl ss tt) k + _; rw [HU.out, ← HN.out]; simp)
        go_wp2_with fail
        go_quiet (fail)
        go_wp2
        go_roundw
        case rel => exact ⟨k + 1, n, HC, by omega, by omega, by go_num, ⟨_, own_kept HO.out ((Kept.refl _).drewN nq)⟩, HK.out.drewN nq⟩
        case measure => simp [intOf]; omega
      · have HC := Lib.hid (show n + 1 = cntT (unl ss tt) (k + 1) by show n + 1 = cntT (unl ss tt) k + _; rw [HU.out, ← HN.out, decide_eq_false he]; rfl)
        obtain ⟨g1, g2, g3⟩ := bytes_ne4 he
        go_wp2_with fail
        go_quiet (fail)
        have HOD := Lib.hid (own_kept HO.out ((Kept.refl wr).drewN nq))
        have HKD := Lib.hid (HK.out.drewN nq)
        generalize wr.drewN nq = wz at *
        go_wp2_with (at_builtin; refine wpList_append_own_at _ rfl _ _ 58 rfl w.heap.size 3 iA (.int .i64 0) 1 8 Try.underlying58 HIA.out.1 HIA.out.2.1 HIA.out.2.2.1 HIA.out.2.2.2 rfl (by decide) _ _ _ rfl (HOD.out.alloc _) ⟨wz.heap.size, 0, none⟩ 1 1 [.int .i64 (k : Int)] rfl rfl ?c1 ?c2 ?c3 ?c4 ?c5 ?_)
        case c1 =>
          intro j u hj
          match j, hj with
          | 0, hj => simp at hj; subst hj; simp [Addr.add]
        case c2 => intro u hu; simp at hu; subst hu; rfl
        case c3 => unfold maxLen; omega
        case c4 => omega
        case c5 => have := HKD.out.size; simp; omega
        intro v' w9 hown9 hgrow _ hat
        have kx := (Kept.refl wz).alloc (.cells #[.int .i64 (k : Int)] 3)
        have HO9 := Lib.hid hown9
        have HK9 := Lib.hid (show Kept w w9 from kept_gr1 (HKD.out.trans kx) hgrow (fun g e => ((own_kept HOD.out kx).lt g e).1) (Nat.le_refl _))
        clear hown9 hgrow hat kx
        go_wp2
        go_roundw
        case rel => exact ⟨k + 1, n + 1, HC, by omega, by omega, by go_num, ⟨_, HO9.out⟩, HK9.out⟩
        case measure => simp [intOf]; omega
    · obtain rfl : k = l := by omega
      have HF := Lib.hid (show ∃ x c, Ending.returned (.slice xv n cv) = .returned (.slice x (cntT (unl ss tt) k) c) from ⟨xv, cv, by rw [HN.out]⟩)
      clear hkr
      go_wp2
      go_ret
      obtain ⟨x, c, e⟩ := HF.out
      exact ⟨x, c, e, HK.out⟩
end Go.Proofs.Ytoonpnpooljmlaa
