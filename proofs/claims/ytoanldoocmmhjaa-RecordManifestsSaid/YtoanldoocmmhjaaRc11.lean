/- What record.Take and the reference's read is the same: plain mathematics (no conditions). -/
import Derived.Test.YtoanldoocmmhjaaRr7
namespace Go.Proofs.Ytoanldoocmmhjaa
open Go.RowKit
def takeP (t : ByteArray) : Rec × Bool := takeK (parse (t, false))
theorem ps_bad {n : Nat} {s : St} (h : s.2 = true) : (ps n s).2 = true := by
  unfold ps rdB
  dsimp only
  split
  · exact h
  · rfl
theorem pList_bad {n : Nat} {s : St} (h : s.2 = true) : (pList n s).2.2 = true := by
  cases n with
  | zero => exact h
  | succ n => unfold pList; rw [if_pos h]; exact h
theorem pSlots_bad {n : Nat} {s : St} (h : s.2 = true) : (pSlots n s).2.2 = true := by
  cases n with
  | zero => exact h
  | succ n => unfold pSlots; rw [if_pos h]; exact h
theorem pList_good : ∀ (n : Nat) (s : St), (pList n s).2.2 = false → (pList n s).1.length = n
  | 0, s, _ => rfl
  | n + 1, s, h => by
    unfold pList at h ⊢
    by_cases hs : s.2 = true
    · rw [if_pos hs] at h
      rw [hs] at h; cases h
    · rw [if_neg hs] at h ⊢
      have := pList_good n (ps 4 s) h
      simp [this]
theorem slot_alike (v q : Nat) (hv : v < 4294967296) (hq : q < 4294967296) : (sgn v, sgn q) = (fixd v, (q : Int)) ∨ (Rc.slotB (sgn v, sgn q) = false ∧ Rc.slotB (fixd v, (q : Int)) = false) := by
  unfold Rc.slotB Rc.within sgn fixd
  dsimp only
  by_cases h1 : q < 2147483648
  · rw [if_pos h1]
    by_cases h2 : v < 2147483648
    · rw [if_pos h2, if_neg (by omega)]; exact .inl rfl
    · by_cases h3 : v = 4294967295
      · subst h3; exact .inl rfl
      · right
        rw [if_neg h2, if_neg h3, decide_eq_false (show ¬ (-1 ≤ (v : Int) - 4294967296 ∧ (v : Int) - 4294967296 ≤ 11) by omega), decide_eq_false (show ¬ (-1 ≤ (v : Int) ∧ (v : Int) ≤ 11) by omega)]
        exact ⟨rfl, rfl⟩
  · right
    rw [if_neg h1, decide_eq_false (show ¬ (0 ≤ (q : Int) - 4294967296 ∧ (q : Int) - 4294967296 ≤ 63) by omega), decide_eq_false (show ¬ (0 ≤ (q : Int) ∧ (q : Int) ≤ 63) by omega), Bool.and_false, Bool.and_false]
    exact ⟨rfl, rfl⟩
theorem slots_alike : ∀ (n : Nat) (s : St), (pSlots n s).2 = (rSlots n s).2 ∧ ((pSlots n s).1 = (rSlots n s).1 ∨ ((pSlots n s).1.all Rc.slotB = false ∧ (rSlots n s).1.all Rc.slotB = false))
  | 0, s => ⟨rfl, .inl rfl⟩
  | n + 1, s => by
    unfold pSlots rSlots
    by_cases hs : s.2 = true
    · rw [if_pos hs, if_pos hs]; exact ⟨rfl, .inl rfl⟩
    · rw [if_neg hs, if_neg hs]
      obtain ⟨h1, h2⟩ := slots_alike n (ps 4 (ps 4 s))
      refine ⟨h1, ?_⟩
      dsimp only
      rcases slot_alike (pv 4 s) (pv 4 (ps 4 s)) (pv_lt 4 _ (by omega)) (pv_lt 4 _ (by omega)) with e | ⟨e1, e2⟩
      · rw [e]
        rcases h2 with h2 | ⟨h3, h4⟩
        · rw [h2]; exact .inl rfl
        · right
          rw [List.all_cons, List.all_cons, h3, h4, Bool.and_false]
          exact ⟨rfl, rfl⟩
      · right
        rw [List.all_cons, List.all_cons, e1, e2, Bool.false_and]
        exact ⟨rfl, rfl⟩
theorem may_list {r : Rec} (hf : Rc.fL r.kind = true) (h : 2000 < r.list.length) : Rec.may r = false := by
  have h4 : Rec.lstB r = false := by
    unfold Rec.lstB Rc.listB
    rw [if_pos hf, decide_eq_false (by omega)]
    rfl
  unfold Rec.may
  rw [h4]
  simp
theorem may_slots {r : Rec} (hf : Rc.fS r.kind = true) (h : r.slots.all Rc.slotB = false) : Rec.may r = false := by
  have h4 : Rec.sltB r = false := by
    unfold Rec.sltB Rc.slotsB
    rw [if_pos hf, h, Bool.and_false]
  unfold Rec.may
  rw [h4]
  simp
theorem pS_bad {k : Int} {s : St} (h : s.2 = true) : (pS k s).2.2 = true := by
  unfold pS
  split
  · exact pSlots_bad (ps_bad h)
  · exact h
theorem rS_bad {k : Int} {s : St} (h : s.2 = true) : (rS k s).2.2 = true := by
  unfold rS
  split
  · rw [← (slots_alike _ _).1]; exact pSlots_bad (ps_bad h)
  · exact h
theorem pL_bad {k : Int} {s : St} (h : s.2 = true) : (pL k s).2.2 = true := by
  unfold pL
  split
  · exact pList_bad (by rw [ps_bad h]; rfl)
  · exact h
theorem pD_bad {k : Int} {s : St} (h : s.2 = true) : (pD k s).2.2 = true := by
  unfold pD
  split
  · exact ps_bad h
  · exact h
theorem pN_bad {k : Int} {s : St} (h : s.2 = true) : (pN k s).2.2 = true := by
  unfold pN
  split
  · exact ps_bad (ps_bad h)
  · exact h
theorem pI_bad {k : Int} {s : St} (h : s.2 = true) : (pI k s).2.2 = true := by
  unfold pI
  split
  · exact ps_bad h
  · exact h
theorem okR_bad {r : Rec × St} (h : r.2.2 = true) : okR r = false := by unfold okR; rw [h]; rfl
theorem okR_may {r : Rec × St} (h : Rec.may r.1 = false) : okR r = false := by unfold okR; rw [h]; simp
/-- from the slots on -/
theorem tail_alike (k : Int) (id : Int) (name dig : ByteArray) (zs : List Int) (s : St) : takeK (⟨k, id, name, dig, zs, (pS k s).1⟩, (pS k s).2) = takeK (⟨k, id, name, dig, zs, (rS k s).1⟩, (rS k s).2) := by
  by_cases hf : Rc.fS k = true
  · have e1 : pS k s = pSlots (pv 1 s) (ps 1 s) := by unfold pS; rw [if_pos hf]
    have e2 : rS k s = rSlots (pv 1 s) (ps 1 s) := by unfold rS; rw [if_pos hf]
    rw [e1, e2]
    obtain ⟨h1, h2⟩ := slots_alike (pv 1 s) (ps 1 s)
    rw [h1]
    rcases h2 with h2 | ⟨h3, h4⟩
    · rw [h2]
    · rw [takeK_no (okR_may (may_slots (r := ⟨k, id, name, dig, zs, (pSlots (pv 1 s) (ps 1 s)).1⟩) hf h3)), takeK_no (okR_may (may_slots (r := ⟨k, id, name, dig, zs, (rSlots (pv 1 s) (ps 1 s)).1⟩) hf h4))]
  · have e1 : pS k s = ([], s) := by unfold pS; rw [if_neg hf]
    have e2 : rS k s = ([], s) := by unfold rS; rw [if_neg hf]
    rw [e1, e2]
theorem list_alike (k : Int) (id : Int) (name dig : ByteArray) (s : St) :
    takeK (⟨k, id, name, dig, (pL k s).1, (pS k (pL k s).2).1⟩, (pS k (pL k s).2).2) = takeK (⟨k, id, name, dig, (rL k s).1, (rS k (rL k s).2).1⟩, (rS k (rL k s).2).2) := by
  by_cases hf : Rc.fL k = true
  · have e1 : pL k s = pList (pv 4 s) ((ps 4 s).1, (ps 4 s).2 || decide (2000 < pv 4 s)) := by unfold pL; rw [if_pos hf]
    have e2 : rL k s = pList (pv 4 s) (ps 4 s) := by unfold rL; rw [if_pos hf]
    by_cases hn : 2000 < pv 4 s
    · have h1 : (pL k s).2.2 = true := by
        rw [e1]
        exact pList_bad (by rw [decide_eq_true hn]; simp)
      rw [takeK_no (okR_bad (r := (⟨k, id, name, dig, (pL k s).1, (pS k (pL k s).2).1⟩, (pS k (pL k s).2).2)) (pS_bad h1))]
      cases hb : (rL k s).2.2 with
      | true => rw [takeK_no (okR_bad (r := (⟨k, id, name, dig, (rL k s).1, (rS k (rL k s).2).1⟩, (rS k (rL k s).2).2)) (rS_bad hb))]
      | false =>
        have hl : (rL k s).1.length = pv 4 s := by
          rw [e2] at hb ⊢
          exact pList_good _ _ hb
        rw [takeK_no (okR_may (r := (⟨k, id, name, dig, (rL k s).1, (rS k (rL k s).2).1⟩, (rS k (rL k s).2).2)) (may_list hf (by dsimp only; omega)))]
    · have e3 : pL k s = rL k s := by
        rw [e1, e2, decide_eq_false hn, Bool.or_false]
      rw [e3]
      exact tail_alike k id name dig (rL k s).1 (rL k s).2
  · have e1 : pL k s = ([], s) := by unfold pL; rw [if_neg hf]
    have e2 : rL k s = ([], s) := by unfold rL; rw [if_neg hf]
    rw [e1, e2]
    exact tail_alike k id name dig [] s
theorem take_alike (t : ByteArray) : takeP t = takeR t := by
  unfold takeP takeR parse
  by_cases h : (ps 1 (t, false)).2 = false ∧ Rc.okK ((pv 1 (t, false) : Nat) : Int) = true
  · rw [if_pos h]
    exact list_alike _ _ _ _ _
  · rw [if_neg h]
    generalize ps 1 (t, false) = s at *
    generalize ((pv 1 (t, false) : Nat) : Int) = k at *
    cases hb : s.2 with
    | true => exact takeK_no (okR_bad (pS_bad (pL_bad (pD_bad (pN_bad (pI_bad hb))))))
    | false =>
      have hk : Rc.okK k = false := by
        cases hk : Rc.okK k with
        | true => exact absurd ⟨hb, hk⟩ h
        | false => rfl
      refine takeK_no (okR_may ?_)
      unfold Rec.may
      rw [show (parseK k s).1.kind = k from rfl, hk]
      rfl
end Go.Proofs.Ytoanldoocmmhjaa
