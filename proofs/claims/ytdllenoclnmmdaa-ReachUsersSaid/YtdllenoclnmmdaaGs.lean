/- Contracts laid together: what each says stands at its head (no conditions). -/
import Derived.Test.YtdllenoclnmmdaaGm
import Derived.Test.YtdllenoclnmmdaaShelf
import Derived.Sort.OwnSorted
import Derived.Sort.Walk0
namespace Go.Proofs.Ytdllenoclnmmdaa
open Go.RowKit Go.Shelf
attribute [local go_sem] Oper.semAt_some

/-- in order, without twins -/
def risen (ss : List ByteArray) : List ByteArray := (Lib.compact ((ss.map fun s => s.data.toList).mergeSort fun x y => decide (x ≤ y))).map fun l => ⟨l.toArray⟩
/-- a list of texts in memory that a call has made -/
def NewIn (w0 w : World) (a : Option Addr) (l cap : Nat) (ss : List ByteArray) : Prop := l ≤ cap ∧ StrsIn w a l ss ∧ (0 < l → ∃ g cs, a = some ⟨g, 0, none⟩ ∧ w0.heap.size ≤ g ∧ BlockAt w g cs 9)
theorem NewIn.kept {w0 w w' : World} {a : Option Addr} {l cap : Nat} {ss : List ByteArray} (h : NewIn w0 w a l cap ss) (k : Kept w w') : NewIn w0 w' a l cap ss :=
  ⟨h.1, h.2.1.kept k, fun q => by obtain ⟨g, cs, e, h1, h2⟩ := h.2.2 q; exact ⟨g, cs, e, h1, h2.kept k⟩⟩
theorem compact_nil : Lib.compact ([] : List (List UInt8)) = [] := rfl
theorem mem_compact {zs : List (List UInt8)} {x : List UInt8} (h : x ∈ Lib.compact zs) : x ∈ zs := by
  unfold Lib.compact Lib.compactUpTo at h
  rw [List.mem_map] at h
  obtain ⟨i, hi, rfl⟩ := h
  have hi' : i < zs.length := List.mem_range.1 (List.mem_filter.1 hi).1
  simp [hi']
theorem compact_length (zs : List (List UInt8)) : (Lib.compact zs).length ≤ zs.length := by
  unfold Lib.compact Lib.compactUpTo
  rw [List.length_map]
  exact Nat.le_trans (List.length_filter_le _ _) (by simp)
theorem mem_risen {ss : List ByteArray} {x : ByteArray} (h : x ∈ risen ss) : x ∈ ss := by
  unfold risen at h
  rw [List.mem_map] at h
  obtain ⟨l, hl, rfl⟩ := h
  have := List.mem_mergeSort.1 (mem_compact hl)
  rw [List.mem_map] at this
  obtain ⟨s, hs, rfl⟩ := this
  exact hs
theorem str_maps (L : List (List UInt8)) : (L.map fun l => (⟨l.toArray⟩ : ByteArray)).map Value.string = L.map encStr := by
  rw [List.map_map]
  rfl
theorem texts_lists (ss : List ByteArray) : ss.map Value.string = (ss.map fun s => s.data.toList).map encStr := by
  rw [List.map_map]
  refine List.map_congr_left (fun s _ => ?_)
  rfl
set_option maxRecDepth 100000 in
set_option maxHeartbeats 2000000 in
theorem sorted_any (a : Option Addr) (l cap : Nat) (ss : List ByteArray) (w : World) (h : StrsIn w a l ss) (hl : l ≤ 100000) :
    Calls Try.prog 43 #[.slice a l cap] w fun e w' => ∃ a' c', e = .returned (.slice a' (risen ss).length c') ∧ NewIn w w' a' (risen ss).length c' (risen ss) ∧ Kept w w' := by
  have HS := Lib.hid h
  have HL := Lib.hid h.len_eq
  clear h
  by_cases h0 : l = 0
  · subst h0
    have hss : ss = [] := List.length_eq_zero_iff.1 HL.out
    subst hss
    have hr : risen [] = [] := by unfold risen; simp [compact_nil]
    rw [hr]
    clear hr
    cases a with
    | none =>
      go_enter Try.func43, Try.ntmps43
      go_wp2_with fail
      refine (Try.slices_Clone_string_nil 0 cap _).mono ?_
      rintro e w1 ⟨rfl, rfl⟩
      go_wp2_with fail
      refine (Try.slices_Sort_string_none none 0 _).mono ?_
      rintro e w1 ⟨rfl, rfl⟩
      go_wp2_with fail
      refine (Try.slices_Compact_string_empty none 0 _).mono ?_
      rintro e w1 ⟨rfl, rfl⟩
      go_wp2
      go_ret
      exact ⟨none, 0, rfl, ⟨Nat.le_refl _, ⟨rfl, by decide, (fun s hs => by cases hs), 0, 0, fun h => absurd h (Nat.lt_irrefl 0), fun i hi => absurd hi (Nat.not_lt_zero i)⟩, fun h => absurd h (Nat.lt_irrefl 0)⟩, Kept.refl _⟩
    | some p =>
      go_enter Try.func43, Try.ntmps43
      go_wp2_with fail
      refine (Try.slices_Clone_string_zero p cap _).mono ?_
      rintro e w1 ⟨v, rfl, hown, _, hb⟩
      obtain ⟨a1, c1, rfl⟩ := slice_of_own1 hown
      have HK := Lib.hid (show Kept w w1 from hb)
      clear hown hb
      go_wp2_with fail
      refine (Try.slices_Sort_string_none a1 c1 _).mono ?_
      rintro e w2 ⟨rfl, rfl⟩
      go_wp2_with fail
      refine (Try.slices_Compact_string_empty a1 c1 _).mono ?_
      rintro e w2 ⟨rfl, rfl⟩
      go_wp2
      go_ret
      exact ⟨a1, c1, rfl, ⟨Nat.zero_le _, ⟨rfl, by decide, (fun s hs => by cases hs), 0, 0, fun h => absurd h (Nat.lt_irrefl 0), fun i hi => absurd hi (Nat.not_lt_zero i)⟩, fun h => absurd h (Nat.lt_irrefl 0)⟩, HK.out⟩
  · obtain ⟨b, off, rfl, hc⟩ := HS.out.at (by omega)
    have HC := Lib.hid (fun j hj => hc j hj w (Kept.refl _))
    clear hc
    obtain ⟨L, hL⟩ : ∃ L, L = ss.map fun s => s.data.toList := ⟨_, rfl⟩
    have hLl : L.length = l := by rw [hL, List.length_map, HL.out]
    obtain ⟨M, hM⟩ : ∃ M, M = L.mergeSort (fun x y => decide (x ≤ y)) := ⟨_, rfl⟩
    have hMl : M.length = l := by rw [hM, List.length_mergeSort, hLl]
    obtain ⟨C, hC⟩ : ∃ C, C = Lib.compact M := ⟨_, rfl⟩
    have hCl : C.length ≤ l := by rw [hC, ← hMl]; exact compact_length M
    have HR := Lib.hid (show risen ss = C.map fun l => (⟨l.toArray⟩ : ByteArray) by unfold risen; rw [hC, hM, hL])
    have HRZ := Lib.hid (show ∀ s ∈ risen ss, s.size ≤ 9223372036854775807 from fun s hs => HS.out.sizes s (mem_risen hs))
    have HLM := Lib.hid hL
    have HMM := Lib.hid hM
    have HCM := Lib.hid hC
    have HLL := Lib.hid hLl
    have HML := Lib.hid hMl
    clear hL hM hC hLl hMl
    go_enter Try.func43, Try.ntmps43
    go_wp2_with fail
    refine (Try.slices_Clone_string b off l cap ss _ (Nat.le_of_eq HL.out.symm) (by omega) (fun j hj => HC.out j (by have := HL.out; omega))).mono ?_
    rintro e w1 ⟨v, rfl, hown, _, hb⟩
    rw [List.take_of_length_le (Nat.le_of_eq HL.out), texts_lists, ← HLM.out] at hown
    obtain ⟨hln, ⟨rfl, he⟩ | ⟨g, c, cur, rfl, hbg, hcur, hn, hm, hsz, htk⟩⟩ := hown
    · exact absurd he h0
    have HK1 := Lib.hid (show Kept w w1 from hb)
    have hg1 : g < w1.heap.size := (Array.getElem?_eq_some_iff.1 hcur).1
    have HHO := Lib.hid (holds_of_block (ss := L) hcur (by rw [HLL.out]; simpa using htk))
    have HSO := Lib.hid (fun n os => ownsRow_sorted (n := n) (os := os) (ss := L) (ts := M) (by rw [HML.out, HLL.out]) hbg hcur (by rw [HLL.out]; exact hn) hm (by omega))
    have HHB := Lib.hid hbg
    have HCU := Lib.hid hcur
    clear hb hcur htk hln hsz
    go_wp2_with fail
    rw [← HLL.out]
    refine (Try.slices_Sort_string g 0 c L _ HHO.out hg1 (by rw [HLL.out]; omega)).mono ?_
    rintro e w2 ⟨rfl, n2, os, hw2⟩
    rw [← HMM.out] at hw2
    have hown2 := HSO.out n2 os
    have hg2 : w1.grownBy w2 (some g) := by rw [hw2]; exact grownBy_sorted _
    rw [← hw2] at hown2
    clear hw2 HSO
    rw [HLL.out] at hown2 ⊢
    have HK2 := Lib.hid (Below.grown HK1.out hg2 HK1.out.size (fun k e => by cases e; exact HHB.out))
    obtain ⟨hln, ⟨e0, he⟩ | ⟨g', c', cur2, e1, hbg2, hcur2, hn2, hm2, hsz2, htk2⟩⟩ := hown2
    · cases e0
    cases e1
    have HH2 := Lib.hid (holds_of_block (ss := M) hcur2 (by rw [HML.out]; simpa using htk2))
    have HSC := Lib.hid (fun q => ownsRow_sorted (n := q) (os := #[]) (ss := M) (ts := C ++ List.replicate (M.length - C.length) []) (by have := HML.out; simp; omega) hbg2 hcur2 (by rw [HML.out]; exact hn2) hm2 (by omega))
    have HHC2 := Lib.hid hcur2
    have hw12 := hg2.size
    clear hln hsz2 htk2 hcur2 hg2
    go_wp2_with fail
    rw [← HML.out]
    refine (Try.slices_Compact_string g 0 c M _ HH2.out (by rw [HML.out]; omega) (by rw [HML.out]; exact hn)).mono ?_
    rintro e w3 ⟨rfl, q, hw3⟩
    rw [← HCM.out] at hw3 ⊢
    have hown3 := HSC.out q
    have hg3 := grownBy_sorted (w := w2) (g := g) (n := q) (os := #[]) (C ++ List.replicate (M.length - C.length) []).toArray
    rw [Go.Sort.grow_empty, ← hw3] at hown3 hg3
    clear hw3 HSC
    have HK3 := Lib.hid (Below.grown HK2.out hg3 HK2.out.size (fun k e => by cases e; exact HHB.out))
    have hrl : (risen ss).length = C.length := by rw [HR.out, List.length_map]
    have hin : StrsIn w3 (some ⟨g, 0, none⟩) C.length (risen ss) := by
      refine ⟨hrl, by omega, HRZ.out, g, 0, fun _ => rfl, fun i hi => ⟨(hown3.lt g rfl).2, ?_⟩⟩
      rw [Nat.zero_add, hown3.cellAt i (by have := HML.out; omega), HR.out]
      rw [List.getElem?_map, List.getElem?_append_left hi]
      simp [List.getD, hi, encStr]
    obtain ⟨_, ⟨e0, _⟩ | ⟨g', c', cur3, e1, _, hcur3, _⟩⟩ := hown3
    · cases e0
    cases e1
    have HIN := Lib.hid hin
    have HC3 := Lib.hid hcur3
    have HRL := Lib.hid hrl
    have hlc : C.length ≤ c := by omega
    clear hin hcur3 hg3 hrl
    go_wp2
    go_ret
    rw [HRL.out]
    exact ⟨_, c, rfl, ⟨hlc, HIN.out, fun _ => ⟨g, cur3, rfl, HHB.out, HC3.out⟩⟩, HK3.out⟩
end Go.Proofs.Ytdllenoclnmmdaa

namespace Go.Proofs.Ytdllenoclnmmdaa
open Go.RowKit

def Ris (l : List ByteArray) : Prop := l.Pairwise fun a b => ltB a b = true
theorem ris_riB {l : List ByteArray} : riB l = true ↔ Ris l := by
  unfold Ris
  rw [List.pairwise_iff_getElem]
  constructor
  · intro h i j hi hj hij
    have := riK_lt h j i hij hj
    unfold txt at this
    simpa [List.getD, hi, hj] using this
  · intro h
    unfold riB riK
    rw [List.all_eq_true]
    intro i hi
    have hi := List.mem_range.1 hi
    by_cases h0 : i = 0
    · simp [h0]
    · have := h (i - 1) i (by omega) hi (by omega)
      rw [Bool.or_eq_true]
      refine .inr ?_
      unfold txt
      simpa [List.getD, hi, show i - 1 < l.length by omega] using this
theorem ris_unique : ∀ {a b : List ByteArray}, Ris a → Ris b → (∀ x, x ∈ a ↔ x ∈ b) → a = b
  | [], [], _, _, _ => rfl
  | [], y :: b, _, _, h => by have := (h y).2 (List.mem_cons_self ..); cases this
  | x :: a, [], _, _, h => by have := (h x).1 (List.mem_cons_self ..); cases this
  | x :: a, y :: b, ha, hb, h => by
    have ha' := List.pairwise_cons.1 ha
    have hb' := List.pairwise_cons.1 hb
    have hxy : x = y := by
      rcases List.mem_cons.1 ((h x).1 (List.mem_cons_self ..)) with e | e
      · exact e
      · rcases List.mem_cons.1 ((h y).2 (List.mem_cons_self ..)) with e2 | e2
        · exact e2.symm
        · have h1 := hb'.1 x e
          have h2 := ha'.1 y e2
          rw [ltB_asymm h1] at h2
          cases h2
    subst hxy
    rw [ris_unique (a := a) (b := b) ha'.2 hb'.2 (fun z => by
      constructor
      · intro hz
        rcases List.mem_cons.1 ((h z).1 (List.mem_cons_of_mem _ hz)) with e | e
        · subst e
          have := ha'.1 z hz
          rw [ltB_irrefl] at this
          cases this
        · exact e
      · intro hz
        rcases List.mem_cons.1 ((h z).2 (List.mem_cons_of_mem _ hz)) with e | e
        · subst e
          have := hb'.1 z hz
          rw [ltB_irrefl] at this
          cases this
        · exact e)]
theorem ltB_list (x y : ByteArray) : ltB x y = decide (x.data.toList < y.data.toList) := by
  unfold ltB
  rw [bytesLess_eq, ByteArray.toList_eq, ByteArray.toList_eq]
theorem le_trichotomy (a b : List UInt8) (h : a ≤ b) : a < b ∨ a = b := by
  by_cases e : a < b
  · exact .inl e
  · exact .inr (List.le_antisymm h (List.not_lt.1 e))
theorem compact_strict {zs : List (List UInt8)} (h : zs.Pairwise (· ≤ ·)) : (Lib.compact zs).Pairwise (· < ·) := by
  unfold Lib.compact Lib.compactUpTo
  rw [List.pairwise_map]
  have hp : (List.range zs.length).Pairwise (· < ·) := List.pairwise_lt_range
  refine List.Pairwise.imp_of_mem ?_ (List.Pairwise.filter _ hp)
  intro i j hi hj hij
  obtain ⟨hi1, -⟩ := List.mem_filter.1 hi
  obtain ⟨hj1, hj2⟩ := List.mem_filter.1 hj
  have hi1 := List.mem_range.1 hi1
  have hj1 := List.mem_range.1 hj1
  rw [List.pairwise_iff_getElem] at h
  have hk := of_decide_eq_true hj2
  have hne : zs[j] ≠ zs[j - 1] := by
    rcases hk with e | e
    · omega
    · simpa [hj1, show j - 1 < zs.length by omega] using e
  have h1 : zs[i] ≤ zs[j - 1] := by
    by_cases e : i = j - 1
    · subst e; exact List.le_refl _
    · exact h i (j - 1) hi1 (by omega) (by omega)
  have h2 : zs[j - 1] ≤ zs[j] := h (j - 1) j (by omega) hj1 (by omega)
  have h3 : zs[j - 1] < zs[j] := (le_trichotomy _ _ h2).resolve_right (fun e => hne e.symm)
  have h4 : zs[i] < zs[j] := by
    rcases le_trichotomy _ _ h1 with e | e
    · exact List.lt_trans e h3
    · rw [e]; exact h3
  simpa [hi1, hj1] using h4
theorem compact_mem {zs : List (List UInt8)} {x : List UInt8} (h : x ∈ zs) : x ∈ Lib.compact zs := by
  obtain ⟨n, hn, rfl⟩ := List.getElem_of_mem h
  -- the first place of it
  have key : ∀ n (hn : n < zs.length), ∃ j, ∃ hj : j < zs.length, zs[j] = zs[n] ∧ Lib.keeps zs.toArray j = true := by
    intro n
    induction n with
    | zero => exact fun hn => ⟨0, hn, rfl, by simp [Lib.keeps]⟩
    | succ n ih =>
      intro hn
      by_cases e : zs[n + 1] = zs[n]
      · obtain ⟨j, hj, h1, h2⟩ := ih (by omega)
        exact ⟨j, hj, h1.trans e.symm, h2⟩
      · refine ⟨n + 1, hn, rfl, decide_eq_true (.inr ?_)⟩
        simpa [hn, show n < zs.length by omega] using e
  obtain ⟨j, hj, h1, h2⟩ := key n hn
  unfold Lib.compact Lib.compactUpTo
  rw [List.mem_map]
  exact ⟨j, List.mem_filter.2 ⟨List.mem_range.2 hj, h2⟩, by simp [hj, h1]⟩
theorem risen_ris (ss : List ByteArray) : Ris (risen ss) := by
  unfold Ris risen
  rw [List.pairwise_map]
  have hs : ((ss.map fun s => s.data.toList).mergeSort fun x y => decide (x ≤ y)).Pairwise (· ≤ ·) := by
    have := List.pairwise_mergeSort (le := fun (x y : List UInt8) => decide (x ≤ y)) (fun a b c h1 h2 => by simp at h1 h2 ⊢; exact List.le_trans h1 h2) (fun a b => by simp; exact List.le_total a b) (ss.map fun s => s.data.toList)
    exact this.imp (fun h => by simpa using h)
  refine (compact_strict hs).imp (fun {a b} h => ?_)
  rw [ltB_list]
  exact decide_eq_true h
theorem risen_mem (ss : List ByteArray) (x : ByteArray) : x ∈ risen ss ↔ x ∈ ss := by
  refine ⟨mem_risen, fun h => ?_⟩
  unfold risen
  rw [List.mem_map]
  refine ⟨x.data.toList, compact_mem (List.mem_mergeSort.2 (List.mem_map.2 ⟨x, h, rfl⟩)), ?_⟩
  rfl
/-- the reference: a text more in a list that rises -/
def posR (x : ByteArray) (l : List ByteArray) : Nat := (l.takeWhile fun y => ltB y x).length
def insR (x : ByteArray) (l : List ByteArray) : List ByteArray := if posR x l < l.length ∧ txt l (posR x l) = x then l else l.take (posR x l) ++ [x] ++ l.drop (posR x l)
def risR (ss : List ByteArray) : List ByteArray := ss.foldl (fun l x => insR x l) []
theorem posR_le (x : ByteArray) (l : List ByteArray) : posR x l ≤ l.length := (List.takeWhile_sublist _).length_le
theorem posR_nil (x : ByteArray) : posR x [] = 0 := rfl
theorem posR_cons (x y : ByteArray) (l : List ByteArray) : posR x (y :: l) = if ltB y x = true then posR x l + 1 else 0 := by
  unfold posR
  rw [List.takeWhile_cons]
  split <;> simp
theorem posR_below (x : ByteArray) : ∀ (l : List ByteArray) (i : Nat), i < posR x l → ltB (txt l i) x = true
  | [], i, h => absurd h (Nat.not_lt_zero i)
  | y :: l, i, h => by
    rw [posR_cons] at h
    by_cases e : ltB y x = true
    · rw [if_pos e] at h
      cases i with
      | zero => exact e
      | succ i => exact posR_below x l i (by omega)
    · rw [if_neg e] at h
      omega
theorem posR_at (x : ByteArray) : ∀ (l : List ByteArray), posR x l < l.length → ltB (txt l (posR x l)) x = false
  | [], h => absurd h (Nat.not_lt_zero _)
  | y :: l, h => by
    rw [posR_cons] at h ⊢
    by_cases e : ltB y x = true
    · rw [if_pos e] at h ⊢
      exact posR_at x l (by simpa using h)
    · rw [if_neg e]
      have e' : ltB y x = false := by simpa using e
      exact e'
theorem mem_txt {l : List ByteArray} {i : Nat} (h : i < l.length) : txt l i ∈ l := by
  unfold txt
  simp [List.getD, h]
theorem insR_mem (x : ByteArray) (l : List ByteArray) (y : ByteArray) : y ∈ insR x l ↔ y = x ∨ y ∈ l := by
  unfold insR
  split
  · rename_i h
    constructor
    · exact .inr
    · rintro (e | e)
      · subst e
        have := mem_txt h.1
        rwa [h.2] at this
      · exact e
  · rw [List.append_assoc, List.mem_append, List.mem_append, List.mem_singleton]
    conv => rhs; rw [← List.take_append_drop (posR x l) l, List.mem_append]
    constructor
    · rintro (e | e | e)
      · exact .inr (.inl e)
      · exact .inl e
      · exact .inr (.inr e)
    · rintro (e | e | e)
      · exact .inr (.inl e)
      · exact .inl e
      · exact .inr (.inr e)
theorem insR_ris (x : ByteArray) (l : List ByteArray) (h : Ris l) : Ris (insR x l) := by
  unfold insR
  split
  · exact h
  · rename_i hn
    have hx : ∀ y ∈ l.drop (posR x l), ltB x y = true := fun y hy => by
      obtain ⟨i, hi, rfl⟩ := List.getElem_of_mem hy
      rw [List.length_drop] at hi
      have hp : posR x l < l.length := by omega
      have h1 := posR_at x l hp
      have h2 : ltB x (txt l (posR x l)) = true := by
        cases e : ltB x (txt l (posR x l)) with
        | true => rfl
        | false => exact absurd ⟨hp, ltB_total h1 e⟩ hn
      rw [List.getElem_drop]
      by_cases e : i = 0
      · subst e
        have : txt l (posR x l) = l[posR x l + 0]'(by omega) := by unfold txt; simp [List.getD, hp]
        rw [← this]
        exact h2
      · have h3 := (List.pairwise_iff_getElem.1 h) (posR x l) (posR x l + i) hp (by omega) (by omega)
        have : txt l (posR x l) = l[posR x l]'hp := by unfold txt; simp [List.getD, hp]
        rw [this] at h2
        exact ltB_trans h2 h3
    have hb : ∀ y ∈ l.take (posR x l), ltB y x = true := fun y hy => by
      obtain ⟨i, hi, rfl⟩ := List.getElem_of_mem hy
      rw [List.length_take] at hi
      have := posR_below x l i (by omega)
      unfold txt at this
      rw [List.getElem_take]
      simpa [List.getD, show i < l.length by omega] using this
    have hparts := h
    rw [show l = l.take (posR x l) ++ l.drop (posR x l) from (List.take_append_drop _ _).symm] at hparts
    have hp := List.pairwise_append.1 hparts
    unfold Ris
    rw [List.append_assoc, List.pairwise_append]
    refine ⟨hp.1, ?_, ?_⟩
    · rw [List.singleton_append, List.pairwise_cons]
      exact ⟨hx, hp.2.1⟩
    · intro y hy z hz
      rw [List.singleton_append] at hz
      rcases List.mem_cons.1 hz with e | e
      · rw [e]; exact hb y hy
      · exact hp.2.2 y hy z e
theorem risR_snoc (ss : List ByteArray) (k : Nat) (h : k < ss.length) : risR (ss.take (k + 1)) = insR (txt ss k) (risR (ss.take k)) := by
  unfold risR txt
  rw [List.take_succ_eq_append_getElem h, List.foldl_append]
  simp [List.getD, h]
theorem foldR (ss : List ByteArray) : ∀ l, Ris l → Ris (ss.foldl (fun l x => insR x l) l) ∧ ∀ y, y ∈ ss.foldl (fun l x => insR x l) l ↔ y ∈ ss ∨ y ∈ l := by
  induction ss with
  | nil => exact fun l h => ⟨h, fun y => by simp⟩
  | cons x ss ih =>
    intro l h
    obtain ⟨h1, h2⟩ := ih (insR x l) (insR_ris x l h)
    refine ⟨h1, fun y => ?_⟩
    rw [List.foldl_cons, h2, insR_mem, List.mem_cons]
    constructor
    · rintro (e | e | e)
      · exact .inl (.inr e)
      · exact .inl (.inl e)
      · exact .inr e
    · rintro ((e | e) | e)
      · exact .inr (.inl e)
      · exact .inl e
      · exact .inr (.inr e)
theorem risR_risen (ss : List ByteArray) : risR ss = risen ss := by
  obtain ⟨h1, h2⟩ := foldR ss [] List.Pairwise.nil
  refine ris_unique h1 (risen_ris ss) (fun x => ?_)
  rw [risen_mem]
  have := h2 x
  unfold risR
  rw [this]
  simp
/-- a list that rises is in order already -/
theorem risen_same {l : List ByteArray} (h : riB l = true) : risen l = l := ris_unique (risen_ris l) (ris_riB.1 h) (fun x => risen_mem l x)
theorem risen_riB (l : List ByteArray) : riB (risen l) = true := ris_riB.2 (risen_ris l)
theorem risen_szB (l : List ByteArray) (h : szB l = true) : szB (risen l) = true := by
  unfold szB at h ⊢
  rw [List.all_eq_true] at h ⊢
  exact fun x hx => h x (mem_risen hx)
theorem risR_length (ss : List ByteArray) : (risR ss).length ≤ ss.length := by
  rw [risR_risen]
  unfold risen
  rw [List.length_map]
  exact Nat.le_trans (compact_length _) (by rw [List.length_mergeSort, List.length_map]; exact Nat.le_refl _)
end Go.Proofs.Ytdllenoclnmmdaa

