/- manifest.sorted, Sorted: lists in order, without twins, in new memory (lists of no great length). -/
import Derived.Test.YthdlmpgojoaijaaMt6
import Derived.Test.YthdlmpgojoaijaaShelf
import Derived.Sort.OwnSorted
namespace Go.Proofs.Ythdlmpgojoaijaa
open Go.RowKit Go.Shelf
attribute [local go_sem] Oper.semAt_some

/-- in order, without twins -/
def risen (ss : List ByteArray) : List ByteArray := (Lib.compact ((ss.map fun s => s.data.toList).mergeSort fun x y => decide (x ≤ y))).map fun l => ⟨l.toArray⟩
/-- a list of texts in memory that a call has made -/
def NewIn (w0 w : World) (a : Option Addr) (l cap : Nat) (ss : List ByteArray) : Prop := l ≤ cap ∧ StrsIn w a l ss ∧ (0 < l → ∃ g cs, a = some ⟨g, 0, none⟩ ∧ w0.heap.size ≤ g ∧ BlockAt w g cs 9)
theorem NewIn.kept {w0 w w' : World} {a : Option Addr} {l cap : Nat} {ss : List ByteArray} (h : NewIn w0 w a l cap ss) (k : Kept w w') : NewIn w0 w' a l cap ss :=
  ⟨h.1, h.2.1.kept k, fun q => by obtain ⟨g, cs, e, h1, h2⟩ := h.2.2 q; exact ⟨g, cs, e, h1, h2.kept k⟩⟩
theorem compact_nil : Lib.compact ([] : List (List UInt8)) = [] := rfl
theorem mem_compact {zs : List (List UInt8)} {x : List UInt8} (h : x ∈ Lib.compact zs) : x ∈ zs := by
  unfold Lib.compact Lib.compactUpTo at h
  rw [List.mem_map] at h
  obtain ⟨i, hi, rfl⟩ := h
  have hi' : i < zs.length := List.mem_range.1 (List.mem_filter.1 hi).1
  simp [hi']
theorem compact_length (zs : List (List UInt8)) : (Lib.compact zs).length ≤ zs.length := by
  unfold Lib.compact Lib.compactUpTo
  rw [List.length_map]
  exact Nat.le_trans (List.length_filter_le _ _) (by simp)
theorem mem_risen {ss : List ByteArray} {x : ByteArray} (h : x ∈ risen ss) : x ∈ ss := by
  unfold risen at h
  rw [List.mem_map] at h
  obtain ⟨l, hl, rfl⟩ := h
  have := List.mem_mergeSort.1 (mem_compact hl)
  rw [List.mem_map] at this
  obtain ⟨s, hs, rfl⟩ := this
  exact hs
theorem str_maps (L : List (List UInt8)) : (L.map fun l => (⟨l.toArray⟩ : ByteArray)).map Value.string = L.map encStr := by
  rw [List.map_map]
  rfl
theorem texts_lists (ss : List ByteArray) : ss.map Value.string = (ss.map fun s => s.data.toList).map encStr := by
  rw [List.map_map]
  refine List.map_congr_left (fun s _ => ?_)
  rfl
set_option maxRecDepth 100000 in
set_option maxHeartbeats 2000000 in
theorem sorted_any (a : Option Addr) (l cap : Nat) (ss : List ByteArray) (w : World) (h : StrsIn w a l ss) (hl : l ≤ 100000) :
    Calls Try.prog 43 #[.slice a l cap] w fun e w' => ∃ a' c', e = .returned (.slice a' (risen ss).length c') ∧ NewIn w w' a' (risen ss).length c' (risen ss) ∧ Kept w w' := by
  have HS := Lib.hid h
  have HL := Lib.hid h.len_eq
  clear h
  by_cases h0 : l = 0
  · subst h0
    have hss : ss = [] := List.length_eq_zero_iff.1 HL.out
    subst hss
    have hr : risen [] = [] := by unfold risen; simp [compact_nil]
    rw [hr]
    clear hr
    cases a with
    | none =>
      go_enter Try.func43, Try.ntmps43
      go_wp2_with fail
      refine (Try.slices_Clone_string_nil 0 cap _).mono ?_
      rintro e w1 ⟨rfl, rfl⟩
      go_wp2_with fail
      refine (Try.slices_Sort_string_none none 0 _).mono ?_
      rintro e w1 ⟨rfl, rfl⟩
      go_wp2_with fail
      refine (Try.slices_Compact_string_empty none 0 _).mono ?_
      rintro e w1 ⟨rfl, rfl⟩
      go_wp2
      go_ret
      exact ⟨none, 0, rfl, ⟨Nat.le_refl _, ⟨rfl, by decide, (fun s hs => by cases hs), 0, 0, fun h => absurd h (Nat.lt_irrefl 0), fun i hi => absurd hi (Nat.not_lt_zero i)⟩, fun h => absurd h (Nat.lt_irrefl 0)⟩, Kept.refl _⟩
    | some p =>
      go_enter Try.func43, Try.ntmps43
      go_wp2_with fail
      refine (Try.slices_Clone_string_zero p cap _).mono ?_
      rintro e w1 ⟨v, rfl, hown, _, hb⟩
      obtain ⟨a1, c1, rfl⟩ := slice_of_own1 hown
      have HK := Lib.hid (show Kept w w1 from hb)
      clear hown hb
      go_wp2_with fail
      refine (Try.slices_Sort_string_none a1 c1 _).mono ?_
      rintro e w2 ⟨rfl, rfl⟩
      go_wp2_with fail
      refine (Try.slices_Compact_string_empty a1 c1 _).mono ?_
      rintro e w2 ⟨rfl, rfl⟩
      go_wp2
      go_ret
      exact ⟨a1, c1, rfl, ⟨Nat.zero_le _, ⟨rfl, by decide, (fun s hs => by cases hs), 0, 0, fun h => absurd h (Nat.lt_irrefl 0), fun i hi => absurd hi (Nat.not_lt_zero i)⟩, fun h => absurd h (Nat.lt_irrefl 0)⟩, HK.out⟩
  · obtain ⟨b, off, rfl, hc⟩ := HS.out.at (by omega)
    have HC := Lib.hid (fun j hj => hc j hj w (Kept.refl _))
    clear hc
    obtain ⟨L, hL⟩ : ∃ L, L = ss.map fun s => s.data.toList := ⟨_, rfl⟩
    have hLl : L.length = l := by rw [hL, List.length_map, HL.out]
    obtain ⟨M, hM⟩ : ∃ M, M = L.mergeSort (fun x y => decide (x ≤ y)) := ⟨_, rfl⟩
    have hMl : M.length = l := by rw [hM, List.length_mergeSort, hLl]
    obtain ⟨C, hC⟩ : ∃ C, C = Lib.compact M := ⟨_, rfl⟩
    have hCl : C.length ≤ l := by rw [hC, ← hMl]; exact compact_length M
    have HR := Lib.hid (show risen ss = C.map fun l => (⟨l.toArray⟩ : ByteArray) by unfold risen; rw [hC, hM, hL])
    have HRZ := Lib.hid (show ∀ s ∈ risen ss, s.size ≤ 9223372036854775807 from fun s hs => HS.out.sizes s (mem_risen hs))
    have HLM := Lib.hid hL
    have HMM := Lib.hid hM
    have HCM := Lib.hid hC
    have HLL := Lib.hid hLl
    have HML := Lib.hid hMl
    clear hL hM hC hLl hMl
    go_enter Try.func43, Try.ntmps43
    go_wp2_with fail
    refine (Try.slices_Clone_string b off l cap ss _ (Nat.le_of_eq HL.out.symm) (by omega) (fun j hj => HC.out j (by have := HL.out; omega))).mono ?_
    rintro e w1 ⟨v, rfl, hown, _, hb⟩
    rw [List.take_of_length_le (Nat.le_of_eq HL.out), texts_lists, ← HLM.out] at hown
    obtain ⟨hln, ⟨rfl, he⟩ | ⟨g, c, cur, rfl, hbg, hcur, hn, hm, hsz, htk⟩⟩ := hown
    · exact absurd he h0
    have HK1 := Lib.hid (show Kept w w1 from hb)
    have hg1 : g < w1.heap.size := (Array.getElem?_eq_some_iff.1 hcur).1
    have HHO := Lib.hid (holds_of_block (ss := L) hcur (by rw [HLL.out]; simpa using htk))
    have HSO := Lib.hid (fun n os => ownsRow_sorted (n := n) (os := os) (ss := L) (ts := M) (by rw [HML.out, HLL.out]) hbg hcur (by rw [HLL.out]; exact hn) hm (by omega))
    have HHB := Lib.hid hbg
    have HCU := Lib.hid hcur
    clear hb hcur htk hln hsz
    go_wp2_with fail
    rw [← HLL.out]
    refine (Try.slices_Sort_string g 0 c L _ HHO.out hg1 (by rw [HLL.out]; omega)).mono ?_
    rintro e w2 ⟨rfl, n2, os, hw2⟩
    rw [← HMM.out] at hw2
    have hown2 := HSO.out n2 os
    have hg2 : w1.grownBy w2 (some g) := by rw [hw2]; exact grownBy_sorted _
    rw [← hw2] at hown2
    clear hw2 HSO
    rw [HLL.out] at hown2 ⊢
    have HK2 := Lib.hid (Below.grown HK1.out hg2 HK1.out.size (fun k e => by cases e; exact HHB.out))
    obtain ⟨hln, ⟨e0, he⟩ | ⟨g', c', cur2, e1, hbg2, hcur2, hn2, hm2, hsz2, htk2⟩⟩ := hown2
    · cases e0
    cases e1
    have HH2 := Lib.hid (holds_of_block (ss := M) hcur2 (by rw [HML.out]; simpa using htk2))
    have HSC := Lib.hid (fun q => ownsRow_sorted (n := q) (os := #[]) (ss := M) (ts := C ++ List.replicate (M.length - C.length) []) (by have := HML.out; simp; omega) hbg2 hcur2 (by rw [HML.out]; exact hn2) hm2 (by omega))
    have HHC2 := Lib.hid hcur2
    have hw12 := hg2.size
    clear hln hsz2 htk2 hcur2 hg2
    go_wp2_with fail
    rw [← HML.out]
    refine (Try.slices_Compact_string g 0 c M _ HH2.out (by rw [HML.out]; omega) (by rw [HML.out]; exact hn)).mono ?_
    rintro e w3 ⟨rfl, q, hw3⟩
    rw [← HCM.out] at hw3 ⊢
    have hown3 := HSC.out q
    have hg3 := grownBy_sorted (w := w2) (g := g) (n := q) (os := #[]) (C ++ List.replicate (M.length - C.length) []).toArray
    rw [Go.Sort.grow_empty, ← hw3] at hown3 hg3
    clear hw3 HSC
    have HK3 := Lib.hid (Below.grown HK2.out hg3 HK2.out.size (fun k e => by cases e; exact HHB.out))
    have hrl : (risen ss).length = C.length := by rw [HR.out, List.length_map]
    have hin : StrsIn w3 (some ⟨g, 0, none⟩) C.length (risen ss) := by
      refine ⟨hrl, by omega, HRZ.out, g, 0, fun _ => rfl, fun i hi => ⟨(hown3.lt g rfl).2, ?_⟩⟩
      rw [Nat.zero_add, hown3.cellAt i (by have := HML.out; omega), HR.out]
      rw [List.getElem?_map, List.getElem?_append_left hi]
      simp [List.getD, hi, encStr]
    obtain ⟨_, ⟨e0, _⟩ | ⟨g', c', cur3, e1, _, hcur3, _⟩⟩ := hown3
    · cases e0
    cases e1
    have HIN := Lib.hid hin
    have HC3 := Lib.hid hcur3
    have HRL := Lib.hid hrl
    have hlc : C.length ≤ c := by omega
    clear hin hcur3 hg3 hrl
    go_wp2
    go_ret
    rw [HRL.out]
    exact ⟨_, c, rfl, ⟨hlc, HIN.out, fun _ => ⟨g, cur3, rfl, HHB.out, HC3.out⟩⟩, HK3.out⟩
end Go.Proofs.Ythdlmpgojoaijaa
