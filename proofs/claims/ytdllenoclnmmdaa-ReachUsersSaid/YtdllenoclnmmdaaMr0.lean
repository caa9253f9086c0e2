/- What both sides read off a text as a manifest is the same (nothing of the program). -/
import Derived.Test.YtdllenoclnmmdaaGm
namespace Go.Proofs.Ytdllenoclnmmdaa
open Go.RowKit

theorem ext_list (t : ByteArray) (a b : Nat) : (t.extract a b).data.toList = (t.data.toList.take b).drop a := by
  rw [ByteArray.data_extract, Array.toList_extract, List.extract_eq_take_drop, List.drop_take]
theorem dgAt_list (t : ByteArray) (k : Nat) : (dgAt t k).data.toList = (t.data.toList.drop (k * 32)).take 32 := by
  unfold dgAt
  rw [ext_list, List.drop_take]
  congr 1
  omega
theorem cats_append (a b : List ByteArray) : cats (a ++ b) = cats a ++ cats b := by unfold cats; rw [List.flatMap_append]
theorem cats_range (t : ByteArray) : ∀ n, n * 32 ≤ t.size → cats ((List.range n).map (dgAt t)) = t.data.toList.take (n * 32)
  | 0, _ => by simp [cats]
  | n + 1, h => by
    rw [List.range_succ, List.map_append, cats_append, cats_range t n (by omega)]
    have e : cats ([n].map (dgAt t)) = (t.data.toList.drop (n * 32)).take 32 := by
      rw [← dgAt_list]
      simp [cats]
    rw [e, show (n + 1) * 32 = n * 32 + 32 by omega, List.take_add]
theorem cats_dgL (t : ByteArray) (n : Nat) (h : t.size = n * 32) : cats (dgL t) = t.data.toList := by
  have e : nDg t = n := by unfold nDg; omega
  unfold dgL
  rw [e, cats_range t n (by omega), List.take_of_length_le (by simp; omega)]
theorem szB_dgL (t : ByteArray) : szB (dgL t) = true := by
  unfold szB dgL
  rw [List.all_eq_true]
  intro x hx
  rw [List.mem_map] at hx
  obtain ⟨k, hk, rfl⟩ := hx
  exact decide_eq_true (dgAt_size (List.mem_range.1 hk))
def manf : ByteArray := ⟨#[77, 65, 78, 70]⟩
/-- what the reference takes: the same, asked in its own way -/
def takeR (s : ByteArray) : Option Mf := if 7 ≤ s.size ∧ s.extract 0 4 = manf ∧ s.size = 7 + 32 * ((byt s 5).toNat + (byt s 6).toNat) ∧ mfB (rawM s) = true then some (rawM s) else none
theorem tlM_size (s : ByteArray) : (tlM s).size = s.size - 7 := by unfold tlM; rw [ByteArray.size_extract]; omega
theorem tlM_list (s : ByteArray) : (tlM s).data.toList = s.data.toList.drop 7 := by
  unfold tlM
  rw [ext_list, List.take_of_length_le (by simp)]
theorem bytes_ext {a b : ByteArray} (h : a.data.toList = b.data.toList) : a = b := by
  obtain ⟨⟨x⟩⟩ := a
  obtain ⟨⟨y⟩⟩ := b
  simp at h
  rw [h]
theorem list7 (L : List UInt8) (h : 7 ≤ L.length) : L = [L.getD 0 0, L.getD 1 0, L.getD 2 0, L.getD 3 0, L.getD 4 0, L.getD 5 0, L.getD 6 0] ++ L.drop 7 := by
  match L, h with
  | a :: b :: c :: d :: e :: f :: g :: r, _ => simp [List.getD]
theorem u8_of (x : UInt8) : UInt8.ofNat x.toNat = x := by simp
theorem take_same (s : ByteArray) : takeR s = takeM s := by
  unfold takeR takeM
  by_cases h7 : 7 ≤ s.size
  · have hL : 7 ≤ s.data.toList.length := by simpa using h7
    have h7L := list7 _ hL
    have hraw1 : (rawM s).bs = (dgL (tlM s)).take (byt s 5).toNat := rfl
    have hraw2 : (rawM s).us = (dgL (tlM s)).drop (byt s 5).toNat := rfl
    have hrawk : (rawM s).k.toNat = (byt s 4).toNat := rfl
    have hcat : cats (rawM s).bs ++ cats (rawM s).us = cats (dgL (tlM s)) := by rw [hraw1, hraw2, ← cats_append, List.take_append_drop]
    have hlen : (rawM s).bs.length + (rawM s).us.length = nDg (tlM s) := by rw [hraw1, hraw2, ← List.length_append, List.take_append_drop, dgL_length]
    have hT : (mfT (rawM s)).data.toList = [77, 65, 78, 70, byt s 4, UInt8.ofNat (rawM s).bs.length, UInt8.ofNat (rawM s).us.length] ++ cats (dgL (tlM s)) := by
      show mfBytes (rawM s) = _
      unfold mfBytes
      rw [List.append_assoc, hcat, hrawk, u8_of]
    by_cases hm : mfB (rawM s) = true
    · have h20 := (mfB_true hm).1
      have hiff : (s.extract 0 4 = manf ∧ s.size = 7 + 32 * ((byt s 5).toNat + (byt s 6).toNat)) ↔ (s.size ≤ 647 ∧ mfT (rawM s) = s) := by
        constructor
        · rintro ⟨hx, hs⟩
          have ht : (tlM s).size = ((byt s 5).toNat + (byt s 6).toNat) * 32 := by rw [tlM_size]; omega
          have hn : nDg (tlM s) = (byt s 5).toNat + (byt s 6).toNat := by unfold nDg; omega
          have hb : (rawM s).bs.length = (byt s 5).toNat := by rw [hraw1, List.length_take, dgL_length]; omega
          have hu : (rawM s).us.length = (byt s 6).toNat := by rw [hraw2, List.length_drop, dgL_length]; omega
          refine ⟨by omega, bytes_ext ?_⟩
          rw [hT, hb, hu, u8_of, u8_of, cats_dgL _ _ ht, tlM_list]
          have hx4 : s.data.toList.take 4 = [77, 65, 78, 70] := by
            have := congrArg (fun b : ByteArray => b.data.toList) hx
            simp only [ext_list, List.drop_zero] at this
            exact this
          rw [h7L] at hx4
          simp only [List.cons_append, List.nil_append, List.take_succ_cons, List.take_zero, List.cons.injEq, and_true] at hx4
          obtain ⟨e0, e1, e2, e3⟩ := hx4
          conv => rhs; rw [h7L, e0, e1, e2, e3]
          rfl
        · rintro ⟨hs, ht⟩
          have hl := congrArg (fun b : ByteArray => b.data.toList) ht
          simp only [hT] at hl
          have hc := cats_len _ (szB_dgL (tlM s))
          rw [dgL_length] at hc
          have hz : s.size = 7 + 32 * nDg (tlM s) := by
            have := congrArg List.length hl
            rw [List.length_append, hc] at this
            simpa using this.symm
          have hbl : (rawM s).bs.length ≤ 20 := by omega
          have hul : (rawM s).us.length ≤ 20 := by omega
          have g5 : byt s 5 = UInt8.ofNat (rawM s).bs.length := by unfold byt; rw [← hl]; rfl
          have g6 : byt s 6 = UInt8.ofNat (rawM s).us.length := by unfold byt; rw [← hl]; rfl
          have n5 : (byt s 5).toNat = (rawM s).bs.length := by rw [g5]; simp; omega
          have n6 : (byt s 6).toNat = (rawM s).us.length := by rw [g6]; simp; omega
          refine ⟨bytes_ext ?_, by rw [n5, n6, hlen]; exact hz⟩
          rw [ext_list, ← hl]
          rfl
      by_cases hc : s.extract 0 4 = manf ∧ s.size = 7 + 32 * ((byt s 5).toNat + (byt s 6).toNat)
      · rw [if_pos ⟨h7, hc.1, hc.2, hm⟩, if_pos ⟨h7, (hiff.1 hc).1, hm, (hiff.1 hc).2⟩]
      · rw [if_neg (fun h => hc ⟨h.2.1, h.2.2.1⟩), if_neg (fun h => hc (hiff.2 ⟨h.2.1, h.2.2.2⟩))]
    · rw [if_neg (fun h => hm h.2.2.2), if_neg (fun h => hm h.2.2.1)]
  · rw [if_neg (fun h => h7 h.1), if_neg (fun h => h7 h.1)]
end Go.Proofs.Ytdllenoclnmmdaa
