/- Lanes in the reference: sums and products of texts byte by byte, by what they compute (texts that fit an int; no other condition). -/
import Derived.Test.YtlpjpeonejbpjaaFieldB
import Derived.Test.YtlpjpeonejbpjaaText
namespace Go.Proofs.Ytlpjpeonejbpjaa
open Go.RowKit

/-! ### what they compute -/
def gm (x : UInt8) (c : Nat) : UInt8 := UInt8.ofNat (Gf.mul x.toNat c)
theorem gm_toNat (x : UInt8) (c : Nat) : (gm x c).toNat = Gf.mul x.toNat c := by
  have h := Gf.mul_lt (UInt8.toNat_lt x) c
  simp only [gm, UInt8.toNat_ofNat']
  exact Nat.mod_eq_of_lt h
def scaled (l : List UInt8) (c : Nat) : List UInt8 := l.map fun x => gm x c
def scaledS (s : ByteArray) (c : Nat) : ByteArray := ⟨(scaled s.data.toList c).toArray⟩
def byteAt (t : ByteArray) (i : Nat) : UInt8 := t.data.toList.getD i 0
theorem byteAt_get (t : ByteArray) (i : Nat) (h : i < t.size) : t[i] = byteAt t i := by
  unfold byteAt
  have h' : i < t.data.size := h
  rw [List.getD_eq_getElem?_getD, Array.getElem?_toList, Array.getElem?_eq_getElem h']
  rfl
def added (l : List UInt8) (t : ByteArray) : List UInt8 := l.mapIdx fun i x => x ^^^ byteAt t i
def addedS (s t : ByteArray) : ByteArray := ⟨(added s.data.toList t).toArray⟩

theorem xor_u8_bytes (x y : UInt8) : bits .xor .u8 (x.toNat : Int) (y.toNat : Int) = (((x ^^^ y).toNat : Nat) : Int) := by
  rw [xor_u8 _ _ (UInt8.toNat_lt x) (UInt8.toNat_lt y), UInt8.toNat_xor]

theorem mapIdx_same (f : UInt8 → UInt8) (l : List UInt8) : (l.mapIdx fun _ x => f x) = l.map f := by
  apply List.ext_getElem <;> simp

set_option maxRecDepth 100000 in
set_option maxHeartbeats 400000 in
theorem refscaled_any (s : ByteArray) (c : Nat) (hc : c < 256) (hs : s.size ≤ 9223372036854775807) (w : World) :
    Calls Try.prog 17 #[.string s, .int .u8 c] w fun e w' => e = .returned (.string (scaledS s c)) ∧ Kept w w' := by
  have hconv := bytes_of (P := Try.prog) 9 44 5 s Try.underlying9 Try.underlying44 Try.underlying5
  go_enter Try.func17, Try.ntmps17
  go_wp2
  have hk := bytesBehind_kept w 5 s
  have hb := bytesBehind_buf w 5 s
  have hB : w.heap.size ≤ w.heap.size := Nat.le_refl _
  clear hconv
  generalize bytesBehind w 5 s = w1 at hk hb ⊢
  generalize grownCap w s.size 0 5 = cap
  generalize hBe : w.heap.size = B at hb ⊢
  rw [hBe] at hB
  have HB := Lib.hid (Nat.le_of_eq hBe)
  clear hBe hB
  have hl := str_size s
  generalize hle : s.data.toList = l at hb hl
  have HL := Lib.hid hle
  have HN := Lib.hid hl
  clear hle hl
  go_loopw [6] (fun i wr => ∃ k : Nat, k ≤ s.size ∧ i = .int .i64 k ∧ Buf wr B (upto (fun _ x => gm x c) l k) ∧ Kept w wr) (fun i _ => s.size - (intOf i).toNat)
  case atStart => exact ⟨0, by omega, rfl, by rw [upto_zero]; exact hb, hk⟩
  case round =>
    obtain ⟨k, hks, rfl, hbuf, hkept⟩ := hrel
    have HBUF := Lib.hid hbuf
    have HK := Lib.hid hkept
    by_cases hlt : k < s.size
    · have hkl : k < l.length := by rw [HN.out]; exact hlt
      have hku : k < (upto (fun _ x => gm x c) l k).length := by rw [upto_length]; exact hkl
      have hcell := hbuf.cell k hku
      rw [upto_get _ _ _ hkl] at hcell
      have hfree := hbuf.free k hku
      have hx := UInt8.toNat_lt l[k]
      have hst := hbuf.set k hku (gm l[k] c)
      rw [upto_set (fun _ x => gm x c) l k hkl, gm_toNat] at hst
      have HST := Lib.hid hst
      clear hbuf hkept hst hku
      go_wp2_with fail
      refine (refmul_any l[k].toNat c hx hc _).mono ?_
      rintro e w' ⟨rfl, rfl⟩
      go_wp2
      go_roundw
      case rel => exact ⟨k + 1, by omega, by go_num, HST.out, HK.out.setCell HB.out _⟩
      case measure => simp [intOf]; omega
    · have hconv := hbuf.string (P := Try.prog) 44 9 5 Try.underlying44 Try.underlying5 Try.underlying9 cap
      rw [upto_length, HN.out, upto_all _ _ _ (by rw [HN.out]; omega)] at hconv
      clear hbuf hkept
      go_wp2
      go_ret
      refine ⟨?_, HK.out⟩
      show Ending.returned (.string ⟨(l.mapIdx fun _ x => gm x c).toArray⟩) = _
      rw [← HL.out, scaledS, scaled, mapIdx_same]

set_option maxRecDepth 100000 in
set_option maxHeartbeats 400000 in
theorem refadded_any (s t : ByteArray) (hst : s.size ≤ t.size) (hs : t.size ≤ 9223372036854775807) (w : World) :
    Calls Try.prog 22 #[.string s, .string t] w fun e w' => e = .returned (.string (addedS s t)) ∧ Kept w w' := by
  have hconv := bytes_of (P := Try.prog) 9 44 5 s Try.underlying9 Try.underlying44 Try.underlying5
  go_enter Try.func22, Try.ntmps22
  go_wp2
  have hk := bytesBehind_kept w 5 s
  have hb := bytesBehind_buf w 5 s
  have hB : w.heap.size ≤ w.heap.size := Nat.le_refl _
  clear hconv
  generalize bytesBehind w 5 s = w1 at hk hb ⊢
  generalize grownCap w s.size 0 5 = cap
  generalize hBe : w.heap.size = B at hb ⊢
  rw [hBe] at hB
  have HB := Lib.hid (Nat.le_of_eq hBe)
  clear hBe hB
  have hl := str_size s
  generalize hle : s.data.toList = l at hb hl
  have HL := Lib.hid hle
  have HN := Lib.hid hl
  clear hle hl
  go_loopw [6] (fun i wr => ∃ k : Nat, k ≤ s.size ∧ i = .int .i64 k ∧ Buf wr B (upto (fun i x => x ^^^ byteAt t i) l k) ∧ Kept w wr) (fun i _ => s.size - (intOf i).toNat)
  case atStart => exact ⟨0, by omega, rfl, by rw [upto_zero]; exact hb, hk⟩
  case round =>
    obtain ⟨k, hks, rfl, hbuf, hkept⟩ := hrel
    have HBUF := Lib.hid hbuf
    have HK := Lib.hid hkept
    by_cases hlt : k < s.size
    · have hkl : k < l.length := by rw [HN.out]; exact hlt
      have hkt : k < t.size := by omega
      have hku : k < (upto (fun i x => x ^^^ byteAt t i) l k).length := by rw [upto_length]; exact hkl
      have hcell := hbuf.cell k hku
      rw [upto_get _ _ _ hkl] at hcell
      have hfree := hbuf.free k hku
      have hst := hbuf.set k hku (l[k] ^^^ byteAt t k)
      rw [upto_set (fun i x => x ^^^ byteAt t i) l k hkl] at hst
      have hxx := xor_u8_bytes l[k] (byteAt t k)
      have HXX := Lib.hid hxx
      have HST := Lib.hid hst
      clear hbuf hkept hst hku hxx
      go_wp2
      go_region
      rw [byteAt_get t k hkt, HXX.out]
      go_wp2
      go_roundw
      case rel => exact ⟨k + 1, by omega, by go_num, HST.out.kept ((Kept.refl _).drew), (HK.out.setCell HB.out _).drew⟩
      case measure => simp [intOf]; omega
    · have hconv := hbuf.string (P := Try.prog) 44 9 5 Try.underlying44 Try.underlying5 Try.underlying9 cap
      rw [upto_length, HN.out, upto_all _ _ _ (by rw [HN.out]; omega)] at hconv
      clear hbuf hkept
      go_wp2
      go_ret
      refine ⟨?_, HK.out⟩
      show Ending.returned (.string ⟨(l.mapIdx fun i x => x ^^^ byteAt t i).toArray⟩) = _
      rw [← HL.out, addedS, added]
end Go.Proofs.Ytlpjpeonejbpjaa
