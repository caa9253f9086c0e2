/- Sums and products of lanes as texts: byte by byte (no conditions). -/
import Derived.Test.YtlpjpeonejbpjaaLaneE
namespace Go.Proofs.Ytlpjpeonejbpjaa
open Go.RowKit

theorem ext_byteAt {a b : ByteArray} (h : a.size = b.size) (hb : ∀ i, i < a.size → byteAt a i = byteAt b i) : a = b := by
  apply ByteArray.ext
  apply Array.ext h
  intro i h1 h2
  have h := hb i h1
  rw [← byteAt_get a i h1, ← byteAt_get b i h2] at h
  exact h
theorem byteAt_list (l : List UInt8) (k : Nat) : byteAt ⟨l.toArray⟩ k = l.getD k 0 := rfl
theorem list_byteAt (s : ByteArray) (i : Nat) (hi : i < s.size) : s.data.toList[i]'(by simpa using hi) = byteAt s i := by
  unfold byteAt; rw [List.getD_eq_getElem?_getD, List.getElem?_eq_getElem (by simpa using hi)]; rfl
theorem addedS_size (a b : ByteArray) : (addedS a b).size = a.size := by
  show (added a.data.toList b).toArray.size = a.data.size
  simp [added]
theorem byteAt_added (a b : ByteArray) (i : Nat) (hi : i < a.size) : byteAt (addedS a b) i = byteAt a i ^^^ byteAt b i := by
  have hi' : i < a.data.toList.length := by simpa using hi
  unfold addedS
  rw [byteAt_list, List.getD_eq_getElem?_getD, List.getElem?_eq_getElem (by simpa [added] using hi')]
  simp only [added, List.getElem_mapIdx, Option.getD_some, list_byteAt a i hi]
theorem size_scaledS (b : ByteArray) (c : Nat) : (scaledS b c).size = b.size := by
  show (scaled b.data.toList c).toArray.size = b.data.size
  simp [scaled]
theorem u8_ext {x y : UInt8} (h : x.toNat = y.toNat) : x = y := UInt8.toNat_inj.1 h
theorem gm_one (x : UInt8) : gm x 1 = x := u8_ext (by rw [gm_toNat, Gf.mul_one _ (UInt8.toNat_lt x)])
theorem gm_xor (x y : UInt8) (c : Nat) : gm (x ^^^ y) c = gm x c ^^^ gm y c :=
  u8_ext (by rw [gm_toNat, UInt8.toNat_xor, UInt8.toNat_xor, gm_toNat, gm_toNat, Gf.mul_left (UInt8.toNat_lt x) (UInt8.toNat_lt y)])
theorem scaledS_one (b : ByteArray) : scaledS b 1 = b := ext_byteAt (size_scaledS b 1) (fun i hi => by rw [size_scaledS] at hi; rw [byteAt_scaled b 1 i hi, gm_one])
theorem added_twice (a b : ByteArray) : addedS (addedS a b) b = a := ext_byteAt (by rw [addedS_size, addedS_size]) (fun i hi => by
  rw [addedS_size, addedS_size] at hi
  rw [byteAt_added _ _ i (by rw [addedS_size]; exact hi), byteAt_added _ _ i hi, UInt8.xor_assoc, UInt8.xor_self, UInt8.xor_zero])
theorem scaled_added (a b : ByteArray) (c : Nat) (h : a.size ≤ b.size) : scaledS (addedS a b) c = addedS (scaledS a c) (scaledS b c) := ext_byteAt (by rw [size_scaledS, addedS_size, addedS_size, size_scaledS]) (fun i hi => by
  rw [size_scaledS, addedS_size] at hi
  rw [byteAt_scaled _ c i (by rw [addedS_size]; exact hi), byteAt_added _ _ i hi, byteAt_added _ _ i (by rw [size_scaledS]; exact hi), byteAt_scaled _ c i hi, byteAt_scaled _ c i (by omega), gm_xor])

/-- lane.Add, when the lanes fit and when not -/
theorem add_lane (a b : ByteArray) (ha : a.size ≤ 8192) (hab : b.size = a.size) (w : World) :
    Calls Try.prog 19 #[.string a, .string b] w fun e w' => e = .returned (.tuple #[.string (addedS a b), .int .i64 0]) ∧ Kept w w' := by
  go_enter Try.func19, Try.ntmps19
  go_wp2_with (go_at_call 20; refine (muladd_any a b 1 (by omega) ha hab _).mono ?_; rintro e w1 ⟨rfl, hB⟩; rw [scaledS_one])
  go_ret2
  exact ⟨rfl, hB⟩
theorem add_lane_bad (a b : ByteArray) (ha : a.size ≤ 9223372036854775807) (hb : b.size ≤ 9223372036854775807) (h : fit2 a b ≠ 0) (w : World) :
    Calls Try.prog 19 #[.string a, .string b] w fun e w' => e = .returned (.tuple #[.string ByteArray.empty, .int .i64 (fit2 a b)]) ∧ Kept w w' := by
  go_enter Try.func19, Try.ntmps19
  go_wp2_with (go_at_call 20; refine (muladd_bad a b 1 ha hb h _).mono ?_; rintro e w1 ⟨rfl, hB⟩)
  go_ret2
  exact ⟨rfl, hB⟩

theorem zero_bad (n : Int) (h : n < 0 ∨ 8192 < n) (w : World) :
    Calls Try.prog 29 #[.int .i64 n] w fun e w' => e = .returned (.tuple #[.string ByteArray.empty, .int .i64 1]) ∧ w = w' := by
  go_enter Try.func29, Try.ntmps29
  rcases h with h | h
  · go_wp2
    go_ret2
    exact ⟨rfl, rfl⟩
  · have h0 : decide (n < 0) = false := decide_eq_false (by omega)
    go_wp2
    go_ret2
    exact ⟨rfl, rfl⟩
def zeroS (n : Nat) : ByteArray := ⟨(List.replicate n (0 : UInt8)).toArray⟩
theorem zero_any (n : Nat) (h : n ≤ 8192) (w : World) :
    Calls Try.prog 29 #[.int .i64 n] w fun e w' => e = .returned (.tuple #[.string (zeroS n), .int .i64 0]) ∧ Kept w w' := by
  have hmk := make_bytes n (by omega)
  have hb := (made_buf w n).string (P := Try.prog) 44 9 5 Try.underlying44 Try.underlying5 Try.underlying9 n
  rw [List.length_replicate] at hb
  generalize madeCells #[.int .u8 0] n = Z at hmk hb
  have h0 : decide ((n : Int) < 0) = false := decide_eq_false (by omega)
  have h1 : decide ((8192 : Int) < n) = false := decide_eq_false (by omega)
  go_enter Try.func29, Try.ntmps29
  go_wp2
  go_ret2
  exact ⟨rfl, (Kept.refl w).alloc _⟩
theorem byteAt_zero (n i : Nat) (hi : i < n) : byteAt (zeroS n) i = 0 := by
  unfold zeroS; rw [byteAt_list, List.getD_eq_getElem?_getD, List.getElem?_eq_getElem (by simpa using hi)]; simp
theorem zeroS_size (n : Nat) : (zeroS n).size = n := by
  show (List.replicate n (0 : UInt8)).toArray.size = n
  simp

theorem texts_any (a : Option Addr) (l cap : Nat) (ss : List ByteArray) (w : World) (h : StrsIn w a l ss) :
    Calls Try.prog 65 #[.slice a l cap] w fun e w' => (∃ n, e = .returned (.int .i64 n)) ∧ w = w' := by
  have hle := h.le
  go_enter Try.func65, Try.ntmps65
  go_wp2
  go_loopw [3, 4] (fun m i wr => ∃ (k : Nat) (n : Int), k ≤ l ∧ i = .int .i64 k ∧ m = .int .i64 n ∧ w = wr) (fun _ i _ => l - (intOf i).toNat)
  case atStart => exact ⟨0, _, by omega, rfl, rfl, rfl⟩
  case round =>
    obtain ⟨k, n, hk, rfl, rfl, rfl⟩ := hrel
    by_cases hlt : k < l
    · by_cases hn : n < 1048576
      · obtain ⟨b, off, ha, hc⟩ := h.cells
        obtain rfl := ha (by omega)
        obtain ⟨hb, hcell⟩ := hc k hlt
        have hs := h.size k hlt
        generalize ss.getD k ByteArray.empty = s at hcell hs
        clear h hc
        go_wp2
        go_roundw
        case rel => exact ⟨k + 1, _, by omega, by go_num, rfl, by trivial⟩
        case measure => simp [intOf]; omega
      · clear h
        go_wp2
        go_ret
        exact ⟨⟨_, rfl⟩, rfl⟩
    · clear h
      go_wp2
      go_ret
      exact ⟨⟨_, rfl⟩, rfl⟩

theorem heavy2_any (a : Option Addr) (l cap : Nat) (ss : List ByteArray) (c n : Int) (w : World) (h : StrsIn w a l ss) :
    Calls Try.prog 15 #[.agg #[.slice a l cap, .int .u8 c, .int .i64 n]] w fun e w' => (∃ b, e = .returned (.bool b)) ∧ Kept w w' := by
  have hs := h.kept ((Kept.refl w).alloc (.cells #[.slice a l cap, .int .u8 c, .int .i64 n] 24))
  clear h
  go_enter Try.func15, Try.ntmps15
  go_wp2_with (go_at_call 65; refine (texts_any _ _ _ ss _ hs).mono ?_; rintro e w1 ⟨⟨n', rfl⟩, rfl⟩)
  go_ret
  exact ⟨⟨_, rfl⟩, (Kept.refl w).alloc _⟩
end Go.Proofs.Ytlpjpeonejbpjaa
