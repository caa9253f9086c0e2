/- The sum CRC-64, as the reference reckons it bit by bit, and as package check does by a table: what each answers (no condition but that a text fits an int, and the table lies as it is laid). -/
import Derived.Test.YtboheogbllgfjaaDoorRows
import Derived.Test.YtboheogbllgfjaaDoorCrc
import Derived.Test.YtboheogbllgfjaaDoorText
import Derived.Laws.BitsAllLaws
import Derived.Lib.LaidTab
import Derived.IntWalk
import Derived.Outline
namespace Go.Proofs.YtboheogbllgfjaaDoor
open Go.RowKit

theorem x64 (a b : Nat) (ha : a < 2 ^ 64) (hb : b < 2 ^ 64) : bits .xor .u64 (a : Int) (b : Int) = ((a ^^^ b : Nat) : Int) := u64_xor_nat a b ha hb
theorem and1 (a : Nat) (ha : a < 2 ^ 64) : bits .and .u64 (a : Int) 1 = ((a % 2 : Nat) : Int) := by
  have h := u64_and_nat a 1 ha (by decide)
  rw [nat_mask1] at h
  exact h
theorem and15 (a : Nat) (ha : a < 2 ^ 64) : bits .and .u64 (a : Int) 15 = ((a % 16 : Nat) : Int) := by
  have h := u64_and_nat a 15 ha (by decide)
  rw [nat_mask4] at h
  exact h
/-- a byte of a text -/
def at8 (s : ByteArray) (k : Nat) : UInt8 := s.data.toList.getD k 0
theorem at8_get (s : ByteArray) (k : Nat) (h : k < s.size) : s[k] = at8 s k := by
  have h' : k < s.data.toList.length := by simpa using h
  unfold at8
  rw [List.getD_eq_getElem?_getD, List.getElem?_eq_getElem h']
  rfl
theorem raw_snoc (c : Nat) (s : ByteArray) (k : Nat) (h : k < s.size) : Crc.raw c (s.data.toList.take (k + 1)) = Crc.byteTo (Crc.raw c (s.data.toList.take k)) (at8 s k).toNat := by
  have h' : k < s.data.toList.length := by simpa using h
  rw [List.take_succ_eq_append_getElem h', Crc.raw_append]
  unfold at8
  rw [List.getD_eq_getElem?_getD, List.getElem?_eq_getElem h']
  rfl

theorem stp_odd (z : Nat) (hz : z < 2 ^ 64) (h : z % 2 = 1) : bits .xor .u64 ((z : Int) / 2) 14514072000185962306 = ((Crc.stp z : Nat) : Int) := by
  have e := x64 (z / 2) Crc.M (by omega) (by decide)
  unfold Crc.stp
  rw [if_pos h]
  exact e
theorem stp_even64 (z : Nat) (h : z % 2 = 0) : (z : Int) / 2 = ((Crc.stp z : Nat) : Int) := by
  unfold Crc.stp
  rw [if_neg (by omega)]
  simp
theorem four64 (y : Nat) (hy : y < 2 ^ 64) : bits .xor .u64 ((y : Int) / 16) ((Crc.fours.getD (y % 16) 0 : Nat) : Int) = ((Crc.bitsN 4 y : Nat) : Int) := by
  have hl : Crc.fours.getD (y % 16) 0 < 2 ^ 64 := by rw [← Crc.fours_at _ (Nat.mod_lt _ (by decide))]; exact Crc.bits_lt 4 (Nat.lt_trans (Nat.mod_lt _ (by decide)) (by decide))
  rw [Crc.four]
  exact x64 (y / 16) _ (by omega) hl
theorem flip64 (c : Nat) (hc : c < 2 ^ 64) : bits .xor .u64 IntKind.u64.max (c : Int) = ((Crc.flip c : Nat) : Int) := by
  have h := u64_xor_nat (2 ^ 64 - 1) c (by decide) hc
  rw [Nat.xor_comm] at h
  exact h
set_option maxRecDepth 100000 in
set_option maxHeartbeats 1000000 in
theorem sum_ref (c : Nat) (hc : c < 2 ^ 64) (s : ByteArray) (hs : s.size ≤ 9223372036854775807) (w : World) :
    Calls Tryd.prog 8 #[.int .u64 c, .string s] w fun e w' => e = .returned (.int .u64 (Crc.more c s.data.toList : Nat)) ∧ w = w' := by
  have hfl := flip64 c hc
  have hcl := Crc.flip_lt hc
  have hmo : Crc.more c s.data.toList = Crc.flip (Crc.raw (Crc.flip c) s.data.toList) := rfl
  generalize Crc.flip c = d at hfl hcl hmo
  have HM := Lib.hid hmo
  clear hmo
  go_enter Tryd.func8, Tryd.ntmps8
  go_wp2
  clear hfl
  go_loop [0, 5, 6] (fun e i _ => ∃ k : Nat, k ≤ s.size ∧ i = .int .i64 k ∧ e = .int .u64 (Crc.raw d (s.data.toList.take k) : Nat)) (fun _ i _ => s.size - (intOf i).toNat)
  case atStart => exact ⟨0, by omega, rfl, by simp [Crc.raw]⟩
  case round =>
    obtain ⟨k, hk, rfl, rfl⟩ := hrel
    have hrl : Crc.raw d (s.data.toList.take k) < 2 ^ 64 := Crc.raw_lt _ hcl
    by_cases hlt : k < s.size
    · have hsn := raw_snoc d s k hlt
      have hg := at8_get s k hlt
      have hx := UInt8.toNat_lt (at8 s k)
      generalize Crc.raw d (s.data.toList.take k) = r at hrl hsn
      have hxr := x64 r (at8 s k).toNat hrl (by omega)
      have hxl : r ^^^ (at8 s k).toNat < 2 ^ 64 := Nat.xor_lt_two_pow hrl (by omega)
      have hsn2 : Crc.raw d (s.data.toList.take (k + 1)) = Crc.bitsN 8 (r ^^^ (at8 s k).toNat) := hsn
      generalize r ^^^ (at8 s k).toNat = y at hxr hxl hsn2
      have HSN := Lib.hid hsn2
      clear hsn hsn2
      go_wp2
      clear hxr
      go_loop [0, 6] (fun e i => ∃ j : Nat, j ≤ 8 ∧ i = .int .i64 j ∧ e = .int .u64 (Crc.bitsN j y : Nat)) (fun _ i => 8 - (intOf i).toNat)
      case atStart => exact ⟨0, by omega, rfl, rfl⟩
      case round =>
        obtain ⟨j, hj, rfl, rfl⟩ := hrel
        have hyl : Crc.bitsN j y < 2 ^ 64 := Crc.bits_lt j hxl
        by_cases hj8 : j < 8
        · have hjs := Crc.bitsN_succ j y
          generalize Crc.bitsN j y = z at hyl hjs
          have han := and1 z hyl
          by_cases h1 : z % 2 = 1
          · rw [h1] at han
            have ho := Lib.hid (stp_odd z hyl h1)
            have HJ := Lib.hid hjs
            clear h1 hjs
            go_wp2
            go_round
            case rel => exact ⟨j + 1, by omega, by go_num, by rw [HJ.out, ho.out]⟩
            case measure => simp [intOf]; omega
          · have h0 : z % 2 = 0 := by omega
            rw [h0] at han
            have he := Lib.hid (stp_even64 z h0)
            have HJ := Lib.hid hjs
            clear h0 h1 hjs
            go_wp2
            go_round
            case rel => exact ⟨j + 1, by omega, by go_num, by rw [HJ.out, he.out]⟩
            case measure => simp [intOf]; omega
        · obtain rfl : j = 8 := by omega
          go_wp2
          go_round
          case rel => exact ⟨k + 1, by omega, by go_num, by rw [HSN.out]⟩
          case measure => simp [intOf]; omega
    · obtain rfl : k = s.size := by omega
      have hf2 := flip64 _ hrl
      rw [List.take_of_length_le (by simp)] at hf2
      rw [List.take_of_length_le (by simp)]
      go_wp2
      go_ret
      exact ⟨by rw [HM.out]; rfl, rfl⟩
/-- the table, as it lies -/
def Fours (w : World) : Prop := ∀ i, i < 16 → w.cell? ⟨0, i, none⟩ = some (.int .u64 (Crc.fours.getD i 0 : Nat))
theorem Fours.kept {w w' : World} (h : Fours w) (k : Kept w w') : Fours w' := fun i hi => k.cell (cell_lt (h i hi)) (h i hi)
theorem fours_lt (i : Nat) (h : i < 16) : Crc.fours.getD i 0 < 2 ^ 64 := by rw [← Crc.fours_at i h]; exact Crc.bits_lt 4 (by omega)
set_option maxRecDepth 100000 in
set_option maxHeartbeats 1000000 in
theorem more_any (c : Nat) (hc : c < 2 ^ 64) (s : ByteArray) (hs : s.size ≤ 9223372036854775807) (w : World) (hf : Fours w) :
    Calls Tryd.prog 10 #[.int .u64 c, .string s] w fun e w' => e = .returned (.int .u64 (Crc.more c s.data.toList : Nat)) ∧ w = w' := by
  have hfl := flip64 c hc
  have hcl := Crc.flip_lt hc
  have hmo : Crc.more c s.data.toList = Crc.flip (Crc.raw (Crc.flip c) s.data.toList) := rfl
  generalize Crc.flip c = d at hfl hcl hmo
  have HM := Lib.hid hmo
  have HF := Lib.hid hf
  clear hmo hf
  go_enter Tryd.func10, Tryd.ntmps10
  go_wp2
  clear hfl
  go_loop [0, 10] (fun e i => ∃ k : Nat, k ≤ s.size ∧ i = .int .i64 k ∧ e = .int .u64 (Crc.raw d (s.data.toList.take k) : Nat)) (fun _ i => s.size - (intOf i).toNat)
  case atStart => exact ⟨0, by omega, rfl, by simp [Crc.raw]⟩
  case round =>
    obtain ⟨k, hk, rfl, rfl⟩ := hrel
    have hrl : Crc.raw d (s.data.toList.take k) < 2 ^ 64 := Crc.raw_lt _ hcl
    by_cases hlt : k < s.size
    · have hsn := raw_snoc d s k hlt
      have hg := at8_get s k hlt
      have hx := UInt8.toNat_lt (at8 s k)
      generalize Crc.raw d (s.data.toList.take k) = r at hrl hsn
      have hxr := x64 r (at8 s k).toNat hrl (by omega)
      have hxl : r ^^^ (at8 s k).toNat < 2 ^ 64 := Nat.xor_lt_two_pow hrl (by omega)
      have hsn2 : Crc.raw d (s.data.toList.take (k + 1)) = Crc.bitsN 4 (Crc.bitsN 4 (r ^^^ (at8 s k).toNat)) := hsn.trans (Crc.bitsN_add 4 4 _)
      generalize r ^^^ (at8 s k).toNat = y at hxr hxl hsn2
      have hyl := Crc.bits_lt 4 hxl
      have hf1 := HF.out (y % 16) (Nat.mod_lt _ (by decide))
      have hn1 := and15 y hxl
      have hq1 := four64 y hxl
      have hl1 := fours_lt (y % 16) (Nat.mod_lt _ (by decide))
      generalize Crc.bitsN 4 y = z at hyl hsn2 hq1
      have hf2 := HF.out (z % 16) (Nat.mod_lt _ (by decide))
      have hn2 := and15 z hyl
      have hq2 := four64 z hyl
      have hl2 := fours_lt (z % 16) (Nat.mod_lt _ (by decide))
      have hm1 : y % 16 < 16 := Nat.mod_lt _ (by decide)
      have hm2 : z % 16 < 16 := Nat.mod_lt _ (by decide)
      generalize Crc.fours.getD (y % 16) 0 = f1 at hf1 hq1 hl1
      generalize Crc.fours.getD (z % 16) 0 = f2 at hf2 hq2 hl2
      generalize y % 16 = m1 at hf1 hn1 hm1
      generalize z % 16 = m2 at hf2 hn2 hm2
      have HSN := Lib.hid hsn2
      clear hsn hsn2
      go_wp2
      go_round
      case rel => exact ⟨k + 1, by omega, by go_num, by rw [HSN.out]⟩
      case measure => simp [intOf]; omega
    · obtain rfl : k = s.size := by omega
      have hf2 := flip64 _ hrl
      rw [List.take_of_length_le (by simp)] at hf2
      rw [List.take_of_length_le (by simp)]
      go_wp2
      go_ret
      exact ⟨by rw [HM.out]; rfl, rfl⟩
end Go.Proofs.YtboheogbllgfjaaDoor
