/- lane.fit: are these lanes, and of one length? By what it answers (no condition but that lengths fit an int). -/
import Derived.WalkMore
import Derived.Test.YtlpjpeonejbpjaaStrs
import Derived.Test.YtlpjpeonejbpjaaProg
namespace Go.Proofs.Ytlpjpeonejbpjaa
open Go.RowKit

def long (s : ByteArray) : Bool := decide (8192 < s.size)
def unlike (ss : List ByteArray) (s : ByteArray) : Bool := decide (s.size ≠ (ss.getD 0 ByteArray.empty).size)
def fitE (ss : List ByteArray) : Int := if ss.any long then 2 else if ss.any (unlike ss) then 1 else 0
def fitTo (ss : List ByteArray) (k : Nat) : Int := if (ss.take k).any (unlike ss) then 1 else 0
theorem take_snoc (ss : List ByteArray) (k : Nat) (h : k < ss.length) : ss.take (k + 1) = ss.take k ++ [ss.getD k ByteArray.empty] := by
  rw [List.take_succ_eq_append_getElem h]; simp [List.getD, h]
theorem fitTo_snoc (ss : List ByteArray) (k : Nat) (h : k < ss.length) : fitTo ss (k + 1) = if unlike ss (ss.getD k ByteArray.empty) then 1 else fitTo ss k := by
  unfold fitTo
  rw [take_snoc ss k h, List.any_append]
  generalize ss.getD k ByteArray.empty = s
  simp only [List.any_cons, List.any_nil, Bool.or_false]
  cases unlike ss s <;> cases (ss.take k).any (unlike ss) <;> rfl
theorem fitE_long (ss : List ByteArray) (k : Nat) (h : k < ss.length) (hl : 8192 < (ss.getD k ByteArray.empty).size) : fitE ss = 2 := by
  unfold fitE
  rw [if_pos]
  rw [List.any_eq_true]
  exact ⟨ss.getD k ByteArray.empty, by simp [List.getD, h], by simpa [long] using hl⟩
theorem fitE_all (ss : List ByteArray) (h : (ss.take ss.length).any long = false) : fitE ss = fitTo ss ss.length := by
  unfold fitE fitTo
  rw [List.take_length] at h ⊢
  rw [h]
  rfl

set_option maxRecDepth 100000 in
set_option maxHeartbeats 1000000 in
theorem fit_any (a : Option Addr) (len cap : Nat) (ss : List ByteArray) (w : World) (hs : StrsIn w a len ss) :
    Calls Try.prog 66 #[.slice a len cap] w fun e w' => e = .returned (.int .i64 (fitE ss)) ∧ w = w' := by
  have hle := hs.le
  have hlen := hs.len_eq
  obtain ⟨b, off, hab, hc⟩ := hs.cells
  have HS := Lib.hid hs
  have HC := Lib.hid hc
  have HL := Lib.hid hlen
  clear hs hc hlen
  go_enter Try.func66, Try.ntmps66
  go_wp2
  go_step3
  go_wp2
  go_step3
  go_wp2
  go_loop [3, 8] (fun e i => ∃ k : Nat, k ≤ len ∧ i = .int .i64 k ∧ e = .int .i64 (fitTo ss k) ∧ (ss.take k).any long = false) (fun _ i => len - (intOf i).toNat)
  case atStart => exact ⟨0, by omega, rfl, rfl, rfl⟩
  case round =>
    obtain ⟨k, hk, rfl, rfl, hlong⟩ := hrel
    have HLong := Lib.hid hlong
    clear hlong
    by_cases hlt : k < len
    · obtain rfl := hab (by omega)
      have hck := (HC.out k hlt).2
      have hc0 := (HC.out 0 (by omega)).2
      rw [Nat.add_zero] at hc0
      have hkl : k < ss.length := by rw [HL.out]; exact hlt
      have hz1 := HS.out.size k hlt
      have hz0 := HS.out.size 0 (by omega)
      have hsn := Lib.hid (fitTo_snoc ss k hkl)
      have hlg := Lib.hid (fitE_long ss k hkl)
      have htk := Lib.hid (take_snoc ss k hkl)
      have hu : unlike ss (ss.getD k ByteArray.empty) = decide ((ss.getD k ByteArray.empty).size ≠ (ss.getD 0 ByteArray.empty).size) := rfl
      have HU := Lib.hid hu
      clear hu hab
      generalize ss.getD k ByteArray.empty = s at hck hz1 hsn hlg htk HU
      generalize ss.getD 0 ByteArray.empty = s0 at hc0 hz0 HU
      by_cases h8 : 8192 < s.size
      · go_wp2
        go_ret
        exact ⟨by rw [hlg.out h8]; rfl, rfl⟩
      · by_cases hne : s.size = s0.size
        · have hb : (((s.size : Nat) : Int) != ((s0.size : Nat) : Int)) = false := by rw [hne]; simp
          have HN := Lib.hid hne
          clear hne
          go_wp2
          go_round
          case rel => exact ⟨k + 1, by omega, by go_num, by rw [hsn.out, HU.out]; simp [HN.out], by rw [htk.out, List.any_append, HLong.out]; simp [long]; omega⟩
          case measure => simp [intOf]; omega
        · have hb : (((s.size : Nat) : Int) != ((s0.size : Nat) : Int)) = true := by rw [bne_iff_ne]; omega
          have HN := Lib.hid hne
          clear hne
          go_wp2
          go_round
          case rel => exact ⟨k + 1, by omega, by go_num, by rw [hsn.out, HU.out]; simp [HN.out], by rw [htk.out, List.any_append, HLong.out]; simp [long]; omega⟩
          case measure => simp [intOf]; omega
    · have hkl : k = ss.length := by rw [HL.out]; omega
      have hfin : fitE ss = fitTo ss k := by rw [hkl]; exact fitE_all ss (by rw [← hkl]; exact HLong.out)
      have HF := Lib.hid hfin
      clear hfin hkl
      go_wp2
      go_ret
      exact ⟨by rw [HF.out]; rfl, rfl⟩
end Go.Proofs.Ytlpjpeonejbpjaa
