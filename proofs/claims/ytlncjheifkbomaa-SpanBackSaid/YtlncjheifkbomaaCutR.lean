/- siloref6.Parts: the pieces of a text, by the reference (a text within the limit, a shape that may be). -/
import Derived.Test.YtlncjheifkbomaaCutPts
namespace Go.Proofs.Ytlncjheifkbomaa
open Go.RowKit

/-- what is left behind k pieces -/
def left (t : ByteArray) (q k : Nat) : ByteArray := t.extract (k * q) t.size
theorem left_size (t : ByteArray) (q k : Nat) : (left t q k).size = t.size - k * q := by unfold left; rw [ByteArray.size_extract]; omega
theorem left_zero (t : ByteArray) (q : Nat) : left t q 0 = t := by unfold left; simp
theorem left_head (t : ByteArray) (q k n : Nat) (hn : n = min (t.size - k * q) q) : (left t q k).extract 0 n = pcOf t q k := by
  unfold left pcOf
  rw [ByteArray.extract_extract]
  congr 1
  omega
theorem left_next (t : ByteArray) (q k n : Nat) (hn : n = min (t.size - k * q) q) : (left t q k).extract n (left t q k).size = left t q (k + 1) := by
  rw [left_size]
  unfold left
  rw [ByteArray.extract_extract, Nat.succ_mul]
  by_cases h : k * q + q ≤ t.size
  · have e1 : k * q + n = k * q + q := by omega
    have e2 : min (k * q + (t.size - k * q)) t.size = t.size := by omega
    rw [e1, e2]
  · have z : ∀ b : ByteArray, b.size = 0 → b = ByteArray.empty := fun b hb => by
      obtain ⟨d⟩ := b
      have : d = #[] := Array.eq_empty_of_size_eq_zero hb
      rw [this]
      rfl
    exact (z _ (by rw [ByteArray.size_extract]; omega)).trans (z _ (by rw [ByteArray.size_extract]; omega)).symm
theorem pcs_take (t : ByteArray) (q k : Nat) (h : k < nP t.size q) : (pcs t q).take (k + 1) = (pcs t q).take k ++ [pcOf t q k] := by
  have hl : k < (pcs t q).length := by rw [pcs_length]; exact h
  rw [List.take_add_one, List.getElem?_eq_getElem hl]
  have := pcs_getD t q k h
  rw [List.getD, List.getElem?_eq_getElem hl] at this
  simp at this
  simp [this]
theorem pcs_size (t : ByteArray) (q : Nat) : ∀ z ∈ pcs t q, z.size ≤ t.size := fun z hz => by
  unfold pcs at hz
  rw [List.mem_map] at hz
  obtain ⟨i, _, rfl⟩ := hz
  rw [pcOf_size]
  omega
set_option maxRecDepth 100000 in
set_option maxHeartbeats 2000000 in
theorem parts_ref (k m s : Int) (t : ByteArray) (hs : shpB k m s = true) (ht : t.size ≤ 2000) (w : World) :
    Calls Try.prog 18 #[.agg #[.int .i64 k, .int .i64 m, .int .i64 s], .string t] w fun e w' => ∃ a cap, e = .returned (.slice a (nP t.size (k * s).toNat) cap) ∧ nP t.size (k * s).toNat ≤ cap ∧ StrsIn w' a (nP t.size (k * s).toNat) (pcs t (k * s).toNat) ∧ Kept w w' := by
  have hb := ks_bounds hs
  obtain ⟨q, hq⟩ : ∃ q : Nat, k * s = q := ⟨(k * s).toNat, by omega⟩
  rw [hq] at hb ⊢
  rw [Int.toNat_natCast]
  have hq1 : 1 ≤ q := by omega
  have hq2 : q ≤ 960 := by omega
  have hw : IntKind.i64.wrap (k * s) = (q : Int) := by rw [hq]; exact IntWalk.i64_in _ (by omega)
  have HS := Lib.hid hs
  clear hs hb hq
  obtain ⟨i0, hi, hz0, hz1, hz2⟩ := info_parts Try.infoStr
  have HI := Lib.hid (And.intro hi (And.intro hz0 (And.intro hz1 hz2)))
  clear hi hz0 hz1 hz2
  have HK0 := Lib.hid ((Kept.refl w).alloc (.cells #[.int .i64 k, .int .i64 m, .int .i64 s] 31))
  have HB0 := Lib.hid (BlockAt.new w #[.int .i64 k, .int .i64 m, .int .i64 s] 31)
  have HT := Lib.hid ht
  have HL := Lib.hid (pcs_length t q)
  have HSZ := Lib.hid (pcs_size t q)
  go_enter Try.func18, Try.ntmps18
  go_upto_region 1 with (fail)
  generalize w.alloc (.cells #[.int .i64 k, .int .i64 m, .int .i64 s] 31) = w1 at *
  have hpt : w.heap.size < w1.heap.size := HB0.out.lt
  go_wp2
  go_loopw [1, 5, 6] (fun tt v _ wr => ∃ j : Nat, j ≤ nP t.size q ∧ tt = .string (left t q j) ∧ wr.ownsRow w1.heap.size 9 1 v j (((pcs t q).take j).map Value.string) ∧ Kept w1 wr) (fun tt _ _ _ => (match tt with | .string b => b.size | _ => 0))
  case atStart => exact ⟨0, by omega, by rw [left_zero], World.ownsRow_nil _ _ _ _, Kept.refl _⟩
  case round =>
    obtain ⟨j, hj, rfl, hown, hK⟩ := hrel
    have hls := left_size t q j
    have hlt := nP_lt (n := t.size) (k := j) hq1
    have HO := Lib.hid hown
    have HK := Lib.hid hK
    obtain ⟨a0, a1, a2⟩ := box3c (HB0.out.kept hK)
    by_cases hjn : j * q < t.size
    · have hj2 : j < nP t.size q := hlt.2 hjn
      obtain ⟨n, hn⟩ : ∃ n, n = min (t.size - j * q) q := ⟨_, rfl⟩
      have e1 := left_head t q j n hn
      have e2 := left_next t q j n hn
      have e3 := pcs_take t q j hj2
      have hls2 := left_size t q (j + 1)
      rw [Nat.succ_mul] at hls2
      obtain ⟨L2, hL2⟩ : ∃ L2, left t q (j + 1) = L2 := ⟨_, rfl⟩
      rw [hL2] at e2 hls2
      have HL2 := Lib.hid hL2
      clear hL2
      generalize left t q j = L1 at *
      generalize pcOf t q j = pc at *
      have HE3 := Lib.hid e3
      have hm : min (L1.size : Int) (q : Int) = (n : Int) := by omega
      have hpos : (0 : Int) < (L1.size : Int) := by omega
      have hnl : n ≤ L1.size := by omega
      have hd : decide ((0 : Int) < (L1.size : Int)) = true := decide_eq_true hpos
      have HLS := Lib.hid (And.intro hls hls2)
      clear e3 hown hK hlt hn hls hls2
      go_wp2_with (at_builtin; refine wpList_append_own _ rfl _ _ 23 rfl w1.heap.size 9 i0 (.string ByteArray.empty) 1 16 Try.underlying23 HI.out.1 HI.out.2.1 HI.out.2.2.1 HI.out.2.2.2 rfl (by decide) _ _ _ rfl (HO.out.alloc _) ⟨wr.heap.size, 0, none⟩ 1 1 [.string pc] rfl rfl ?c1 ?c2 ?c3 ?c4 ?c5 ?_)
      case c1 =>
        intro z u hz
        match z, hz with
        | 0, hz => simp at hz; subst hz; simp [Addr.add]
      case c2 => intro u hu; simp at hu; subst hu; rfl
      case c3 =>
        have := HT.out
        have := HL.out
        have h1 : j < 2001 := by have := Nat.le_mul_of_pos_right j hq1; omega
        unfold maxLen; omega
      case c4 =>
        have := HT.out
        have h1 : j < 2001 := by have := Nat.le_mul_of_pos_right j hq1; omega
        omega
      case c5 => have := HK.out.size; simp; omega
      intro v' w2 hown' hgrow _
      have HO' := Lib.hid hown'
      have HK' := Lib.hid (show Kept w1 w2 from Below.trans (HK.out.alloc _) ⟨hgrow.os, hgrow.tape, hgrow.output, hgrow.size, fun b hb => hgrow.block b (Nat.lt_of_lt_of_le hb (Nat.le_trans HK.out.size (by simp))) (fun e => by have := (HO.out.lt b e.symm).1; omega)⟩)
      clear hown' hgrow a0 a1 a2 HO HK
      go_wp2
      go_roundw
      case rel => exact ⟨j + 1, by omega, by rw [HL2.out], by rw [HE3.out, List.map_append, List.map_take]; exact HO'.out, HK'.out⟩
      case measure => have := HLS.out.1; have := HLS.out.2; simp; omega
    · have hjn2 : j = nP t.size q := by
        have : ¬ j < nP t.size q := fun h => hjn (hlt.1 h)
        omega
      have hz : (left t q j).size = 0 := by omega
      rw [hjn2] at hown
      rw [List.take_of_length_le (Nat.le_of_eq HL.out)] at hown
      obtain ⟨a', cap', rfl, hcl, hst⟩ := strs_own hown HL.out (fun z hz => by have := HSZ.out z hz; have := HT.out; omega)
      have HF := Lib.hid hst
      generalize left t q j = L1 at *
      have hd : decide ((0 : Int) < (L1.size : Int)) = false := decide_eq_false (by omega)
      clear hK hown hst HO hls hlt hjn
      go_wp2
      go_ret
      exact ⟨a', cap', rfl, hcl, HF.out, HK0.out.trans HK.out⟩
end Go.Proofs.Ytlncjheifkbomaa
