/- digest.blocks: the blocks of a text, one by one; strings.Clone; the sums behind a text that grows (texts of less than 2^61 bytes). -/
import Derived.Test.YtdllenoclnmmdaaDoorBl7
import Derived.Test.YtdllenoclnmmdaaDoorBl8
import Derived.Test.YtdllenoclnmmdaaDoorShelf
import Derived.Test.YtdllenoclnmmdaaDoorRange
namespace Go.Proofs.YtdllenoclnmmdaaDoor
open Go.RowKit Go.Shelf
attribute [local go_sem] Oper.semAt_some

/-! the sums, of a text that grows -/
theorem cut_append (l t : List UInt8) (a b : Nat) (h : b ≤ l.length) : Bl.cut (l ++ t) a b = Bl.cut l a b := by
  unfold Bl.cut
  rw [List.take_append_of_le_length h]
theorem sums_append (l t : List UInt8) : ∀ k, 64 * k ≤ l.length → Bl.sums (l ++ t) k = Bl.sums l k
  | 0, _ => rfl
  | k + 1, h => by
    unfold Bl.sums
    rw [sums_append l t k (by omega), cut_append l t _ _ (by omega)]
def nB (n : Nat) : Nat := (n + 63) / 64
theorem nB_lt {n k : Nat} : k < nB n ↔ k * 64 < n := by unfold nB; omega
/-- the k-th block -/
def blk (s : ByteArray) (k : Nat) : ByteArray := s.extract (k * 64) (min (k * 64 + 64) s.size)
theorem blk_size (s : ByteArray) (k : Nat) : (blk s k).size ≤ 64 := by unfold blk; rw [ByteArray.size_extract]; omega
theorem blk_list (s : ByteArray) (k : Nat) : (blk s k).data.toList = Bl.cut s.data.toList (k * 64) (min (k * 64 + 64) s.size) := by unfold blk; exact extract_cut _ _ _
/-- strings.Clone: the same bytes -/
theorem clone_any (s : ByteArray) (w : World) (h : s.size ≤ 281474976710656) : Calls Tryd.prog 34 #[.string s] w fun e w' => e = .returned (.string s) ∧ Kept w w' := by
  go_enter Tryd.func34, Tryd.ntmps34
  go_wp2_with fail
  refine (Tryd.stringslite_Clone s _ h).mono ?_
  rintro e w' ⟨rfl, hk⟩
  go_wp2
  go_ret
  exact ⟨rfl, hk⟩
set_option maxRecDepth 100000 in
theorem blocks_any (t : ByteArray) (w : World) :
    Calls Tryd.prog 36 #[.string t] w fun e w' => e = .returned (.func (.func 41) #[] #[.pointer (some ⟨w.heap.size, 0, none⟩)]) ∧
      w' = w.alloc (.cells #[.string t] 9) := by
  go_enter Tryd.func36, Tryd.ntmps36
  go_wp2
  go_ret
  exact ⟨rfl, rfl⟩

set_option maxRecDepth 100000 in
set_option maxHeartbeats 2000000 in
theorem blocks_stops (n : Nat) (hn : 1 ≤ n) (R : Nat → Prop) (t : ByteArray) (ht : t.size ≤ 2305843009213693952) (pt : Nat) (w : World)
    (hRt : ¬ R pt) (hpt : BlockAt w pt #[.string t] 9) :
    SeqStopsK Fence.wide n Tryd.prog 41 #[.pointer (some ⟨pt, 0, none⟩)]
      (fun k : { k : Nat // k < nB t.size } => #[Value.int .i64 ((min (k.1 * 64 + 64) t.size : Nat) : Int), Value.string (blk t k.1)]) (CellsBut R)
      (fun xs => ixs xs = List.range (nB t.size)) (fun pre => ∃ k, k < nB t.size ∧ ixs pre = List.range (k + 1)) (nB t.size) w := fun l J Jx W hW hJ _ hY h0 => by
  have hT := hpt.kept hW
  refine callsIn_of_wp Tryd.func41 rfl trivial ?_ rfl
  simp only [Tryd.ntmps41, List.size_toArray, List.length_nil, List.length_cons, Nat.reduceAdd, Nat.reduceSub, Array.replicate_succ, Array.replicate_zero, List.push_toArray, List.append_toArray, List.nil_append, List.cons_append]
  refine wpIn_wide.2 ?_
  have HJ := Lib.hid h0
  have HTT := Lib.hid hT
  clear hpt hW h0 hT
  go_wp2_with fail
  refine wp_of_in n ?_
  gi_loopw [3] (fun i wr => ∃ k m : Nat, m = k * 64 ∧ k ≤ nB t.size ∧ m ≤ t.size + 64 ∧ i = .int .i64 m ∧ BlockAt wr pt #[.string t] 9 ∧ ∃ pre : List { k : Nat // k < nB t.size }, ixs pre = List.range k ∧ J pre wr) (fun i _ => t.size + 64 - (intOf i).toNat)
  case atStart => exact ⟨0, 0, by simp, by omega, by omega, rfl, HTT.out, [], rfl, HJ.out⟩
  case round =>
    obtain ⟨k, m, hm, hk, hm2, rfl, hT, pre, hpre, hJk⟩ := hrel
    have c1 := box1 hT
    have HT := Lib.hid hT
    have HPre := Lib.hid hpre
    have hlen : pre.length = k := by have := congrArg List.length hpre; rw [ixs_length] at this; simpa using this
    have HLen := Lib.hid hlen
    have hlt := nB_lt (n := t.size) (k := k)
    rw [← hm] at hlt
    have HLT := Lib.hid hlt
    have hsl : blk t k = t.extract m (min (m + 64) t.size) := by rw [hm]; rfl
    have hmk : k * 64 = m := hm.symm
    have HM := Lib.hid hm
    clear hpre hlen hT hm hlt
    by_cases hml : m < t.size
    · have hkn : k < nB t.size := HLT.out.2 hml
      obtain ⟨f1, t1, a1, b1, hy1, hR1⟩ := hY pre ⟨k, hkn⟩ wr hJk (by rw [HLen.out]; exact hkn)
      simp only [hsl, hmk] at hy1
      clear hsl hmk
      obtain ⟨u, hu⟩ : ∃ u, u = m + 64 := ⟨_, rfl⟩
      have hi8 : (m : Int) + 64 = (u : Int) := by omega
      have hu2 : u ≤ t.size + 64 := by omega
      have hmu : m ≤ u := by omega
      rw [← hu] at hy1
      have hnm : u = (k + 1) * 64 := by rw [hu, HM.out, Nat.succ_mul]
      have HNM := Lib.hid hnm
      have HMU := Lib.hid (show t.size + 64 - u < t.size + 64 - m by omega)
      clear hnm hu
      have hend : ∀ (e : Ending) (W3 : World), (e = .returned (.bool true) ∧ J (pre ++ [⟨k, hkn⟩]) W3 ∧ CellsBut R wr W3 ∨ e = .returned (.bool false) ∧ Jx (pre ++ [⟨k, hkn⟩]) W3) → (e = .returned (.bool true) ∧ BlockAt W3 pt #[.string t] 9 ∧ J (pre ++ [⟨k, hkn⟩]) W3) ∨ (e = .returned (.bool false) ∧ Jx (pre ++ [⟨k, hkn⟩]) W3) := fun e W3 h => by
        rcases h with ⟨rfl, hJ3, hkp⟩ | ⟨rfl, hx3⟩
        · exact .inl ⟨rfl, HT.out.but hkp hRt, hJ3⟩
        · exact .inr ⟨rfl, hx3⟩
      have HEND := Lib.hid hend
      clear hend hJk
      by_cases hcu : t.size < u
      · rw [show min u t.size = t.size by omega] at hy1
        have hs1 : m ≤ t.size := by omega
        have hs2 : t.size ≤ t.size := by omega
        have hmin : min (u : Int) (t.size : Int) = (t.size : Int) := by omega
        gi_wp2_with fail
        refine hR1.mono ?_
        rintro e W3 h3
        rcases HEND.out _ _ h3 with ⟨rfl, hT3, hJ3⟩ | ⟨rfl, hx3⟩
        · have HT3 := Lib.hid hT3
          have HJ3 := Lib.hid hJ3
          clear h3 hT3 hJ3 c1
          gi_wp2
          go_roundw
          case rel => exact ⟨k + 1, u, HNM.out, by omega, hu2, by go_num, HT3.out, pre ++ [⟨k, hkn⟩], by rw [ixs_snoc, HPre.out, List.range_succ], HJ3.out⟩
          case measure => have := HMU.out; simp [intOf]; omega
        · gi_wp2
          refine bodyPost_ret (results_none rfl _ _ _) rfl ?_
          exact ⟨⟨_, rfl⟩, .inr ⟨pre ++ [⟨k, hkn⟩], ⟨k, hkn, by rw [ixs_snoc, HPre.out, List.range_succ]⟩, hx3⟩⟩
      · rw [show min u t.size = u by omega] at hy1
        have hs1 : u ≤ t.size := by omega
        have hmin : min (u : Int) (t.size : Int) = (u : Int) := by omega
        gi_wp2_with fail
        refine hR1.mono ?_
        rintro e W3 h3
        rcases HEND.out _ _ h3 with ⟨rfl, hT3, hJ3⟩ | ⟨rfl, hx3⟩
        · have HT3 := Lib.hid hT3
          have HJ3 := Lib.hid hJ3
          clear h3 hT3 hJ3 c1
          gi_wp2
          go_roundw
          case rel => exact ⟨k + 1, u, HNM.out, by omega, hu2, by go_num, HT3.out, pre ++ [⟨k, hkn⟩], by rw [ixs_snoc, HPre.out, List.range_succ], HJ3.out⟩
          case measure => have := HMU.out; simp [intOf]; omega
        · gi_wp2
          refine bodyPost_ret (results_none rfl _ _ _) rfl ?_
          exact ⟨⟨_, rfl⟩, .inr ⟨pre ++ [⟨k, hkn⟩], ⟨k, hkn, by rw [ixs_snoc, HPre.out, List.range_succ]⟩, hx3⟩⟩
    · have hke : k = nB t.size := by
        have : ¬ k < nB t.size := fun h => hml (HLT.out.1 h)
        omega
      have HKE := Lib.hid hke
      clear hke hsl
      gi_wp2
      go_end0
      exact ⟨⟨_, rfl⟩, .inl ⟨pre, by rw [HPre.out, HKE.out], hJk⟩⟩
end Go.Proofs.YtdllenoclnmmdaaDoor
