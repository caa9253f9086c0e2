/- manifest.digests: a text's pieces of 32 bytes (a text of no great length). -/
import Derived.Test.YtdllenoclnmmdaaMt3
import Derived.Test.YtdllenoclnmmdaaPjR
import Derived.Test.YtdllenoclnmmdaaShelf
namespace Go.Proofs.Ytdllenoclnmmdaa
open Go.RowKit Go.Shelf
attribute [local go_sem] Oper.semAt_some

/-- how many digests a text has, and the k-th -/
def nDg (t : ByteArray) : Nat := t.size / 32
def dgAt (t : ByteArray) (k : Nat) : ByteArray := t.extract (k * 32) (k * 32 + 32)
theorem nDg_lt {t : ByteArray} {k : Nat} : k * 32 + 32 ≤ t.size ↔ k < nDg t := by unfold nDg; omega
theorem dgAt_size {t : ByteArray} {k : Nat} (h : k < nDg t) : (dgAt t k).size = 32 := by
  have := nDg_lt.2 h
  unfold dgAt
  rw [ByteArray.size_extract]
  omega
theorem clone_any (s : ByteArray) (w : World) (h : s.size ≤ 281474976710656) : Calls Try.prog 64 #[.string s] w fun e w' => e = .returned (.string s) ∧ Kept w w' := by
  go_enter Try.func64, Try.ntmps64
  go_wp2_with fail
  refine (Try.stringslite_Clone s _ h).mono ?_
  rintro e w1 ⟨rfl, hk⟩
  have HK := Lib.hid (show Kept w w1 from hk)
  clear hk
  go_wp2
  go_ret
  exact ⟨rfl, HK.out⟩
theorem digestsq_any (t : ByteArray) (w : World) :
    Calls Try.prog 46 #[.string t] w fun e w' => e = .returned (.func (.func 63) #[] #[.pointer (some ⟨w.heap.size, 0, none⟩)]) ∧ w' = w.alloc (.cells #[.string t] 9) := by
  go_enter Try.func46, Try.ntmps46
  go_wp2
  go_ret
  exact ⟨rfl, rfl⟩
theorem kept_none {a b : World} (h : Kept a b) : a.grownBy b none := ⟨Below.os h, Below.tape h, Below.output h, Below.size h, fun k hk _ => Below.block h k hk⟩
set_option maxRecDepth 100000 in
set_option maxHeartbeats 2000000 in
theorem digestsq_stops (n : Nat) (hn : 1 ≤ n) (R : Nat → Prop) (t : ByteArray) (ht : t.size ≤ 1000000) (pt : Nat) (w : World) (hRt : ¬ R pt) (hpt : BlockAt w pt #[.string t] 9) :
    SeqStopsK Fence.wide n Try.prog 63 #[.pointer (some ⟨pt, 0, none⟩)]
      (fun k : { k : Nat // k < nDg t } => #[Value.string (dgAt t k.1)]) (CellsBut R)
      (fun xs => ixs xs = List.range (nDg t)) (fun pre => ∃ k, k < nDg t ∧ ixs pre = List.range (k + 1)) (nDg t) w := fun l J Jx W hW hJ _ hY h0 => by
  have hT := hpt.kept hW
  refine callsIn_of_wp Try.func63 rfl trivial ?_ rfl
  simp only [Try.ntmps63, List.size_toArray, List.length_nil, List.length_cons, Nat.reduceAdd, Nat.reduceSub, Array.replicate_succ, Array.replicate_zero, List.push_toArray, List.append_toArray, List.nil_append, List.cons_append]
  refine wpIn_wide.2 ?_
  have HJ0 := Lib.hid h0
  have HTT := Lib.hid hT
  have HAB := Lib.hid hJ
  clear hpt hW h0 hT
  go_wp2_with fail
  refine wp_of_in n ?_
  gi_loopw [3] (fun i wr => ∃ k m : Nat, m = k * 32 ∧ k ≤ nDg t ∧ m ≤ 1000000 ∧ i = .int .i64 m ∧ BlockAt wr pt #[.string t] 9 ∧ ∃ pre : List { k : Nat // k < nDg t }, ixs pre = List.range k ∧ J pre wr) (fun i _ => 2000000 - (intOf i).toNat)
  case atStart => exact ⟨0, 0, by simp, by omega, by omega, rfl, HTT.out, [], rfl, HJ0.out⟩
  case round =>
    obtain ⟨k, m, hm, hk, hm2, rfl, hT, pre, hpre, hJk⟩ := hrel
    have c1 := box1 hT
    have HT := Lib.hid hT
    have HPre := Lib.hid hpre
    have hlen : pre.length = k := by have := congrArg List.length hpre; rw [ixs_length] at this; simpa using this
    have HLen := Lib.hid hlen
    have hlt := nDg_lt (t := t) (k := k)
    have hdg : dgAt t k = t.extract m (m + 32) := by unfold dgAt; rw [← hm]
    rw [← hm] at hlt
    have HLT := Lib.hid hlt
    have HM := Lib.hid hm
    have HJK := Lib.hid hJk
    clear hpre hlen hT hm hlt hJk
    by_cases hml : m + 32 ≤ t.size
    · have hkn : k < nDg t := HLT.out.1 hml
      obtain ⟨u, hu⟩ : ∃ u, u = m + 32 := ⟨_, rfl⟩
      have hi8 : (m : Int) + 32 = (u : Int) := by omega
      have hu2 : u ≤ 1000000 := by omega
      have hmu : m ≤ u := by omega
      have hul : u ≤ t.size := by omega
      have hdd : decide (u ≤ t.size) = true := decide_eq_true hul
      have HDS := Lib.hid (dgAt_size hkn)
      rw [← hu] at hdg
      have HNM := Lib.hid (show u = (k + 1) * 32 by rw [hu, HM.out]; omega)
      clear hu hml
      obtain ⟨d, hd⟩ : ∃ d, d = dgAt t k := ⟨_, rfl⟩
      rw [← hd] at hdg HDS
      have HD := Lib.hid hd
      have hxt : t.extract m u = d := hdg.symm
      clear hd hdg
      gi_wp2_with fail
      refine ⟨trivial, callsIn_wide.2 ((clone_any d wr (by rw [HDS.out]; omega)).mono ?_)⟩
      rintro e w9 ⟨rfl, hk9⟩
      have hJ9 := HAB.out pre wr w9 none HJK.out (kept_none hk9) (fun r e => by cases e)
      have hT9 := HT.out.kept hk9
      have HT9 := Lib.hid hT9
      obtain ⟨f1, t1, a1, b1, hy1, hR1⟩ := hY pre ⟨k, hkn⟩ w9 hJ9 (by rw [HLen.out]; exact hkn)
      simp only [← HD.out] at hy1
      have hend : ∀ (e : Ending) (W3 : World), (e = .returned (.bool true) ∧ J (pre ++ [⟨k, hkn⟩]) W3 ∧ CellsBut R w9 W3 ∨ e = .returned (.bool false) ∧ Jx (pre ++ [⟨k, hkn⟩]) W3) → (e = .returned (.bool true) ∧ BlockAt W3 pt #[.string t] 9 ∧ J (pre ++ [⟨k, hkn⟩]) W3) ∨ (e = .returned (.bool false) ∧ Jx (pre ++ [⟨k, hkn⟩]) W3) := fun e W3 h => by
        rcases h with ⟨rfl, hJ3, hkp⟩ | ⟨rfl, hx3⟩
        · exact .inl ⟨rfl, HT9.out.but hkp hRt, hJ3⟩
        · exact .inr ⟨rfl, hx3⟩
      have HEND := Lib.hid hend
      clear hend hk9 hJ9 hT9 c1 hxt
      gi_wp2_with fail
      refine hR1.mono ?_
      rintro e W3 h3
      rcases HEND.out _ _ h3 with ⟨rfl, hT3, hJ3⟩ | ⟨rfl, hx3⟩
      · have HT3 := Lib.hid hT3
        have HJ3 := Lib.hid hJ3
        clear h3 hT3 hJ3
        gi_wp2
        go_roundw
        case rel => exact ⟨k + 1, u, HNM.out, by omega, hu2, by go_num, HT3.out, pre ++ [⟨k, hkn⟩], by rw [ixs_snoc, HPre.out, List.range_succ], HJ3.out⟩
        case measure => simp [intOf]; omega
      · gi_wp2
        refine bodyPost_ret (results_none rfl _ _ _) rfl ?_
        exact ⟨⟨_, rfl⟩, .inr ⟨pre ++ [⟨k, hkn⟩], ⟨k, hkn, by rw [ixs_snoc, HPre.out, List.range_succ]⟩, hx3⟩⟩
    · have HKE := Lib.hid (show k = nDg t by
        have : ¬ k < nDg t := fun h => hml (HLT.out.2 h)
        omega)
      have hdd : decide (m + 32 ≤ t.size) = false := decide_eq_false hml
      clear hdg
      gi_wp2
      go_end0
      exact ⟨⟨_, rfl⟩, .inl ⟨pre, by rw [HPre.out, HKE.out], HJK.out⟩⟩
end Go.Proofs.Ytdllenoclnmmdaa
