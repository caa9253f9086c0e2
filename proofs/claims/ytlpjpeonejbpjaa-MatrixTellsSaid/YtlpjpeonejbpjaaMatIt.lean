/- The iterator over a matrix's rows: its contract (sides within bounds). -/
import Derived.Test.YtlpjpeonejbpjaaMatR
import Derived.Test.YtlpjpeonejbpjaaRound
import Derived.Test.YtlpjpeonejbpjaaLaneB
namespace Go.Proofs.Ytlpjpeonejbpjaa
open Go.RowKit Go.Shelf
attribute [local go_sem] Oper.semAt_some

/-- a matrix as a value; its cells in a box -/
def matV (r c b off cap : Nat) : Value := .agg #[.int .i64 r, .int .i64 c, .slice (some ⟨b, off, none⟩) (r * c) cap]
def matC (r c b off cap : Nat) : Array Value := #[.int .i64 r, .int .i64 c, .slice (some ⟨b, off, none⟩) (r * c) cap]
theorem rows_any (r c b off cap : Nat) (w : World) :
    Calls Try.prog 73 #[.agg #[.int .i64 r, .int .i64 c, .slice (some ⟨b, off, none⟩) (r * c) cap]] w fun e w' => e = .returned (.func (.func 90) #[] #[.pointer (some ⟨w.heap.size, 0, none⟩)]) ∧
      w' = w.alloc (.cells #[.int .i64 r, .int .i64 c, .slice (some ⟨b, off, none⟩) (r * c) cap] 50) := by
  go_enter Try.func73, Try.ntmps73
  go_wp2
  go_ret
  exact ⟨rfl, rfl⟩

set_option maxRecDepth 100000 in
set_option maxHeartbeats 2000000 in
theorem rows_stops (n : Nat) (hn : 1 ≤ n) (R : Nat → Prop) (r c b off cap bm : Nat) (hr : r ≤ 64) (hc : 1 ≤ c ∧ c ≤ 64) (hcap : r * c ≤ cap) (w : World)
    (hRa : ¬ R bm) (hbm : BlockAt w bm #[.int .i64 r, .int .i64 c, .slice (some ⟨b, off, none⟩) (r * c) cap] 50) :
    SeqStopsK Fence.wide n Try.prog 90 #[.pointer (some ⟨bm, 0, none⟩)]
      (fun k : { k : Nat // k < r } => #[Value.int .i64 (k.1 : Int), .slice (some ⟨b, off + k.1 * c, none⟩) c (cap - k.1 * c)]) (CellsBut R)
      (fun xs => ixs xs = List.range r) (fun pre => ∃ k, k < r ∧ ixs pre = List.range (k + 1)) r w := fun l J Jx W hW hJ _ hY h0 => by
  have hbmW := hbm.kept hW
  have c0 := hbmW.cell 0
  have c1 := hbmW.cell 1
  have c2 := hbmW.cell 2
  simp only [List.getElem?_toArray, List.getElem?_cons_zero, List.getElem?_cons_succ] at c0 c1 c2
  have HB := Lib.hid hbmW
  have HJ := Lib.hid h0
  clear hbmW hbm h0 hW
  refine callsIn_of_wp Try.func90 rfl trivial ?_ rfl
  simp only [Try.ntmps90, List.size_toArray, List.length_nil, List.length_cons, Nat.reduceAdd, Nat.reduceSub, Array.replicate_succ, Array.replicate_zero, List.push_toArray, List.append_toArray, List.nil_append, List.cons_append]
  gi_wp2
  gi_loopw [6] (fun i wr => ∃ k : Nat, k ≤ r ∧ i = .int .i64 k ∧ BlockAt wr bm #[.int .i64 r, .int .i64 c, .slice (some ⟨b, off, none⟩) (r * c) cap] 50 ∧ ∃ pre : List { k : Nat // k < r }, ixs pre = List.range k ∧ J pre wr) (fun i _ => r - (intOf i).toNat)
  case atStart => exact ⟨0, by omega, rfl, HB.out, [], rfl, HJ.out⟩
  case round =>
    obtain ⟨k, hk, rfl, hM, pre, hpre, hJk⟩ := hrel
    have c0 := hM.cell 0
    have c1 := hM.cell 1
    have c2 := hM.cell 2
    simp only [List.getElem?_toArray, List.getElem?_cons_zero, List.getElem?_cons_succ] at c0 c1 c2
    have HMk := Lib.hid hM
    have HPre := Lib.hid hpre
    have hlen : pre.length = k := by have := congrArg List.length hpre; rw [ixs_length] at this; simpa using this
    have HLen := Lib.hid hlen
    clear hM hpre hlen
    by_cases hlt : k < r
    · gi_wp2_with fail
      refine (callsIn_wide.2 (row_any r c b off cap k hr hc hlt hcap _)).mono ?_
      rintro e w3 ⟨rfl, hk3⟩
      obtain ⟨f1, t1, a1, b1, hy1, hR1⟩ := hY pre ⟨k, hlt⟩ w3 (AbidesFrom.kept hJ hJk hk3) (by rw [HLen.out]; exact hlt)
      have HK3 := Lib.hid hk3
      clear hk3 hJk
      gi_wp2_with fail
      refine hR1.mono ?_
      rintro e W3 (⟨rfl, hJ3, hkp⟩ | ⟨rfl, hx3⟩)
      · have HM3 := Lib.hid ((HMk.out.kept HK3.out).but hkp hRa)
        have HJ3 := Lib.hid hJ3
        clear hkp hJ3
        gi_wp2
        go_roundw
        case rel => exact ⟨k + 1, by omega, by go_num, HM3.out, pre ++ [⟨k, hlt⟩], by rw [ixs_snoc, HPre.out, List.range_succ], HJ3.out⟩
        case measure => simp [intOf]; omega
      · gi_wp2
        refine bodyPost_ret (results_none rfl _ _ _) rfl ?_
        exact ⟨⟨_, rfl⟩, .inr ⟨pre ++ [⟨k, hlt⟩], ⟨k, hlt, by rw [ixs_snoc, HPre.out, List.range_succ]⟩, hx3⟩⟩
    · gi_wp2
      go_end0
      have hke : k = r := by omega
      exact ⟨⟨_, rfl⟩, .inl ⟨pre, by rw [HPre.out, hke], hJk⟩⟩
end Go.Proofs.Ytlpjpeonejbpjaa
