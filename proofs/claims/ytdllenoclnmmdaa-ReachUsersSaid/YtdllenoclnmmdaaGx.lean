/- Contracts laid together: what each says stands at its head (no conditions). -/
import Derived.Test.YtdllenoclnmmdaaGc
import Derived.Test.YtdllenoclnmmdaaStd
import Derived.Test.YtdllenoclnmmdaaGz
namespace Go.Proofs.Ytdllenoclnmmdaa
open Go.RowKit Go.Shelf

def frG (ts : List Th) (ll : List (List Nat)) (r : ByteArray) : List ByteArray := ((List.range ts.length).filter (fun j => decide (j ∈ walkB ll (start0 ts.length (lkD ts [r]))))).map (dOf ts)
theorem frG_eq (ts : List Th) (r : ByteArray) : fromL ts [r] = frG ts (lkF ts) r := rfl
def frB (ts : List Th) (ll : List (List Nat)) (ns : List ByteArray) (n : Nat) : Bool := (List.range n).all fun i => decide ((frG ts ll (ns.getD i ByteArray.empty)).length = 2 * (i + 1)) && (List.range (i + 1)).all fun k => hasB (ns.getD k ByteArray.empty) (frG ts ll (ns.getD i ByteArray.empty))
/-- how many of the second list come in turn within the first one's head -/
def cntK (o ns : List ByteArray) (n : Nat) : Nat → Nat
  | 0 => 0
  | i + 1 => if cntK o ns n i < n ∧ o.getD i ByteArray.empty = ns.getD (cntK o ns n i) ByteArray.empty then cntK o ns n i + 1 else cntK o ns n i
theorem cntK_le (o ns : List ByteArray) (n : Nat) : ∀ i, cntK o ns n i ≤ n
  | 0 => Nat.zero_le _
  | i + 1 => by
    have ih := cntK_le o ns n i
    unfold cntK
    split
    · rename_i h; omega
    · exact ih
def cntF (ns : List ByteArray) (n : Nat) : List ByteArray → Nat → Nat
  | [], k => k
  | x :: r, k => cntF ns n r (if k < n && decide (x = ns.getD k ByteArray.empty) then k + 1 else k)
theorem cntF_eq (ns : List ByteArray) (n : Nat) : ∀ (o p : List ByteArray), cntF ns n o (cntK (p ++ o) ns n p.length) = cntK (p ++ o) ns n (p ++ o).length
  | [], p => by simp [cntF]
  | x :: r, p => by
    have ih := cntF_eq ns n r (p ++ [x])
    rw [List.append_assoc] at ih
    have e : cntK (p ++ ([x] ++ r)) ns n (p ++ [x]).length = (if (decide (cntK (p ++ ([x] ++ r)) ns n p.length < n) && decide (x = ns.getD (cntK (p ++ ([x] ++ r)) ns n p.length) ByteArray.empty)) = true then cntK (p ++ ([x] ++ r)) ns n p.length + 1 else cntK (p ++ ([x] ++ r)) ns n p.length) := by
      have hx : (p ++ ([x] ++ r)).getD p.length ByteArray.empty = x := by simp
      rw [List.length_append, List.length_singleton]
      show (if cntK _ ns n p.length < n ∧ (p ++ ([x] ++ r)).getD p.length ByteArray.empty = _ then _ else _) = _
      rw [hx]
      simp only [Bool.and_eq_true, decide_eq_true_eq]
    rw [e] at ih
    exact ih
def orB (ts : List Th) (ll : List (List Nat)) (ns : List ByteArray) (n : Nat) : Bool := match ordN ll ts.length ts.length with
  | some ps => decide (ps.length = 2 * n) && decide (cntF ns n (ps.map (dOf ts)) 0 = n)
  | none => false
structure ChOk (s : ByteArray) (n : Nat) : Prop where
  ths : thsB (chL s n) = true
  from1 : ∀ i, i < n → (fromL (chL s n) [chN s i]).length = 2 * (i + 1) ∧ ∀ k, k ≤ i → hasB (chN s k) (fromL (chL s n) [chN s i]) = true
  oe : ordE (chL s n) = 0
  ol : (ordL (chL s n)).length = 2 * n
  cnt : cntK (ordL (chL s n)) ((List.range n).map (chN s)) n (2 * n) = n
theorem ns_at (s : ByteArray) (n i : Nat) (h : i < n) : ((List.range n).map (chN s)).getD i ByteArray.empty = chN s i := by
  simp [List.getD, h]
theorem chOk_of (s : ByteArray) (n : Nat) (ts : List Th) (ll : List (List Nat)) (ns : List ByteArray) (hts : chL s n = ts) (hns : (List.range n).map (chN s) = ns) (h1 : thsB ts = true) (h2 : lkF ts = ll) (h3 : frB ts ll ns n = true) (h4 : orB ts ll ns n = true) : ChOk s n := by
  subst hts hns h2
  have h5 : ∀ i, i < n → _ := fun i hi => (Bool.and_eq_true _ _).mp (List.all_eq_true.1 h3 i (List.mem_range.2 hi))
  have ho : ∃ ps, ordN (lkF (chL s n)) (chL s n).length (chL s n).length = some ps ∧ ps.length = 2 * n ∧ cntF ((List.range n).map (chN s)) n (ps.map (dOf (chL s n))) 0 = n := by
    unfold orB at h4
    cases e : ordN (lkF (chL s n)) (chL s n).length (chL s n).length with
    | none => rw [e] at h4; cases h4
    | some ps =>
      rw [e] at h4
      simp only [Bool.and_eq_true, decide_eq_true_eq] at h4
      exact ⟨ps, rfl, h4.1, h4.2⟩
  obtain ⟨ps, hp, hl, hc⟩ := ho
  have hO : ordO (chL s n) = some (ps.map (dOf (chL s n))) := by unfold ordO; rw [hp]; rfl
  have hL : ordL (chL s n) = ps.map (dOf (chL s n)) := by unfold ordL; rw [if_pos h1, hO]; rfl
  refine ⟨h1, fun i hi => ?_, ?_, ?_, ?_⟩
  · obtain ⟨a, b⟩ := h5 i hi
    rw [ns_at s n i hi, ← frG_eq] at a b
    refine ⟨of_decide_eq_true a, fun k hk => ?_⟩
    have := List.all_eq_true.1 b k (List.mem_range.2 (by omega))
    rwa [ns_at s n k (by omega)] at this
  · unfold ordE; rw [if_pos h1, hO]; rfl
  · rw [hL, List.length_map, hl]
  · have := cntF_eq ((List.range n).map (chN s)) n (ps.map (dOf (chL s n))) []
    rw [List.nil_append, List.length_map, hl] at this
    rw [hL, ← this]
    exact hc
/-- who names which, by what each names -/
def usG (ps : List (ByteArray × List ByteArray)) (d : ByteArray) : List ByteArray := (ps.filter (fun p => hasB d p.2)).map (·.1)
theorem usG_eq (ts : List Th) (d : ByteArray) : usersL ts d = usG (ts.map fun x => (x.d, nmF x)) d := by
  unfold usersL usG
  rw [List.filter_map, List.map_map]
  rfl
def usO (ps : List (ByteArray × List ByteArray)) (ns ds : List ByteArray) (n : Nat) : Bool := (List.range n).all fun i => decide (usG ps (ns.getD i ByteArray.empty) = (if i + 1 < n then [ns.getD (i + 1) ByteArray.empty] else [])) && decide (usG ps (ds.getD i ByteArray.empty) = [ns.getD i ByteArray.empty])
structure UsOk (s : ByteArray) (n : Nat) : Prop where
  ths : thsB (chL s n) = true
  up : ∀ i, i < n → usersL (chL s n) (chN s i) = (if i + 1 < n then [chN s (i + 1)] else [])
  blob : ∀ i, i < n → usersL (chL s n) (chD s i) = [chN s i]
theorem ds_at (s : ByteArray) (n i : Nat) (h : i < n) : ((List.range n).map (chD s)).getD i ByteArray.empty = chD s i := by
  simp [List.getD, h]
theorem usOk_of (s : ByteArray) (n : Nat) (ts : List Th) (ps : List (ByteArray × List ByteArray)) (ns ds : List ByteArray) (hts : chL s n = ts) (hns : (List.range n).map (chN s) = ns) (hds : (List.range n).map (chD s) = ds) (h1 : thsB ts = true) (h2 : (ts.map fun x => (x.d, nmF x)) = ps) (h3 : usO ps ns ds n = true) : UsOk s n := by
  subst hts hns hds h2
  have h5 : ∀ i, i < n → _ := fun i hi => (Bool.and_eq_true _ _).mp (List.all_eq_true.1 h3 i (List.mem_range.2 hi))
  refine ⟨h1, fun i hi => ?_, fun i hi => ?_⟩
  · have a := of_decide_eq_true (h5 i hi).1
    rw [ns_at s n i hi, ← usG_eq] at a
    rw [a]
    by_cases h : i + 1 < n
    · rw [if_pos h, if_pos h, ns_at s n _ h]
    · rw [if_neg h, if_neg h]
  · have a := of_decide_eq_true (h5 i hi).2
    rw [ds_at s n i hi, ns_at s n i hi, ← usG_eq] at a
    exact a
end Go.Proofs.Ytdllenoclnmmdaa

namespace Go.Proofs.Ytdllenoclnmmdaa
open Go.RowKit
/-- a number brought below another one -/
def wthn (x : Int) (n : Nat) : Nat := (IntKind.u64.wrap x % (n : Int)).toNat
theorem wthn_lt (x : Int) {n : Nat} (h : 0 < n) : wthn x n < n := by
  have h1 := Int.emod_nonneg (IntKind.u64.wrap x) (show (n : Int) ≠ 0 by omega)
  have h2 := Int.emod_lt_of_pos (IntKind.u64.wrap x) (show (0 : Int) < (n : Int) by omega)
  unfold wthn
  omega
theorem within_ref (x : Int) (n : Nat) (hn : 1 ≤ n ∧ n ≤ 1099511627776) (w : World) : Calls Try.prog 38 #[.int .i64 x, .int .i64 n] w fun e w' => e = .returned (.int .i64 (wthn x n : Nat)) ∧ w = w' := by
  have hu : IntKind.u64.wrap (n : Int) = (n : Int) := by rw [IntKind.wrap_u64]; omega
  have hne : ((n : Int) == 0) = false := by rw [beq_eq_false_iff_ne]; omega
  have h0 : 0 ≤ IntKind.u64.wrap x := by rw [IntKind.wrap_u64]; omega
  go_enter Try.func38, Try.ntmps38
  go_wp2
  go_ret
  have h1 := Int.emod_nonneg (IntKind.u64.wrap x) (show (n : Int) ≠ 0 by omega)
  have h2 := Int.emod_lt_of_pos (IntKind.u64.wrap x) (show (0 : Int) < (n : Int) by omega)
  have h3 : wrap64 (IntKind.u64.wrap x % (n : Int)) = IntKind.u64.wrap x % (n : Int) := by
    unfold wrap64
    omega
  refine ⟨?_, rfl⟩
  unfold wthn
  rw [Int.toNat_of_nonneg h1]
  show Ending.returned (.int .i64 (wrap64 (IntKind.u64.wrap x % (n : Int)))) = _
  rw [h3]
end Go.Proofs.Ytdllenoclnmmdaa

namespace Go.Proofs.Ytdllenoclnmmdaa
open Go.RowKit Go.Shelf
theorem own_strs' {w : World} {base : Nat} {a : Option Addr} {c : Nat} {A : List ByteArray} {n : Nat} (h : w.ownsRow base 9 1 (.slice a n c) n (A.map Value.string)) (hl : A.length = n) (hz : ∀ s ∈ A, s.size ≤ 9223372036854775807) : StrsIn w a n A := by
  obtain ⟨a', c', e', _, h'⟩ := strs_own h hl hz
  cases e'
  exact h'
theorem strs_one {w : World} {g off n i : Nat} {A : List ByteArray} (h : StrsIn w (some ⟨g, off, none⟩) n A) (hi : i < n) : StrsIn w (some ⟨g, off + i, none⟩) 1 [A.getD i ByteArray.empty] := by
  obtain ⟨b, o, ha, hc⟩ := h.cells
  cases ha (by omega)
  have hm : A.getD i ByteArray.empty ∈ A := by
    have := h.len_eq
    rw [List.getD_eq_getElem?_getD, List.getElem?_eq_getElem (by omega)]
    exact List.getElem_mem _
  refine ⟨rfl, by omega, fun s hs => by rw [List.mem_singleton] at hs; subst hs; exact h.sizes _ hm, g, off + i, fun _ => rfl, fun j hj => ?_⟩
  obtain rfl : j = 0 := by omega
  exact hc i hi
end Go.Proofs.Ytdllenoclnmmdaa

