/- cut.pieces: the pieces of a text, by what they are (a text of no great length). -/
import Derived.Test.YtlncjheifkbomaaCutB
import Derived.Test.YtlncjheifkbomaaRound
namespace Go.Proofs.Ytlncjheifkbomaa
open Go.RowKit Go.Shelf
attribute [local go_sem] Oper.semAt_some

/-- how many pieces of q bytes so many bytes are -/
def nP (n q : Nat) : Nat := (n + q - 1) / q
theorem nP_lt {n q k : Nat} (hq : 1 ≤ q) : k < nP n q ↔ k * q < n := by
  unfold nP
  rw [← Nat.succ_le_iff, Nat.le_div_iff_mul_le (by omega), Nat.succ_mul]
  omega
/-- the k-th piece -/
def pcOf (t : ByteArray) (q k : Nat) : ByteArray := t.extract (k * q) (min (k * q + q) t.size)
def pcs (t : ByteArray) (q : Nat) : List ByteArray := (List.range (nP t.size q)).map (pcOf t q)
theorem pcs_length (t : ByteArray) (q : Nat) : (pcs t q).length = nP t.size q := by simp [pcs]
theorem pcs_getD (t : ByteArray) (q k : Nat) (h : k < nP t.size q) : (pcs t q).getD k ByteArray.empty = pcOf t q k := by simp [pcs, List.getD, h]
theorem pcOf_size (t : ByteArray) (q k : Nat) : (pcOf t q k).size = min (k * q + q) t.size - k * q := by unfold pcOf; rw [ByteArray.size_extract]; omega

set_option maxRecDepth 100000 in
theorem pieces_any (t : ByteArray) (q : Int) (w : World) :
    Calls Try.prog 42 #[.string t, .int .i64 q] w fun e w' => e = .returned (.func (.func 49) #[] #[.pointer (some ⟨w.heap.size, 0, none⟩), .pointer (some ⟨w.heap.size + 1, 0, none⟩)]) ∧
      w' = (w.alloc (.cells #[.string t] 9)).alloc (.cells #[.int .i64 q] 3) := by
  go_enter Try.func42, Try.ntmps42
  go_wp2
  go_ret
  exact ⟨rfl, rfl⟩

set_option maxRecDepth 100000 in
set_option maxHeartbeats 2000000 in
theorem pieces_stops (n : Nat) (hn : 1 ≤ n) (R : Nat → Prop) (t : ByteArray) (ht : t.size ≤ 1000000) (q : Nat) (hq : 1 ≤ q ∧ q ≤ 1000000) (pt pq : Nat) (w : World)
    (hRt : ¬ R pt) (hRq : ¬ R pq) (hpt : BlockAt w pt #[.string t] 9) (hpq : BlockAt w pq #[.int .i64 (q : Int)] 3) :
    SeqStopsK Fence.wide n Try.prog 49 #[.pointer (some ⟨pt, 0, none⟩), .pointer (some ⟨pq, 0, none⟩)]
      (fun k : { k : Nat // k < nP t.size q } => #[Value.string (pcOf t q k.1)]) (CellsBut R)
      (fun xs => ixs xs = List.range (nP t.size q)) (fun pre => ∃ k, k < nP t.size q ∧ ixs pre = List.range (k + 1)) (nP t.size q) w := fun l J Jx W hW hJ _ hY h0 => by
  have hT := hpt.kept hW
  have hQ := hpq.kept hW
  refine callsIn_of_wp Try.func49 rfl trivial ?_ rfl
  simp only [Try.ntmps49, List.size_toArray, List.length_nil, List.length_cons, Nat.reduceAdd, Nat.reduceSub, Array.replicate_succ, Array.replicate_zero, List.push_toArray, List.append_toArray, List.nil_append, List.cons_append]
  refine wpIn_wide.2 ?_
  have HJ := Lib.hid h0
  have HTT := Lib.hid hT
  have HQQ := Lib.hid hQ
  clear hpt hpq hW h0 hT hQ
  go_wp2_with fail
  refine wp_of_in n ?_
  gi_loopw [4] (fun i wr => ∃ k m : Nat, m = k * q ∧ k ≤ nP t.size q ∧ m ≤ 2000000 ∧ i = .int .i64 m ∧ BlockAt wr pt #[.string t] 9 ∧ BlockAt wr pq #[.int .i64 (q : Int)] 3 ∧ ∃ pre : List { k : Nat // k < nP t.size q }, ixs pre = List.range k ∧ J pre wr) (fun i _ => 2000000 - (intOf i).toNat)
  case atStart => exact ⟨0, 0, by simp, by omega, by omega, rfl, HTT.out, HQQ.out, [], rfl, HJ.out⟩
  case round =>
    obtain ⟨k, m, hm, hk, hm2, rfl, hT, hQ, pre, hpre, hJk⟩ := hrel
    have c1 := box1 hT
    have c2 := box1 hQ
    have HT := Lib.hid hT
    have HQ := Lib.hid hQ
    have HPre := Lib.hid hpre
    have hlen : pre.length = k := by have := congrArg List.length hpre; rw [ixs_length] at this; simpa using this
    have HLen := Lib.hid hlen
    have hlt := nP_lt (n := t.size) (q := q) (k := k) hq.1
    rw [← hm] at hlt
    have HLT := Lib.hid hlt
    have hsl : pcOf t q k = t.extract m (min (m + q) t.size) := by rw [hm]; rfl
    have HM := Lib.hid hm
    clear hpre hlen hT hQ hm hlt
    by_cases hml : m < t.size
    · have hkn : k < nP t.size q := HLT.out.2 hml
      obtain ⟨f1, t1, a1, b1, hy1, hR1⟩ := hY pre ⟨k, hkn⟩ wr hJk (by rw [HLen.out]; exact hkn)
      simp only [hsl] at hy1
      clear hsl
      obtain ⟨u, hu⟩ : ∃ u, u = m + q := ⟨_, rfl⟩
      have hi8 : (m : Int) + (q : Int) = (u : Int) := by omega
      have hu2 : u ≤ 2000000 := by omega
      have hmu : m ≤ u := by omega
      rw [← hu] at hy1
      have hnm : u = (k + 1) * q := by rw [hu, HM.out, Nat.succ_mul]
      have HNM := Lib.hid hnm
      clear hnm hu
      have hend : ∀ (e : Ending) (W3 : World), (e = .returned (.bool true) ∧ J (pre ++ [⟨k, hkn⟩]) W3 ∧ CellsBut R wr W3 ∨ e = .returned (.bool false) ∧ Jx (pre ++ [⟨k, hkn⟩]) W3) → (e = .returned (.bool true) ∧ BlockAt W3 pt #[.string t] 9 ∧ BlockAt W3 pq #[.int .i64 (q : Int)] 3 ∧ J (pre ++ [⟨k, hkn⟩]) W3) ∨ (e = .returned (.bool false) ∧ Jx (pre ++ [⟨k, hkn⟩]) W3) := fun e W3 h => by
        rcases h with ⟨rfl, hJ3, hkp⟩ | ⟨rfl, hx3⟩
        · exact .inl ⟨rfl, HT.out.but hkp hRt, HQ.out.but hkp hRq, hJ3⟩
        · exact .inr ⟨rfl, hx3⟩
      have HEND := Lib.hid hend
      clear hend hJk
      by_cases hcu : t.size < u
      · rw [show min u t.size = t.size by omega] at hy1
        have hs1 : m ≤ t.size := by omega
        have hs2 : t.size ≤ t.size := by omega
        gi_wp2_with fail
        refine hR1.mono ?_
        rintro e W3 h3
        rcases HEND.out _ _ h3 with ⟨rfl, hT3, hQ3, hJ3⟩ | ⟨rfl, hx3⟩
        · have d2 := box1 hQ3
          have HT3 := Lib.hid hT3
          have HQ3 := Lib.hid hQ3
          have HJ3 := Lib.hid hJ3
          clear h3 hT3 hQ3 hJ3 c1 c2
          gi_wp2
          go_roundw
          case rel => exact ⟨k + 1, u, HNM.out, by omega, hu2, by go_num, HT3.out, HQ3.out, pre ++ [⟨k, hkn⟩], by rw [ixs_snoc, HPre.out, List.range_succ], HJ3.out⟩
          case measure => simp [intOf]; omega
        · gi_wp2
          refine bodyPost_ret (results_none rfl _ _ _) rfl ?_
          exact ⟨⟨_, rfl⟩, .inr ⟨pre ++ [⟨k, hkn⟩], ⟨k, hkn, by rw [ixs_snoc, HPre.out, List.range_succ]⟩, hx3⟩⟩
      · rw [show min u t.size = u by omega] at hy1
        have hs1 : u ≤ t.size := by omega
        gi_wp2_with fail
        refine hR1.mono ?_
        rintro e W3 h3
        rcases HEND.out _ _ h3 with ⟨rfl, hT3, hQ3, hJ3⟩ | ⟨rfl, hx3⟩
        · have d2 := box1 hQ3
          have HT3 := Lib.hid hT3
          have HQ3 := Lib.hid hQ3
          have HJ3 := Lib.hid hJ3
          clear h3 hT3 hQ3 hJ3 c1 c2
          gi_wp2
          go_roundw
          case rel => exact ⟨k + 1, u, HNM.out, by omega, hu2, by go_num, HT3.out, HQ3.out, pre ++ [⟨k, hkn⟩], by rw [ixs_snoc, HPre.out, List.range_succ], HJ3.out⟩
          case measure => simp [intOf]; omega
        · gi_wp2
          refine bodyPost_ret (results_none rfl _ _ _) rfl ?_
          exact ⟨⟨_, rfl⟩, .inr ⟨pre ++ [⟨k, hkn⟩], ⟨k, hkn, by rw [ixs_snoc, HPre.out, List.range_succ]⟩, hx3⟩⟩
    · have hke : k = nP t.size q := by
        have : ¬ k < nP t.size q := fun h => hml (HLT.out.1 h)
        omega
      have HKE := Lib.hid hke
      clear hke hsl
      gi_wp2
      go_end0
      exact ⟨⟨_, rfl⟩, .inl ⟨pre, by rw [HPre.out, HKE.out], hJk⟩⟩
end Go.Proofs.Ytlncjheifkbomaa
