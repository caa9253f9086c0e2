/- field.Log goes through the powers of 2 by an iterator: its contract, and the iterator's (no condition but that the argument is a byte). -/
import Derived.Test.YtfgfkgelgkabkaaFieldB
import Derived.Test.YtfgfkgelgkabkaaRange
import Derived.WalkMore
namespace Go.Proofs.Ytfgfkgelgkabkaa
open Go.RowKit Go.Shelf
attribute [local go_sem] Oper.semAt_some

theorem ranges_snoc (k : Nat) : List.range (k + 1) = List.range k ++ [k] := List.range_succ

set_option maxRecDepth 100000 in
set_option maxHeartbeats 1000000 in
/-- The iterator: number by number, each with the power of 2; it stops where a round says so. -/
theorem powers_stops (n : Nat) (hn : 1 ≤ n) (n₀ : Nat) (w : World) :
    SeqStopsK Fence.wide n Try.prog 25 #[] (fun k : Nat => #[Value.int .i64 (k : Int), .int .u8 (Gf.dbls k : Nat)]) (Below n₀) (fun xs => xs = List.range 255) (fun pre => ∃ k, k < 255 ∧ pre = List.range (k + 1)) 255 w := fun l J Jx W _ _ _ hY h0 => by
  refine callsIn_of_wp Try.func25 rfl trivial ?_ rfl
  simp only [Try.ntmps25, List.size_toArray, List.length_nil, List.length_cons, Nat.reduceAdd, Nat.reduceSub, Array.replicate_succ, Array.replicate_zero, List.push_toArray, List.append_toArray, List.nil_append, List.cons_append]
  gi_wp2
  gi_loopw [2, 4] (fun x i wr => ∃ k : Nat, k ≤ 255 ∧ i = .int .i64 k ∧ x = .int .u8 (Gf.dbls k : Nat) ∧ J (List.range k) wr) (fun _ i _ => 255 - (intOf i).toNat)
  case atStart => exact ⟨0, by omega, rfl, rfl, h0⟩
  case round =>
    obtain ⟨k, hk, rfl, rfl, hJ⟩ := hrel
    have hx := Gf.dbls_lt k
    by_cases hlt : k < 255
    · obtain ⟨f1, t1, a1, b1, hy1, hR1⟩ := hY (List.range k) k wr hJ (by simpa using hlt)
      gi_wp2
      refine hR1.mono ?_
      rintro e W1 (⟨rfl, hJ1, _⟩ | ⟨rfl, hx1⟩)
      · gi_wp2_with (refine ⟨trivial, ?_⟩; gi_at_call 23; refine (callsIn_wide.2 (double_any _ (by assumption) _)).mono ?_; rintro e w' ⟨rfl, rfl⟩)
        go_roundw
        case rel => exact ⟨k + 1, by omega, by go_num, rfl, by rw [ranges_snoc]; exact hJ1⟩
        case measure => simp [intOf]; omega
      · gi_wp2
        refine bodyPost_ret (results_none rfl _ _ _) rfl ?_
        exact ⟨⟨_, rfl⟩, .inr ⟨List.range (k + 1), ⟨k, hlt, rfl⟩, by rw [ranges_snoc]; exact hx1⟩⟩
    · gi_wp2
      go_end0
      obtain rfl : k = 255 := by omega
      exact ⟨⟨_, rfl⟩, .inl ⟨_, rfl, hJ⟩⟩

set_option maxRecDepth 100000 in
set_option maxHeartbeats 2000000 in
theorem log_in (a : Nat) (h0 : 0 < a) (ha : a < 256) (w : World) :
    CallsIn Fence.wide 6 Try.prog 16 #[.int .u8 a] w fun e W' => e = .returned (.tuple #[.int .i64 (Gf.log a : Nat), .int .i64 0]) ∧ Below w.heap.size w W' := by
  have hb : ((a : Int) == 0) = false := by rw [beq_eq_false_iff_ne]; omega
  refine callsIn_of_wp_marks Try.func16 rfl trivial ?_ rfl
  simp only [Try.ntmps16, List.size_toArray, List.length_nil, List.length_cons, Nat.reduceAdd, Nat.reduceSub, Array.replicate_succ, Array.replicate_zero, List.push_toArray, List.append_toArray, List.nil_append, List.cons_append]
  gi_wp2
  refine wpIn_scope ?_
  gi_wp2
  refine wpIn_label ?_
  gi_wp2
  have c0 := box_new w (.int .u8 (a : Int)) 5
  have c1 := box_new (w.alloc (.cells #[.int .u8 (a : Int)] 5)) (.int .i64 0) 3
  simp only [World.size_alloc] at c1
  have c0' := box_later (.cells #[.int .i64 0] 3) c0.1 c0.2
  have hB0 : Below w.heap.size w ((w.alloc (.cells #[.int .u8 (a : Int)] 5)).alloc (.cells #[.int .i64 0] 3)) := ((Kept.refl w).alloc _).alloc _
  refine wpIn_rangeFunc_ownF rfl (by omega) (gf := 25) (lb := #[]) rfl trivial (enters_of Try.func25 (by kernel_rfl) rfl)
    (powers_stops 5 (by omega) w.heap.size _) belowK_t (belowK_b (by simp; omega)) (Below.refl _ _) (fun _ => rfl)
    (fun pre W => ((∀ k ∈ pre, Gf.dbls k ≠ a) ∧ W.cell? ⟨w.heap.size, 0, none⟩ = some (.int .u8 (a : Int)) ∧ W.cell? ⟨w.heap.size + 1, 0, none⟩ = some (.int .i64 0) ∧ W.frozen? ⟨w.heap.size + 1, 0, none⟩ = false) ∧ Below w.heap.size w W)
    (fun c pre W => (c = .exit 0 ∧ (∃ k, pre.getLast? = some k ∧ Gf.dbls k = a ∧ W.cell? ⟨w.heap.size + 1, 0, none⟩ = some (.int .i64 (k : Int)))) ∧ Below w.heap.size w W)
    (OwnFrom.and (Own.from (fun s A B row hs hg hr => ⟨hs.1, cell_kept hs.2.1 hg hr, cell_kept hs.2.2.1 hg hr, (frozen_kept hs.2.2.1 hg hr).trans hs.2.2.2⟩) _) (ownFrom_below (Nat.le_refl _) (by simp; omega)))
    (fun c => OwnFrom.and (Own.from (fun s A B row hs hg hr => ⟨hs.1, by obtain ⟨_, k, h1, h2, h3⟩ := hs; exact ⟨k, h1, h2, cell_kept h3 hg hr⟩⟩) _) (ownFrom_below (Nat.le_refl _) (by simp; omega)))
    ⟨⟨by simp, c0'.1, c1.1, c1.2⟩, hB0⟩
    (fun k => { tmps := #[.int .u8 (a : Int), .pointer (some ⟨w.heap.size, 0, none⟩), .int .i64 0, .int .i64 0, .pointer (some ⟨w.heap.size + 1, 0, none⟩), .int .i64 (k : Int), .int .u8 (Gf.dbls k : Nat), .int .u8 (a : Int), .bool false, .int .i64 (k : Int), .int .u8 (Gf.dbls k : Nat), undef, undef, undef, undef, undef], defers := [] }) ?assign ?body ?done ?stop
  case assign =>
    intro l x W K hK
    gi_wp2
    exact hK
  case body =>
    rintro l pre k W ⟨⟨hp, hca, hcl, hfr⟩, hB⟩ _
    by_cases hd : Gf.dbls k = a
    · have ht : (((Gf.dbls k : Nat) : Int) != (a : Int)) = false := by rw [hd]; simp
      have HD := Lib.hid hd
      clear hd hp
      gi_wp2
      exact ⟨KeepsOthers.setCell _ _ _, ⟨rfl, k, by simp, HD.out, World.cell?_setCell_same' _ _ _ (by rw [hcl]; rfl)⟩, hB.setCell (p := ⟨w.heap.size + 1, 0, none⟩) (by simp) _⟩
    · have ht : (((Gf.dbls k : Nat) : Int) != (a : Int)) = true := by rw [bne_iff_ne]; omega
      have HD := Lib.hid hd
      have HP := Lib.hid hp
      clear hd hp
      gi_wp2
      exact ⟨KeepsOthers.refl _, Below.refl _ _, ⟨fun y hy => (List.mem_append.1 hy).elim (HP.out y) (fun e => by simp at e; subst e; exact HD.out), hca, hcl, hfr⟩, hB⟩
  case done =>
    rintro D ys W hD rfl ⟨⟨hne, _, _, _⟩, hB⟩ hK
    obtain ⟨hl, hd⟩ := Gf.log_lt a h0 ha
    exact absurd hd (hne _ (List.mem_range.2 hl))
  case stop =>
    rintro D c pre W hD ⟨m, hm, rfl⟩ ⟨⟨rfl, k, hk, hd, hcl⟩, hB⟩ hK
    have hkm : k = m := by simpa [List.range_succ] using hk.symm
    have hlog : k = Gf.log a := by rw [← hd, (Gf.log_dbls k (by omega)).2]
    have HL := Lib.hid hlog
    clear hk hkm hlog hd
    gi_wp2
    refine noGoto_ret ⟨by simp, .inl ⟨_, _, rfl, run_takeDeferred hK, ?_⟩⟩
    refine ⟨.tuple #[.int .i64 (k : Int), .int .i64 0], ?_, by rw [HL.out], hB.trans (belowK_b (w := w) (Nat.le_refl _) W D _ _ (by simp at hD; omega) hK rfl rfl)⟩
    simp [results, Try.f16, go_sem]
theorem log_any (a : Nat) (h0 : 0 < a) (ha : a < 256) (w : World) :
    Calls Try.prog 16 #[.int .u8 a] w fun e W' => e = .returned (.tuple #[.int .i64 (Gf.log a : Nat), .int .i64 0]) ∧ Below w.heap.size w W' :=
  callsIn_wide.1 (log_in a h0 ha w)
theorem log_zero (w : World) :
    Calls Try.prog 16 #[.int .u8 0] w fun e W' => e = .returned (.tuple #[.int .i64 0, .int .i64 1]) ∧ Below w.heap.size w W' := by
  go_enter Try.func16, Try.ntmps16
  go_wp2
  go_step3
  go_wp2
  rw [Exit.noGoto_ret]
  go_ret2
  exact ⟨rfl, (Kept.refl w).alloc _⟩
end Go.Proofs.Ytfgfkgelgkabkaa
