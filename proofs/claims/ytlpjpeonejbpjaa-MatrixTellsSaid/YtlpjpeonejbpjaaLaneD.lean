/- lane.Scale and lane.MulAdd, by what they answer (no condition but that the factor is a byte, and lengths fit an int). -/
import Derived.Test.YtlpjpeonejbpjaaLaneC
import Derived.Test.YtlpjpeonejbpjaaFit
namespace Go.Proofs.Ytlpjpeonejbpjaa
open Go.RowKit Go.Shelf
attribute [local go_sem] Oper.semAt_some

theorem Try.infoU8 : (Try.prog.info? 5).map (fun i => (i.zero, i.size, i.bytes)) = some (some (.int .u8 0), 1, 1) := by kernel_rfl

/-- 'make([]byte, n)' -/
theorem make_bytes (n : Nat) (hn : n ≤ 281474976710656) : ∀ u : World, (Instr.makeSlice 44 (.int .i64 n) (.int .i64 n)).run Try.prog u =
    .ok (.slice (some ⟨u.heap.size, 0, none⟩) n n) (u.alloc (.cells (madeCells #[.int .u8 0] n) 5)) := fun u => by
  obtain ⟨i0, hi, hz0, hz1, hz2⟩ := info_parts Try.infoU8
  have h := run_make (P := Try.prog) u 44 5 i0 (.int .u8 0) Try.underlying44 hi hz0 .i64 .i64 (n : Int) (n : Int) (by omega) (Int.le_refl _) (by rw [hz2]; omega) (by omega)
  simpa [hz1, Value.cells] using h
theorem made_buf (u : World) (n : Nat) : Buf (u.alloc (.cells (madeCells #[.int .u8 0] n) 5)) u.heap.size (List.replicate n 0) := by
  refine ⟨by simp, fun i hi => ?_, fun i hi => ?_⟩
  · rw [cell_new]
    have hi' : i < n := by simpa using hi
    simp [madeCells, hi', Nat.mod_one]
  · exact (BlockAt.new u (madeCells #[.int .u8 0] n) 5).free i

theorem fitE_one (a : ByteArray) : fitE [a] = if 8192 < a.size then 2 else 0 := by
  unfold fitE
  by_cases h : 8192 < a.size
  · simp [long, h]
  · simp [long, unlike, h]

/-- the bytes of a lane, each times c -/
def gs (a : ByteArray) (c : Nat) : Nat → UInt8 → UInt8 := fun i _ => gm (byteAt a i) c
theorem gs_all (a : ByteArray) (c : Nat) : (List.replicate a.size (0 : UInt8)).mapIdx (gs a c) = scaled a.data.toList c := by
  apply List.ext_getElem
  · simp [scaled]
  · intro i h1 h2
    have hi : i < a.size := by simpa using h1
    simp only [List.getElem_mapIdx, gs, scaled, List.getElem_map, Array.getElem_toList]
    rw [← byteAt_get a i hi]
    rfl
theorem gs_toNat (a : ByteArray) (c : Nat) (hc : c < 256) (i : Nat) (x : UInt8) : (gs a c i x).toNat = Gf.mul c (byteAt a i).toNat := by
  unfold gs
  rw [gm_toNat, Gf.mul_comm _ _ (UInt8.toNat_lt _) hc]

set_option maxRecDepth 100000 in
set_option maxHeartbeats 1000000 in
theorem scale_long (a : ByteArray) (c : Nat) (ha : a.size ≤ 9223372036854775807) (hl : 8192 < a.size) (w : World) :
    Calls Try.prog 16 #[.string a, .int .u8 c] w fun e w' => e = .returned (.tuple #[.string ByteArray.empty, .int .i64 2]) ∧ Kept w w' := by
  have hb := StrsIn.built w [a] 9 (by simp) (fun s hs => by simp at hs; rw [hs]; exact ha)
  have he := fitE_one a
  rw [if_pos hl] at he
  go_enter Try.func16, Try.ntmps16
  go_wp2_with (go_at_call 66; refine (fit_any _ 1 1 [a] _ hb).mono ?_; rintro e w1 ⟨rfl, rfl⟩; rw [he])
  go_ret2
  exact ⟨rfl, (Kept.refl w).alloc _⟩

set_option maxRecDepth 100000 in
set_option maxHeartbeats 2000000 in
theorem scale_any (a : ByteArray) (c : Nat) (hc : c < 256) (ha : a.size ≤ 8192) (w : World) :
    Calls Try.prog 16 #[.string a, .int .u8 c] w fun e w' => e = .returned (.tuple #[.string (scaledS a c), .int .i64 0]) ∧ Below w.heap.size w w' := by
  have hb := StrsIn.built w [a] 9 (by simp) (fun s hs => by simp at hs; rw [hs]; omega)
  have he := fitE_one a
  rw [if_neg (by omega)] at he
  have hmk := make_bytes a.size (by omega)
  refine callsIn_wide.1 (callsIn_of_wp_marks (n := 8) Try.func16 rfl trivial ?_ rfl)
  simp only [Try.ntmps16, List.size_toArray, List.length_nil, List.length_cons, Nat.reduceAdd, Nat.reduceSub, Array.replicate_succ, Array.replicate_zero, List.push_toArray, List.append_toArray, List.nil_append, List.cons_append]
  refine wpIn_wide.2 ?_
  go_wp2_with (go_at_call 66; refine (fit_any _ 1 1 [a] _ hb).mono ?_; rintro e w1 ⟨rfl, rfl⟩; rw [he])
  refine (times_any a c _).mono ?_
  rintro e w1 ⟨rfl, hw1⟩
  have hB0 : Kept w w1 := by rw [hw1]; exact ((((Kept.refl w).alloc _).alloc _).alloc _).alloc _ |>.alloc _
  have hz1 : w1.heap.size = w.heap.size + 5 := by rw [hw1]; simp
  have hbuf : Buf w1 (w.heap.size + 1) (List.replicate a.size 0) := by
    have h := made_buf (w.alloc (.cells #[.string a] 9)) a.size
    rw [World.size_alloc] at h
    rw [hw1]
    exact h.kept ((((Kept.refl _).alloc _).alloc _).alloc _)
  have hbox : w1.cell? ⟨w.heap.size + 1 + 1, 0, none⟩ = some (.slice (some ⟨w.heap.size + 1, 0, none⟩) a.size a.size) := by
    have h := (BlockAt.new ((w.alloc (.cells #[.string a] 9)).alloc (.cells (madeCells #[.int .u8 0] a.size) 5)) #[.slice (some ⟨w.heap.size + 1, 0, none⟩) a.size a.size] 44)
    have h' := h.kept (((Kept.refl _).alloc (.cells #[.string a] 9)).alloc (.cells #[.int .u8 (c : Int)] 5))
    rw [World.size_alloc, World.size_alloc] at h'
    rw [hw1]
    exact h'.cell 0
  have hba : BlockAt w1 (w.heap.size + 1 + 1 + 1) #[.string a] 9 := by
    have h := BlockAt.new (((w.alloc (.cells #[.string a] 9)).alloc (.cells (madeCells #[.int .u8 0] a.size) 5)).alloc (.cells #[.slice (some ⟨w.heap.size + 1, 0, none⟩) a.size a.size] 44)) #[.string a] 9
    have h' := h.kept ((Kept.refl _).alloc (.cells #[.int .u8 (c : Int)] 5))
    rw [World.size_alloc, World.size_alloc, World.size_alloc] at h'
    rw [hw1]
    exact h'
  have hbc : BlockAt w1 (w.heap.size + 1 + 1 + 1 + 1) #[.int .u8 (c : Int)] 5 := by
    have h := BlockAt.new ((((w.alloc (.cells #[.string a] 9)).alloc (.cells (madeCells #[.int .u8 0] a.size) 5)).alloc (.cells #[.slice (some ⟨w.heap.size + 1, 0, none⟩) a.size a.size] 44)).alloc (.cells #[.string a] 9)) #[.int .u8 (c : Int)] 5
    rw [World.size_alloc, World.size_alloc, World.size_alloc, World.size_alloc] at h
    rw [hw1]
    exact h
  clear hw1 hb he hmk
  go_wp2
  refine wp_of_in 8 ?_
  refine wpIn_rangeFunc_ownF rfl (by omega) (gf := 83) (lb := #[.pointer (some ⟨w.heap.size + 1 + 1 + 1 + 1, 0, none⟩), .pointer (some ⟨w.heap.size + 1 + 1 + 1, 0, none⟩)]) rfl trivial (enters_of Try.func83 (by kernel_rfl) rfl)
    (times_stops 7 (by omega) (fun k => k = w.heap.size + 1) a (by omega) c hc (w.heap.size + 1 + 1 + 1) (w.heap.size + 1 + 1 + 1 + 1) w1 (fun k e => by omega) (by omega) hba hbc) CellsBut.trans CellsBut.putObj (Below.refl _ _) (fun _ => rfl)
    (fun pre W => (W.cell? ⟨w.heap.size + 1 + 1, 0, none⟩ = some (.slice (some ⟨w.heap.size + 1, 0, none⟩) a.size a.size) ∧ Buf W (w.heap.size + 1) (setAll (gs a c) (List.replicate a.size 0) (ixs pre))) ∧ Below w.heap.size w W)
    (fun _ _ _ => False)
    (OwnFrom.and (Own.from (fun s A B row hs hg hr => ⟨cell_kept hs.1 hg hr, hs.2.grown hg hr⟩) _) (ownFrom_below (Nat.le_refl _) (by omega)))
    (fun _ _ _ _ _ hs _ _ => hs)
    ⟨⟨hbox, hbuf⟩, hB0⟩
    (fun k => { tmps := #[.string a, .int .u8 (c : Int), undef, undef, .string { data := #[] }, .int .i64 0, .int .i64 0, .pointer (some ⟨w.heap.size + 1 + 1, 0, none⟩), .int .i64 (k.1 : Int), .int .u8 (Gf.mul c (byteAt a k.1).toNat : Nat),
      .string a, .slice (some ⟨w.heap.size, 0, none⟩) 1 1, .int .i64 0, .int .i64 0, .bool false, undef, .string a, .int .i64 (a.size : Int), .slice (some ⟨w.heap.size + 1, 0, none⟩) a.size a.size, .string a, .int .u8 (c : Int),
      .func (.func 83) #[] #[.pointer (some ⟨w.heap.size + 1 + 1 + 1 + 1, 0, none⟩), .pointer (some ⟨w.heap.size + 1 + 1 + 1, 0, none⟩)], .int .i64 (k.1 : Int), .int .u8 (Gf.mul c (byteAt a k.1).toNat : Nat), undef, undef, undef, undef, undef, undef], defers := [] }) ?assign ?body ?done ?stop
  case assign =>
    intro l x W K hK
    gi_wp2
    exact hK
  case body =>
    rintro l pre ⟨k, hk⟩ W ⟨⟨hcb, hbf⟩, hB⟩ _
    have hkl : k < (setAll (gs a c) (List.replicate a.size 0) (ixs pre)).length := by rw [setAll_length]; simpa using hk
    have hcell := hbf.cell k hkl
    have hfree := hbf.free k hkl
    have hst := hbf.set k hkl (gs a c k ((setAll (gs a c) (List.replicate a.size 0) (ixs pre)).getD k 0))
    rw [gs_toNat a c hc] at hst
    have hsn : setAll (gs a c) (List.replicate a.size 0) (ixs (pre ++ [⟨k, hk⟩])) = (setAll (gs a c) (List.replicate a.size 0) (ixs pre)).set k (gs a c k ((setAll (gs a c) (List.replicate a.size 0) (ixs pre)).getD k 0)) := by
      rw [ixs_snoc, setAll_snoc]; rfl
    have HST := Lib.hid hst
    have HSN := Lib.hid hsn
    clear hbf hst hsn
    generalize (setAll (gs a c) (List.replicate a.size 0) (ixs pre))[k] = old at hcell
    clear hkl
    have hcb2 := hcb
    have HCB := Lib.hid hcb2
    clear hcb2
    gi_wp2
    refine ⟨KeepsOthers.setCell _ _ _, CellsBut.setCell _ _ rfl, ⟨cell_other HCB.out (by omega), by rw [HSN.out]; exact HST.out⟩, hB.setCell (p := ⟨w.heap.size + 1, k, none⟩) (by simp) _⟩
  case done =>
    rintro D ys W hD hys ⟨⟨hcb, hbf⟩, hB⟩ hK
    rw [hys, setAll_range _ _ _ (by simp), upto_all _ _ _ (by simp), gs_all] at hbf
    have hconv := hbf.string (P := Try.prog) 44 9 5 Try.underlying44 Try.underlying5 Try.underlying9 a.size
    rw [show (scaled a.data.toList c).length = a.size by simp [scaled]] at hconv
    clear hbf
    go_wp2
    refine ⟨by simp, .inl ⟨_, _, rfl, run_takeDeferred hK, ?_⟩⟩
    refine ⟨.tuple #[.string (scaledS a c), .int .i64 0], ?_, rfl, hB.trans (belowK_b (w := w) (Nat.le_refl _) W D _ _ (by omega) hK rfl rfl)⟩
    simp [results, Try.f16, go_sem, scaledS]
  case stop =>
    rintro D c' pre W _ _ h _
    exact h.elim
end Go.Proofs.Ytlpjpeonejbpjaa
