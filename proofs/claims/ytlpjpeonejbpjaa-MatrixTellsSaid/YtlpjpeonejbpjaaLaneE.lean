/- lane.MulAdd and lane.Add, by what they answer (no condition but that the factor is a byte, and lengths fit an int). -/
import Derived.Test.YtlpjpeonejbpjaaLaneD
import Derived.Test.YtlpjpeonejbpjaaTail
namespace Go.Proofs.Ytlpjpeonejbpjaa
open Go.RowKit Go.Shelf
attribute [local go_sem] Oper.semAt_some

theorem keepsOthers_drewN (W : World) (n : Nat) : KeepsOthers W (W.drewN n) := ⟨Nat.le_refl _, fun _ _ h _ => h⟩
theorem cell?_drewN' (W : World) (n : Nat) (p : Addr) : (W.drewN n).cell? p = W.cell? p := rfl
def fit2 (a b : ByteArray) : Int := if 8192 < a.size ∨ 8192 < b.size then 2 else if b.size ≠ a.size then 1 else 0
theorem fitE_two (a b : ByteArray) : fitE [a, b] = fit2 a b := by
  unfold fitE fit2
  by_cases h1 : 8192 < a.size <;> by_cases h2 : 8192 < b.size <;> by_cases h3 : b.size = a.size <;> simp [long, unlike, h1, h2, h3]
theorem built2 (w : World) (a b : ByteArray) (ha : a.size ≤ 9223372036854775807) (hb : b.size ≤ 9223372036854775807) : StrsIn (w.alloc (.cells #[.string a, .string b] 9)) (some ⟨w.heap.size, 0, none⟩) 2 [a, b] :=
  StrsIn.built w [a, b] 9 (by simp) (fun s hs => by simp at hs; rcases hs with h | h <;> rw [h] <;> assumption)

/-- a lane's bytes, added to those that are there, each times c -/
def ga (b : ByteArray) (c : Nat) : Nat → UInt8 → UInt8 := fun i x => x ^^^ gm (byteAt b i) c
theorem byteAt_scaled (b : ByteArray) (c i : Nat) (hi : i < b.size) : byteAt (scaledS b c) i = gm (byteAt b i) c := by
  have hi' : i < b.data.toList.length := by simpa using hi
  have e : byteAt b i = b.data.toList[i] := by
    unfold byteAt; rw [List.getD_eq_getElem?_getD, List.getElem?_eq_getElem hi']; rfl
  rw [e]
  unfold byteAt scaledS scaled
  simp [List.getD_eq_getElem?_getD, hi]
theorem ga_all (a b : ByteArray) (c : Nat) (h : b.size = a.size) : a.data.toList.mapIdx (ga b c) = added a.data.toList (scaledS b c) := by
  apply List.ext_getElem
  · simp [added]
  · intro i h1 h2
    have hi : i < b.size := by rw [h]; simpa using h1
    simp only [added, List.getElem_mapIdx, ga]
    rw [byteAt_scaled b c i hi]
theorem ga_toNat (b : ByteArray) (c : Nat) (hc : c < 256) (i : Nat) (x : UInt8) : (ga b c i x).toNat = x.toNat ^^^ Gf.mul c (byteAt b i).toNat := by
  unfold ga
  rw [UInt8.toNat_xor, gm_toNat, Gf.mul_comm _ _ (UInt8.toNat_lt _) hc]

set_option maxRecDepth 100000 in
set_option maxHeartbeats 1000000 in
theorem muladd_bad (a b : ByteArray) (c : Nat) (ha : a.size ≤ 9223372036854775807) (hb : b.size ≤ 9223372036854775807) (h : fit2 a b ≠ 0) (w : World) :
    Calls Try.prog 20 #[.string a, .string b, .int .u8 c] w fun e w' => e = .returned (.tuple #[.string ByteArray.empty, .int .i64 (fit2 a b)]) ∧ Kept w w' := by
  have hs := built2 w a b ha hb
  have he := fitE_two a b
  have hz : (fit2 a b != 0) = true := by rw [bne_iff_ne]; exact h
  clear h
  go_enter Try.func20, Try.ntmps20
  go_wp2_with (go_at_call 66; refine (fit_any _ 2 2 [a, b] _ hs).mono ?_; rintro e w1 ⟨rfl, rfl⟩; rw [he])
  go_ret2
  exact ⟨rfl, (Kept.refl w).alloc _⟩

set_option maxRecDepth 100000 in
set_option maxHeartbeats 2000000 in
theorem muladd_any (a b : ByteArray) (c : Nat) (hc : c < 256) (ha : a.size ≤ 8192) (hab : b.size = a.size) (w : World) :
    Calls Try.prog 20 #[.string a, .string b, .int .u8 c] w fun e w' => e = .returned (.tuple #[.string (addedS a (scaledS b c)), .int .i64 0]) ∧ Below w.heap.size w w' := by
  have hs := built2 w a b (by omega) (by omega)
  have he := fitE_two a b
  rw [show fit2 a b = 0 by unfold fit2; rw [if_neg (by omega), if_neg (by omega)]] at he
  have hconv := bytes_of (P := Try.prog) 9 44 5 a Try.underlying9 Try.underlying44 Try.underlying5
  refine callsIn_wide.1 (callsIn_of_wp_marks (n := 8) Try.func20 rfl trivial ?_ rfl)
  simp only [Try.ntmps20, List.size_toArray, List.length_nil, List.length_cons, Nat.reduceAdd, Nat.reduceSub, Array.replicate_succ, Array.replicate_zero, List.push_toArray, List.append_toArray, List.nil_append, List.cons_append]
  refine wpIn_wide.2 ?_
  go_wp2_with (go_at_call 66; refine (fit_any _ 2 2 [a, b] _ hs).mono ?_; rintro e w1 ⟨rfl, rfl⟩; rw [he])
  have hb2 := bytesBehind_buf (w.alloc (.cells #[.string a, .string b] 9)) 5 a
  have hz2 := bytesBehind_size (w.alloc (.cells #[.string a, .string b] 9)) 5 a
  have hk2 : Kept w (bytesBehind (w.alloc (.cells #[.string a, .string b] 9)) 5 a) := ((Kept.refl w).alloc _).trans (bytesBehind_kept _ _ _)
  rw [World.size_alloc] at hb2 hz2
  clear hconv hs he
  generalize grownCap (w.alloc (.cells #[.string a, .string b] 9)) a.size 0 5 = cap
  generalize bytesBehind (w.alloc (.cells #[.string a, .string b] 9)) 5 a = w2 at hb2 hz2 hk2 ⊢
  rw [show w2.heap.size = w.heap.size + 1 + 1 from hz2]
  refine (times_any b c _).mono ?_
  rintro e w1 ⟨rfl, hw1⟩
  have hB0 : Kept w w1 := by rw [hw1]; exact ((hk2.alloc _).alloc _).alloc _
  have hz1 : w1.heap.size = w.heap.size + 5 := by rw [hw1]; simp [hz2]
  have hbuf : Buf w1 (w.heap.size + 1) a.data.toList := by
    rw [hw1]
    exact hb2.kept ((((Kept.refl _).alloc _).alloc _).alloc _)
  have hbox : w1.cell? ⟨w.heap.size + 1 + 1, 0, none⟩ = some (.slice (some ⟨w.heap.size + 1, 0, none⟩) a.size cap) := by
    have h := (BlockAt.new w2 #[.slice (some ⟨w.heap.size + 1, 0, none⟩) a.size cap] 44).kept (((Kept.refl _).alloc (.cells #[.string b] 9)).alloc (.cells #[.int .u8 (c : Int)] 5))
    rw [hz2] at h
    rw [hw1]
    exact h.cell 0
  have hba : BlockAt w1 (w.heap.size + 1 + 1 + 1) #[.string b] 9 := by
    have h := (BlockAt.new (w2.alloc (.cells #[.slice (some ⟨w.heap.size + 1, 0, none⟩) a.size cap] 44)) #[.string b] 9).kept ((Kept.refl _).alloc (.cells #[.int .u8 (c : Int)] 5))
    rw [World.size_alloc, hz2] at h
    rw [hw1]
    exact h
  have hbc : BlockAt w1 (w.heap.size + 1 + 1 + 1 + 1) #[.int .u8 (c : Int)] 5 := by
    have h := BlockAt.new ((w2.alloc (.cells #[.slice (some ⟨w.heap.size + 1, 0, none⟩) a.size cap] 44)).alloc (.cells #[.string b] 9)) #[.int .u8 (c : Int)] 5
    rw [World.size_alloc, World.size_alloc, hz2] at h
    rw [hw1]
    exact h
  rw [World.size_alloc, show w2.heap.size = w.heap.size + 1 + 1 from hz2]
  clear hw1 hb2 hz2 hk2
  go_wp2
  refine wp_of_in 8 ?_
  refine wpIn_rangeFunc_ownF rfl (by omega) (gf := 83) (lb := #[.pointer (some ⟨w.heap.size + 1 + 1 + 1 + 1, 0, none⟩), .pointer (some ⟨w.heap.size + 1 + 1 + 1, 0, none⟩)]) rfl trivial (enters_of Try.func83 (by kernel_rfl) rfl)
    (times_stops 7 (by omega) (fun k => k = w.heap.size + 1) b (by omega) c hc (w.heap.size + 1 + 1 + 1) (w.heap.size + 1 + 1 + 1 + 1) w1 (fun k e => by omega) (by omega) hba hbc) CellsBut.trans CellsBut.putObj (Below.refl _ _) (fun _ => rfl)
    (fun pre W => (W.cell? ⟨w.heap.size + 1 + 1, 0, none⟩ = some (.slice (some ⟨w.heap.size + 1, 0, none⟩) a.size cap) ∧ Buf W (w.heap.size + 1) (setAll (ga b c) a.data.toList (ixs pre))) ∧ Below w.heap.size w W)
    (fun _ _ _ => False)
    (OwnFrom.and (Own.from (fun s A B row hs hg hr => ⟨cell_kept hs.1 hg hr, hs.2.grown hg hr⟩) _) (ownFrom_below (Nat.le_refl _) (by omega)))
    (fun _ _ _ _ _ hs _ _ => hs)
    ⟨⟨hbox, hbuf⟩, hB0⟩
    (fun k => { tmps := #[.string a, .string b, .int .u8 (c : Int), undef, undef, undef, .string { data := #[] }, .int .i64 0, .int .i64 0, .pointer (some ⟨w.heap.size + 1 + 1, 0, none⟩), .int .i64 (k.1 : Int), .int .u8 (Gf.mul c (byteAt b k.1).toNat : Nat),
      .string a, .string b, .slice (some ⟨w.heap.size, 0, none⟩) 2 2, .int .i64 0, .int .i64 0, .bool false, undef, .string a, .slice (some ⟨w.heap.size + 1, 0, none⟩) a.size cap, .string b, .int .u8 (c : Int),
      .func (.func 83) #[] #[.pointer (some ⟨w.heap.size + 1 + 1 + 1 + 1, 0, none⟩), .pointer (some ⟨w.heap.size + 1 + 1 + 1, 0, none⟩)], .int .i64 (k.1 : Int), .int .u8 (Gf.mul c (byteAt b k.1).toNat : Nat), undef, undef, undef, undef, undef, undef, undef, undef, undef, undef, undef], defers := [] }) ?assign ?body ?done ?stop
  case assign =>
    intro l x W K hK
    gi_wp2
    exact hK
  case body =>
    rintro l pre ⟨k, hk⟩ W ⟨⟨hcb, hbf⟩, hB⟩ _
    have hkl : k < (setAll (ga b c) a.data.toList (ixs pre)).length := by rw [setAll_length, str_size]; omega
    have hka : k < a.size := by omega
    have hcell := hbf.cell k hkl
    have hfree := hbf.free k hkl
    have hst := fun (n : Nat) => (hbf.kept ((Kept.refl W).drewN n)).set k hkl (ga b c k ((setAll (ga b c) a.data.toList (ixs pre)).getD k 0))
    have hsn : setAll (ga b c) a.data.toList (ixs (pre ++ [⟨k, hk⟩])) = (setAll (ga b c) a.data.toList (ixs pre)).set k (ga b c k ((setAll (ga b c) a.data.toList (ixs pre)).getD k 0)) := by
      rw [ixs_snoc, setAll_snoc]; rfl
    have hge : (setAll (ga b c) a.data.toList (ixs pre)).getD k 0 = (setAll (ga b c) a.data.toList (ixs pre))[k] := by
      rw [List.getD_eq_getElem?_getD, List.getElem?_eq_getElem hkl]; rfl
    rw [hge] at hsn
    simp only [hge, ga_toNat b c hc] at hst
    have HST := Lib.hid hst
    have HSN := Lib.hid hsn
    clear hbf hst hsn hge
    generalize (setAll (ga b c) a.data.toList (ixs pre))[k] = old at hcell HST HSN
    clear hkl
    have ho := UInt8.toNat_lt old
    have hm := Gf.mul_lt hc (byteAt b k).toNat
    have hcb2 := hcb
    have HCB := Lib.hid hcb2
    clear hcb2
    gi_wp2
    refine wpIn_region_quiet_tail_lit 9 (by kernel_rfl) (by kernel_rfl) (by kernel_rfl) ?_
    simp only [List.take_succ_cons, List.take_zero, List.drop_succ_cons, List.drop_zero]
    repeat (gi_big_quiet_step ((gi_at_call 69; exact (CallsIn.inRound l (callsIn_wide.2 (quietly (add_any _ _ ho hm _)))).mono fun e w' h => h)))
    refine wpQuietIn_nil ?_
    intro _ hw'
    obtain ⟨nq, hw''⟩ := hw'
    subst hw''
    gi_wp2
    refine ⟨(keepsOthers_drewN W nq).trans (KeepsOthers.setCell _ _ _), (CellsBut.of_kept ((Kept.refl W).drewN nq)).trans (CellsBut.setCell _ _ rfl), ⟨cell_other ?_ (by omega), ?_⟩, (hB.trans (((Kept.refl W).drewN nq).below.mono hB.size)).setCell (p := ⟨w.heap.size + 1, k, none⟩) (by simp) _⟩
    · rw [cell?_drewN']; exact HCB.out
    · rw [HSN.out]; exact HST.out nq
  case done =>
    rintro D ys W hD hys ⟨⟨hcb, hbf⟩, hB⟩ hK
    rw [hys, setAll_range _ _ _ (by rw [str_size]; omega), upto_all _ _ _ (by rw [str_size]; omega), ga_all a b c hab] at hbf
    have hconv := hbf.string (P := Try.prog) 44 9 5 Try.underlying44 Try.underlying5 Try.underlying9 cap
    rw [show (added a.data.toList (scaledS b c)).length = a.size by simp [added]] at hconv
    clear hbf
    go_wp2
    refine ⟨by simp, .inl ⟨_, _, rfl, run_takeDeferred hK, ?_⟩⟩
    refine ⟨.tuple #[.string (addedS a (scaledS b c)), .int .i64 0], ?_, rfl, hB.trans (belowK_b (w := w) (Nat.le_refl _) W D _ _ (by omega) hK rfl rfl)⟩
    simp [results, Try.f20, go_sem, addedS]
  case stop =>
    rintro D c' pre W _ _ h _
    exact h.elim
end Go.Proofs.Ytlpjpeonejbpjaa
