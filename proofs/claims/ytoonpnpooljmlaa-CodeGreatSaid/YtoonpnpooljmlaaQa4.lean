/- Contracts of the code and of the reference, laid into one file: part 4 (what each says stands at its head). -/
import Derived.Test.YtoonpnpooljmlaaQa3
import Derived.Test.YtoonpnpooljmlaaRows
import Derived.SizedLaws
import Derived.Deep.Slices
import Derived.Deep.Fields
import Derived.ChangeSame
import Derived.IntWalk

namespace Go.Proofs.Ytoonpnpooljmlaa
open Go.RowKit Go.Shelf
attribute [local go_sem] Oper.semAt_some

theorem keepsOthers_drewN (W : World) (n : Nat) : KeepsOthers W (W.drewN n) := ⟨Nat.le_refl _, fun _ _ h _ => h⟩
theorem cell?_drewN' (W : World) (n : Nat) (p : Addr) : (W.drewN n).cell? p = W.cell? p := rfl
def fit2 (a b : ByteArray) : Int := if 8192 < a.size ∨ 8192 < b.size then 2 else if b.size ≠ a.size then 1 else 0
theorem fitE_two (a b : ByteArray) : fitE [a, b] = fit2 a b := by
  unfold fitE fit2
  by_cases h1 : 8192 < a.size <;> by_cases h2 : 8192 < b.size <;> by_cases h3 : b.size = a.size <;> simp [long, unlike, h1, h2, h3]
theorem built2 (w : World) (a b : ByteArray) (ha : a.size ≤ 9223372036854775807) (hb : b.size ≤ 9223372036854775807) : StrsIn (w.alloc (.cells #[.string a, .string b] 9)) (some ⟨w.heap.size, 0, none⟩) 2 [a, b] :=
  StrsIn.built w [a, b] 9 (by simp) (fun s hs => by simp at hs; rcases hs with h | h <;> rw [h] <;> assumption)

/-- a lane's bytes, added to those that are there, each times c -/
def ga (b : ByteArray) (c : Nat) : Nat → UInt8 → UInt8 := fun i x => x ^^^ gm (byteAt b i) c
theorem byteAt_scaled (b : ByteArray) (c i : Nat) (hi : i < b.size) : byteAt (scaledS b c) i = gm (byteAt b i) c := by
  have hi' : i < b.data.toList.length := by simpa using hi
  have e : byteAt b i = b.data.toList[i] := by
    unfold byteAt; rw [List.getD_eq_getElem?_getD, List.getElem?_eq_getElem hi']; rfl
  rw [e]
  unfold byteAt scaledS scaled
  simp [List.getD_eq_getElem?_getD, hi]
theorem ga_all (a b : ByteArray) (c : Nat) (h : b.size = a.size) : a.data.toList.mapIdx (ga b c) = added a.data.toList (scaledS b c) := by
  apply List.ext_getElem
  · simp [added]
  · intro i h1 h2
    have hi : i < b.size := by rw [h]; simpa using h1
    simp only [added, List.getElem_mapIdx, ga]
    rw [byteAt_scaled b c i hi]
theorem ga_toNat (b : ByteArray) (c : Nat) (hc : c < 256) (i : Nat) (x : UInt8) : (ga b c i x).toNat = x.toNat ^^^ Gf.mul c (byteAt b i).toNat := by
  unfold ga
  rw [UInt8.toNat_xor, gm_toNat, Gf.mul_comm _ _ (UInt8.toNat_lt _) hc]

set_option maxRecDepth 100000 in
set_option maxHeartbeats 1000000 in
theorem muladd_bad (a b : ByteArray) (c : Nat) (ha : a.size ≤ 9223372036854775807) (hb : b.size ≤ 9223372036854775807) (h : fit2 a b ≠ 0) (w : World) :
    Calls Try.prog 57 #[.string a, .string b, .int .u8 c] w fun e w' => e = .returned (.tuple #[.string ByteArray.empty, .int .i64 (fit2 a b)]) ∧ Kept w w' := by
  have hs := built2 w a b ha hb
  have he := fitE_two a b
  have hz : (fit2 a b != 0) = true := by rw [bne_iff_ne]; exact h
  clear h
  go_enter Try.func57, Try.ntmps57
  go_wp2_with (go_at_call 73; refine (fit_any _ 2 2 [a, b] _ hs).mono ?_; rintro e w1 ⟨rfl, rfl⟩; rw [he])
  go_ret2
  exact ⟨rfl, (Kept.refl w).alloc _⟩

set_option maxRecDepth 100000 in
set_option maxHeartbeats 2000000 in
theorem muladd_any (a b : ByteArray) (c : Nat) (hc : c < 256) (ha : a.size ≤ 8192) (hab : b.size = a.size) (w : World) :
    Calls Try.prog 57 #[.string a, .string b, .int .u8 c] w fun e w' => e = .returned (.tuple #[.string (addedS a (scaledS b c)), .int .i64 0]) ∧ Below w.heap.size w w' := by
  have hs := built2 w a b (by omega) (by omega)
  have he := fitE_two a b
  rw [show fit2 a b = 0 by unfold fit2; rw [if_neg (by omega), if_neg (by omega)]] at he
  have hconv := bytes_of (P := Try.prog) 9 31 5 a Try.underlying9 Try.underlying31 Try.underlying5
  refine callsIn_wide.1 (callsIn_of_wp_marks (n := 8) Try.func57 rfl trivial ?_ rfl)
  simp only [Try.ntmps57, List.size_toArray, List.length_nil, List.length_cons, Nat.reduceAdd, Nat.reduceSub, Array.replicate_succ, Array.replicate_zero, List.push_toArray, List.append_toArray, List.nil_append, List.cons_append]
  refine wpIn_wide.2 ?_
  go_wp2_with (go_at_call 73; refine (fit_any _ 2 2 [a, b] _ hs).mono ?_; rintro e w1 ⟨rfl, rfl⟩; rw [he])
  have hb2 := bytesBehind_buf (w.alloc (.cells #[.string a, .string b] 9)) 5 a
  have hz2 := bytesBehind_size (w.alloc (.cells #[.string a, .string b] 9)) 5 a
  have hk2 : Kept w (bytesBehind (w.alloc (.cells #[.string a, .string b] 9)) 5 a) := ((Kept.refl w).alloc _).trans (bytesBehind_kept _ _ _)
  rw [World.size_alloc] at hb2 hz2
  clear hconv hs he
  generalize grownCap (w.alloc (.cells #[.string a, .string b] 9)) a.size 0 5 = cap
  generalize bytesBehind (w.alloc (.cells #[.string a, .string b] 9)) 5 a = w2 at hb2 hz2 hk2 ⊢
  rw [show w2.heap.size = w.heap.size + 1 + 1 from hz2]
  refine (times_any b c _).mono ?_
  rintro e w1 ⟨rfl, hw1⟩
  have hB0 : Kept w w1 := by rw [hw1]; exact ((hk2.alloc _).alloc _).alloc _
  have hz1 : w1.heap.size = w.heap.size + 5 := by rw [hw1]; simp [hz2]
  have hbuf : Buf w1 (w.heap.size + 1) a.data.toList := by
    rw [hw1]
    exact hb2.kept ((((Kept.refl _).alloc _).alloc _).alloc _)
  have hbox : w1.cell? ⟨w.heap.size + 1 + 1, 0, none⟩ = some (.slice (some ⟨w.heap.size + 1, 0, none⟩) a.size cap) := by
    have h := (BlockAt.new w2 #[.slice (some ⟨w.heap.size + 1, 0, none⟩) a.size cap] 31).kept (((Kept.refl _).alloc (.cells #[.string b] 9)).alloc (.cells #[.int .u8 (c : Int)] 5))
    rw [hz2] at h
    rw [hw1]
    exact h.cell 0
  have hba : BlockAt w1 (w.heap.size + 1 + 1 + 1) #[.string b] 9 := by
    have h := (BlockAt.new (w2.alloc (.cells #[.slice (some ⟨w.heap.size + 1, 0, none⟩) a.size cap] 31)) #[.string b] 9).kept ((Kept.refl _).alloc (.cells #[.int .u8 (c : Int)] 5))
    rw [World.size_alloc, hz2] at h
    rw [hw1]
    exact h
  have hbc : BlockAt w1 (w.heap.size + 1 + 1 + 1 + 1) #[.int .u8 (c : Int)] 5 := by
    have h := BlockAt.new ((w2.alloc (.cells #[.slice (some ⟨w.heap.size + 1, 0, none⟩) a.size cap] 31)).alloc (.cells #[.string b] 9)) #[.int .u8 (c : Int)] 5
    rw [World.size_alloc, World.size_alloc, hz2] at h
    rw [hw1]
    exact h
  rw [World.size_alloc, show w2.heap.size = w.heap.size + 1 + 1 from hz2]
  clear hw1 hb2 hz2 hk2
  go_wp2
  refine wp_of_in 8 ?_
  refine wpIn_rangeFunc_ownF rfl (by omega) (gf := 84) (lb := #[.pointer (some ⟨w.heap.size + 1 + 1 + 1 + 1, 0, none⟩), .pointer (some ⟨w.heap.size + 1 + 1 + 1, 0, none⟩)]) rfl trivial (enters_of Try.func84 (by kernel_rfl) rfl)
    (times_stops 7 (by omega) (fun k => k = w.heap.size + 1) b (by omega) c hc (w.heap.size + 1 + 1 + 1) (w.heap.size + 1 + 1 + 1 + 1) w1 (fun k e => by omega) (by omega) hba hbc) CellsBut.trans CellsBut.putObj (Below.refl _ _) (fun _ => rfl)
    (fun pre W => (W.cell? ⟨w.heap.size + 1 + 1, 0, none⟩ = some (.slice (some ⟨w.heap.size + 1, 0, none⟩) a.size cap) ∧ Buf W (w.heap.size + 1) (setAll (ga b c) a.data.toList (ixs pre))) ∧ Below w.heap.size w W)
    (fun _ _ _ => False)
    (OwnFrom.and (Own.from (fun s A B row hs hg hr => ⟨cell_kept hs.1 hg hr, hs.2.grown hg hr⟩) _) (ownFrom_below (Nat.le_refl _) (by omega)))
    (fun _ _ _ _ _ hs _ _ => hs)
    ⟨⟨hbox, hbuf⟩, hB0⟩
    (fun k => { tmps := #[.string a, .string b, .int .u8 (c : Int), undef, undef, undef, .string { data := #[] }, .int .i64 0, .int .i64 0, .pointer (some ⟨w.heap.size + 1 + 1, 0, none⟩), .int .i64 (k.1 : Int), .int .u8 (Gf.mul c (byteAt b k.1).toNat : Nat),
      .string a, .string b, .slice (some ⟨w.heap.size, 0, none⟩) 2 2, .int .i64 0, .int .i64 0, .bool false, undef, .string a, .slice (some ⟨w.heap.size + 1, 0, none⟩) a.size cap, .string b, .int .u8 (c : Int),
      .func (.func 84) #[] #[.pointer (some ⟨w.heap.size + 1 + 1 + 1 + 1, 0, none⟩), .pointer (some ⟨w.heap.size + 1 + 1 + 1, 0, none⟩)], .int .i64 (k.1 : Int), .int .u8 (Gf.mul c (byteAt b k.1).toNat : Nat), undef, undef, undef, undef, undef, undef, undef, undef, undef, undef, undef], defers := [] }) ?assign ?body ?done ?stop
  case assign =>
    intro l x W K hK
    gi_wp2
    exact hK
  case body =>
    rintro l pre ⟨k, hk⟩ W ⟨⟨hcb, hbf⟩, hB⟩ _
    have hkl : k < (setAll (ga b c) a.data.toList (ixs pre)).length := by rw [setAll_length, str_size]; omega
    have hka : k < a.size := by omega
    have hcell := hbf.cell k hkl
    have hfree := hbf.free k hkl
    have hst := fun (n : Nat) => (hbf.kept ((Kept.refl W).drewN n)).set k hkl (ga b c k ((setAll (ga b c) a.data.toList (ixs pre)).getD k 0))
    have hsn : setAll (ga b c) a.data.toList (ixs (pre ++ [⟨k, hk⟩])) = (setAll (ga b c) a.data.toList (ixs pre)).set k (ga b c k ((setAll (ga b c) a.data.toList (ixs pre)).getD k 0)) := by
      rw [ixs_snoc, setAll_snoc]; rfl
    have hge : (setAll (ga b c) a.data.toList (ixs pre)).getD k 0 = (setAll (ga b c) a.data.toList (ixs pre))[k] := by
      rw [List.getD_eq_getElem?_getD, List.getElem?_eq_getElem hkl]; rfl
    rw [hge] at hsn
    simp only [hge, ga_toNat b c hc] at hst
    have HST := Lib.hid hst
    have HSN := Lib.hid hsn
    clear hbf hst hsn hge
    generalize (setAll (ga b c) a.data.toList (ixs pre))[k] = old at hcell HST HSN
    clear hkl
    have ho := UInt8.toNat_lt old
    have hm := Gf.mul_lt hc (byteAt b k).toNat
    have hcb2 := hcb
    have HCB := Lib.hid hcb2
    clear hcb2
    gi_wp2
    refine wpIn_region_quiet_tail_lit 9 (by kernel_rfl) (by kernel_rfl) (by kernel_rfl) ?_
    simp only [List.take_succ_cons, List.take_zero, List.drop_succ_cons, List.drop_zero]
    repeat (gi_big_quiet_step ((gi_at_call 74; exact (CallsIn.inRound l (callsIn_wide.2 (quietly (add_any _ _ ho hm _)))).mono fun e w' h => h)))
    refine wpQuietIn_nil ?_
    intro _ hw'
    obtain ⟨nq, hw''⟩ := hw'
    subst hw''
    gi_wp2
    refine ⟨(keepsOthers_drewN W nq).trans (KeepsOthers.setCell _ _ _), (CellsBut.of_kept ((Kept.refl W).drewN nq)).trans (CellsBut.setCell _ _ rfl), ⟨cell_other ?_ (by omega), ?_⟩, (hB.trans (((Kept.refl W).drewN nq).below.mono hB.size)).setCell (p := ⟨w.heap.size + 1, k, none⟩) (by simp) _⟩
    · rw [cell?_drewN']; exact HCB.out
    · rw [HSN.out]; exact HST.out nq
  case done =>
    rintro D ys W hD hys ⟨⟨hcb, hbf⟩, hB⟩ hK
    rw [hys, setAll_range _ _ _ (by rw [str_size]; omega), upto_all _ _ _ (by rw [str_size]; omega), ga_all a b c hab] at hbf
    have hconv := hbf.string (P := Try.prog) 31 9 5 Try.underlying31 Try.underlying5 Try.underlying9 cap
    rw [show (added a.data.toList (scaledS b c)).length = a.size by simp [added]] at hconv
    clear hbf
    go_wp2
    refine ⟨by simp, .inl ⟨_, _, rfl, run_takeDeferred hK, ?_⟩⟩
    refine ⟨.tuple #[.string (addedS a (scaledS b c)), .int .i64 0], ?_, rfl, hB.trans (belowK_b (w := w) (Nat.le_refl _) W D _ _ (by omega) hK rfl rfl)⟩
    simp [results, Try.f57, go_sem, addedS]
  case stop =>
    rintro D c' pre W _ _ h _
    exact h.elim
end Go.Proofs.Ytoonpnpooljmlaa

namespace Go.Proofs.Ytoonpnpooljmlaa
open Go.RowKit

theorem ext_byteAt {a b : ByteArray} (h : a.size = b.size) (hb : ∀ i, i < a.size → byteAt a i = byteAt b i) : a = b := by
  apply ByteArray.ext
  apply Array.ext h
  intro i h1 h2
  have h := hb i h1
  rw [← byteAt_get a i h1, ← byteAt_get b i h2] at h
  exact h
theorem byteAt_list (l : List UInt8) (k : Nat) : byteAt ⟨l.toArray⟩ k = l.getD k 0 := rfl
theorem list_byteAt (s : ByteArray) (i : Nat) (hi : i < s.size) : s.data.toList[i]'(by simpa using hi) = byteAt s i := by
  unfold byteAt; rw [List.getD_eq_getElem?_getD, List.getElem?_eq_getElem (by simpa using hi)]; rfl
theorem addedS_size (a b : ByteArray) : (addedS a b).size = a.size := by
  show (added a.data.toList b).toArray.size = a.data.size
  simp [added]
theorem byteAt_added (a b : ByteArray) (i : Nat) (hi : i < a.size) : byteAt (addedS a b) i = byteAt a i ^^^ byteAt b i := by
  have hi' : i < a.data.toList.length := by simpa using hi
  unfold addedS
  rw [byteAt_list, List.getD_eq_getElem?_getD, List.getElem?_eq_getElem (by simpa [added] using hi')]
  simp only [added, List.getElem_mapIdx, Option.getD_some, list_byteAt a i hi]
theorem size_scaledS (b : ByteArray) (c : Nat) : (scaledS b c).size = b.size := by
  show (scaled b.data.toList c).toArray.size = b.data.size
  simp [scaled]
theorem u8_ext {x y : UInt8} (h : x.toNat = y.toNat) : x = y := UInt8.toNat_inj.1 h
theorem gm_one (x : UInt8) : gm x 1 = x := u8_ext (by rw [gm_toNat, Gf.mul_one _ (UInt8.toNat_lt x)])
theorem gm_xor (x y : UInt8) (c : Nat) : gm (x ^^^ y) c = gm x c ^^^ gm y c :=
  u8_ext (by rw [gm_toNat, UInt8.toNat_xor, UInt8.toNat_xor, gm_toNat, gm_toNat, Gf.mul_left (UInt8.toNat_lt x) (UInt8.toNat_lt y)])
theorem scaledS_one (b : ByteArray) : scaledS b 1 = b := ext_byteAt (size_scaledS b 1) (fun i hi => by rw [size_scaledS] at hi; rw [byteAt_scaled b 1 i hi, gm_one])
theorem added_twice (a b : ByteArray) : addedS (addedS a b) b = a := ext_byteAt (by rw [addedS_size, addedS_size]) (fun i hi => by
  rw [addedS_size, addedS_size] at hi
  rw [byteAt_added _ _ i (by rw [addedS_size]; exact hi), byteAt_added _ _ i hi, UInt8.xor_assoc, UInt8.xor_self, UInt8.xor_zero])
theorem scaled_added (a b : ByteArray) (c : Nat) (h : a.size ≤ b.size) : scaledS (addedS a b) c = addedS (scaledS a c) (scaledS b c) := ext_byteAt (by rw [size_scaledS, addedS_size, addedS_size, size_scaledS]) (fun i hi => by
  rw [size_scaledS, addedS_size] at hi
  rw [byteAt_scaled _ c i (by rw [addedS_size]; exact hi), byteAt_added _ _ i hi, byteAt_added _ _ i (by rw [size_scaledS]; exact hi), byteAt_scaled _ c i hi, byteAt_scaled _ c i (by omega), gm_xor])

theorem zero_bad (n : Int) (h : n < 0 ∨ 8192 < n) (w : World) :
    Calls Try.prog 56 #[.int .i64 n] w fun e w' => e = .returned (.tuple #[.string ByteArray.empty, .int .i64 1]) ∧ w = w' := by
  go_enter Try.func56, Try.ntmps56
  rcases h with h | h
  · go_wp2
    go_ret2
    exact ⟨rfl, rfl⟩
  · have h0 : decide (n < 0) = false := decide_eq_false (by omega)
    go_wp2
    go_ret2
    exact ⟨rfl, rfl⟩
def zeroS (n : Nat) : ByteArray := ⟨(List.replicate n (0 : UInt8)).toArray⟩
theorem zero_any (n : Nat) (h : n ≤ 8192) (w : World) :
    Calls Try.prog 56 #[.int .i64 n] w fun e w' => e = .returned (.tuple #[.string (zeroS n), .int .i64 0]) ∧ Kept w w' := by
  have hmk := make_bytes n (by omega)
  have hb := (made_buf w n).string (P := Try.prog) 31 9 5 Try.underlying31 Try.underlying5 Try.underlying9 n
  rw [List.length_replicate] at hb
  generalize madeCells #[.int .u8 0] n = Z at hmk hb
  have h0 : decide ((n : Int) < 0) = false := decide_eq_false (by omega)
  have h1 : decide ((8192 : Int) < n) = false := decide_eq_false (by omega)
  go_enter Try.func56, Try.ntmps56
  go_wp2
  go_ret2
  exact ⟨rfl, (Kept.refl w).alloc _⟩
theorem byteAt_zero (n i : Nat) (hi : i < n) : byteAt (zeroS n) i = 0 := by
  unfold zeroS; rw [byteAt_list, List.getD_eq_getElem?_getD, List.getElem?_eq_getElem (by simpa using hi)]; simp
theorem zeroS_size (n : Nat) : (zeroS n).size = n := by
  show (List.replicate n (0 : UInt8)).toArray.size = n
  simp

theorem texts_any (a : Option Addr) (l cap : Nat) (ss : List ByteArray) (w : World) (h : StrsIn w a l ss) :
    Calls Try.prog 33 #[.slice a l cap] w fun e w' => (∃ n, e = .returned (.int .i64 n)) ∧ w = w' := by
  have hle := h.le
  go_enter Try.func33, Try.ntmps33
  go_wp2
  go_loopw [3, 4] (fun m i wr => ∃ (k : Nat) (n : Int), k ≤ l ∧ i = .int .i64 k ∧ m = .int .i64 n ∧ w = wr) (fun _ i _ => l - (intOf i).toNat)
  case atStart => exact ⟨0, _, by omega, rfl, rfl, rfl⟩
  case round =>
    obtain ⟨k, n, hk, rfl, rfl, rfl⟩ := hrel
    by_cases hlt : k < l
    · by_cases hn : n < 1048576
      · obtain ⟨b, off, ha, hc⟩ := h.cells
        obtain rfl := ha (by omega)
        obtain ⟨hb, hcell⟩ := hc k hlt
        have hs := h.size k hlt
        generalize ss.getD k ByteArray.empty = s at hcell hs
        clear h hc
        go_wp2
        go_roundw
        case rel => exact ⟨k + 1, _, by omega, by go_num, rfl, by trivial⟩
        case measure => simp [intOf]; omega
      · clear h
        go_wp2
        go_ret
        exact ⟨⟨_, rfl⟩, rfl⟩
    · clear h
      go_wp2
      go_ret
      exact ⟨⟨_, rfl⟩, rfl⟩

theorem byteAt_scaled' (b : ByteArray) (c i : Nat) (hi : i < b.size) : byteAt (scaledS b c) i = gm (byteAt b i) c := by
  have hi' : i < b.data.toList.length := by simpa using hi
  have e : byteAt b i = b.data.toList[i] := by
    unfold byteAt; rw [List.getD_eq_getElem?_getD, List.getElem?_eq_getElem hi']; rfl
  rw [e]
  unfold byteAt scaledS scaled
  simp [List.getD_eq_getElem?_getD, hi]
theorem scaledS_size (b : ByteArray) (c : Nat) : (scaledS b c).size = b.size := by
  show (scaled b.data.toList c).toArray.size = b.data.size
  simp [scaled]
end Go.Proofs.Ytoonpnpooljmlaa

namespace Go.Proofs.Ytoonpnpooljmlaa
open Go.RowKit Go.Shelf

/-- the bytes summed so far -/
def sumTo (ss : List ByteArray) (k : Nat) : ByteArray := ((ss.drop 1).take k).foldl addedS (ss.getD 0 ByteArray.empty)
theorem sumTo_zero (ss : List ByteArray) : sumTo ss 0 = ss.getD 0 ByteArray.empty := rfl
theorem sumTo_succ (ss : List ByteArray) (k : Nat) (h : k + 1 < ss.length) : sumTo ss (k + 1) = addedS (sumTo ss k) (ss.getD (k + 1) ByteArray.empty) := by
  unfold sumTo
  have e : (ss.drop 1).take (k + 1) = (ss.drop 1).take k ++ [ss.getD (k + 1) ByteArray.empty] := by
    rw [List.take_succ_eq_append_getElem (by simp; omega)]
    simp [List.getD, h]
  rw [e, List.foldl_append]
  rfl
theorem sumTo_size (ss : List ByteArray) : ∀ k, k < ss.length → (sumTo ss k).size = (ss.getD 0 ByteArray.empty).size
  | 0, _ => rfl
  | k + 1, h => by rw [sumTo_succ ss k h, addedS_size, sumTo_size ss k (by omega)]

set_option maxRecDepth 100000 in
set_option maxHeartbeats 400000 in
theorem sum_bad (a : Option Addr) (l cap : Nat) (ss : List ByteArray) (w : World) (h : StrsIn w a l ss) (hf : fitE ss ≠ 0) :
    Calls Try.prog 54 #[.slice a l cap] w fun e w' => e = .returned (.tuple #[.string ByteArray.empty, .int .i64 (fitE ss)]) ∧ w = w' := by
  have hz : (fitE ss != 0) = true := by rw [bne_iff_ne]; exact hf
  have H := Lib.hid h
  clear h hf
  go_enter Try.func54, Try.ntmps54
  go_wp2_with (go_at_call 73; refine (fit_any _ l cap ss _ H.out).mono ?_; rintro e w1 ⟨rfl, rfl⟩)
  go_ret2
  exact ⟨rfl, rfl⟩
theorem sum_none (a : Option Addr) (cap : Nat) (w : World) (h : StrsIn w a 0 []) :
    Calls Try.prog 54 #[.slice a 0 cap] w fun e w' => e = .returned (.tuple #[.string ByteArray.empty, .int .i64 1]) ∧ w = w' := by
  have hz : fitE [] = 0 := by decide
  have H := Lib.hid h
  clear h
  go_enter Try.func54, Try.ntmps54
  go_wp2_with (go_at_call 73; refine (fit_any _ 0 cap [] _ H.out).mono ?_; rintro e w1 ⟨rfl, rfl⟩; rw [hz])
  go_ret2
  exact ⟨rfl, rfl⟩
theorem fitE_zero (ss : List ByteArray) (h : fitE ss = 0) (k : Nat) (hk : k < ss.length) : (ss.getD k ByteArray.empty).size ≤ 8192 ∧ (ss.getD k ByteArray.empty).size = (ss.getD 0 ByteArray.empty).size := by
  have hm : ss.getD k ByteArray.empty ∈ ss := by simp [List.getD, hk]
  unfold fitE at h
  by_cases h1 : ss.any long
  · rw [if_pos h1] at h; cases h
  · rw [if_neg h1] at h
    by_cases h2 : ss.any (unlike ss)
    · rw [if_pos h2] at h; cases h
    · constructor
      · apply Nat.le_of_not_lt
        intro hl
        exact h1 (List.any_eq_true.2 ⟨_, hm, by simpa [long] using hl⟩)
      · apply Classical.byContradiction
        intro hl
        exact h2 (List.any_eq_true.2 ⟨_, hm, by simpa [unlike] using hl⟩)

set_option maxRecDepth 100000 in
set_option maxHeartbeats 1000000 in
theorem sum_any (a : Option Addr) (n cap : Nat) (ss : List ByteArray) (w : World) (h : StrsIn w a (n + 1) ss) (hcap : n + 1 ≤ cap) (hf : fitE ss = 0) :
    Calls Try.prog 54 #[.slice a (n + 1) cap] w fun e w' => e = .returned (.tuple #[.string (sumTo ss n), .int .i64 0]) ∧ Kept w w' := by
  have hle := h.le
  have hlen := h.len_eq
  have H := Lib.hid h
  obtain ⟨b, off, ha, hcell⟩ := h.cells
  obtain rfl := ha (by omega)
  have hz := fun k (hk : k < n + 1) => fitE_zero ss hf k (by omega)
  have hc0 := (hcell 0 (by omega)).2
  have HC := Lib.hid hcell
  have HZ := Lib.hid hz
  have HL := Lib.hid hlen
  have HF := Lib.hid hf
  rw [Nat.add_zero] at hc0
  have hconv := bytes_of (P := Try.prog) 9 31 5 (ss.getD 0 ByteArray.empty) Try.underlying9 Try.underlying31 Try.underlying5
  have hk := bytesBehind_kept w 5 (ss.getD 0 ByteArray.empty)
  have hb := bytesBehind_buf w 5 (ss.getD 0 ByteArray.empty)
  have HK := Lib.hid hk
  have HB := Lib.hid hb
  have hs0 := (hz 0 (by omega)).1
  generalize he0 : ss.getD 0 ByteArray.empty = s0 at hc0 hconv hs0 HK HB
  have HE0 := Lib.hid he0
  clear hz hlen hcell h ha hk hb hf he0
  go_enter Try.func54, Try.ntmps54
  go_wp2_with (go_at_call 73; refine (fit_any _ (n + 1) cap ss _ H.out).mono ?_; rintro e w1 ⟨rfl, rfl⟩; rw [HF.out])
  · obtain rfl : n = 0 := by omega
    clear hconv
    generalize bytesBehind w 5 s0 = w1 at HB HK ⊢
    go_loopw [24] (fun i wr => i = .int .i64 0 ∧ w1 = wr) (fun _ _ => 0)
    case atStart => exact ⟨rfl, rfl⟩
    case round =>
      obtain ⟨rfl, rfl⟩ := hrel
      have hconv := HB.out.string (P := Try.prog) 31 9 5 Try.underlying31 Try.underlying5 Try.underlying9 (grownCap w s0.size 0 5)
      rw [str_size] at hconv
      have hconv' : (convert 31 9 (.slice (some ⟨w.heap.size, 0, none⟩) s0.size (grownCap w s0.size 0 5))).run Try.prog w1 = .ok (.string s0) w1 := hconv
      clear hconv
      go_wp2
      go_ret2
      exact ⟨by show Ending.returned (.tuple #[.string s0, .int .i64 0]) = _; rw [sumTo_zero, HE0.out], HK.out⟩
  · clear hconv
    generalize bytesBehind w 5 s0 = w1 at HB HK ⊢
    generalize grownCap w s0.size 0 5 = gc
    generalize hBe : w.heap.size = B at HB ⊢
    have HBE := Lib.hid (Nat.le_of_eq hBe)
    clear hBe
    go_loopw [24] (fun i wr => ∃ k : Nat, k ≤ n ∧ i = .int .i64 k ∧ Buf wr B (sumTo ss k).data.toList ∧ Kept w wr) (fun i _ => n - (intOf i).toNat)
    case atStart => exact ⟨0, by omega, rfl, by rw [sumTo_zero, HE0.out]; exact HB.out, HK.out⟩
    case round =>
      obtain ⟨k, hk, rfl, hbuf, hkept⟩ := hrel
      have HK2 := Lib.hid hkept
      have HB2 := Lib.hid hbuf
      by_cases hlt : k < n
      · have hct := hkept.cell (HC.out (k + 1) (by omega)).1 (HC.out (k + 1) (by omega)).2
        rw [show off + (k + 1) = off + 1 + k by omega] at hct
        have hts := (HZ.out (k + 1) (by omega)).2
        rw [HE0.out] at hts
        have hss := sumTo_size ss k (by have := HL.out; omega)
        rw [HE0.out] at hss
        have hsc := sumTo_succ ss k (by have := HL.out; omega)
        generalize ss.getD (k + 1) ByteArray.empty = t at hct hts hsc
        have HSC := Lib.hid hsc
        have HSS := Lib.hid hss
        clear hbuf hkept hsc hss
        go_wp2_with fail
        have hl := str_size (sumTo ss k)
        have HLs := Lib.hid hl
        clear hl
        go_loopw [30] (fun i wr' => ∃ j : Nat, j ≤ s0.size ∧ i = .int .i64 j ∧ Buf wr' B (upto (fun i x => x ^^^ byteAt t i) (sumTo ss k).data.toList j) ∧ Kept w wr') (fun i _ => s0.size - (intOf i).toNat)
        case atStart => exact ⟨0, by omega, rfl, by rw [upto_zero]; exact HB2.out, HK2.out⟩
        case round =>
          obtain ⟨j, hj, rfl, hbuf, hkept⟩ := hrel
          have HK3 := Lib.hid hkept
          have HB3 := Lib.hid hbuf
          by_cases hjt : j < s0.size
          · have hjl : j < (sumTo ss k).data.toList.length := by rw [HLs.out, HSS.out]; exact hjt
            have hju : j < (upto (fun i x => x ^^^ byteAt t i) (sumTo ss k).data.toList j).length := by rw [upto_length]; exact hjl
            have hcl := hbuf.cell j hju
            rw [upto_get _ _ _ hjl] at hcl
            have hfr := hbuf.free j hju
            have hst := fun (q : Nat) => (hbuf.kept ((Kept.refl _).drewN q)).set j hju ((sumTo ss k).data.toList[j] ^^^ byteAt t j)
            simp only [upto_set (fun i x => x ^^^ byteAt t i) _ j hjl, UInt8.toNat_xor] at hst
            have hjt2 : j < t.size := by rw [hts]; exact hjt
            rw [← byteAt_get t j hjt2] at hst
            have hx := UInt8.toNat_lt (sumTo ss k).data.toList[j]
            have hy := UInt8.toNat_lt t[j]
            generalize (sumTo ss k).data.toList[j] = x at hcl hst hx
            have HST := Lib.hid hst
            clear hbuf hkept hst hju hjl
            go_wp2_with fail
            refine (wpIn_wide (n := 0)).1 ?_
            refine wpIn_region_quiet_tail_lit 11 (by kernel_rfl) (by kernel_rfl) (by kernel_rfl) ?_
            simp only [List.take_succ_cons, List.take_zero, List.drop_succ_cons, List.drop_zero]
            repeat (gi_big_quiet_step ((gi_at_call 74; exact callsIn_wide.2 (quietly (add_any _ _ hx hy _)))))
            refine wpQuietIn_nil ?_
            intro _ hw'
            obtain ⟨nq, hw''⟩ := hw'
            subst hw''
            gi_wp2
            go_wp2
            go_roundw
            case rel => exact ⟨j + 1, by omega, by go_num, HST.out nq, (HK3.out.drewN nq).setCell HBE.out _⟩
            case measure => simp [intOf]; omega
          · rw [upto_all _ _ _ (by rw [HLs.out, HSS.out]; omega)] at hbuf
            have HB4 := Lib.hid hbuf
            clear hkept hbuf
            go_wp2
            go_roundw
            case rel => exact ⟨k + 1, by omega, by go_num, by rw [HSC.out]; exact HB4.out, HK3.out⟩
            case measure => simp [intOf]; omega
      · obtain rfl : k = n := by omega
        have hconv := hbuf.string (P := Try.prog) 31 9 5 Try.underlying31 Try.underlying5 Try.underlying9 gc
        have hss := sumTo_size ss k (by have := HL.out; omega)
        rw [HE0.out] at hss
        rw [str_size, hss] at hconv
        have hconv' : (convert 31 9 (.slice (some ⟨B, 0, none⟩) s0.size gc)).run Try.prog wr = .ok (.string (sumTo ss k)) wr := hconv
        clear hconv hbuf hkept hss
        go_wp2
        go_ret2
        exact ⟨rfl, HK2.out⟩
end Go.Proofs.Ytoonpnpooljmlaa

namespace Go.Proofs.Ytoonpnpooljmlaa
open Go.ChangeShapes Go.WideShapes Go.ChangeAt Go.RowKit Go.Joins

theorem trod_int {H : Type} {enc : TypeId × Value → H} {P : Program} {t : TypeId} {k : IntKind} (ht : P.underlying t = some (.int k)) {W : World} {fuel : Nat} {v : Value} {y : DataW H × List MemPlace}
    (h0 : DataW.trod enc P W 0 (fun _ => true) true fuel t [v] = some y) : ∃ n, v = .int k n ∧ (Lit.int k n).wf = true := by
  obtain ⟨n, h, hx, hw⟩ := DataW.trod_int ht h0
  simp only [List.cons.injEq, and_true] at h
  exact ⟨n, h, hw⟩
theorem Try.cellsStr : Try.prog.cellsOf 9 = 1 := by kernel_rfl
/-- a slice of texts, its capacity too -/
theorem strs_in_cap {H : Type} {enc : TypeId × Value → H} {P : Program} {t e : TypeId} (ht : P.underlying t = some (.slice e)) (he : P.underlying e = some .string) (hc : P.cellsOf e = 1) {W : World} {fuel : Nat} {v : Value} {y : DataW H × List MemPlace}
    (h0 : DataW.trod enc P W 0 (fun _ => true) true fuel t [v] = some y) :
    ∃ a len cap ss, v = .slice a len cap ∧ len ≤ cap ∧ StrsIn W a len ss := by
  obtain ⟨a, len, cap, ss, rfl, hS⟩ := strs_in ht he hc h0
  rcases open_strings ht he hc h0 with ⟨hcs, _⟩ | ⟨a', len', cap', ss', hcs, _, hl, _⟩
  · simp only [List.cons.injEq, and_true, Value.slice.injEq] at hcs
    obtain ⟨rfl, rfl, rfl⟩ := hcs
    exact ⟨_, _, _, ss, rfl, Nat.le_refl _, hS⟩
  · simp only [List.cons.injEq, and_true, Value.slice.injEq] at hcs
    obtain ⟨rfl, rfl, rfl⟩ := hcs
    exact ⟨_, _, _, ss, rfl, hl, hS⟩
end Go.Proofs.Ytoonpnpooljmlaa

namespace Go.Proofs.Ytoonpnpooljmlaa
open Go.RowKit

theorem num_ref (n m : Int) (w : World) : Calls Try.prog 35 #[.int .i64 n, .int .i64 m] w fun e w' => e = .returned (.bool (decide (0 ≤ n) && decide (n ≤ m))) ∧ w = w' := by
  go_enter Try.func35, Try.ntmps35
  by_cases h : 0 ≤ n
  · go_wp2
    go_ret
    exact ⟨by simp [h], rfl⟩
  · have hd : decide (0 ≤ n) = false := decide_eq_false h
    go_wp2
    go_ret
    exact ⟨rfl, rfl⟩


set_option maxRecDepth 100000 in
set_option maxHeartbeats 400000 in
/-- the same texts, twice -/
theorem eq_strings (a a' : Option Addr) (l cap cap' : Nat) (ss : List ByteArray) (w : World) (h : StrsIn w a l ss) (h' : StrsIn w a' l ss) :
    Calls Try.prog 22 #[.slice a l cap, .slice a' l cap'] w fun e w' => e = .returned (.bool true) ∧ Kept w w' := by
  have hle := h.le
  go_enter Try.func22, Try.ntmps22
  go_wp2
  go_loopw [5] (fun i wr => ∃ k : Nat, k ≤ l ∧ i = .int .i64 k ∧ Kept w wr) (fun i _ => l - (intOf i).toNat)
  case atStart => exact ⟨0, by omega, rfl, Kept.refl _⟩
  case round =>
    obtain ⟨k, hk, rfl, hK⟩ := hrel
    have HK := Lib.hid hK
    by_cases hlt : k < l
    · obtain ⟨b, off, ha, hc⟩ := h.cells
      obtain ⟨b', off', ha', hc'⟩ := h'.cells
      obtain rfl := ha (by omega)
      obtain rfl := ha' (by omega)
      have hck := hK.cell (hc k hlt).1 (hc k hlt).2
      have hck' := hK.cell (hc' k hlt).1 (hc' k hlt).2
      have hsk := h.size k hlt
      generalize ss.getD k ByteArray.empty = t at hck hck' hsk
      clear h h' hc hc' ha ha' hK
      go_wp2_with fail
      go_quiet (fail)
      go_wp2
      go_roundw
      case rel => exact ⟨k + 1, by omega, by go_num, HK.out.drewN nq⟩
      case measure => simp [intOf]; omega
    · clear h h' hK
      go_wp2
      go_ret
      exact ⟨rfl, HK.out⟩
end Go.Proofs.Ytoonpnpooljmlaa

namespace Go.Proofs.Ytoonpnpooljmlaa
open Go.RowKit

theorem Try.infoStr : (Try.prog.info? 9).map (fun i => (i.zero, i.size, i.bytes)) = some (some (.string ByteArray.empty), 1, 16) := by kernel_rfl

theorem kept_grown {w a b : World} {v : Value} {e : TypeId} {s n : Nat} {xs : List Value} (h : Kept w a) (ho : a.ownsRow w.heap.size e s v n xs) (hg : a.grownBy b v.ownBlock) : Kept w b :=
  Below.trans h ⟨hg.os, hg.tape, hg.output, hg.size, fun k hk => hg.block k (Nat.lt_of_lt_of_le hk h.size) (fun e => by have := (ho.lt k e.symm).1; omega)⟩
theorem strs_of_own {w : World} {base l : Nat} {e : TypeId} {v : Value} {ss : List ByteArray} (ho : w.ownsRow base e 1 v l (ss.map Value.string)) (hl : ss.length = l) (hs : ∀ s ∈ ss, s.size ≤ 9223372036854775807) :
    ∃ a cap, v = .slice a l cap ∧ l ≤ cap ∧ StrsIn w a l ss := by
  rcases ho.2 with ⟨rfl, rfl⟩ | ⟨g, cap, cur, rfl, hb, hg, hn, hm, _⟩
  · exact ⟨none, 0, rfl, Nat.le_refl _, hl, by omega, hs, 0, 0, fun h => absurd h (Nat.lt_irrefl 0), fun i hi => absurd hi (Nat.not_lt_zero i)⟩
  · refine ⟨_, cap, rfl, hn, hl, by unfold maxLen at hm; omega, hs, g, 0, fun _ => rfl, fun i hi => ⟨(ho.lt g rfl).2, ?_⟩⟩
    rw [Nat.zero_add, ho.cellAt i (by omega)]
    have hi' : i < ss.length := by omega
    simp [List.getD, hi']

set_option maxRecDepth 100000 in
set_option maxHeartbeats 800000 in
theorem copy_strings (a : Option Addr) (l cap : Nat) (ss : List ByteArray) (w : World) (h : StrsIn w a l ss) (hl : l ≤ 8796093021952) :
    Calls Try.prog 18 #[.slice a l cap] w fun e w' => ∃ a' cap', e = .returned (.slice a' l cap') ∧ l ≤ cap' ∧ StrsIn w' a' l ss ∧ Kept w w' := by
  obtain ⟨i0, hi, hz0, hz1, hz2⟩ := info_parts Try.infoStr
  have HL := Lib.hid h.len_eq
  have HSZ := Lib.hid h.sizes
  have HI := Lib.hid (And.intro hi (And.intro hz0 (And.intro hz1 hz2)))
  clear hi hz0 hz1 hz2
  go_enter Try.func18, Try.ntmps18
  go_wp2
  go_loopw [3, 4] (fun v i wr => ∃ k : Nat, k ≤ l ∧ i = .int .i64 k ∧ wr.ownsRow w.heap.size 9 1 v k ((ss.take k).map Value.string) ∧ Kept w wr) (fun _ i _ => l - (intOf i).toNat)
  case atStart => exact ⟨0, by omega, rfl, World.ownsRow_nil _ _ _ _, Kept.refl _⟩
  case round =>
    obtain ⟨k, hk, rfl, hown, hK⟩ := hrel
    have HK := Lib.hid hK
    have HO := Lib.hid hown
    by_cases hlt : k < l
    · obtain ⟨b, off, ha, hc⟩ := h.cells
      obtain rfl := ha (by omega)
      have hck := hK.cell (hc k hlt).1 (hc k hlt).2
      have htk := take_snoc ss k (by have := HL.out; omega)
      generalize ss.getD k ByteArray.empty = t at hck htk
      have HT := Lib.hid htk
      clear h hc ha hK htk hown
      go_wp2_with (at_builtin; refine wpList_append_own _ rfl _ _ 23 rfl w.heap.size 9 i0 (.string ByteArray.empty) 1 16 Try.underlying23 HI.out.1 HI.out.2.1 HI.out.2.2.1 HI.out.2.2.2 rfl (by decide) _ _ _ rfl (HO.out.alloc _) ⟨wr.heap.size, 0, none⟩ 1 1 [.string t] rfl rfl ?c1 ?c2 ?c3 ?c4 ?c5 ?_)
      case c1 =>
        intro j u hj
        match j, hj with
        | 0, hj => simp at hj; subst hj; simp [Addr.add]
      case c2 => intro u hu; simp at hu; subst hu; rfl
      case c3 => unfold maxLen; omega
      case c4 => omega
      case c5 => have := HK.out.size; simp; omega
      intro v' w1 hown' hgrow _
      have HO' := Lib.hid hown'
      have HK' := Lib.hid (kept_grown (HK.out.alloc _) (HO.out.alloc _) hgrow)
      clear hown' hgrow
      go_wp2
      go_roundw
      case rel => exact ⟨k + 1, by omega, by go_num, by rw [HT.out, List.map_append, List.map_take]; exact HO'.out, HK'.out⟩
      case measure => simp [intOf]; omega
    · obtain rfl : k = l := by omega
      rw [List.take_of_length_le (Nat.le_of_eq HL.out)] at hown
      obtain ⟨a', cap', rfl, hcl, hst⟩ := strs_of_own hown HL.out HSZ.out
      have HF := Lib.hid hst
      clear h hK hown hst HO
      go_wp2
      go_ret
      exact ⟨a', cap', rfl, hcl, HF.out, HK.out⟩
end Go.Proofs.Ytoonpnpooljmlaa

namespace Go.Proofs.Ytoonpnpooljmlaa
open Go.RowKit

/-- A slice value that reads as these bytes. -/
structure ByIn (w : World) (a : Option Addr) (len : Nat) (H : Nat → Nat) : Prop where
  cells : ∃ b off, (0 < len → a = some ⟨b, off, none⟩) ∧ ∀ i, i < len → b < w.heap.size ∧ w.cell? ⟨b, off + i, none⟩ = some (.int .u8 ((H i : Nat) : Int))
theorem ByIn.kept {w w' : World} {a : Option Addr} {len : Nat} {H : Nat → Nat} (h : ByIn w a len H) (k : Kept w w') : ByIn w' a len H := by
  obtain ⟨b, off, ha, hc⟩ := h.cells
  exact ⟨b, off, ha, fun i hi => ⟨Nat.lt_of_lt_of_le (hc i hi).1 k.size, k.cell (hc i hi).1 (hc i hi).2⟩⟩
theorem ByIn.congr {w : World} {a : Option Addr} {len : Nat} {H G : Nat → Nat} (h : ByIn w a len H) (e : ∀ i, i < len → H i = G i) : ByIn w a len G := by
  obtain ⟨b, off, ha, hc⟩ := h.cells
  exact ⟨b, off, ha, fun i hi => ⟨(hc i hi).1, by rw [← e i hi]; exact (hc i hi).2⟩⟩
theorem ByIn.empty (w : World) (a : Option Addr) (H : Nat → Nat) : ByIn w a 0 H := ⟨0, 0, fun h => absurd h (Nat.lt_irrefl 0), fun i hi => absurd hi (Nat.not_lt_zero i)⟩
/-- a matrix's numbers in a row -/
def flat (c : Nat) (F : Nat → Nat → Nat) : Nat → Nat := fun k => F (k / c) (k % c)
theorem divmod {c i j : Nat} (hj : j < c) : (i * c + j) / c = i ∧ (i * c + j) % c = j := by
  have hc : 0 < c := by omega
  exact ⟨by rw [Nat.mul_comm, Nat.mul_add_div hc, Nat.div_eq_of_lt hj]; omega, by rw [Nat.mul_comm, Nat.mul_add_mod, Nat.mod_eq_of_lt hj]⟩
theorem MatR.flat {w : World} {b off r c : Nat} {F : Nat → Nat → Nat} (h : MatR w b off r c F) : ByIn w (some ⟨b, off, none⟩) (r * c) (flat c F) := by
  refine ⟨b, off, fun _ => rfl, fun k hk => ?_⟩
  have hc : 0 < c := Nat.pos_of_ne_zero (fun e => by rw [e, Nat.mul_zero] at hk; omega)
  have h1 : k / c < r := (Nat.div_lt_iff_lt_mul hc).2 hk
  have h2 := Nat.mod_lt k hc
  have h3 : k / c * c + k % c = k := Nat.div_add_mod' k c
  have h4 := h (k / c) (k % c) h1 h2
  rw [Nat.add_assoc, h3] at h4
  exact ⟨cell_lt h4, h4⟩
/-- bytes in a row read as a matrix -/
def rect (c : Nat) (H : Nat → Nat) : Nat → Nat → Nat := fun i j => H (i * c + j)
theorem ByIn.rect {w : World} {a : Option Addr} {r c : Nat} {H : Nat → Nat} (h : ByIn w a (r * c) H) (h0 : 0 < r * c) : ∃ b off, a = some ⟨b, off, none⟩ ∧ MatR w b off r c (rect c H) := by
  obtain ⟨b, off, ha, hc⟩ := h.cells
  refine ⟨b, off, ha h0, fun i j hi hj => ?_⟩
  have := (hc (i * c + j) (idx_lt hi hj)).2
  rw [← Nat.add_assoc] at this
  exact this

set_option maxRecDepth 100000 in
set_option maxHeartbeats 400000 in
theorem eq_bytes (a a' : Option Addr) (l cap cap' : Nat) (H : Nat → Nat) (hl : l ≤ 9223372036854775807) (w : World) (h : ByIn w a l H) (h' : ByIn w a' l H) :
    Calls Try.prog 41 #[.slice a l cap, .slice a' l cap'] w fun e w' => e = .returned (.bool true) ∧ Kept w w' := by
  have HH := Lib.hid h
  have HH' := Lib.hid h'
  clear h h'
  go_enter Try.func41, Try.ntmps41
  go_wp2
  go_loopw [5] (fun i wr => ∃ k : Nat, k ≤ l ∧ i = .int .i64 k ∧ Kept w wr) (fun i _ => l - (intOf i).toNat)
  case atStart => exact ⟨0, by omega, rfl, Kept.refl _⟩
  case round =>
    obtain ⟨k, hk, rfl, hK⟩ := hrel
    have HK := Lib.hid hK
    by_cases hlt : k < l
    · obtain ⟨b, off, ha, hc⟩ := HH.out.cells
      obtain ⟨b', off', ha', hc'⟩ := HH'.out.cells
      obtain rfl := ha (by omega)
      obtain rfl := ha' (by omega)
      have hck := hK.cell (hc k hlt).1 (hc k hlt).2
      have hck' := hK.cell (hc' k hlt).1 (hc' k hlt).2
      generalize H k = x at hck hck'
      clear hc hc' ha ha' hK
      go_wp2_with fail
      go_quiet (fail)
      go_wp2
      go_roundw
      case rel => exact ⟨k + 1, by omega, by go_num, HK.out.drewN nq⟩
      case measure => simp [intOf]; omega
    · clear hK
      go_wp2
      go_ret
      exact ⟨rfl, HK.out⟩
theorem by_of_own {w : World} {base l : Nat} {e : TypeId} {v : Value} {H : Nat → Nat} (ho : w.ownsRow base e 1 v l ((List.range l).map fun i => Value.int .u8 ((H i : Nat) : Int))) :
    ∃ a cap, v = .slice a l cap ∧ l ≤ cap ∧ ByIn w a l H ∧ (0 < l → ∃ g cs, a = some ⟨g, 0, none⟩ ∧ base ≤ g ∧ BlockAt w g cs e) := by
  rcases ho.2 with ⟨rfl, rfl⟩ | ⟨g, cap, cur, rfl, hb, hg, hn, hm, _⟩
  · exact ⟨none, 0, rfl, Nat.le_refl _, ByIn.empty _ _ _, fun h => absurd h (Nat.lt_irrefl 0)⟩
  · refine ⟨_, cap, rfl, hn, ⟨g, 0, fun _ => rfl, fun i hi => ⟨(ho.lt g rfl).2, ?_⟩⟩, fun _ => ⟨g, cur, rfl, hb, hg⟩⟩
    rw [Nat.zero_add, ho.cellAt i (by omega)]
    simp [hi]
set_option maxRecDepth 100000 in
set_option maxHeartbeats 800000 in
theorem copy_bytes (a : Option Addr) (l cap : Nat) (H : Nat → Nat) (hl : l ≤ 140737488351232) (w : World) (h : ByIn w a l H) :
    Calls Try.prog 83 #[.slice a l cap] w fun e w' => ∃ a' cap', e = .returned (.slice a' l cap') ∧ l ≤ cap' ∧ ByIn w' a' l H ∧ (0 < l → ∃ g cs, a' = some ⟨g, 0, none⟩ ∧ w.heap.size ≤ g ∧ BlockAt w' g cs 5) ∧ Kept w w' := by
  obtain ⟨i0, hi, hz0, hz1, hz2⟩ := info_parts Try.infoU8
  have HI := Lib.hid (And.intro hi (And.intro hz0 (And.intro hz1 hz2)))
  have HH := Lib.hid h
  clear hi hz0 hz1 hz2 h
  go_enter Try.func83, Try.ntmps83
  go_wp2
  go_loopw [3, 4] (fun v i wr => ∃ k : Nat, k ≤ l ∧ i = .int .i64 k ∧ wr.ownsRow w.heap.size 5 1 v k ((List.range k).map fun i => Value.int .u8 ((H i : Nat) : Int)) ∧ Kept w wr) (fun _ i _ => l - (intOf i).toNat)
  case atStart => exact ⟨0, by omega, rfl, World.ownsRow_nil _ _ _ _, Kept.refl _⟩
  case round =>
    obtain ⟨k, hk, rfl, hown, hK⟩ := hrel
    have HK := Lib.hid hK
    have HO := Lib.hid hown
    by_cases hlt : k < l
    · obtain ⟨b, off, ha, hc⟩ := HH.out.cells
      obtain rfl := ha (by omega)
      have hck := hK.cell (hc k hlt).1 (hc k hlt).2
      have hsn : (List.range (k + 1)).map (fun i => Value.int .u8 ((H i : Nat) : Int)) = (List.range k).map (fun i => Value.int .u8 ((H i : Nat) : Int)) ++ [.int .u8 ((H k : Nat) : Int)] := by rw [List.range_succ]; simp
      have HSN := Lib.hid hsn
      clear hc ha hK hown hsn
      go_wp2_with (at_builtin; refine wpList_append_own _ rfl _ _ 31 rfl w.heap.size 5 i0 (.int .u8 0) 1 1 Try.underlying31 HI.out.1 HI.out.2.1 HI.out.2.2.1 HI.out.2.2.2 rfl (by decide) _ _ _ rfl (HO.out.alloc _) ⟨wr.heap.size, 0, none⟩ 1 1 [.int .u8 ((H k : Nat) : Int)] rfl rfl ?c1 ?c2 ?c3 ?c4 ?c5 ?_)
      case c1 =>
        intro j u hj
        match j, hj with
        | 0, hj => simp at hj; subst hj; simp [Addr.add]
      case c2 => intro u hu; simp at hu; subst hu; rfl
      case c3 => unfold maxLen; omega
      case c4 => omega
      case c5 => have := HK.out.size; simp; omega
      intro v' w1 hown' hgrow _
      have HO' := Lib.hid hown'
      have HK' := Lib.hid (kept_grown (HK.out.alloc _) (HO.out.alloc _) hgrow)
      clear hown' hgrow
      go_wp2
      go_roundw
      case rel => exact ⟨k + 1, by omega, by go_num, by rw [HSN.out]; exact HO'.out, HK'.out⟩
      case measure => simp [intOf]; omega
    · obtain rfl : k = l := by omega
      obtain ⟨a', cap', rfl, hcl, hst, hg⟩ := by_of_own hown
      have HF := Lib.hid hst
      have HG := Lib.hid hg
      clear hK hown hst hg HO
      go_wp2
      go_ret
      exact ⟨a', cap', rfl, hcl, HF.out, HG.out, HK.out⟩
set_option maxRecDepth 100000 in
theorem eq_matrix (r c : Int) (a a' : Option Addr) (l cap cap' : Nat) (H : Nat → Nat) (hl : l ≤ 9223372036854775807) (w : World) (h : ByIn w a l H) (h' : ByIn w a' l H) :
    Calls Try.prog 17 #[.agg #[.int .i64 r, .int .i64 c, .slice a l cap], .agg #[.int .i64 r, .int .i64 c, .slice a' l cap']] w fun e w' => e = .returned (.bool true) ∧ Kept w w' := by
  have HH := Lib.hid h
  have HH' := Lib.hid h'
  have h1 : (r == r) = true := by simp
  have h2 : (c == c) = true := by simp
  clear h h'
  go_enter Try.func17, Try.ntmps17
  go_wp2_with fail
  refine (eq_bytes a a' l cap cap' H hl _ (by exact HH.out.kept (((Kept.refl w).alloc _).alloc _)) (by exact HH'.out.kept (((Kept.refl w).alloc _).alloc _))).mono ?_
  rintro e w1 ⟨rfl, hk⟩
  have HK := Lib.hid ((((Kept.refl w).alloc _).alloc _).trans hk)
  clear hk
  go_wp2
  go_ret
  exact ⟨rfl, HK.out⟩
set_option maxRecDepth 100000 in
theorem copy_matrix (r c : Int) (a : Option Addr) (l cap : Nat) (H : Nat → Nat) (hl : l ≤ 140737488351232) (w : World) (h : ByIn w a l H) :
    Calls Try.prog 68 #[.agg #[.int .i64 r, .int .i64 c, .slice a l cap]] w fun e w' => ∃ a' cap', e = .returned (.agg #[.int .i64 r, .int .i64 c, .slice a' l cap']) ∧ l ≤ cap' ∧ ByIn w' a' l H ∧
      (0 < l → ∃ g cs, a' = some ⟨g, 0, none⟩ ∧ w.heap.size ≤ g ∧ BlockAt w' g cs 5) ∧ Kept w w' := by
  have HH := Lib.hid h
  clear h
  go_enter Try.func68, Try.ntmps68
  go_wp2_with fail
  refine (copy_bytes a l cap H hl _ (by exact HH.out.kept ((((Kept.refl w).alloc _).alloc _).alloc _))).mono ?_
  rintro e w1 ⟨a', cap', rfl, hcl, hb, hg, hk⟩
  have h3 := (BlockAt.new2 w #[.int .i64 r, .int .i64 c, .slice a l cap] 33 (.cells #[.int .i64 r, .int .i64 c, .slice a l cap] 33) (.cells #[.int .i64 0, .int .i64 0, .slice none 0 0] 33)).kept hk
  have hR := ((BlockAt.new1 w #[.int .i64 0, .int .i64 0, .slice none 0 0] 33 (.cells #[.int .i64 r, .int .i64 c, .slice a l cap] 33)).kept ((Kept.refl _).alloc (.cells #[.int .i64 r, .int .i64 c, .slice a l cap] 33))).kept hk
  have hK := ((((Kept.refl w).alloc _).alloc _).alloc _).trans hk
  have h3' : BlockAt (w1.setCell ⟨w.heap.size + 1 + 1, 2, none⟩ (.slice a' l cap')) (w.heap.size + 1 + 1) #[.int .i64 r, .int .i64 c, .slice a' l cap'] 33 := h3.set (i := 2) (.slice a' l cap')
  have hR' : BlockAt (w1.setCell ⟨w.heap.size + 1 + 1, 2, none⟩ (.slice a' l cap')) (w.heap.size + 1) #[.int .i64 0, .int .i64 0, .slice none 0 0] 33 := hR.setOther _ (by omega)
  have hzk := Below.size hk
  simp only [World.size_alloc] at hzk
  have c2 := (box3 h3).2.2
  have f2 := h3.free 2
  obtain ⟨d0, d1, d2⟩ := box3 h3'
  have hgr := grown_set w1 (w.heap.size + 1 + 1) 2 (.slice a' l cap')
  have HB := Lib.hid hb
  have HG := Lib.hid hg
  have HR := Lib.hid hR'
  have HK := Lib.hid hK
  have HZK := Lib.hid hzk
  have HGR := Lib.hid hgr
  clear hb hg hk h3 hR hK h3' hR' hzk hgr
  go_wp2_with (refine wpList_store_block rfl 33 (.tmp 2) (.tmp 9) rfl _ #[.int .i64 r, .int .i64 c, .slice a' l cap'] #[.int .i64 0, .int .i64 0, .slice none 0 0] 33 rfl rfl HR.out Try.infoMat rfl (one3 _ _ _ _ _) ?_)
  have g2 := grown_row (w1.setCell ⟨w.heap.size + 1 + 1, 2, none⟩ (.slice a' l cap')) (w.heap.size + 1) #[.int .i64 r, .int .i64 c, .slice a' l cap']
  refine bodyPost_ret (v := .agg #[.int .i64 r, .int .i64 c, .slice a' l cap']) ?_ rfl ⟨a', cap', rfl, hcl, ?_, fun h0 => ?_, ?_⟩
  · exact results_cell_row rfl _ _ (w.heap.size + 1) 33 #[.int .i64 r, .int .i64 c, .slice a' l cap'] (0, 0) _ rfl (HR.out.setRow _) Try.underlying33 rfl Try.infoMat
  · by_cases h0 : 0 < l
    · obtain ⟨g, cs, hga, hgb, hgk⟩ := HG.out h0
      simp only [World.size_alloc] at hgb
      obtain ⟨b, off, ha, hc⟩ := HB.out.cells
      have := ha h0
      rw [hga] at this
      cases this
      exact ⟨g, 0, fun _ => hga, fun i hi => by
        have h1 := (hc i hi).2
        have h2 := (World.cell?_of_block (a := ⟨g, 0 + i, none⟩) (HGR.out.block g (hc i hi).1 (by simp; omega))).trans h1
        have h3 := (World.cell?_of_block (a := ⟨g, 0 + i, none⟩) (g2.block g (cell_lt h2) (by simp; omega))).trans h2
        exact ⟨cell_lt h3, h3⟩⟩
    · obtain rfl : l = 0 := by omega
      exact ByIn.empty _ _ _
  · obtain ⟨g, cs, hga, hgb, hgk⟩ := HG.out h0
    simp only [World.size_alloc] at hgb
    exact ⟨g, cs, hga, by omega, (hgk.grown HGR.out (by simp; omega)).grown g2 (by simp; omega)⟩
  · exact (Kept.grown HK.out HGR.out (fun k e => by cases e; omega)).grown g2 (fun k e => by cases e; omega)
end Go.Proofs.Ytoonpnpooljmlaa

namespace Go.Proofs.Ytoonpnpooljmlaa
open Go.RowKit Go.Shelf
attribute [local go_sem] Oper.semAt_some

/-- the numbers of the first rows -/
def firstZ (K : Nat) : List Int := (List.range K).map fun i => ((i : Nat) : Int)
theorem firstZ_at {K i : Nat} (h : i < K) : ((firstZ K).getD i 0).toNat = i := by simp [firstZ, h]
theorem top_rank2 (K : Nat) (hK : K ≤ 255) : rankF K K (pickF allF (firstZ K)) = K :=
  rows_rank (z := fun i => ((firstZ K).getD i 0).toNat) (fun i hi => by show ((firstZ K).getD i 0).toNat < 255; rw [firstZ_at hi]; omega) (fun i j hi hj h => by
    have h' : ((firstZ K).getD i 0).toNat = ((firstZ K).getD j 0).toNat := h
    rw [firstZ_at hi, firstZ_at hj] at h'
    exact h')
/-- the generator -/
def genF (K : Nat) : Nat → Nat → Nat := mulM K allF (invF K (pickF allF (firstZ K)))
theorem Try.infoIc : (Try.prog.info? 3).map (fun i => (i.zero, i.size, i.bytes)) = some (some (.int .i64 0), 1, 8) := by kernel_rfl
theorem mkInts (n : Nat) (hn : n ≤ 1000000) : ∀ u : World, (Instr.makeSlice 58 (.int .i64 n) (.int .i64 n)).run Try.prog u =
    .ok (.slice (some ⟨u.heap.size, 0, none⟩) n n) (u.alloc (.cells (madeCells #[.int .i64 0] n) 3)) := fun u => by
  obtain ⟨i0, hi, hz0, hz1, hz2⟩ := info_parts Try.infoIc
  have h := run_make (P := Try.prog) u 58 3 i0 (.int .i64 0) Try.underlying58 hi hz0 .i64 .i64 (n : Int) (n : Int) (by omega) (Int.le_refl _) (by rw [hz2]; omega) (by omega)
  simpa [hz1, Value.cells] using h
/-- a row of n whole numbers of which the first k are written -/
structure Ic (w : World) (g n k : Nat) : Prop where
  block : ∃ cs, BlockAt w g cs 3
  cell : ∀ i, i < n → w.cell? ⟨g, i, none⟩ = some (.int .i64 ((if i < k then i else 0 : Nat) : Int))
theorem Ic.lt {w : World} {g n k : Nat} (h : Ic w g n k) : g < w.heap.size := by obtain ⟨cs, hb⟩ := h.block; exact hb.lt
theorem Ic.free {w : World} {g n k : Nat} (h : Ic w g n k) (i : Nat) : w.frozen? ⟨g, i, none⟩ = false := by obtain ⟨cs, hb⟩ := h.block; exact hb.free i
theorem Ic.set {w : World} {g n k : Nat} (h : Ic w g n k) (hk : k < n) : Ic (w.setCell ⟨g, k, none⟩ (.int .i64 (k : Int))) g n (k + 1) := by
  obtain ⟨cs, hb⟩ := h.block
  refine ⟨⟨_, hb.set _⟩, fun i hi => ?_⟩
  by_cases e : i = k
  · subst e
    rw [World.cell?_setCell_same _ _ _ (h.cell i hk), if_pos (by omega)]
  · have hne : (⟨g, i, none⟩ : Addr) ≠ ⟨g, k, none⟩ := fun h => e (Addr.mk.inj h).2.1
    rw [World.cell?_setCell_other (h := hne.symm), h.cell i hi]
    by_cases h2 : i < k
    · rw [if_pos h2, if_pos (by omega)]
    · rw [if_neg h2, if_neg (by omega)]
theorem made_ints (u : World) (n : Nat) : Ic (u.alloc (.cells (madeCells #[.int .i64 0] n) 3)) u.heap.size n 0 := by
  refine ⟨⟨_, BlockAt.new _ _ _⟩, fun i hi => ?_⟩
  rw [cell_new]
  simp [madeCells, hi, Nat.mod_one]
theorem Ic.ints {w : World} {g n : Nat} (h : Ic w g n n) (hn : n ≤ 1000000) : IntsIn w .i64 (some ⟨g, 0, none⟩) n (firstZ n) := by
  refine ⟨by simp [firstZ], by omega, fun x hx => ?_, g, 0, fun _ => rfl, fun i hi => ⟨h.lt, ?_⟩⟩
  · unfold firstZ at hx
    rw [List.mem_map] at hx
    obtain ⟨i, hi, rfl⟩ := hx
    have := List.mem_range.1 hi
    have h1 : IntKind.i64.min = -9223372036854775808 := by decide
    have h2 : IntKind.i64.max = 9223372036854775807 := by decide
    simp [Lit.wf, h1, h2]
    omega
  · rw [Nat.zero_add, h.cell i hi, if_pos hi]
    simp [firstZ, hi]
set_option maxRecDepth 100000 in
set_option maxHeartbeats 4000000 in
theorem generator_any (K M H s : Nat) (hH : H = K + M) (hK : 1 ≤ K ∧ K ≤ 8 ∧ M ≤ 6) (wo : World) :
    Calls Try.prog 36 #[.agg #[.int .i64 K, .int .i64 M, .int .i64 s]] wo fun e w' => ∃ b off, e = .returned (.agg #[.int .i64 H, .int .i64 K, .slice (some ⟨b, off, none⟩) (H * K) (H * K)]) ∧ wo.heap.size ≤ b ∧ Mat w' b off H K (genF K) ∧ Kept wo w' := by
  have eH : (K : Int) + (M : Int) = (H : Int) := by omega
  have hHK : H * K ≤ 112 := Nat.le_trans (Nat.mul_le_mul (show H ≤ 14 by omega) hK.2.1) (by decide)
  obtain ⟨i0, hi, hz0, hz1, hz2⟩ := info_parts Try.infoU8
  have HI := Lib.hid (And.intro hi (And.intro hz0 (And.intro hz1 hz2)))
  have HH := Lib.hid hH
  clear hi hz0 hz1 hz2 hH
  refine callsIn_wide.1 (callsIn_of_wp_marks (n := 8) Try.func36 rfl trivial ?_ rfl)
  simp only [Try.ntmps36, List.size_toArray, List.length_nil, List.length_cons, Nat.reduceAdd, Nat.reduceSub, Array.replicate_succ, Array.replicate_zero, List.push_toArray, List.append_toArray, List.nil_append, List.cons_append]
  refine wpIn_wide.2 ?_
  have c0 := box3 (BlockAt.new wo #[.int .i64 K, .int .i64 M, .int .i64 s] 29)
  go_upto_region 2 with (fail)
  have hs0 := ((BlockAt.new wo #[.int .i64 K, .int .i64 M, .int .i64 s] 29).kept ((Kept.refl _).alloc (.cells #[.int .i64 0, .int .i64 0, .slice none 0 0] 33))).kept ((Kept.refl _).alloc (.cells #[.int .i64 H, .int .i64 K, .slice none 0 0] 33))
  have hz0 := (BlockAt.new1 wo #[.int .i64 0, .int .i64 0, .slice none 0 0] 33 (.cells #[.int .i64 K, .int .i64 M, .int .i64 s] 29)).kept ((Kept.refl _).alloc (.cells #[.int .i64 H, .int .i64 K, .slice none 0 0] 33))
  have hm0 := BlockAt.new2 wo #[.int .i64 H, .int .i64 K, .slice none 0 0] 33 (.cells #[.int .i64 K, .int .i64 M, .int .i64 s] 29) (.cells #[.int .i64 0, .int .i64 0, .slice none 0 0] 33)
  have k0 := (((Kept.refl wo).alloc (.cells #[.int .i64 K, .int .i64 M, .int .i64 s] 29)).alloc (.cells #[.int .i64 0, .int .i64 0, .slice none 0 0] 33)).alloc (.cells #[.int .i64 H, .int .i64 K, .slice none 0 0] 33)
  have hsz : wo.heap.size + 3 = (((wo.alloc (.cells #[.int .i64 K, .int .i64 M, .int .i64 s] 29)).alloc (.cells #[.int .i64 0, .int .i64 0, .slice none 0 0] 33)).alloc (.cells #[.int .i64 H, .int .i64 K, .slice none 0 0] 33)).heap.size := by simp
  clear c0
  generalize (((wo.alloc (.cells #[.int .i64 K, .int .i64 M, .int .i64 s] 29)).alloc (.cells #[.int .i64 0, .int .i64 0, .slice none 0 0] 33)).alloc (.cells #[.int .i64 H, .int .i64 K, .slice none 0 0] 33)) = wa at *
  have HS0 := Lib.hid hs0
  have HZ0 := Lib.hid hz0
  have HM0 := Lib.hid hm0
  have HK0 := Lib.hid k0
  obtain ⟨c1, c2, c3⟩ := box3 hs0
  clear hs0 hz0 hm0 k0
  go_wp2_with fail
  refine (powersq_any _ _ _ _).mono ?_
  rintro e w5 ⟨rfl, hw5⟩
  have hk5 : Kept wa w5 := by rw [hw5]; exact (Kept.refl _).alloc _
  have HX := Lib.hid (show BlockAt w5 wa.heap.size #[.int .i64 K, .int .i64 M, .int .i64 s] 29 by rw [hw5]; exact BlockAt.new _ _ _)
  have HS5 := Lib.hid (HS0.out.kept hk5)
  have HZ5 := Lib.hid (HZ0.out.kept hk5)
  have HM5 := Lib.hid (HM0.out.kept hk5)
  have HKZ := Lib.hid (HK0.out.trans hk5)
  have hx5 : wa.heap.size < w5.heap.size := by rw [hw5]; simp
  clear hk5 hw5 HS0 HZ0 HM0 HK0 c1 c2 c3
  generalize wa.heap.size = x at *
  go_wp2_with fail
  refine wp_of_in 8 ?_
  obtain ⟨R, hR⟩ : ∃ R : Nat → Prop, R = fun g => wo.heap.size ≤ g ∧ g ≠ wo.heap.size ∧ g ≠ wo.heap.size + 1 ∧ g ≠ wo.heap.size + 1 + 1 ∧ g ≠ x := ⟨_, rfl⟩
  have HRL := Lib.hid (show ¬ R wo.heap.size ∧ ¬ R (wo.heap.size + 1) ∧ ¬ R (wo.heap.size + 1 + 1) by rw [hR]; exact ⟨fun h => h.2.1 rfl, fun h => h.2.2.1 rfl, fun h => h.2.2.2.1 rfl⟩)
  have HRN := Lib.hid (show ∀ g, x + 1 ≤ g → R g by rw [hR]; exact fun g h => ⟨by omega, by omega, by omega, by omega, by omega⟩)
  have hrt : ¬ (R x ∨ x = wo.heap.size + 1 + 1) := by rw [hR]; exact fun h => by rcases h with h | h; exact h.2.2.2.2 rfl; omega
  clear hR
  refine wpIn_rangeFunc_S rfl (by omega) (gf := 65) (lb := #[.pointer (some ⟨x, 0, none⟩)]) rfl trivial (enters_of Try.func65 (by kernel_rfl) rfl)
    (powersq_stops 7 (by omega) (fun g => R g ∨ g = wo.heap.size + 1 + 1) K M H s HH.out hK x w5 hrt HX.out) (CellsBut.refl _) CellsBut.trans CellsBut.putObj (Below.refl _ _) (fun _ => rfl)
    (fun pre W => (∃ v, BlockAt W (wo.heap.size + 1 + 1) #[.int .i64 H, .int .i64 K, v] 33 ∧ W.ownsRow wo.heap.size 5 1 v pre.length (pre.map fun i => Value.int .u8 (pwAt K i.1 : Nat)) ∧ ∀ g, v.ownBlock = some g → R g) ∧ ((BlockAt W wo.heap.size #[.int .i64 K, .int .i64 M, .int .i64 s] 29 ∧ BlockAt W (wo.heap.size + 1) #[.int .i64 0, .int .i64 0, .slice none 0 0] 33) ∧ (x + 1 ≤ W.heap.size ∧ Below wo.heap.size wo W)))
    (fun _ _ _ => False)
    ?hI (fun _ _ _ _ _ hs _ _ => hs) ?h0 ?round ?done ?stop
  case hI =>
    refine OwnFrom.and (Own.from (fun s A B row hs hg hr => ?_) _) (OwnFrom.and (Own.from (fun s A B row hs hg hr => ⟨block_own hs.1 hg hr, block_own hs.2 hg hr⟩) _) (OwnFrom.and (Own.from (fun s A B row hs hg hr => Nat.le_trans hs hg.size) _) (ownFrom_below (Nat.le_refl _) (by omega))))
    obtain ⟨v, h1, h2, h3⟩ := hs
    exact ⟨v, block_own h1 hg hr, own_own h2 hg hr, h3⟩
  case h0 => exact ⟨⟨_, HM5.out, World.ownsRow_nil _ _ _ _, fun g e => by cases e⟩, ⟨HS5.out, HZ5.out⟩, by omega, HKZ.out⟩
  case round =>
    rintro l ⟨i, hi⟩ W K' hK'
    have HKK := Lib.hid hK'
    clear hK'
    gi_wp2
    refine HKK.out _ ?_
    clear HKK
    rintro l pre W ⟨⟨v, hpl, hown, hvR⟩, ⟨hsh, hzz⟩, hx2, hB⟩ hlen
    have HB := Lib.hid hB
    have HPL2 := Lib.hid hpl
    have HOWN := Lib.hid hown
    have HVR := Lib.hid hvR
    have HSH := Lib.hid hsh
    have HZZ := Lib.hid hzz
    have HPR := Lib.hid (show (pre ++ [(⟨i, hi⟩ : { t : Nat // t < H * K })]).map (fun i => Value.int .u8 (pwAt K i.1 : Nat)) = pre.map (fun i => Value.int .u8 (pwAt K i.1 : Nat)) ++ [Value.int .u8 (pwAt K i : Nat)] by simp)
    have hn : pre.length < 113 := by omega
    clear hpl hown hvR hB hsh hzz
    generalize hps : pre.map (fun i => Value.int .u8 (pwAt K i.1 : Nat)) = ps at *
    generalize pwAt K i = ti at *
    clear hps
    have hwl := HB.out.size
    obtain ⟨c1, c2, c3⟩ := box3 HPL2.out
    gi_wp2_with (gi_at_builtin; refine wpListIn_append_own_at _ rfl _ _ 31 rfl wo.heap.size 5 i0 (.int .u8 0) 1 1 Try.underlying31 HI.out.1 HI.out.2.1 HI.out.2.2.1 HI.out.2.2.2 rfl (by decide) _ _ _ rfl (HOWN.out.alloc _) ⟨W.heap.size, 0, none⟩ 1 1 [.int .u8 (ti : Int)] rfl rfl ?c1 ?c2 ?c3 ?c4 ?c5 ?_)
    case c1 =>
      intro j' u hj'
      match j', hj' with
      | 0, hj' => simp at hj'; subst hj'; simp [Addr.add]
    case c2 => intro u hu; simp at hu; subst hu; rfl
    case c3 => unfold maxLen; omega
    case c4 => omega
    case c5 => simp; omega
    intro v' w9 hown9 hgrow _ hat
    obtain ⟨a9, c9, hv9⟩ := slice_of_own1 hown9
    have kx := (Kept.refl W).alloc (.cells #[.int .u8 (ti : Int)] 5)
    have hown1 := own_kept HOWN.out kx
    have hne : ∀ g, v.ownBlock = some g → g ≠ wo.heap.size ∧ g ≠ wo.heap.size + 1 ∧ g ≠ wo.heap.size + 1 + 1 := fun g e => ⟨fun q => HRL.out.1 (q ▸ HVR.out g e), fun q => HRL.out.2.1 (q ▸ HVR.out g e), fun q => HRL.out.2.2 (q ▸ HVR.out g e)⟩
    have hpl9 := block_grown (HPL2.out.kept kx) hgrow (fun e => (hne _ e.symm).2.2 rfl)
    have hsh9 := block_grown (HSH.out.kept kx) hgrow (fun e => (hne _ e.symm).1 rfl)
    have hzz9 := block_grown (HZZ.out.kept kx) hgrow (fun e => (hne _ e.symm).2.1 rfl)
    have hR9 : ∀ g, v'.ownBlock = some g → R g := fun g e => by
      rcases hat with h | h
      · exact HVR.out g (h ▸ e)
      · rw [h] at e
        cases e
        exact HRN.out _ (by have := kx.size; omega)
    have hpg : some (wo.heap.size + 1 + 1) ≠ v'.ownBlock := fun e => HRL.out.2.2 (hR9 _ e.symm)
    have hset : w9.grownBy (w9.setCell ⟨wo.heap.size + 1 + 1, 2, none⟩ v') (some (wo.heap.size + 1 + 1)) := grown_set w9 _ _ _
    have HE1 := Lib.hid ((((others_kept kx).trans (others_own hown1 hgrow))).trans (KeepsOthers.setCell w9 ⟨wo.heap.size + 1 + 1, 2, none⟩ v'))
    have HE2 := Lib.hid (((CellsBut.of_kept kx).trans (but_own hgrow (fun j e => Or.inl (HVR.out j e)))).trans (CellsBut.setCell (R := fun j => R j ∨ j = wo.heap.size + 1 + 1) (b := wo.heap.size + 1 + 1) (i := 2) w9 v' (.inr rfl)))
    have HE3 := Lib.hid (((kept_gr1 (HB.out.trans (Below.mono kx (by omega))) hgrow (fun g e => by have := (HOWN.out.lt g e).1; omega))).setCell (p := ⟨wo.heap.size + 1 + 1, 2, none⟩) (by show wo.heap.size ≤ wo.heap.size + 1 + 1; omega) v')
    have HE4 := Lib.hid (own_own1 hown9 hset hpg)
    have HE5 := Lib.hid (show BlockAt (w9.setCell ⟨wo.heap.size + 1 + 1, 2, none⟩ v') (wo.heap.size + 1 + 1) #[.int .i64 H, .int .i64 K, v'] 33 by have := hpl9.set (i := 2) v'; simpa using this)
    have HE6 := Lib.hid hR9
    have HE7 := Lib.hid (block_grown hsh9 hset (fun e => by have := Option.some.inj e; omega))
    have HE8 := Lib.hid (block_grown hzz9 hset (fun e => by have := Option.some.inj e; omega))
    have f0 := hpl9.free 2
    obtain ⟨d1, d2, d3⟩ := box3 hpl9
    have hs9 : W.heap.size ≤ (w9.setCell ⟨wo.heap.size + 1 + 1, 2, none⟩ v').heap.size := by have := kx.size; have := hgrow.size; simp only [World.size_setCell]; omega
    subst hv9
    clear hown9 hgrow hat kx hown1 hpl9 hsh9 hzz9 hR9 hpg hset hne
    gi_wp2
    refine ⟨HE1.out, HE2.out, ⟨_, HE5.out, ?_, HE6.out⟩, ⟨HE7.out, HE8.out⟩, by omega, HE3.out⟩
    rw [HPR.out, List.length_append]
    simpa using HE4.out
  case done =>
    rintro D ys W hD hys ⟨⟨v, hpl, hown, hvR⟩, ⟨hsh, hzz⟩, hx2, hB⟩ hK
    have hlen : ys.length = H * K := by have := congrArg List.length hys; rw [ixs_length] at this; simpa using this
    have hmap : ys.map (fun i => Value.int .u8 (pwAt K i.1 : Nat)) = (List.range (H * K)).map (fun i => Value.int .u8 ((pwAt K i : Nat) : Int)) := by
      rw [← hys]
      unfold ixs
      rw [List.map_map]
      rfl
    rw [hlen, hmap] at hown
    have hHK0 : 0 < H * K := Nat.mul_pos (by have := HH.out; omega) (by omega)
    obtain ⟨a', cap', rfl, hcap, hby, hg⟩ := by_of_own hown
    obtain ⟨g, cs, rfl, hbg, hcs⟩ := hg hHK0
    have hMR : MatR W g 0 H K allF := fun i j hi hj => by
      obtain ⟨b2, o2, ha2, hc2⟩ := hby.cells
      cases ha2 hHK0
      have hij : i * K + j < H * K := Nat.lt_of_lt_of_le (show i * K + j < (i + 1) * K by rw [Nat.succ_mul]; omega) (Nat.mul_le_mul_right K hi)
      have := (hc2 (i * K + j) hij).2
      rw [pwAt_eq hj] at this
      rw [Nat.add_assoc]
      exact this
    obtain ⟨c1, c2, c3⟩ := box3 hsh
    have HB := Lib.hid hB
    have HKD := Lib.hid hK
    have HPL3 := Lib.hid hpl
    have HSH3 := Lib.hid hsh
    have HZZ3 := Lib.hid hzz
    have HMR := Lib.hid hMR
    clear hpl hown hvR hB hsh hzz hmap hlen hys hK hby hcs hMR
    have hmk : ∀ w : World, (Instr.makeSlice 58 (.int .i64 K) (.int .i64 K)).run Try.prog w = .ok (.slice (some ⟨w.heap.size, 0, none⟩) K K) (w.alloc (.cells (madeCells #[.int .i64 0] K) 3)) := mkInts K (by omega)
    go_wp2_with fail
    have HI0 := Lib.hid (made_ints W K)
    have HK0 := Lib.hid ((Kept.refl W).alloc (.cells (madeCells #[.int .i64 0] K) 3))
    generalize W.alloc (.cells (madeCells #[.int .i64 0] K) 3) = w6 at *
    clear hmk c1 c2 c3
    go_loopw [35] (fun i wr => ∃ k : Nat, k ≤ K ∧ i = .int .i64 k ∧ Ic wr W.heap.size K k ∧ Kept W wr) (fun i _ => K - (intOf i).toNat)
    case atStart => exact ⟨0, by omega, rfl, HI0.out, HK0.out⟩
    case round =>
      obtain ⟨k, hk, rfl, hI, hKw⟩ := hrel
      have HKW := Lib.hid hKw
      have HIC := Lib.hid hI
      clear hKw
      by_cases hlt : k < K
      · have hcell := hI.cell k hlt
        have hfree := hI.free k
        clear hI
        go_wp2_with fail
        go_roundw
        case rel => exact ⟨k + 1, by omega, by go_num, HIC.out.set hlt, HKW.out.setCell (p := ⟨W.heap.size, k, none⟩) (Nat.le_refl _) _⟩
        case measure => simp [intOf]; omega
      · obtain rfl : K = k := by omega
        have hpl6 := HPL3.out.kept HKW.out
        have HMR6 := Lib.hid (HMR.out.kept HKW.out)
        have HIZ := Lib.hid (hI.ints (by omega))
        have HPL6 := Lib.hid hpl6
        have hlz : (firstZ K).length = K := by simp [firstZ]
        have hok : pickOk H (firstZ K) := fun i hi => by
          have hH := HH.out
          simp [firstZ] at hi ⊢
          simp [hi]
          omega
        have hK8 := hK
        have HOK := Lib.hid hok
        have hH14 : 1 ≤ H ∧ H ≤ 16 := by have := HH.out; omega
        have hH16 := Lib.hid hH14
        obtain ⟨c1, c2, c3⟩ := box3 hpl6
        clear hI hpl6 hok hH14
        go_wp2_with fail
        refine (pick_any H K g 0 cap' (some ⟨W.heap.size, 0, none⟩) K K (firstZ K) allF hH16.out ⟨by omega, by omega⟩ ⟨by omega, by omega⟩ hcap _ HMR6.out HIZ.out).mono ?_
        rintro e w7 ⟨hp, -, hk7⟩
        obtain ⟨b1, o1, rfl, hb1, hm1⟩ := hp HOK.out
        rw [hlz] at hm1 ⊢
        have HK7 := Lib.hid (HKW.out.trans hk7)
        have HM1 := Lib.hid hm1
        clear hp hk7 hm1 c1 c2 c3
        go_wp2_with fail
        have HB7 := Lib.hid (HK7.out.alloc (.cells #[.int .i64 K, .int .i64 K, .slice (some ⟨b1, o1, none⟩) (K * K) (K * K)] 33))
        have HM7 := Lib.hid (HM1.out.kept ((Kept.refl w7).alloc (.cells #[.int .i64 K, .int .i64 K, .slice (some ⟨b1, o1, none⟩) (K * K) (K * K)] 33)))
        generalize w7.alloc (.cells #[.int .i64 K, .int .i64 K, .slice (some ⟨b1, o1, none⟩) (K * K) (K * K)] 33) = w8 at *
        refine (invert_any K b1 o1 (K * K) (pickF allF (firstZ K)) ⟨by omega, by omega⟩ (Nat.le_refl _) (fun i j => allF_bt _ _) _ HM7.out.cell).mono ?_
        rintro e w9 ⟨hv, -, hk9⟩
        obtain ⟨b2, o2, rfl, hb2, hm2⟩ := hv (top_rank2 K (by omega))
        have HK9 := Lib.hid (HB7.out.trans hk9)
        have HM2 := Lib.hid hm2
        clear hv hk9 hm2
        go_upto_region 13 with (fail)
        have kb := (Kept.refl w9).alloc (.cells #[.int .i64 K, .int .i64 K, .slice (some ⟨b2, o2, none⟩) (K * K) (K * K)] 33)
        have hbx := BlockAt.new w9 #[.int .i64 K, .int .i64 K, .slice (some ⟨b2, o2, none⟩) (K * K) (K * K)] 33
        generalize w9.alloc (.cells #[.int .i64 K, .int .i64 K, .slice (some ⟨b2, o2, none⟩) (K * K) (K * K)] 33) = w10 at *
        have HK10 := Lib.hid (HK9.out.trans kb)
        have HM10 := Lib.hid (HM2.out.kept kb)
        have hpl10 := HPL3.out.kept HK10.out
        have HMR10 := Lib.hid (HMR.out.kept HK10.out)
        obtain ⟨c1, c2, c3⟩ := box3 hpl10
        obtain ⟨d1, d2, d3⟩ := box3 hbx
        clear kb hbx hpl10
        go_wp2_with fail
        refine (mat_mul_any H K K g 0 cap' b2 o2 (K * K) allF (invF K (pickF allF (firstZ K))) hH16.out ⟨by omega, by omega⟩ ⟨by omega, by omega⟩ hcap (Nat.le_refl _) allF_bt (invF_bt (fun i j => allF_bt _ _) K) _ HMR10.out HM10.out.cell).mono ?_
        rintro e w11 ⟨b3, o3, rfl, hb3, hm3, hk11⟩
        have HK11 := Lib.hid (HK10.out.trans hk11)
        have HM11 := Lib.hid hm3
        clear c1 c2 c3 d1 d2 d3 hk11 hm3
        go_upto_region 14 with (fail)
        have kb := (Kept.refl w11).alloc (.cells #[.int .i64 H, .int .i64 K, .slice (some ⟨b3, o3, none⟩) (H * K) (H * K)] 33)
        have hbx := BlockAt.new w11 #[.int .i64 H, .int .i64 K, .slice (some ⟨b3, o3, none⟩) (H * K) (H * K)] 33
        generalize w11.alloc (.cells #[.int .i64 H, .int .i64 K, .slice (some ⟨b3, o3, none⟩) (H * K) (H * K)] 33) = w12 at *
        have HK12 := Lib.hid (HK11.out.trans kb)
        have HM12 := Lib.hid (HM11.out.kept kb)
        have HZ12 := Lib.hid (HZZ3.out.kept HK12.out)
        have HW12 := Lib.hid (show W.heap.size ≤ b3 by have := HK10.out.size; omega)
        have HD12 := Lib.hid (HK12.out.block D (Array.getElem?_eq_some_iff.1 HKD.out).1 |>.trans HKD.out)
        obtain ⟨d1, d2, d3⟩ := box3 hbx
        clear kb hbx
        go_wp2_with (refine wpList_store_block rfl 33 (.tmp 2) (.tmp 60) rfl _ #[.int .i64 H, .int .i64 K, .slice (some ⟨b3, o3, none⟩) (H * K) (H * K)] #[.int .i64 0, .int .i64 0, .slice none 0 0] 33 rfl rfl HZ12.out Try.infoMat rfl (one3 _ _ _ _ _) ?_)
        have g2 := grown_row w12 (wo.heap.size + 1) #[.int .i64 H, .int .i64 K, .slice (some ⟨b3, o3, none⟩) (H * K) (H * K)]
        have HR13 := Lib.hid (HZ12.out.setRow #[.int .i64 H, .int .i64 K, .slice (some ⟨b3, o3, none⟩) (H * K) (H * K)])
        have hbW : wo.heap.size + 1 < W.heap.size := by omega
        have HM13 := Lib.hid (HM12.out.grown g2 (fun e => by have := HW12.out; have := Option.some.inj e; omega))
        have hDne : some D ≠ some (wo.heap.size + 1) := fun e => by have := Option.some.inj e; have := HKZ.out.size; omega
        have HD13 := Lib.hid ((g2.block D (Array.getElem?_eq_some_iff.1 HD12.out).1 hDne).trans HD12.out)
        have HK13 := Lib.hid (Kept.grown (HB.out.trans (Below.mono HK12.out (by omega))) g2 (fun q e => by cases e; omega))
        generalize w12.setRow _ _ = w13 at *
        have g3 := grown_put w13 D (.deferred none)
        have hr3 : ∀ k, some D = some k → ∃ o : Obj, w13.heap[k]? = some o ∧ o.isCells = false := fun k e => by cases e; exact ⟨_, HD13.out, rfl⟩
        have hrow := block_own HR13.out g3 hr3
        have hmat := HM13.out.own g3 hr3
        have hDw : wo.heap.size ≤ D := by have := HKZ.out.size; omega
        refine ⟨by simp, .inl ⟨_, _, rfl, run_takeDeferred HD13.out, ?_⟩⟩
        refine ⟨.agg #[.int .i64 H, .int .i64 K, .slice (some ⟨b3, o3, none⟩) (H * K) (H * K)], ?_, ⟨b3, o3, rfl, by have := HW12.out; omega, hmat, Kept.grown HK13.out g3 (fun q e => by cases e; exact hDw)⟩⟩
        exact results_cell_row rfl _ _ (wo.heap.size + 1) 33 #[.int .i64 H, .int .i64 K, .slice (some ⟨b3, o3, none⟩) (H * K) (H * K)] (0, 0) _ rfl hrow Try.underlying33 rfl Try.infoMat
  case stop => rintro _ _ _ _ _ _ h; exact h.elim
end Go.Proofs.Ytoonpnpooljmlaa

namespace Go.Proofs.Ytoonpnpooljmlaa
open Go.ChangeShapes Go.WideShapes Go.ChangeAt Go.RowKit Go.Joins Go.Deep

theorem Try.bytesStr : Try.prog.bytesOf 9 = 16 := by kernel_rfl
theorem array1 {α : Type} {cs : Array α} (h : cs.size = 1) : ∃ c0, cs = #[c0] := by
  obtain ⟨l⟩ := cs
  match l, h with
  | [c0], _ => exact ⟨c0, rfl⟩
section
variable {H : Type} {enc : TypeId × Value → H} {P : Program} {w : World} {base : Nat} {spare : Nat → Bool} {held : Bool}
theorem trod_struct1 {t : TypeId} {f0 : Field} {fuel : Nat} {cs : List Value} {x : DataW H × List MemPlace} (ht : P.underlying t = some (.struct #[f0])) (h : DataW.trod enc P w base spare held fuel t cs = some x) :
    ∃ y0 n, x = (.agg [y0.1], y0.2) ∧ cs.length = P.cellsOf t ∧ DataW.trod enc P w base spare held n f0.type ((cs.drop f0.offset).take (P.cellsOf f0.type)) = some y0 := by
  obtain ⟨xs, n, _, rfl, hl, hlen, hf⟩ := DataW.trod_struct ht h
  match xs, hlen with
  | [y0], _ => exact ⟨y0, n, by simp, hl, by simpa using hf 0 f0 rfl⟩
theorem open_agg1 {r : Reach} {b0 : Nat} {t : TypeId} {f0 : Field} {v : Value} {d : DataW H} {p : List MemPlace} (hs : P.underlying t = some (.struct #[f0])) (hone : oneCellFields P #[f0] = true) (hC : P.cellsOf t = 1)
    (hv : Value.okWide P w r b0 t v) (h : DataW.Trod enc P w base spare held t v d p) :
    ∃ (v0 : Value) (y0 : DataW H × List MemPlace) (n : Nat), v = .agg #[v0] ∧ d = .agg [y0.1] ∧ p = y0.2 ∧ DataW.trod enc P w base spare held n f0.type [v0] = some y0 := by
  obtain ⟨cs, rfl, hsz⟩ := okWide_struct hs hv
  obtain ⟨c0, rfl⟩ := array1 (hsz.trans hC)
  obtain ⟨fuel, hf⟩ := h
  obtain ⟨y0, n, hx, _, h0⟩ := trod_struct1 hs hf
  obtain ⟨o0, k0⟩ := hone_of hone 0 f0 rfl
  simp only [Prod.mk.injEq] at hx
  exact ⟨c0, y0, n, rfl, hx.1, hx.2, by simpa [Value.cells, o0, k0] using h0⟩
end
theorem weightsAll_has {H : Type} {P : Program} {e : TypeId} : ∀ {l : List (DataW H)} {d : DataW H}, d ∈ l → ∀ n ∈ d.weights P e, n ∈ DataW.weightsAll P e l
  | d' :: r, d, hd, n, hn => by
    simp only [DataW.weightsAll, List.mem_append]
    rcases List.mem_cons.1 hd with rfl | h
    · exact Or.inl hn
    · exact Or.inr (weightsAll_has h n hn)
/-- A list of texts that is read: its number and its texts within the reach. -/
structure TextsIn (W : World) (a : Option Addr) (l cap : Nat) (ss : List ByteArray) : Prop where
  strs : StrsIn W a l ss
  le_cap : l ≤ cap
  few : l ≤ 8796093021952
  short : ∀ s ∈ ss, s.size ≤ 140737488351232
theorem TextsIn.kept {W W' : World} {a : Option Addr} {l cap : Nat} {ss : List ByteArray} (h : TextsIn W a l cap ss) (k : Kept W W') : TextsIn W' a l cap ss := ⟨h.strs.kept k, h.le_cap, h.few, h.short⟩
theorem TextsIn.size {W : World} {a : Option Addr} {l cap : Nat} {ss : List ByteArray} (h : TextsIn W a l cap ss) (i : Nat) (hi : i < l) : (ss.getD i ByteArray.empty).size ≤ 140737488351232 := by
  have hl : i < ss.length := by rw [h.strs.len_eq]; exact hi
  exact h.short _ (by simp [List.getD, hl])
/-- the cell of a text -/
theorem TextsIn.cell {W : World} {a : Option Addr} {l cap : Nat} {ss : List ByteArray} (h : TextsIn W a l cap ss) (hl : 0 < l) : ∃ b off, a = some ⟨b, off, none⟩ ∧ ∀ i, i < l → ∀ w, Kept W w → w.cell? ⟨b, off + i, none⟩ = some (.string (ss.getD i ByteArray.empty)) := by
  obtain ⟨b, off, ha, hc⟩ := h.strs.cells
  exact ⟨b, off, ha hl, fun i hi w k => k.cell (hc i hi).1 (hc i hi).2⟩
theorem texts_in {H : Type} {enc : TypeId × Value → H} {P : Program} {t e : TypeId} (ht : P.underlying t = some (.slice e)) (he : P.underlying e = some .string) (hc : P.cellsOf e = 1) (hb : P.bytesOf e = 16) {W : World} {fuel : Nat} {v : Value} {y : DataW H × List MemPlace}
    (h0 : DataW.trod enc P W 0 (fun _ => true) true fuel t [v] = some y) (hz : ∀ n ∈ y.1.weights P t, n ≤ reachBytes) :
    ∃ a len cap ss, v = .slice a len cap ∧ TextsIn W a len cap ss := by
  rcases open_strings ht he hc h0 with ⟨hcs, hx⟩ | ⟨a, len', cap', ss, hcs, _, hl, hm, hsz, hx, hcell, hws⟩
  · simp only [List.cons.injEq, and_true] at hcs
    exact ⟨none, 0, 0, [], hcs, ⟨rfl, by omega, (fun s hs => (by cases hs)), 0, 0, fun h => absurd h (Nat.lt_irrefl 0), fun i hi => absurd hi (Nat.not_lt_zero i)⟩, Nat.le_refl _, by omega, (fun s hs => (by cases hs))⟩
  · simp only [List.cons.injEq, and_true] at hcs
    simp only [if_true] at hsz
    unfold maxLen at hm hws
    subst hx
    have hz1 : ss.length * 16 ≤ reachBytes := by
      have := hz (((strs (H := H) (ss.take len')).length + (strs (H := H) (ss.drop len')).length) * P.bytesOf e) (by simp [DataW.weights, ht])
      rw [hb] at this
      simp [strs] at this
      omega
    have hz2 : ∀ s ∈ ss.take len', s.size ≤ reachBytes := fun s hs => by
      refine hz s.data.toList.length ?_
      simp only [DataW.weights, ht]
      exact List.mem_cons_of_mem _ (List.mem_append.2 (Or.inl (weightsAll_has (d := .lit (.string s.data.toList)) (List.mem_map.2 ⟨s, hs, rfl⟩) _ (by simp [DataW.weights]))))
    unfold reachBytes at hz1 hz2
    by_cases hp : 0 < ss.length
    · obtain ⟨b, off, spot⟩ := a
      have hspot : spot = none := by simpa [Addr.add] using World.cell?_spot (hcell 0 hp)
      subst hspot
      have hcell' : ∀ j, j < ss.length → W.cell? ⟨b, off + j, none⟩ = some (.string (ss.getD j ByteArray.empty)) := fun j hj => by rw [← Go.WideShapes.add_plain]; exact hcell j hj
      refine ⟨_, len', cap', ss.take len', hcs, ⟨by rw [List.length_take]; omega, by omega, fun s hs => hws s (List.mem_of_mem_take hs), b, off, fun _ => rfl, fun i hi => ?_⟩, by omega, by omega, hz2⟩
      have h1 := hcell' i (by omega)
      refine ⟨World.block_lt_of_cell? _ _ h1, ?_⟩
      rw [h1]
      simp [List.getD, hi]
    · exact ⟨_, len', cap', [], hcs, ⟨by simp; omega, by omega, (fun s hs => (by cases hs)), 0, 0, fun h => by omega, fun i hi => by omega⟩, by omega, by omega, (fun s hs => (by cases hs))⟩
/-- what the reckoning of texts tells: no less than nothing, and if it is little each is little -/
structure TxtSum (l : Nat) (ss : List ByteArray) (n : Int) : Prop where
  nonneg : 0 ≤ n
  many : n < 1048576 → (l : Int) ≤ n
  each : n < 1048576 → ∀ i, i < l → ((ss.getD i ByteArray.empty).size : Int) ≤ n
set_option maxRecDepth 100000 in
theorem texts_sum (a : Option Addr) (l cap : Nat) (ss : List ByteArray) (w : World) (h : TextsIn w a l cap ss) :
    Calls Try.prog 33 #[.slice a l cap] w fun e w' => (∃ n, e = .returned (.int .i64 n) ∧ TxtSum l ss n) ∧ w = w' := by
  have hle := h.few
  have HH := Lib.hid h
  clear h
  go_enter Try.func33, Try.ntmps33
  go_wp2
  go_loopw [3, 4] (fun m i wr => ∃ (k : Nat) (n : Int), k ≤ l ∧ i = .int .i64 k ∧ m = .int .i64 n ∧ (l : Int) ≤ n ∧ n ≤ 281474976710656 ∧ (∀ j, j < k → ((ss.getD j ByteArray.empty).size : Int) ≤ n) ∧ w = wr) (fun _ i _ => l - (intOf i).toNat)
  case atStart => exact ⟨0, l, by omega, rfl, rfl, by omega, by omega, fun j hj => by omega, rfl⟩
  case round =>
    obtain ⟨k, n, hk, rfl, rfl, hn0, hn1, hall, rfl⟩ := hrel
    have HA := Lib.hid hall
    clear hall
    by_cases hlt : k < l
    · by_cases hn : n < 1048576
      · obtain ⟨b, off, rfl, hc⟩ := HH.out.cell (by omega)
        have hcell := hc k hlt w (Kept.refl _)
        have hs := HH.out.size k hlt
        have HG : Hid (∀ z : Int, n ≤ z → ((ss.getD k ByteArray.empty).size : Int) ≤ z → ∀ j, j < k + 1 → ((ss.getD j ByteArray.empty).size : Int) ≤ z) := Lib.hid fun z h1 h2 j hj => by
          by_cases e : j = k
          · subst e; exact h2
          · exact Int.le_trans (HA.out j (by omega)) h1
        generalize ss.getD k ByteArray.empty = s at hcell hs HG
        clear hc
        go_wp2
        go_roundw
        case rel => exact ⟨k + 1, n + s.size, by omega, by go_num, rfl, by omega, by omega, HG.out _ (by omega) (by omega), by trivial⟩
        case measure => simp [intOf]; omega
      · go_wp2
        go_ret
        exact ⟨⟨n, rfl, by omega, fun h => by omega, fun h => by omega⟩, rfl⟩
    · obtain rfl : k = l := by omega
      go_wp2
      go_ret
      exact ⟨⟨n, rfl, by omega, fun _ => hn0, fun _ => HA.out⟩, rfl⟩
end Go.Proofs.Ytoonpnpooljmlaa

namespace Go.Proofs.Ytoonpnpooljmlaa
open Go.ChangeShapes Go.WideShapes Go.ChangeAt Go.RowKit Go.Joins Go.Deep

theorem trod_intI {H : Type} {enc : TypeId × Value → H} {P : Program} {t : TypeId} {k : IntKind} (ht : P.underlying t = some (.int k)) {W : World} {fuel : Nat} {v : Value} {y : DataW H × List MemPlace}
    (h0 : DataW.trod enc P W 0 (fun _ => true) true fuel t [v] = some y) : ∃ n, v = .int k n ∧ (Lit.int k n).wf = true := by
  obtain ⟨n, h, hx, hw⟩ := DataW.trod_int ht h0
  simp only [List.cons.injEq, and_true] at h
  exact ⟨n, h, hw⟩
/-- A slice value that reads ax shapes. -/
structure ShapesIn (W : World) (a : Option Addr) (len : Nat) : Prop where
  le : len ≤ 9223372036854775807
  cells : ∃ b off, (0 < len → a = some ⟨b, off, none⟩) ∧ ∀ i, i < len → ∃ (k m s : Int), b < W.heap.size ∧
    W.cell? ⟨b, off + i * 3, none⟩ = some (.int .i64 k) ∧ W.cell? ⟨b, off + i * 3 + 1, none⟩ = some (.int .i64 m) ∧ W.cell? ⟨b, off + i * 3 + 2, none⟩ = some (.int .i64 s) ∧
    (-9223372036854775808 ≤ k ∧ k ≤ 9223372036854775807) ∧ (-9223372036854775808 ≤ m ∧ m ≤ 9223372036854775807) ∧ (-9223372036854775808 ≤ s ∧ s ≤ 9223372036854775807)
theorem ShapesIn.kept {W W' : World} {a : Option Addr} {len : Nat} (h : ShapesIn W a len) (q : Kept W W') : ShapesIn W' a len := by
  obtain ⟨b, off, ha, hc⟩ := h.cells
  refine ⟨h.le, b, off, ha, fun i hi => ?_⟩
  obtain ⟨k, m, s, h1, h2, h3, h4, h5⟩ := hc i hi
  exact ⟨k, m, s, Nat.lt_of_lt_of_le h1 q.size, q.cell h1 h2, q.cell h1 h3, q.cell h1 h4, h5⟩
/-- the cells of a shape -/
theorem ShapesIn.cell {W : World} {a : Option Addr} {l : Nat} (h : ShapesIn W a l) (hl : 0 < l) : ∃ b off, a = some ⟨b, off, none⟩ ∧ ∀ i, i < l → ∃ (k m s : Int), ((-9223372036854775808 ≤ k ∧ k ≤ 9223372036854775807) ∧ (-9223372036854775808 ≤ m ∧ m ≤ 9223372036854775807) ∧ (-9223372036854775808 ≤ s ∧ s ≤ 9223372036854775807)) ∧
    ∀ w, Kept W w → w.cell? ⟨b, off + i * 3, none⟩ = some (.int .i64 k) ∧ w.cell? ⟨b, off + i * 3 + 1, none⟩ = some (.int .i64 m) ∧ w.cell? ⟨b, off + i * 3 + 2, none⟩ = some (.int .i64 s) := by
  obtain ⟨b, off, ha, hc⟩ := h.cells
  refine ⟨b, off, ha hl, fun i hi => ?_⟩
  obtain ⟨k, m, s, h1, h2, h3, h4, h5⟩ := hc i hi
  exact ⟨k, m, s, h5, fun w q => ⟨q.cell h1 h2, q.cell h1 h3, q.cell h1 h4⟩⟩
section
variable {H : Type} {enc : TypeId × Value → H} {P : Program} {w : World} {base : Nat} {spare : Nat → Bool} {held : Bool}
theorem open_structs {t e : TypeId} {fs : Array Field} {fuel : Nat} {cs : List Value} {x : DataW H × List MemPlace} (ht : P.underlying t = some (.slice e)) (he : P.underlying e = some (.struct fs))
    (hone : oneCellFields P fs = true) (hC : P.cellsOf e = fs.size) (h : DataW.trod enc P w base spare held fuel t cs = some x) :
    (cs = [.slice none 0 0] ∧ x = (.nil, [])) ∨
    ∃ (a : Addr) (len cap m : Nat) (D : Nat → DataW H) (Pl : Nat → List MemPlace), cs = [.slice (some a) len cap] ∧ base ≤ a.block ∧ len ≤ cap ∧ cap ≤ maxLen ∧ m = (if spare a.block then cap else len) ∧
      x = (.slice ((List.range len).map D) ((List.range (m - len)).map fun j => D (len + j)), MemPlace.row a (m * fs.size) ++ (List.range m).flatMap Pl) ∧
      ∀ i, i < m → ∃ (ys : List (DataW H × List MemPlace)) (n : Nat), D i = .agg (ys.map (·.1)) ∧ Pl i = ys.flatMap (·.2) ∧ ys.length = fs.size ∧
        ∀ (j : Nat) (f : Field), fs[j]? = some f → ∃ (v : Value) (y : DataW H × List MemPlace), w.cell? (a.add (i * fs.size + j)) = some v ∧ ys[j]? = some y ∧ DataW.trod enc P w base spare held n f.type [v] = some y := by
  rcases open_slice ht h with h0 | ⟨a, len, cap, m, n, D, Pl, hcs, hb, hl, hm, hmm, hx, hi⟩
  · exact .inl h0
  · refine .inr ⟨a, len, cap, m, D, Pl, hcs, hb, hl, hm, hmm, by rw [hC] at hx; exact hx, fun i him => ?_⟩
    obtain ⟨cs', hc, ht'⟩ := hi i him
    rw [hC] at hc
    obtain ⟨ys, n', hn', hy, hlen, hyl, hf⟩ := DataW.trod_struct he ht'
    obtain ⟨_, hcl, hat⟩ := World.cells?_some hc
    simp only [Prod.mk.injEq] at hy
    refine ⟨ys, n', hy.1, hy.2, hyl, fun j f hj => ?_⟩
    obtain ⟨ho, hk⟩ := hone_of hone j f hj
    have hjl : j < fs.size := (Array.getElem?_eq_some_iff.1 hj).1
    have hcell := hat j hjl
    have hv : cs'[j]? = some (cs'[j]'(by omega)) := List.getElem?_eq_getElem (by omega)
    have h1 := hf j f hj
    rw [ho, hk] at h1
    have hone' : (cs'.drop j).take 1 = [cs'[j]'(by omega)] := by
      rw [List.drop_eq_getElem_cons (by omega)]
      rfl
    rw [hone'] at h1
    have hys : ys[j]? = some (ys[j]'(by omega)) := List.getElem?_eq_getElem (by omega)
    refine ⟨_, _, ?_, hys, h1.trans hys⟩
    rw [← Go.Deep.add_add, hcell, hv]
end
theorem Try.cellsI : Try.prog.cellsOf 3 = 1 := by kernel_rfl
theorem Try.cellsShape : Try.prog.cellsOf 29 = 3 := by kernel_rfl
theorem Try.bytesShape : Try.prog.bytesOf 29 = 24 := by kernel_rfl
set_option maxRecDepth 100000 in
theorem shapes_in {H : Type} {enc : TypeId × Value → H} {W : World} {fuel : Nat} {v : Value} {y : DataW H × List MemPlace}
    (h0 : DataW.trod enc Try.prog W 0 (fun _ => true) true fuel 22 [v] = some y) : ∃ a len cap, v = .slice a len cap ∧ len ≤ cap ∧ ShapesIn W a len := by
  rcases open_structs Try.underlying22 Try.underlying29 (by kernel_rfl) Try.cellsShape h0 with ⟨hcs, _⟩ | ⟨a, len, cap, m, D, Pl, hcs, _, hl, hm, hmm, hx, hf⟩
  · simp only [List.cons.injEq, and_true] at hcs
    exact ⟨none, 0, 0, hcs, Nat.le_refl _, by omega, 0, 0, fun h => absurd h (Nat.lt_irrefl 0), fun i hi => absurd hi (Nat.not_lt_zero i)⟩
  · simp only [List.cons.injEq, and_true] at hcs
    simp only [if_true] at hmm
    subst hmm
    unfold maxLen at hm
    by_cases hp : 0 < len
    · obtain ⟨b, off, spot⟩ := a
      have hspot : spot = none := by
        obtain ⟨ys, n, _, _, _, hfj⟩ := hf 0 (by omega)
        obtain ⟨v0, _, hc0, _⟩ := hfj 0 _ rfl
        simpa [Addr.add] using World.cell?_spot hc0
      subst hspot
      refine ⟨_, len, m, hcs, hl, by omega, b, off, fun _ => rfl, fun i hi => ?_⟩
      obtain ⟨ys, n, _, _, _, hfj⟩ := hf i (by omega)
      obtain ⟨v0, y0, hc0, _, ht0⟩ := hfj 0 _ rfl
      obtain ⟨v1, y1, hc1, _, ht1⟩ := hfj 1 _ rfl
      obtain ⟨v2, y2, hc2, _, ht2⟩ := hfj 2 _ rfl
      obtain ⟨k, rfl, hk⟩ := trod_intI Try.underlying3 ht0
      obtain ⟨q, rfl, hq⟩ := trod_intI Try.underlying3 ht1
      obtain ⟨s, rfl, hs⟩ := trod_intI Try.underlying3 ht2
      rw [add_plain] at hc0 hc1 hc2
      simp only [List.size_toArray, List.length_cons, List.length_nil, Nat.reduceAdd, Nat.add_zero, ← Nat.add_assoc] at hc0 hc1 hc2
      exact ⟨k, q, s, World.block_lt_of_cell? _ _ hc0, hc0, hc1, hc2, bounds_i64 hk, bounds_i64 hq, bounds_i64 hs⟩
    · exact ⟨_, len, m, hcs, hl, by omega, 0, 0, fun h => by omega, fun i hi => by omega⟩

theorem Try.cellsLs : Try.prog.cellsOf 22 = 1 := by kernel_rfl
theorem Try.cellsLt : Try.prog.cellsOf 23 = 1 := by kernel_rfl
theorem Try.cellsLb : Try.prog.cellsOf 24 = 1 := by kernel_rfl
theorem Try.cellsAskC : Try.prog.cellsOf 26 = 3 := by kernel_rfl
/-- Shapes, texts, which are there. -/
structure AskC (W : World) (ax : Option Addr) (ls cs : Nat) (al : Option Addr) (ll cl : Nat) (ss : List ByteArray) : Prop where
  shapes : ShapesIn W ax ls
  scap : ls ≤ cs
  texts : TextsIn W al ll cl ss
theorem AskC.kept {W W' : World} {ax : Option Addr} {ls cs : Nat} {al : Option Addr} {ll cl : Nat} {ss : List ByteArray} (h : AskC W ax ls cs al ll cl ss) (k : Kept W W') : AskC W' ax ls cs al ll cl ss := ⟨h.shapes.kept k, h.scap, h.texts.kept k⟩
set_option maxRecDepth 100000 in
theorem askC_in {H : Type} {enc : TypeId × Value → H} {W : World} {fuel : Nat} {c0 c1 c2 : Value} {y : DataW H × List MemPlace}
    (h0 : DataW.trod enc Try.prog W 0 (fun _ => true) true fuel 26 [c0, c1, c2] = some y) (hz : ∀ n ∈ y.1.weights Try.prog 26, n ≤ reachBytes) :
    ∃ ax ls cs al ll cl ss ab lb cb, c0 = .slice ax ls cs ∧ c1 = .slice al ll cl ∧ c2 = .slice ab lb cb ∧ AskC W ax ls cs al ll cl ss := by
  obtain ⟨y0, y1, y2, n, rfl, _, t0, t1, t2⟩ := trod_struct3 Try.underlying26 h0
  obtain ⟨ax, ls, cs, rfl, hsc, hS⟩ := shapes_in (v := c0) (by simpa [Try.cellsLs] using t0)
  obtain ⟨al, ll, cl, ss, rfl, hT⟩ := texts_in Try.underlying23 Try.underlying9 Try.cellsStr Try.bytesStr (v := c1) (y := y1) (by simpa [Try.cellsLt] using t1) (fun n hn => hz n (by
    simp only [DataW.weights, Try.underlying26]
    exact DataW.weights_mem_each (j := 1) (t := 23) (d := y1.1) (by rfl) (by rfl) n hn))
  obtain ⟨ab, lb, cb, e2⟩ := slice_form Try.underlying24 t2
  exact ⟨ax, ls, cs, al, ll, cl, ss, ab, lb, cb, rfl, rfl, by simpa [Try.cellsLb] using e2, hS, hsc, hT⟩
/-- may a shape be? -/
def shpB (k m s : Int) : Bool := decide (1 ≤ k ∧ k ≤ 8 ∧ 0 ≤ m ∧ m ≤ 6 ∧ 1 ≤ s ∧ s ≤ 120)
theorem shpB_true {k m s : Int} (h : shpB k m s = true) : 1 ≤ k ∧ k ≤ 8 ∧ 0 ≤ m ∧ m ≤ 6 ∧ 1 ≤ s ∧ s ≤ 120 := of_decide_eq_true h
theorem num_any (n m : Int) (w : World) : Calls Try.prog 35 #[.int .i64 n, .int .i64 m] w fun e w' => e = .returned (.bool (decide (0 ≤ n) && decide (n ≤ m))) ∧ w = w' := by
  go_enter Try.func35, Try.ntmps35
  by_cases h : 0 ≤ n
  · go_wp2
    go_ret
    exact ⟨by simp [h], rfl⟩
  · have hd : decide (0 ≤ n) = false := decide_eq_false h
    go_wp2
    go_ret
    exact ⟨rfl, rfl⟩
end Go.Proofs.Ytoonpnpooljmlaa

namespace Go.Proofs.Ytoonpnpooljmlaa
open Go.RowKit

theorem box3c {W : World} {b : Nat} {x y z : Value} {t : TypeId} (h : BlockAt W b #[x, y, z] t) : W.cell? ⟨b, 0, none⟩ = some x ∧ W.cell? ⟨b, 1, none⟩ = some y ∧ W.cell? ⟨b, 2, none⟩ = some z :=
  ⟨h.cell 0, h.cell 1, h.cell 2⟩
theorem shpB_and (k m s : Int) : shpB k m s = ((decide (1 ≤ k) && decide (k ≤ 8)) && ((decide (0 ≤ m) && decide (m ≤ 6)) && (decide (1 ≤ s) && decide (s ≤ 120)))) := by
  unfold shpB
  rw [Bool.eq_iff_iff]
  simp
  omega
set_option maxRecDepth 100000 in
theorem shape_ref (k m s : Int) (w : World) : Calls Try.prog 11 #[.agg #[.int .i64 k, .int .i64 m, .int .i64 s]] w fun e w' => e = .returned (.bool (shpB k m s)) ∧ Kept w w' := by
  have h1 := fun w => between_any k 1 8 w
  have h2 := fun w => num_any m 6 w
  have h3 := fun w => between_any s 1 120 w
  have hs := shpB_and k m s
  have HB := Lib.hid (BlockAt.new w #[.int .i64 k, .int .i64 m, .int .i64 s] 29)
  generalize (decide (1 ≤ k) && decide (k ≤ 8)) = b1 at *
  generalize (decide (0 ≤ m) && decide (m ≤ 6)) = b2 at *
  generalize (decide (1 ≤ s) && decide (s ≤ 120)) = b3 at *
  have H1 := Lib.hid h1
  have H2 := Lib.hid h2
  have H3 := Lib.hid h3
  have HS := Lib.hid hs
  have HK := Lib.hid ((Kept.refl w).alloc (.cells #[.int .i64 k, .int .i64 m, .int .i64 s] 29))
  clear h1 h2 h3 hs
  go_enter Try.func11, Try.ntmps11
  go_wp2_with fail
  refine (H1.out _).mono ?_
  rintro e w' ⟨rfl, rfl⟩
  cases b1
  · go_wp2
    go_ret
    exact ⟨by rw [HS.out]; rfl, HK.out⟩
  · go_wp2_with fail
    refine (H2.out _).mono ?_
    rintro e w' ⟨rfl, rfl⟩
    cases b2
    · go_wp2
      go_ret
      exact ⟨by rw [HS.out]; rfl, HK.out⟩
    · go_wp2_with fail
      refine (H3.out _).mono ?_
      rintro e w' ⟨rfl, rfl⟩
      go_wp2
      go_ret
      exact ⟨by rw [HS.out]; rfl, HK.out⟩
def shpE (k m s : Int) : Int := if shpB k m s = true then 0 else 1
set_option maxRecDepth 100000 in
theorem code_check (k m s : Int) (w : World) : Calls Try.prog 16 #[.agg #[.int .i64 k, .int .i64 m, .int .i64 s]] w fun e w' => e = .returned (.int .i64 (shpE k m s)) ∧ Kept w w' := by
  have HK := Lib.hid ((Kept.refl w).alloc (.cells #[.int .i64 k, .int .i64 m, .int .i64 s] 29))
  by_cases h : shpB k m s = true
  · obtain ⟨h1, h2, h3, h4, h5, h6⟩ := shpB_true h
    have he : shpE k m s = 0 := by unfold shpE; rw [if_pos h]
    have HE := Lib.hid he
    clear he h
    go_enter Try.func16, Try.ntmps16
    go_wp2
    go_ret
    exact ⟨by rw [HE.out]; rfl, HK.out⟩
  · have he : shpE k m s = 1 := by unfold shpE; rw [if_neg h]
    have hn : ¬ (1 ≤ k ∧ k ≤ 8 ∧ 0 ≤ m ∧ m ≤ 6 ∧ 1 ≤ s ∧ s ≤ 120) := fun q => h (decide_eq_true q)
    have HE := Lib.hid he
    have HN := Lib.hid hn
    clear he h hn
    have fin : ∀ A : Prop, ¬ A ∨ A := fun A => (Classical.em A).symm
    by_cases c1 : k < 1
    · go_enter Try.func16, Try.ntmps16
      go_wp2
      go_ret
      exact ⟨by rw [HE.out]; rfl, HK.out⟩
    have d1 : decide (k < 1) = false := decide_eq_false c1
    by_cases c2 : 8 < k
    · go_enter Try.func16, Try.ntmps16
      go_wp2
      go_ret
      exact ⟨by rw [HE.out]; rfl, HK.out⟩
    have d2 : decide (8 < k) = false := decide_eq_false c2
    by_cases c3 : m < 0
    · go_enter Try.func16, Try.ntmps16
      go_wp2
      go_ret
      exact ⟨by rw [HE.out]; rfl, HK.out⟩
    have d3 : decide (m < 0) = false := decide_eq_false c3
    by_cases c4 : 6 < m
    · go_enter Try.func16, Try.ntmps16
      go_wp2
      go_ret
      exact ⟨by rw [HE.out]; rfl, HK.out⟩
    have d4 : decide (6 < m) = false := decide_eq_false c4
    by_cases c5 : s < 1
    · go_enter Try.func16, Try.ntmps16
      go_wp2
      go_ret
      exact ⟨by rw [HE.out]; rfl, HK.out⟩
    have d5 : decide (s < 1) = false := decide_eq_false c5
    have c6 : 120 < s := by
      rcases fin (120 < s) with h | h
      · exact absurd ⟨by omega, by omega, by omega, by omega, by omega, by omega⟩ HN.out
      · exact h
    go_enter Try.func16, Try.ntmps16
    go_wp2
    go_ret
    exact ⟨by rw [HE.out]; rfl, HK.out⟩
end Go.Proofs.Ytoonpnpooljmlaa

namespace Go.Proofs.Ytoonpnpooljmlaa
open Go.RowKit Go.Shelf
attribute [local go_sem] Oper.semAt_some

set_option maxRecDepth 100000 in
set_option maxHeartbeats 1000000 in
theorem cmatrix_bad (k m s : Int) (w : World) (h : shpB k m s = false) :
    Calls Try.prog 12 #[.agg #[.int .i64 k, .int .i64 m, .int .i64 s]] w fun e w' => e = .returned (.tuple #[.agg #[.int .i64 0, .int .i64 0, .slice none 0 0], .int .i64 1]) ∧ Kept w w' := by
  have he : shpE k m s = 1 := by unfold shpE; rw [h]; rfl
  have HE := Lib.hid he
  clear h he
  go_enter Try.func12, Try.ntmps12
  have HK0 := Lib.hid (((Kept.refl w).alloc (.cells #[.int .i64 k, .int .i64 m, .int .i64 s] 29)).alloc (.cells #[.int .i64 0, .int .i64 0, .slice none 0 0] 33))
  have hb := (BlockAt.new w #[.int .i64 k, .int .i64 m, .int .i64 s] 29).kept ((Kept.refl _).alloc (.cells #[.int .i64 0, .int .i64 0, .slice none 0 0] 33))
  have HR0 := Lib.hid (BlockAt.new1 w #[.int .i64 0, .int .i64 0, .slice none 0 0] 33 (.cells #[.int .i64 k, .int .i64 m, .int .i64 s] 29))
  obtain ⟨c1, c2, c3⟩ := box3 hb
  clear hb
  go_wp2_with fail
  refine (code_check _ _ _ _).mono ?_
  rintro e w1 ⟨rfl, hk1⟩
  have HK := Lib.hid (HK0.out.trans hk1)
  have HR := Lib.hid (HR0.out.kept hk1)
  rw [HE.out]
  clear hk1 c1 c2 c3
  go_wp2_with (refine wpList_store_block rfl 33 (.tmp 2) (.tmp 7) rfl _ #[.int .i64 0, .int .i64 0, .slice none 0 0] #[.int .i64 0, .int .i64 0, .slice none 0 0] 33 rfl rfl HR.out Try.infoMat rfl (one3 _ _ _ _ _) ?_)
  refine bodyPost_ret (v := .tuple #[.agg #[.int .i64 0, .int .i64 0, .slice none 0 0], .int .i64 1]) ?_ rfl ⟨rfl, HK.out.setRow (by omega) _⟩
  exact results_row_tmp rfl _ _ (w.heap.size + 1) 33 #[.int .i64 0, .int .i64 0, .slice none 0 0] _ rfl (HR.out.setRow _) Try.underlying33 rfl Try.infoMat _ rfl
set_option maxRecDepth 100000 in
set_option maxHeartbeats 1000000 in
theorem cmatrix_any (K M H s : Nat) (hH : H = K + M) (hK : 1 ≤ K ∧ K ≤ 8 ∧ M ≤ 6) (hs : 1 ≤ s ∧ s ≤ 120) (w : World) :
    Calls Try.prog 12 #[.agg #[.int .i64 K, .int .i64 M, .int .i64 s]] w fun e w' => ∃ b off, e = .returned (.tuple #[.agg #[.int .i64 H, .int .i64 K, .slice (some ⟨b, off, none⟩) (H * K) (H * K)], .int .i64 0]) ∧ w.heap.size ≤ b ∧ Mat w' b off H K (genF K) ∧ Kept w w' := by
  have he : shpE K M s = 0 := by
    unfold shpE shpB
    rw [decide_eq_true (by omega)]
    rfl
  have HE := Lib.hid he
  have HH := Lib.hid hH
  clear he hH
  go_enter Try.func12, Try.ntmps12
  have HK0 := Lib.hid (((Kept.refl w).alloc (.cells #[.int .i64 K, .int .i64 M, .int .i64 s] 29)).alloc (.cells #[.int .i64 0, .int .i64 0, .slice none 0 0] 33))
  have hb := (BlockAt.new w #[.int .i64 K, .int .i64 M, .int .i64 s] 29).kept ((Kept.refl _).alloc (.cells #[.int .i64 0, .int .i64 0, .slice none 0 0] 33))
  have HB0 := Lib.hid hb
  have HR0 := Lib.hid (BlockAt.new1 w #[.int .i64 0, .int .i64 0, .slice none 0 0] 33 (.cells #[.int .i64 K, .int .i64 M, .int .i64 s] 29))
  obtain ⟨c1, c2, c3⟩ := box3 hb
  clear hb
  go_wp2_with fail
  refine (code_check _ _ _ _).mono ?_
  rintro e w1 ⟨rfl, hk1⟩
  have HK := Lib.hid (HK0.out.trans hk1)
  have HR := Lib.hid (HR0.out.kept hk1)
  rw [HE.out]
  obtain ⟨d1, d2, d3⟩ := box3 (HB0.out.kept hk1)
  clear hk1 c1 c2 c3
  go_wp2_with fail
  refine (generator_any K M H s HH.out hK _).mono ?_
  rintro e w2 ⟨b, o, rfl, hb, hm, hk2⟩
  have HM := Lib.hid hm
  have HK2 := Lib.hid (HK.out.trans hk2)
  have HR2 := Lib.hid (HR.out.kept hk2)
  have hw1 := HK.out.size
  have hwl := HR.out.lt
  clear hm hk2 d1 d2 d3
  go_wp2_with (refine wpList_store_block rfl 33 (.tmp 2) (.tmp 9) rfl _ #[.int .i64 H, .int .i64 K, .slice (some ⟨b, o, none⟩) (H * K) (H * K)] #[.int .i64 0, .int .i64 0, .slice none 0 0] 33 rfl rfl HR2.out Try.infoMat rfl (one3 _ _ _ _ _) ?_)
  have g2 := grown_row w2 (w.heap.size + 1) #[.int .i64 H, .int .i64 K, .slice (some ⟨b, o, none⟩) (H * K) (H * K)]
  refine bodyPost_ret (v := .tuple #[.agg #[.int .i64 H, .int .i64 K, .slice (some ⟨b, o, none⟩) (H * K) (H * K)], .int .i64 0]) ?_ rfl ?_
  rotate_left
  · exact ⟨b, o, rfl, by omega, HM.out.grown g2 (fun e => by have := Option.some.inj e; omega), HK2.out.setRow (by omega) _⟩
  exact results_row_tmp rfl _ _ (w.heap.size + 1) 33 #[.int .i64 H, .int .i64 K, .slice (some ⟨b, o, none⟩) (H * K) (H * K)] _ rfl (HR2.out.setRow _) Try.underlying33 rfl Try.infoMat _ rfl
/-- so many texts, each so great -/
def sizedB (ss : List ByteArray) (n s : Nat) : Bool := decide (ss.length = n) && ss.all fun x => decide (x.size = s)
theorem every_any (i : Int) (w : World) : Calls Try.prog 43 #[.int .i64 i] w fun e w' => e = .returned (.bool true) ∧ w = w' := by
  go_enter Try.func43, Try.ntmps43
  go_wp2
  go_ret
  exact ⟨rfl, rfl⟩
set_option maxRecDepth 100000 in
set_option maxHeartbeats 1000000 in
theorem sized_every (k m : Int) (s n : Nat) (al : Option Addr) (ll cl : Nat) (ss : List ByteArray) (hn : n ≤ 1000000) (w : World) (h : StrsIn w al ll ss) :
    Calls Try.prog 42 #[.agg #[.int .i64 k, .int .i64 m, .int .i64 s], .slice al ll cl, .int .i64 n, .func (.func 43) #[] #[]] w fun e w' => e = .returned (.bool (sizedB ss n s)) ∧ Kept w w' := by
  have HK := Lib.hid ((Kept.refl w).alloc (.cells #[.int .i64 k, .int .i64 m, .int .i64 s] 29))
  have HS := Lib.hid (h.kept HK.out)
  have HB := Lib.hid (BlockAt.new w #[.int .i64 k, .int .i64 m, .int .i64 s] 29)
  have hlen := h.len_eq
  have hll := h.le
  clear h
  have HSB := Lib.hid (show sizedB ss n s = (decide (ss.length = n) && ss.all fun x => decide (x.size = s)) from rfl)
  generalize sizedB ss n s = B at *
  go_enter Try.func42, Try.ntmps42
  go_wp2_with fail
  refine wp_scope_straight ?_
  by_cases hln : ll = n
  · subst hln
    go_wp2_with fail
    refine wp_label ?_
    generalize w.alloc (.cells #[.int .i64 k, .int .i64 m, .int .i64 s] 29) = w1 at *
    go_wp2_with fail
    go_loopw [9, 18] (fun x i wr => ∃ j : Nat, j ≤ ll ∧ i = .int .i64 j ∧ x = .bool true ∧ (∀ q, q < j → (ss.getD q ByteArray.empty).size = s) ∧ w1 = wr) (fun _ i _ => ll - (intOf i).toNat)
    case atStart => exact ⟨0, by omega, rfl, rfl, fun q hq => absurd hq (Nat.not_lt_zero q), rfl⟩
    case round =>
      obtain ⟨j, hj, rfl, rfl, hq, rfl⟩ := hrel
      have HQ := Lib.hid hq
      clear hq
      by_cases hlt : j < ll
      · obtain ⟨b, off, rfl, hcs⟩ := HS.out.at (by omega)
        have hcell := hcs j hlt w1 (Kept.refl _)
        have hz := HS.out.sizes (ss.getD j ByteArray.empty) (by simp [List.getD, hlen, hlt])
        obtain ⟨c1, c2, c3⟩ := box3 HB.out
        generalize hts : ss.getD j ByteArray.empty = t at *
        have HTS := Lib.hid hts
        clear hcs hts
        go_wp2_with fail
        refine (every_any _ _).mono ?_
        rintro e w' ⟨rfl, rfl⟩
        by_cases hsz : t.size = s
        · have hd : ((t.size : Int) != (s : Int)) = false := by rw [bne_eq_false_iff_eq]; omega
          go_wp2_with fail
          go_roundw
          case rel => exact ⟨j + 1, by omega, by go_num, rfl, fun q hq => by
            by_cases e : q = j
            · rw [e, HTS.out, hsz]
            · exact HQ.out q (by omega), trivial⟩
          case measure => simp [intOf]; omega
        · have hd : ((t.size : Int) != (s : Int)) = true := by rw [bne_iff_ne]; omega
          have hB : B = false := by
            rw [HSB.out, decide_eq_true hlen, Bool.true_and, List.all_eq_false]
            exact ⟨t, by rw [← HTS.out]; simp [List.getD, hlen, hlt], by simp [hsz]⟩
          clear HSB
          subst hB
          go_wp2
          refine noGoto_ret ?_
          go_ret
          exact ⟨rfl, HK.out⟩
      · obtain rfl : j = ll := by omega
        have hB : B = true := by
          rw [HSB.out, decide_eq_true hlen, Bool.true_and, List.all_eq_true]
          intro x hx
          obtain ⟨q, hq, rfl⟩ := List.getElem_of_mem hx
          have := HQ.out q (by omega)
          simp [List.getD, hq] at this
          exact decide_eq_true this
        clear HSB
        subst hB
        go_wp2
        refine noGoto_ret ?_
        go_ret
        exact ⟨rfl, HK.out⟩
  · have hne : ((ll : Int) != (n : Int)) = true := by rw [bne_iff_ne]; omega
    have hB : B = false := by rw [HSB.out, decide_eq_false (by omega), Bool.false_and]
    clear HSB
    subst hB
    go_wp2_with fail
    refine noGoto_ret ?_
    go_ret
    exact ⟨rfl, HK.out⟩
end Go.Proofs.Ytoonpnpooljmlaa

namespace Go.Proofs.Ytoonpnpooljmlaa
open Go.RowKit Go.Shelf
attribute [local go_sem] Oper.semAt_some

/-- a row of truths that is read -/
structure BoolsIn (w : World) (a : Option Addr) (len : Nat) (T : Nat → Bool) : Prop where
  cells : ∃ b off, (0 < len → a = some ⟨b, off, none⟩) ∧ ∀ i, i < len → b < w.heap.size ∧ w.cell? ⟨b, off + i, none⟩ = some (.bool (T i))
theorem BoolsIn.kept {w w' : World} {a : Option Addr} {len : Nat} {T : Nat → Bool} (h : BoolsIn w a len T) (k : Kept w w') : BoolsIn w' a len T := by
  obtain ⟨b, off, ha, hc⟩ := h.cells
  exact ⟨b, off, ha, fun i hi => ⟨Nat.lt_of_lt_of_le (hc i hi).1 k.size, k.cell (hc i hi).1 (hc i hi).2⟩⟩
/-- so many texts, and those that are there each so great -/
def sizedT (ss : List ByteArray) (n s : Nat) (T : Nat → Bool) : Bool := decide (ss.length = n) && (List.range n).all fun q => !T q || decide ((ss.getD q ByteArray.empty).size = s)
set_option maxRecDepth 100000 in
theorem which_any (j n p cb : Nat) (ab : Option Addr) (T : Nat → Bool) (w : World) (hj : j < n) (hb : BoolsIn w ab n T) (hp : BlockAt w p #[.slice ab n cb] 24) :
    Calls Try.prog 46 #[.int .i64 j, .pointer (some ⟨p, 0, none⟩)] w fun e w' => e = .returned (.bool (T j)) ∧ w = w' := by
  obtain ⟨b, off, ha, hc⟩ := hb.cells
  obtain rfl := ha (by omega)
  have hcell := (hc j hj).2
  have c := box1 hp
  clear hc ha hb hp
  go_enter Try.func46, Try.ntmps46
  go_wp2
  go_ret
  exact ⟨rfl, rfl⟩
set_option maxRecDepth 100000 in
set_option maxHeartbeats 1000000 in
theorem sized_there (k m : Int) (s n : Nat) (al : Option Addr) (ll cl : Nat) (ss : List ByteArray) (hn : n ≤ 1000000) (p : Nat) (ab : Option Addr) (cb : Nat) (T : Nat → Bool) (w : World) (h : StrsIn w al ll ss) (hb : BoolsIn w ab n T) (hp : BlockAt w p #[.slice ab n cb] 24) :
    Calls Try.prog 42 #[.agg #[.int .i64 k, .int .i64 m, .int .i64 s], .slice al ll cl, .int .i64 n, .func (.func 46) #[] #[.pointer (some ⟨p, 0, none⟩)]] w fun e w' => e = .returned (.bool (sizedT ss n s T)) ∧ Kept w w' := by
  have HK := Lib.hid ((Kept.refl w).alloc (.cells #[.int .i64 k, .int .i64 m, .int .i64 s] 29))
  have HS := Lib.hid (h.kept HK.out)
  have HBS := Lib.hid (hb.kept HK.out)
  have HPB := Lib.hid (hp.kept HK.out)
  have HB := Lib.hid (BlockAt.new w #[.int .i64 k, .int .i64 m, .int .i64 s] 29)
  have hlen := h.len_eq
  have hll := h.le
  clear h hb hp
  have HSB := Lib.hid (show sizedT ss n s T = (decide (ss.length = n) && (List.range n).all fun q => !T q || decide ((ss.getD q ByteArray.empty).size = s)) from rfl)
  generalize sizedT ss n s T = B at *
  go_enter Try.func42, Try.ntmps42
  go_wp2_with fail
  refine wp_scope_straight ?_
  by_cases hln : ll = n
  · subst hln
    go_wp2_with fail
    refine wp_label ?_
    generalize w.alloc (.cells #[.int .i64 k, .int .i64 m, .int .i64 s] 29) = w1 at *
    go_wp2_with fail
    go_loopw [9, 18] (fun x i wr => ∃ j : Nat, j ≤ ll ∧ i = .int .i64 j ∧ x = .bool true ∧ (∀ q, q < j → T q = true → (ss.getD q ByteArray.empty).size = s) ∧ w1 = wr) (fun _ i _ => ll - (intOf i).toNat)
    case atStart => exact ⟨0, by omega, rfl, rfl, fun q hq => absurd hq (Nat.not_lt_zero q), rfl⟩
    case round =>
      obtain ⟨j, hj, rfl, rfl, hq, rfl⟩ := hrel
      have HQ := Lib.hid hq
      clear hq
      by_cases hlt : j < ll
      · obtain ⟨b, off, rfl, hcs⟩ := HS.out.at (by omega)
        have hcell := hcs j hlt w1 (Kept.refl _)
        have hz := HS.out.sizes (ss.getD j ByteArray.empty) (by simp [List.getD, hlen, hlt])
        obtain ⟨c1, c2, c3⟩ := box3 HB.out
        generalize hts : ss.getD j ByteArray.empty = t at *
        have HTS := Lib.hid hts
        clear hcs hts
        go_wp2_with fail
        refine (which_any _ _ _ _ _ _ _ hlt HBS.out HPB.out).mono ?_
        rintro e w' ⟨rfl, rfl⟩
        cases hT : T j with
        | false =>
          go_wp2_with fail
          go_roundw
          case rel => exact ⟨j + 1, by omega, by go_num, rfl, fun q hq h => by
            by_cases e : q = j
            · rw [e, hT] at h
              cases h
            · exact HQ.out q (by omega) h, by first | rfl | trivial⟩
          case measure => simp [intOf]; omega
        | true =>
        have HTJ := Lib.hid hT
        clear hT
        by_cases hsz : t.size = s
        · have hd : ((t.size : Int) != (s : Int)) = false := by rw [bne_eq_false_iff_eq]; omega
          go_wp2_with fail
          go_roundw
          case rel => exact ⟨j + 1, by omega, by go_num, rfl, fun q hq h => by
            by_cases e : q = j
            · rw [e, HTS.out, hsz]
            · exact HQ.out q (by omega) h, by first | rfl | trivial⟩
          case measure => simp [intOf]; omega
        · have hd : ((t.size : Int) != (s : Int)) = true := by rw [bne_iff_ne]; omega
          have hB : B = false := by
            rw [HSB.out, decide_eq_true hlen, Bool.true_and, List.all_eq_false]
            exact ⟨j, List.mem_range.2 hlt, by rw [HTJ.out, HTS.out]; simp [hsz]⟩
          clear HSB
          subst hB
          go_wp2
          refine noGoto_ret ?_
          go_ret
          exact ⟨rfl, HK.out⟩
      · obtain rfl : j = ll := by omega
        have hB : B = true := by
          rw [HSB.out, decide_eq_true hlen, Bool.true_and, List.all_eq_true]
          intro q hq
          have hq := List.mem_range.1 hq
          cases hT : T q with
          | false => rfl
          | true => rw [HQ.out q hq hT]; simp
        clear HSB
        subst hB
        go_wp2
        refine noGoto_ret ?_
        go_ret
        exact ⟨rfl, HK.out⟩
  · have hne : ((ll : Int) != (n : Int)) = true := by rw [bne_iff_ne]; omega
    have hB : B = false := by rw [HSB.out, decide_eq_false (by omega), Bool.false_and]
    clear HSB
    subst hB
    go_wp2_with fail
    refine noGoto_ret ?_
    go_ret
    exact ⟨rfl, HK.out⟩
end Go.Proofs.Ytoonpnpooljmlaa

namespace Go.Proofs.Ytoonpnpooljmlaa
open Go.RowKit Go.Shelf
attribute [local go_sem] Oper.semAt_some

set_option maxRecDepth 100000 in
set_option maxHeartbeats 1000000 in
theorem rebuild_shape (k m s : Int) (al ab : Option Addr) (ll cl lb cb : Nat) (w : World) (h : shpB k m s = false) :
    Calls Try.prog 25 #[.agg #[.int .i64 k, .int .i64 m, .int .i64 s], .slice al ll cl, .slice ab lb cb] w fun e w' => e = .returned (.tuple #[.slice none 0 0, .int .i64 1]) ∧ Kept w w' := by
  have he : shpE k m s = 1 := by unfold shpE; rw [h]; rfl
  have HE := Lib.hid he
  clear h he
  have HK0 := Lib.hid (((Kept.refl w).alloc (.cells #[.int .i64 k, .int .i64 m, .int .i64 s] 29)).alloc (.cells #[.slice ab lb cb] 24))
  have hb := (BlockAt.new w #[.int .i64 k, .int .i64 m, .int .i64 s] 29).kept ((Kept.refl _).alloc (.cells #[.slice ab lb cb] 24))
  go_enter Try.func25, Try.ntmps25
  obtain ⟨c1, c2, c3⟩ := box3 hb
  clear hb
  go_wp2_with fail
  refine (code_check _ _ _ _).mono ?_
  rintro e w1 ⟨rfl, hk1⟩
  have HK := Lib.hid (HK0.out.trans hk1)
  rw [HE.out]
  clear hk1 c1 c2 c3
  go_wp2
  go_ret2
  exact ⟨rfl, HK.out⟩
set_option maxRecDepth 100000 in
set_option maxHeartbeats 1000000 in
theorem rebuild_len (K M H s : Nat) (hH : H = K + M) (hK : 1 ≤ K ∧ K ≤ 8 ∧ M ≤ 6) (hs : 1 ≤ s ∧ s ≤ 120) (al ab : Option Addr) (ll cl lb cb : Nat) (hlb : lb ≠ H) (w : World) :
    Calls Try.prog 25 #[.agg #[.int .i64 K, .int .i64 M, .int .i64 s], .slice al ll cl, .slice ab lb cb] w fun e w' => e = .returned (.tuple #[.slice none 0 0, .int .i64 1]) ∧ Kept w w' := by
  have he : shpE K M s = 0 := by
    unfold shpE shpB
    rw [decide_eq_true (by omega)]
    rfl
  have HE := Lib.hid he
  have eH : (K : Int) + (M : Int) = (H : Int) := by omega
  have HH := Lib.hid hH
  clear he hH
  have HK0 := Lib.hid (((Kept.refl w).alloc (.cells #[.int .i64 K, .int .i64 M, .int .i64 s] 29)).alloc (.cells #[.slice ab lb cb] 24))
  have HB0 := Lib.hid ((BlockAt.new w #[.int .i64 K, .int .i64 M, .int .i64 s] 29).kept ((Kept.refl _).alloc (.cells #[.slice ab lb cb] 24)))
  have HP0 := Lib.hid (BlockAt.new1 w #[.slice ab lb cb] 24 (.cells #[.int .i64 K, .int .i64 M, .int .i64 s] 29))
  have hne : ((lb : Int) != (H : Int)) = true := by rw [bne_iff_ne]; omega
  go_enter Try.func25, Try.ntmps25
  obtain ⟨c1, c2, c3⟩ := box3 HB0.out
  go_wp2_with fail
  refine (code_check _ _ _ _).mono ?_
  rintro e w1 ⟨rfl, hk1⟩
  have HK := Lib.hid (HK0.out.trans hk1)
  rw [HE.out]
  obtain ⟨d1, d2, d3⟩ := box3 (HB0.out.kept hk1)
  have d4 := box1 (HP0.out.kept hk1)
  clear hk1 c1 c2 c3
  go_wp2
  go_ret2
  exact ⟨rfl, HK.out⟩
set_option maxRecDepth 100000 in
set_option maxHeartbeats 1000000 in
theorem rebuild_unfit (K M H s : Nat) (hH : H = K + M) (hK : 1 ≤ K ∧ K ≤ 8 ∧ M ≤ 6) (hs : 1 ≤ s ∧ s ≤ 120) (al ab : Option Addr) (ll cl cb : Nat) (ss : List ByteArray) (T : Nat → Bool) (w : World) (hl : StrsIn w al ll ss) (hb : BoolsIn w ab H T) (h : sizedT ss H s T = false) :
    Calls Try.prog 25 #[.agg #[.int .i64 K, .int .i64 M, .int .i64 s], .slice al ll cl, .slice ab H cb] w fun e w' => e = .returned (.tuple #[.slice none 0 0, .int .i64 1]) ∧ Kept w w' := by
  have he : shpE K M s = 0 := by
    unfold shpE shpB
    rw [decide_eq_true (by omega)]
    rfl
  have HE := Lib.hid he
  have eH : (K : Int) + (M : Int) = (H : Int) := by omega
  have hH14 : H ≤ 1000000 := by omega
  have HH := Lib.hid hH
  have HST := Lib.hid h
  have HL := Lib.hid hl
  have HBO := Lib.hid hb
  clear he hH h hl hb
  have HK0 := Lib.hid (((Kept.refl w).alloc (.cells #[.int .i64 K, .int .i64 M, .int .i64 s] 29)).alloc (.cells #[.slice ab H cb] 24))
  have HB0 := Lib.hid ((BlockAt.new w #[.int .i64 K, .int .i64 M, .int .i64 s] 29).kept ((Kept.refl _).alloc (.cells #[.slice ab H cb] 24)))
  have HP0 := Lib.hid (BlockAt.new1 w #[.slice ab H cb] 24 (.cells #[.int .i64 K, .int .i64 M, .int .i64 s] 29))
  go_enter Try.func25, Try.ntmps25
  obtain ⟨c1, c2, c3⟩ := box3 HB0.out
  go_wp2_with fail
  refine (code_check _ _ _ _).mono ?_
  rintro e w1 ⟨rfl, hk1⟩
  have HK := Lib.hid (HK0.out.trans hk1)
  rw [HE.out]
  obtain ⟨d1, d2, d3⟩ := box3 (HB0.out.kept hk1)
  have HP1 := Lib.hid (HP0.out.kept hk1)
  have d4 := box1 HP1.out
  clear hk1 c1 c2 c3
  go_wp2_with fail
  refine (sized_there K M s H al ll cl ss hH14 _ ab cb T _ (HL.out.kept HK.out) (HBO.out.kept HK.out) HP1.out).mono ?_
  rintro e w2 ⟨rfl, hk2⟩
  have HK2 := Lib.hid (HK.out.trans hk2)
  rw [HST.out]
  clear hk2 d1 d2 d3 d4
  go_wp2
  go_ret2
  exact ⟨rfl, HK2.out⟩
end Go.Proofs.Ytoonpnpooljmlaa
