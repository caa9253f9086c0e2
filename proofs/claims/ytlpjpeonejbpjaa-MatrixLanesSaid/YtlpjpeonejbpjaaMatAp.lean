/- matrix.Apply, by what it answers (numbers below 256). -/
import Derived.Test.YtlpjpeonejbpjaaMatRk
import Derived.Test.YtlpjpeonejbpjaaLaneSums
namespace Go.Proofs.Ytlpjpeonejbpjaa
open Go.RowKit Go.Shelf
attribute [local go_sem] Oper.semAt_some

/-- a row's numbers times lanes, summed: the first n of them -/
def appTo (f : Nat → Nat) (ss : List ByteArray) : Nat → ByteArray
  | 0 => zeroS (ss.getD 0 ByteArray.empty).size
  | n + 1 => addedS (appTo f ss n) (scaledS (ss.getD n ByteArray.empty) (f n))
theorem appTo_size (f : Nat → Nat) (ss : List ByteArray) : ∀ n, (appTo f ss n).size = (ss.getD 0 ByteArray.empty).size
  | 0 => zeroS_size _
  | n + 1 => by
    show (addedS (appTo f ss n) _).size = _
    rw [addedS_size, appTo_size f ss n]
theorem gm_zero (x : UInt8) : gm x 0 = 0 := u8_ext (by rw [gm_toNat, Gf.mul_zero]; rfl)
theorem added_zero (a s : ByteArray) (h : s.size = a.size) : addedS a (scaledS s 0) = a := ext_byteAt (addedS_size _ _) (fun i hi => by
  rw [addedS_size] at hi
  rw [byteAt_added _ _ i hi, byteAt_scaled s 0 i (by omega), gm_zero, UInt8.xor_zero])
def appS (F : Nat → Nat → Nat) (ss : List ByteArray) (r c : Nat) : List ByteArray := (List.range r).map fun i => appTo (F i) ss c
theorem appS_getD (F : Nat → Nat → Nat) (ss : List ByteArray) (r c i : Nat) (hi : i < r) : (appS F ss r c).getD i ByteArray.empty = appTo (F i) ss c := by simp [appS, List.getD, hi]
/-- cells read as texts, in a block that may be written -/
structure Txt (w : World) (b r : Nat) (G : Nat → ByteArray) : Prop where
  blk : ∃ cs, BlockAt w b cs 9
  cell : ∀ i, i < r → w.cell? ⟨b, i, none⟩ = some (.string (G i))
theorem Txt.lt {w : World} {b r : Nat} {G : Nat → ByteArray} (h : Txt w b r G) : b < w.heap.size := by obtain ⟨cs, hb⟩ := h.blk; exact hb.lt
theorem Txt.free {w : World} {b r : Nat} {G : Nat → ByteArray} (h : Txt w b r G) (i : Nat) : w.frozen? ⟨b, i, none⟩ = false := by obtain ⟨cs, hb⟩ := h.blk; exact hb.free i
theorem Txt.kept {w w' : World} {b r : Nat} {G : Nat → ByteArray} (h : Txt w b r G) (k : Kept w w') : Txt w' b r G := by
  obtain ⟨cs, hb⟩ := h.blk
  exact ⟨⟨cs, hb.kept k⟩, fun i hi => k.cell hb.lt (h.cell i hi)⟩
theorem Txt.grown {w w' : World} {b r : Nat} {G : Nat → ByteArray} {row : Option Nat} (h : Txt w b r G) (g : w.grownBy w' row) (hne : some b ≠ row) : Txt w' b r G := by
  obtain ⟨cs, hb⟩ := h.blk
  exact ⟨⟨cs, hb.grown g hne⟩, fun i hi => (World.cell?_of_block (a := ⟨b, i, none⟩) (g.block b hb.lt hne)).trans (h.cell i hi)⟩
theorem Txt.own {w w' : World} {b r : Nat} {G : Nat → ByteArray} {row : Option Nat} (h : Txt w b r G) (g : w.grownBy w' row) (hr : ∀ k, row = some k → ∃ o : Obj, w.heap[k]? = some o ∧ o.isCells = false) : Txt w' b r G := by
  refine h.grown g (fun e => ?_)
  obtain ⟨cs, hb⟩ := h.blk
  obtain ⟨o, ho, hc⟩ := hr b e.symm
  have hb' : w.heap[b]? = some (.cells cs 9 (0, 0)) := hb
  rw [hb'] at ho
  cases ho
  cases hc
theorem Txt.set {w : World} {b r i : Nat} {G : Nat → ByteArray} (h : Txt w b r G) (hi : i < r) (s : ByteArray) : Txt (w.setCell ⟨b, i, none⟩ (.string s)) b r (fun k => if k = i then s else G k) := by
  obtain ⟨cs, hb⟩ := h.blk
  refine ⟨⟨_, hb.set _⟩, fun k hk => ?_⟩
  by_cases e : k = i
  · subst e
    rw [World.cell?_setCell_same _ _ _ (h.cell k hk), if_pos rfl]
  · have hne : (⟨b, i, none⟩ : Addr) ≠ ⟨b, k, none⟩ := fun h => e (Addr.mk.inj h).2.1.symm
    rw [World.cell?_setCell_other (h := hne), h.cell k hk, if_neg e]
theorem Txt.strs {w : World} {b r : Nat} {ss : List ByteArray} (h : Txt w b r (fun i => ss.getD i ByteArray.empty)) (hl : ss.length = r) (hr : r ≤ 9223372036854775807) (hs : ∀ s ∈ ss, s.size ≤ 9223372036854775807) : StrsIn w (some ⟨b, 0, none⟩) r ss :=
  ⟨hl, hr, hs, b, 0, fun _ => rfl, fun i hi => ⟨h.lt, by rw [Nat.zero_add]; exact h.cell i hi⟩⟩

/-- 'make([]string, n)' -/
theorem make_strs (n : Nat) (hn : n ≤ 1000) : ∀ u : World, (Instr.makeSlice 22 (.int .i64 n) (.int .i64 n)).run Try.prog u =
    .ok (.slice (some ⟨u.heap.size, 0, none⟩) n n) (u.alloc (.cells (madeCells #[.string ByteArray.empty] n) 9)) := fun u => by
  obtain ⟨i0, hi, hz0, hz1, hz2⟩ := info_parts Try.infoStr
  have h := run_make (P := Try.prog) u 22 9 i0 (.string ByteArray.empty) Try.underlying22 hi hz0 .i64 .i64 (n : Int) (n : Int) (by omega) (Int.le_refl _) (by rw [hz2]; omega) (by omega)
  simpa [hz1, Value.cells] using h
theorem made_txt (u : World) (n : Nat) : Txt (u.alloc (.cells (madeCells #[.string ByteArray.empty] n) 9)) u.heap.size n (fun _ => ByteArray.empty) := by
  refine ⟨⟨_, BlockAt.new _ _ _⟩, fun i hi => ?_⟩
  rw [cell_new]
  simp [madeCells, hi, Nat.mod_one]

set_option maxRecDepth 100000 in
theorem apply_bad (r c : Int) (a al : Option Addr) (l cap ll lcap : Nat) (h : matE r c l ≠ 0 ∨ (ll : Int) ≠ c) (w : World) :
    Calls Try.prog 50 #[.agg #[.int .i64 r, .int .i64 c, .slice a l cap], .slice al ll lcap] w fun e w' => e = .returned (.tuple #[.slice none 0 0, .int .i64 1]) ∧ Kept w w' := by
  go_enter Try.func50, Try.ntmps50
  go_wp2_with fail
  refine (check_any r c a l cap _).mono ?_
  rintro e w1 ⟨rfl, hk1⟩
  have HK := Lib.hid ((((Kept.refl w).alloc _).alloc _).trans hk1)
  have h1 := ((BlockAt.new w #[.int .i64 r, .int .i64 c, .slice a l cap] 50).kept ((Kept.refl _).alloc (.cells #[.slice al ll lcap] 22))).kept hk1
  have h2 := (BlockAt.new1 w #[.slice al ll lcap] 22 (.cells #[.int .i64 r, .int .i64 c, .slice a l cap] 50)).kept hk1
  obtain ⟨a0, a1, a2⟩ := box3 h1
  have b0 := box1 h2
  clear hk1 h1 h2
  by_cases h1 : matE r c l = 0
  · have hne : ((ll : Int) != c) = true := by
      rw [bne_iff_ne]
      rcases h with h | h
      · exact absurd h1 h
      · exact h
    rw [h1]
    clear h h1
    go_wp2
    go_ret2
    exact ⟨rfl, HK.out⟩
  · have hne : (matE r c l != 0) = true := by rw [bne_iff_ne]; exact h1
    clear h h1
    go_wp2
    go_ret2
    exact ⟨rfl, HK.out⟩
set_option maxRecDepth 100000 in
set_option maxHeartbeats 4000000 in
theorem apply_unfit (r c b off cap : Nat) (al : Option Addr) (lcap : Nat) (ss : List ByteArray) (hr : 1 ≤ r ∧ r ≤ 16) (hc : 1 ≤ c ∧ c ≤ 16) (w : World) (hl : StrsIn w al c ss) (hf : fitE ss ≠ 0) :
    Calls Try.prog 50 #[.agg #[.int .i64 r, .int .i64 c, .slice (some ⟨b, off, none⟩) (r * c) cap], .slice al c lcap] w fun e w' => e = .returned (.tuple #[.slice none 0 0, .int .i64 (fitE ss)]) ∧ Kept w w' := by
  have HE := Lib.hid (matE_ok hr hc)
  have HL := Lib.hid hl
  have hz : (fitE ss != 0) = true := by rw [bne_iff_ne]; exact hf
  have HF := Lib.hid hf
  clear hl hf
  go_enter Try.func50, Try.ntmps50
  go_wp2_with fail
  refine (check_any r c _ _ _ _).mono ?_
  rintro e w1 ⟨rfl, hk1⟩
  rw [HE.out]
  have HK := Lib.hid ((((Kept.refl w).alloc _).alloc _).trans hk1)
  have h1 := ((BlockAt.new w #[.int .i64 r, .int .i64 c, .slice (some ⟨b, off, none⟩) (r * c) cap] 50).kept ((Kept.refl _).alloc (.cells #[.slice al c lcap] 22))).kept hk1
  have h2 := (BlockAt.new1 w #[.slice al c lcap] 22 (.cells #[.int .i64 r, .int .i64 c, .slice (some ⟨b, off, none⟩) (r * c) cap] 50)).kept hk1
  obtain ⟨a0, a1, a2⟩ := box3 h1
  have b0 := box1 h2
  have hcc : ((c : Int) != (c : Int)) = false := by simp
  clear hk1 h1 h2
  go_wp2_with fail
  refine (sum_bad' al c lcap ss _ (HL.out.kept HK.out) HF.out).mono ?_
  rintro e w2 ⟨rfl, rfl⟩
  go_wp2
  go_ret2
  exact ⟨rfl, HK.out⟩
theorem apply_bytes (F : Nat → Nat → Nat) (ss : List ByteArray) (h0 : (ss.getD 0 ByteArray.empty).size ≤ 8192) (r c : Nat) : ∀ s ∈ appS F ss r c, s.size ≤ 9223372036854775807 := fun s hs => by
  simp only [appS, List.mem_map] at hs
  obtain ⟨i, _, rfl⟩ := hs
  rw [appTo_size]
  omega
set_option maxRecDepth 100000 in
set_option maxHeartbeats 4000000 in
theorem apply_any (r c b off cap : Nat) (al : Option Addr) (lcap : Nat) (ss : List ByteArray) (F : Nat → Nat → Nat) (hr : 1 ≤ r ∧ r ≤ 16) (hc : 1 ≤ c ∧ c ≤ 16) (hcap : r * c ≤ cap) (hlc : c ≤ lcap) (hF : Bt F) (w : World) (hs : MatR w b off r c F) (hl : StrsIn w al c ss) (hf : fitE ss = 0) :
    Calls Try.prog 50 #[.agg #[.int .i64 r, .int .i64 c, .slice (some ⟨b, off, none⟩) (r * c) cap], .slice al c lcap] w
      fun e w' => ∃ a, e = .returned (.tuple #[.slice a r r, .int .i64 0]) ∧ w.heap.size ≤ (a.map (·.block)).getD w.heap.size ∧ Txt w' ((a.map (·.block)).getD 0) r (fun i => appTo (F i) ss c) ∧ a = some ⟨(a.map (·.block)).getD 0, 0, none⟩ ∧ Kept w w' := by
  have HE := Lib.hid (matE_ok hr hc)
  have HL := Lib.hid hl
  have HS := Lib.hid hs
  have HFIT := Lib.hid (fun k (hk : k < c) => fitE_zero ss hf k (by rw [hl.len_eq]; exact hk))
  obtain ⟨bl, ol, ha, hcl⟩ := hl.cells
  obtain rfl := ha (by omega)
  have HCL := Lib.hid hcl
  have HF := Lib.hid hf
  have hmk := make_strs r (by omega)
  clear hl hf hs ha hcl
  refine callsIn_wide.1 (callsIn_of_wp_marks (n := 8) Try.func50 rfl trivial ?_ rfl)
  simp only [Try.ntmps50, List.size_toArray, List.length_nil, List.length_cons, Nat.reduceAdd, Nat.reduceSub, Array.replicate_succ, Array.replicate_zero, List.push_toArray, List.append_toArray, List.nil_append, List.cons_append]
  refine wpIn_wide.2 ?_
  go_wp2_with fail
  refine (check_any r c _ _ _ _).mono ?_
  rintro e w1 ⟨rfl, hk1⟩
  rw [HE.out]
  have HK := Lib.hid ((((Kept.refl w).alloc _).alloc _).trans hk1)
  have h1 := ((BlockAt.new w #[.int .i64 r, .int .i64 c, .slice (some ⟨b, off, none⟩) (r * c) cap] 50).kept ((Kept.refl _).alloc (.cells #[.slice (some ⟨bl, ol, none⟩) c lcap] 22))).kept hk1
  have h2 := (BlockAt.new1 w #[.slice (some ⟨bl, ol, none⟩) c lcap] 22 (.cells #[.int .i64 r, .int .i64 c, .slice (some ⟨b, off, none⟩) (r * c) cap] 50)).kept hk1
  have H1 := Lib.hid h1
  have H2 := Lib.hid h2
  obtain ⟨a0, a1, a2⟩ := box3 h1
  have b0 := box1 h2
  have hcc : ((c : Int) != (c : Int)) = false := by simp
  clear hk1 h1 h2
  go_wp2_with fail
  refine (sum_any' (some ⟨bl, ol, none⟩) c lcap ss _ (by omega) (HL.out.kept HK.out) hlc HF.out).mono ?_
  rintro e w2 ⟨rfl, hk2⟩
  clear a0 a1 a2 b0 hcc
  have H12 := Lib.hid (H1.out.kept hk2)
  have H22 := Lib.hid (H2.out.kept hk2)
  have HK2 := Lib.hid (HK.out.trans hk2)
  obtain ⟨a0, a1, a2⟩ := box3 H12.out
  have hz2 := H22.out.lt
  clear hk2 H1 H2 HK
  obtain ⟨x0, x1, x2⟩ := box3 (H12.out.kept (((Kept.refl w2).alloc (.cells (madeCells #[.string ByteArray.empty] r) 9)).alloc (.cells #[.slice (some ⟨w2.heap.size, 0, none⟩) r r] 22)))
  go_wp2_with fail
  refine (rows_any r c b off cap _).mono ?_
  rintro e w3 ⟨rfl, hw3⟩
  simp only [World.size_alloc]
  have k3 : Kept w2 w3 := by rw [hw3]; exact (((Kept.refl w2).alloc _).alloc _).alloc _
  have ht : Txt w3 w2.heap.size r (fun _ => ByteArray.empty) := by rw [hw3]; exact (made_txt w2 r).kept (((Kept.refl _).alloc _).alloc _)
  have h8 : BlockAt w3 (w2.heap.size + 1) #[.slice (some ⟨w2.heap.size, 0, none⟩) r r] 22 := by rw [hw3]; exact (BlockAt.new1 w2 _ _ _).kept ((Kept.refl _).alloc _)
  have h9 : BlockAt w3 (w2.heap.size + 1 + 1) #[.int .i64 r, .int .i64 c, .slice (some ⟨b, off, none⟩) (r * c) cap] 50 := by rw [hw3]; exact BlockAt.new2 w2 _ _ _ _
  have hz3 : w3.heap.size = w2.heap.size + 3 := by rw [hw3]; simp
  have H13 := Lib.hid (H12.out.kept k3)
  have H23 := Lib.hid (H22.out.kept k3)
  have HK3 := Lib.hid (HK2.out.trans k3)
  have H8 := Lib.hid h8
  have HT := Lib.hid ht
  have hsz := HK2.out.size
  clear hw3 k3 h8 ht a0 a1 a2 x0 x1 x2 H12 H22 HK2 hmk
  generalize w2.heap.size = q at *
  clear w2
  go_wp2
  refine wp_of_in 8 ?_
  refine wpIn_rangeFunc_S rfl (by omega) (gf := 90) (lb := #[.pointer (some ⟨q + 1 + 1, 0, none⟩)]) rfl trivial (enters_of Try.func90 (by kernel_rfl) rfl)
    (rows_stops 7 (by omega) (fun k => k = q) r c b off cap (q + 1 + 1) (by omega) ⟨hc.1, by omega⟩ hcap w3 (by omega) h9) (CellsBut.refl _) CellsBut.trans CellsBut.putObj (Below.refl _ _) (fun _ => rfl)
    (fun pre W => Txt W q r (fun i => if i ∈ ixs pre then appTo (F i) ss c else ByteArray.empty) ∧ w3.grownBy W (some q))
    (fun _ _ _ => False)
    (OwnFrom.and (Own.from (fun s A B row hs hg hr => hs.own hg hr) _) (ownFrom_grown w3 (Nat.le_refl _)))
    (fun _ _ _ _ _ hs _ _ => hs)
    ⟨by simpa [ixs_nil] using HT.out, grown_refl w3 _⟩ ?round ?done ?stop
  case round =>
    rintro l ⟨i, hi⟩ W K hK'
    have HK := Lib.hid hK'
    clear hK'
    gi_wp2
    refine HK.out _ ?_
    clear HK
    rintro l pre W ⟨iT, iG⟩ hlen
    have hkw := Kept.grown HK3.out iG (fun k e => by cases e; omega)
    have b0 := box1 (H23.out.grown iG (by simp; omega))
    have hc0 := hkw.cell (HCL.out 0 (by omega)).1 (HCL.out 0 (by omega)).2
    rw [Nat.add_zero] at hc0
    have hs0 := (HFIT.out 0 (by omega)).1
    have h00 : appTo (F i) ss 0 = zeroS (ss.getD 0 ByteArray.empty).size := rfl
    have HT2 := Lib.hid iT
    have HG := Lib.hid iG
    have HKW := Lib.hid hkw
    have H00 := Lib.hid h00
    have HS0 := Lib.hid hs0
    clear iT iG hkw h00
    gi_wp2_with fail
    refine wpIn_scope_any ?_
    gi_wp2_with fail
    refine (CallsIn.inRound l (callsIn_wide.2 (zero_any _ hs0 _))).mono ?_
    rintro e W2 ⟨rfl, hk2⟩
    rw [← H00.out]
    have hk2' : Kept W W2 := hk2
    have HK2 := Lib.hid hk2'
    have b02 := hk2'.cell (cell_lt b0) b0
    clear hk2 hk2' hc0 hs0 b0
    gi_wp2_with fail
    refine wpIn_label ?_
    gi_wp2_with fail
    gi_loopw [11, 50] (fun x j wr => ∃ k : Nat, k ≤ c ∧ j = .int .i64 k ∧ x = .string (appTo (F i) ss k) ∧ Kept W wr) (fun _ j _ => c - (intOf j).toNat)
    case atStart => exact ⟨0, by omega, rfl, rfl, HK2.out⟩
    case round =>
      obtain ⟨k, hk, rfl, rfl, hkr⟩ := hrel
      have HKR := Lib.hid hkr
      by_cases hlt : k < c
      · have hmc := (HS.out.kept (HKW.out.trans hkr)) i k hi hlt
        have hfx := hF i k
        have b03 := box1 ((H23.out.grown HG.out (by simp; omega)).kept hkr)
        have hck := (HKW.out.trans hkr).cell (HCL.out k hlt).1 (HCL.out k hlt).2
        have hsk := HFIT.out k hlt
        have hap := appTo_size (F i) ss k
        have hsucc : appTo (F i) ss (k + 1) = addedS (appTo (F i) ss k) (scaledS (ss.getD k ByteArray.empty) (F i k)) := rfl
        have hs0 := HS0.out
        generalize ss.getD k ByteArray.empty = s at hck hsk hsucc
        generalize hA : appTo (F i) ss k = A at hap hsucc
        have HA := Lib.hid hA
        have hAs : A.size ≤ 8192 := by omega
        have hsA : s.size = A.size := by omega
        have hsz := hsk.1
        clear hsk hap hkr hA hs0
        by_cases h0 : F i k = 0
        · rw [h0] at hmc hsucc
          rw [added_zero A s hsA] at hsucc
          have HSU := Lib.hid hsucc
          clear h0 hsucc hAs hsA
          gi_wp2
          go_roundw
          case rel => exact ⟨k + 1, by omega, by go_num, by rw [HSU.out], HKR.out⟩
          case measure => simp [intOf]; omega
        · have hb0 : (((F i k : Nat) : Int) == 0) = false := by rw [beq_eq_false_iff_ne]; omega
          have HSU := Lib.hid hsucc
          clear h0 hsucc
          gi_wp2_with fail
          refine (CallsIn.inRound l (callsIn_wide.2 (muladd_any A s (F i k) hfx hAs hsA _))).mono ?_
          rintro e W5 ⟨rfl, hk5⟩
          have HK5 := Lib.hid (HKR.out.trans hk5)
          clear hk5 hAs hsA
          gi_wp2
          go_roundw
          case rel => exact ⟨k + 1, by omega, by go_num, by rw [HSU.out], HK5.out⟩
          case measure => simp [intOf]; omega
      · obtain rfl : k = c := by omega
        have b8 := box1 ((H8.out.grown HG.out (by simp)).kept hkr)
        have hT5 := HT2.out.kept hkr
        have hcell := hT5.cell i hi
        have hfree := hT5.free i
        have hst := hT5.set hi (appTo (F i) ss k)
        have HST := Lib.hid hst
        generalize (if i ∈ ixs pre then appTo (F i) ss k else ByteArray.empty) = old at hcell
        clear hst hT5 hkr
        gi_wp2
        have hgt := grown_trans (grown_kept HKR.out (some q)) (grown_set wr q i (.string (appTo (F i) ss k)))
        obtain ⟨cs, hbq⟩ := HT2.out.blk
        refine ⟨others_of_grown hgt hbq, but_of_grown hgt rfl, ?_, grown_trans HG.out hgt⟩
        have h := HST.out
        have e : (fun j => if j = i then appTo (F i) ss k else if j ∈ ixs pre then appTo (F j) ss k else ByteArray.empty) = (fun j => if j ∈ ixs (pre ++ [⟨i, hi⟩]) then appTo (F j) ss k else ByteArray.empty) := by
          funext j
          rw [ixs_snoc pre i hi]
          by_cases e : j = i
          · subst e; simp
          · simp [e]
        rw [e] at h
        exact h
  case done =>
    rintro D ys W hD hys ⟨iT, iG⟩ hK
    rw [hys] at iT
    have b8 := box1 (H8.out.grown iG (by simp))
    have HT2 := Lib.hid iT
    have HKW := Lib.hid (Kept.grown HK3.out iG (fun k e => by cases e; omega))
    clear iT iG
    go_wp2
    refine ⟨by simp, .inl ⟨_, _, rfl, run_takeDeferred hK, ?_⟩⟩
    have g2 := grown_put W D (.deferred none)
    refine ⟨_, results_tmp2 rfl _ _ _, some ⟨q, 0, none⟩, rfl, by show w.heap.size ≤ q; omega, ?_, rfl, Kept.grown HKW.out g2 (fun k e => by cases e; omega)⟩
    have ht : Txt W q r (fun i => appTo (F i) ss c) := by
      obtain ⟨cs, hb⟩ := HT2.out.blk
      exact ⟨⟨cs, hb⟩, fun i hi => by have h := HT2.out.cell i hi; rw [if_pos (by simp [hi])] at h; exact h⟩
    have hql := ht.lt
    exact ht.grown g2 (by simp; omega)
  case stop =>
    rintro D c' pre W _ _ h _
    exact h.elim
end Go.Proofs.Ytlpjpeonejbpjaa
