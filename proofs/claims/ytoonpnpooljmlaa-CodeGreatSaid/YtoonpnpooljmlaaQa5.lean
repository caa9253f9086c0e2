/- Contracts of the code and of the reference, laid into one file: part 5 (what each says stands at its head). -/
import Derived.Test.YtoonpnpooljmlaaQa4
import Derived.Orders
import Derived.RegionTactic
import Derived.ArgAppend

namespace Go.Proofs.Ytoonpnpooljmlaa
open Go.RowKit Go.Shelf
attribute [local go_sem] Oper.semAt_some

/-- a row's numbers times lanes, summed: the first n of them -/
def appTo (f : Nat → Nat) (ss : List ByteArray) : Nat → ByteArray
  | 0 => zeroS (ss.getD 0 ByteArray.empty).size
  | n + 1 => addedS (appTo f ss n) (scaledS (ss.getD n ByteArray.empty) (f n))
theorem appTo_size (f : Nat → Nat) (ss : List ByteArray) : ∀ n, (appTo f ss n).size = (ss.getD 0 ByteArray.empty).size
  | 0 => zeroS_size _
  | n + 1 => by
    show (addedS (appTo f ss n) _).size = _
    rw [addedS_size, appTo_size f ss n]
theorem gm_zero (x : UInt8) : gm x 0 = 0 := u8_ext (by rw [gm_toNat, Gf.mul_zero]; rfl)
theorem added_zero (a s : ByteArray) (h : s.size = a.size) : addedS a (scaledS s 0) = a := ext_byteAt (addedS_size _ _) (fun i hi => by
  rw [addedS_size] at hi
  rw [byteAt_added _ _ i hi, byteAt_scaled s 0 i (by omega), gm_zero, UInt8.xor_zero])
def appS (F : Nat → Nat → Nat) (ss : List ByteArray) (r c : Nat) : List ByteArray := (List.range r).map fun i => appTo (F i) ss c
theorem appS_getD (F : Nat → Nat → Nat) (ss : List ByteArray) (r c i : Nat) (hi : i < r) : (appS F ss r c).getD i ByteArray.empty = appTo (F i) ss c := by simp [appS, List.getD, hi]
/-- cells read as texts, in a block that may be written -/
structure Txt (w : World) (b r : Nat) (G : Nat → ByteArray) : Prop where
  blk : ∃ cs, BlockAt w b cs 9
  cell : ∀ i, i < r → w.cell? ⟨b, i, none⟩ = some (.string (G i))
theorem Txt.lt {w : World} {b r : Nat} {G : Nat → ByteArray} (h : Txt w b r G) : b < w.heap.size := by obtain ⟨cs, hb⟩ := h.blk; exact hb.lt
theorem Txt.free {w : World} {b r : Nat} {G : Nat → ByteArray} (h : Txt w b r G) (i : Nat) : w.frozen? ⟨b, i, none⟩ = false := by obtain ⟨cs, hb⟩ := h.blk; exact hb.free i
theorem Txt.kept {w w' : World} {b r : Nat} {G : Nat → ByteArray} (h : Txt w b r G) (k : Kept w w') : Txt w' b r G := by
  obtain ⟨cs, hb⟩ := h.blk
  exact ⟨⟨cs, hb.kept k⟩, fun i hi => k.cell hb.lt (h.cell i hi)⟩
theorem Txt.grown {w w' : World} {b r : Nat} {G : Nat → ByteArray} {row : Option Nat} (h : Txt w b r G) (g : w.grownBy w' row) (hne : some b ≠ row) : Txt w' b r G := by
  obtain ⟨cs, hb⟩ := h.blk
  exact ⟨⟨cs, hb.grown g hne⟩, fun i hi => (World.cell?_of_block (a := ⟨b, i, none⟩) (g.block b hb.lt hne)).trans (h.cell i hi)⟩
theorem Txt.own {w w' : World} {b r : Nat} {G : Nat → ByteArray} {row : Option Nat} (h : Txt w b r G) (g : w.grownBy w' row) (hr : ∀ k, row = some k → ∃ o : Obj, w.heap[k]? = some o ∧ o.isCells = false) : Txt w' b r G := by
  refine h.grown g (fun e => ?_)
  obtain ⟨cs, hb⟩ := h.blk
  obtain ⟨o, ho, hc⟩ := hr b e.symm
  have hb' : w.heap[b]? = some (.cells cs 9 (0, 0)) := hb
  rw [hb'] at ho
  cases ho
  cases hc
theorem Txt.set {w : World} {b r i : Nat} {G : Nat → ByteArray} (h : Txt w b r G) (hi : i < r) (s : ByteArray) : Txt (w.setCell ⟨b, i, none⟩ (.string s)) b r (fun k => if k = i then s else G k) := by
  obtain ⟨cs, hb⟩ := h.blk
  refine ⟨⟨_, hb.set _⟩, fun k hk => ?_⟩
  by_cases e : k = i
  · subst e
    rw [World.cell?_setCell_same _ _ _ (h.cell k hk), if_pos rfl]
  · have hne : (⟨b, i, none⟩ : Addr) ≠ ⟨b, k, none⟩ := fun h => e (Addr.mk.inj h).2.1.symm
    rw [World.cell?_setCell_other (h := hne), h.cell k hk, if_neg e]
theorem Txt.strs {w : World} {b r : Nat} {ss : List ByteArray} (h : Txt w b r (fun i => ss.getD i ByteArray.empty)) (hl : ss.length = r) (hr : r ≤ 9223372036854775807) (hs : ∀ s ∈ ss, s.size ≤ 9223372036854775807) : StrsIn w (some ⟨b, 0, none⟩) r ss :=
  ⟨hl, hr, hs, b, 0, fun _ => rfl, fun i hi => ⟨h.lt, by rw [Nat.zero_add]; exact h.cell i hi⟩⟩

/-- 'make([]string, n)' -/
theorem make_strs (n : Nat) (hn : n ≤ 1000) : ∀ u : World, (Instr.makeSlice 23 (.int .i64 n) (.int .i64 n)).run Try.prog u =
    .ok (.slice (some ⟨u.heap.size, 0, none⟩) n n) (u.alloc (.cells (madeCells #[.string ByteArray.empty] n) 9)) := fun u => by
  obtain ⟨i0, hi, hz0, hz1, hz2⟩ := info_parts Try.infoStr
  have h := run_make (P := Try.prog) u 23 9 i0 (.string ByteArray.empty) Try.underlying23 hi hz0 .i64 .i64 (n : Int) (n : Int) (by omega) (Int.le_refl _) (by rw [hz2]; omega) (by omega)
  simpa [hz1, Value.cells] using h
theorem made_txt (u : World) (n : Nat) : Txt (u.alloc (.cells (madeCells #[.string ByteArray.empty] n) 9)) u.heap.size n (fun _ => ByteArray.empty) := by
  refine ⟨⟨_, BlockAt.new _ _ _⟩, fun i hi => ?_⟩
  rw [cell_new]
  simp [madeCells, hi, Nat.mod_one]

theorem sum_bad2 (a : Option Addr) (l cap : Nat) (ss : List ByteArray) (w : World) (h : StrsIn w a l ss) (hf : fitE ss ≠ 0) :
    Calls Try.prog 54 #[.slice a l cap] w fun e w' => e = .returned (.tuple #[.string ⟨#[]⟩, .int .i64 (fitE ss)]) ∧ w = w' := sum_bad a l cap ss w h hf
theorem sum_any2 (a : Option Addr) (k cap : Nat) (ss : List ByteArray) (w : World) (hk : 0 < k) (h : StrsIn w a k ss) (hcap : k ≤ cap) (hf : fitE ss = 0) :
    Calls Try.prog 54 #[.slice a k cap] w fun e w' => e = .returned (.tuple #[.string (sumTo ss (k - 1)), .int .i64 0]) ∧ Kept w w' := by
  obtain ⟨m, rfl⟩ : ∃ m, k = m + 1 := ⟨k - 1, by omega⟩
  exact sum_any a m cap ss w h hcap hf
set_option maxRecDepth 100000 in
theorem apply_bad (r c : Int) (a al : Option Addr) (l cap ll lcap : Nat) (h : matE r c l ≠ 0 ∨ (ll : Int) ≠ c) (w : World) :
    Calls Try.prog 44 #[.agg #[.int .i64 r, .int .i64 c, .slice a l cap], .slice al ll lcap] w fun e w' => e = .returned (.tuple #[.slice none 0 0, .int .i64 1]) ∧ Kept w w' := by
  go_enter Try.func44, Try.ntmps44
  go_wp2_with fail
  refine (check_any r c a l cap _).mono ?_
  rintro e w1 ⟨rfl, hk1⟩
  have HK := Lib.hid ((((Kept.refl w).alloc _).alloc _).trans hk1)
  have h1 := ((BlockAt.new w #[.int .i64 r, .int .i64 c, .slice a l cap] 33).kept ((Kept.refl _).alloc (.cells #[.slice al ll lcap] 23))).kept hk1
  have h2 := (BlockAt.new1 w #[.slice al ll lcap] 23 (.cells #[.int .i64 r, .int .i64 c, .slice a l cap] 33)).kept hk1
  obtain ⟨a0, a1, a2⟩ := box3 h1
  have b0 := box1 h2
  clear hk1 h1 h2
  by_cases h1 : matE r c l = 0
  · have hne : ((ll : Int) != c) = true := by
      rw [bne_iff_ne]
      rcases h with h | h
      · exact absurd h1 h
      · exact h
    rw [h1]
    clear h h1
    go_wp2
    go_ret2
    exact ⟨rfl, HK.out⟩
  · have hne : (matE r c l != 0) = true := by rw [bne_iff_ne]; exact h1
    clear h h1
    go_wp2
    go_ret2
    exact ⟨rfl, HK.out⟩
set_option maxRecDepth 100000 in
set_option maxHeartbeats 4000000 in
theorem apply_unfit (r c b off cap : Nat) (al : Option Addr) (lcap : Nat) (ss : List ByteArray) (hr : 1 ≤ r ∧ r ≤ 16) (hc : 1 ≤ c ∧ c ≤ 16) (w : World) (hl : StrsIn w al c ss) (hf : fitE ss ≠ 0) :
    Calls Try.prog 44 #[.agg #[.int .i64 r, .int .i64 c, .slice (some ⟨b, off, none⟩) (r * c) cap], .slice al c lcap] w fun e w' => e = .returned (.tuple #[.slice none 0 0, .int .i64 (fitE ss)]) ∧ Kept w w' := by
  have HE := Lib.hid (matE_ok hr hc)
  have HL := Lib.hid hl
  have hz : (fitE ss != 0) = true := by rw [bne_iff_ne]; exact hf
  have HF := Lib.hid hf
  clear hl hf
  go_enter Try.func44, Try.ntmps44
  go_wp2_with fail
  refine (check_any r c _ _ _ _).mono ?_
  rintro e w1 ⟨rfl, hk1⟩
  rw [HE.out]
  have HK := Lib.hid ((((Kept.refl w).alloc _).alloc _).trans hk1)
  have h1 := ((BlockAt.new w #[.int .i64 r, .int .i64 c, .slice (some ⟨b, off, none⟩) (r * c) cap] 33).kept ((Kept.refl _).alloc (.cells #[.slice al c lcap] 23))).kept hk1
  have h2 := (BlockAt.new1 w #[.slice al c lcap] 23 (.cells #[.int .i64 r, .int .i64 c, .slice (some ⟨b, off, none⟩) (r * c) cap] 33)).kept hk1
  obtain ⟨a0, a1, a2⟩ := box3 h1
  have b0 := box1 h2
  have hcc : ((c : Int) != (c : Int)) = false := by simp
  clear hk1 h1 h2
  go_wp2_with fail
  refine (sum_bad2 al c lcap ss _ (HL.out.kept HK.out) HF.out).mono ?_
  rintro e w2 ⟨rfl, rfl⟩
  go_wp2
  go_ret2
  exact ⟨rfl, HK.out⟩
theorem apply_bytes (F : Nat → Nat → Nat) (ss : List ByteArray) (h0 : (ss.getD 0 ByteArray.empty).size ≤ 8192) (r c : Nat) : ∀ s ∈ appS F ss r c, s.size ≤ 9223372036854775807 := fun s hs => by
  simp only [appS, List.mem_map] at hs
  obtain ⟨i, _, rfl⟩ := hs
  rw [appTo_size]
  omega
set_option maxRecDepth 100000 in
set_option maxHeartbeats 4000000 in
theorem apply_any (r c b off cap : Nat) (al : Option Addr) (lcap : Nat) (ss : List ByteArray) (F : Nat → Nat → Nat) (hr : 1 ≤ r ∧ r ≤ 16) (hc : 1 ≤ c ∧ c ≤ 16) (hcap : r * c ≤ cap) (hlc : c ≤ lcap) (hF : Bt F) (w : World) (hs : MatR w b off r c F) (hl : StrsIn w al c ss) (hf : fitE ss = 0) :
    Calls Try.prog 44 #[.agg #[.int .i64 r, .int .i64 c, .slice (some ⟨b, off, none⟩) (r * c) cap], .slice al c lcap] w
      fun e w' => ∃ a, e = .returned (.tuple #[.slice a r r, .int .i64 0]) ∧ w.heap.size ≤ (a.map (·.block)).getD w.heap.size ∧ Txt w' ((a.map (·.block)).getD 0) r (fun i => appTo (F i) ss c) ∧ a = some ⟨(a.map (·.block)).getD 0, 0, none⟩ ∧ Kept w w' := by
  have HE := Lib.hid (matE_ok hr hc)
  have HL := Lib.hid hl
  have HS := Lib.hid hs
  have HFIT := Lib.hid (fun k (hk : k < c) => fitE_zero ss hf k (by rw [hl.len_eq]; exact hk))
  obtain ⟨bl, ol, ha, hcl⟩ := hl.cells
  obtain rfl := ha (by omega)
  have HCL := Lib.hid hcl
  have HF := Lib.hid hf
  have hmk := make_strs r (by omega)
  clear hl hf hs ha hcl
  refine callsIn_wide.1 (callsIn_of_wp_marks (n := 8) Try.func44 rfl trivial ?_ rfl)
  simp only [Try.ntmps44, List.size_toArray, List.length_nil, List.length_cons, Nat.reduceAdd, Nat.reduceSub, Array.replicate_succ, Array.replicate_zero, List.push_toArray, List.append_toArray, List.nil_append, List.cons_append]
  refine wpIn_wide.2 ?_
  go_wp2_with fail
  refine (check_any r c _ _ _ _).mono ?_
  rintro e w1 ⟨rfl, hk1⟩
  rw [HE.out]
  have HK := Lib.hid ((((Kept.refl w).alloc _).alloc _).trans hk1)
  have h1 := ((BlockAt.new w #[.int .i64 r, .int .i64 c, .slice (some ⟨b, off, none⟩) (r * c) cap] 33).kept ((Kept.refl _).alloc (.cells #[.slice (some ⟨bl, ol, none⟩) c lcap] 23))).kept hk1
  have h2 := (BlockAt.new1 w #[.slice (some ⟨bl, ol, none⟩) c lcap] 23 (.cells #[.int .i64 r, .int .i64 c, .slice (some ⟨b, off, none⟩) (r * c) cap] 33)).kept hk1
  have H1 := Lib.hid h1
  have H2 := Lib.hid h2
  obtain ⟨a0, a1, a2⟩ := box3 h1
  have b0 := box1 h2
  have hcc : ((c : Int) != (c : Int)) = false := by simp
  clear hk1 h1 h2
  go_wp2_with fail
  refine (sum_any2 (some ⟨bl, ol, none⟩) c lcap ss _ (by omega) (HL.out.kept HK.out) hlc HF.out).mono ?_
  rintro e w2 ⟨rfl, hk2⟩
  clear a0 a1 a2 b0 hcc
  have H12 := Lib.hid (H1.out.kept hk2)
  have H22 := Lib.hid (H2.out.kept hk2)
  have HK2 := Lib.hid (HK.out.trans hk2)
  obtain ⟨a0, a1, a2⟩ := box3 H12.out
  have hz2 := H22.out.lt
  clear hk2 H1 H2 HK
  obtain ⟨x0, x1, x2⟩ := box3 (H12.out.kept (((Kept.refl w2).alloc (.cells (madeCells #[.string ByteArray.empty] r) 9)).alloc (.cells #[.slice (some ⟨w2.heap.size, 0, none⟩) r r] 23)))
  go_wp2_with fail
  refine (rows_any r c b off cap _).mono ?_
  rintro e w3 ⟨rfl, hw3⟩
  simp only [World.size_alloc]
  have k3 : Kept w2 w3 := by rw [hw3]; exact (((Kept.refl w2).alloc _).alloc _).alloc _
  have ht : Txt w3 w2.heap.size r (fun _ => ByteArray.empty) := by rw [hw3]; exact (made_txt w2 r).kept (((Kept.refl _).alloc _).alloc _)
  have h8 : BlockAt w3 (w2.heap.size + 1) #[.slice (some ⟨w2.heap.size, 0, none⟩) r r] 23 := by rw [hw3]; exact (BlockAt.new1 w2 _ _ _).kept ((Kept.refl _).alloc _)
  have h9 : BlockAt w3 (w2.heap.size + 1 + 1) #[.int .i64 r, .int .i64 c, .slice (some ⟨b, off, none⟩) (r * c) cap] 33 := by rw [hw3]; exact BlockAt.new2 w2 _ _ _ _
  have hz3 : w3.heap.size = w2.heap.size + 3 := by rw [hw3]; simp
  have H13 := Lib.hid (H12.out.kept k3)
  have H23 := Lib.hid (H22.out.kept k3)
  have HK3 := Lib.hid (HK2.out.trans k3)
  have H8 := Lib.hid h8
  have HT := Lib.hid ht
  have hsz := HK2.out.size
  clear hw3 k3 h8 ht a0 a1 a2 x0 x1 x2 H12 H22 HK2 hmk
  generalize w2.heap.size = q at *
  clear w2
  go_wp2
  refine wp_of_in 8 ?_
  refine wpIn_rangeFunc_S rfl (by omega) (gf := 75) (lb := #[.pointer (some ⟨q + 1 + 1, 0, none⟩)]) rfl trivial (enters_of Try.func75 (by kernel_rfl) rfl)
    (rows_stops 7 (by omega) (fun k => k = q) r c b off cap (q + 1 + 1) (by omega) ⟨hc.1, by omega⟩ hcap w3 (by omega) h9) (CellsBut.refl _) CellsBut.trans CellsBut.putObj (Below.refl _ _) (fun _ => rfl)
    (fun pre W => Txt W q r (fun i => if i ∈ ixs pre then appTo (F i) ss c else ByteArray.empty) ∧ w3.grownBy W (some q))
    (fun _ _ _ => False)
    (OwnFrom.and (Own.from (fun s A B row hs hg hr => hs.own hg hr) _) (ownFrom_grown w3 (Nat.le_refl _)))
    (fun _ _ _ _ _ hs _ _ => hs)
    ⟨by simpa [ixs_nil] using HT.out, grown_refl w3 _⟩ ?round ?done ?stop
  case round =>
    rintro l ⟨i, hi⟩ W K hK'
    have HK := Lib.hid hK'
    clear hK'
    gi_wp2
    refine HK.out _ ?_
    clear HK
    rintro l pre W ⟨iT, iG⟩ hlen
    have hkw := Kept.grown HK3.out iG (fun k e => by cases e; omega)
    have b0 := box1 (H23.out.grown iG (by simp; omega))
    have hc0 := hkw.cell (HCL.out 0 (by omega)).1 (HCL.out 0 (by omega)).2
    rw [Nat.add_zero] at hc0
    have hs0 := (HFIT.out 0 (by omega)).1
    have h00 : appTo (F i) ss 0 = zeroS (ss.getD 0 ByteArray.empty).size := rfl
    have HT2 := Lib.hid iT
    have HG := Lib.hid iG
    have HKW := Lib.hid hkw
    have H00 := Lib.hid h00
    have HS0 := Lib.hid hs0
    clear iT iG hkw h00
    gi_wp2_with fail
    refine wpIn_scope_any ?_
    gi_wp2_with fail
    refine (CallsIn.inRound l (callsIn_wide.2 (zero_any _ hs0 _))).mono ?_
    rintro e W2 ⟨rfl, hk2⟩
    rw [← H00.out]
    have hk2' : Kept W W2 := hk2
    have HK2 := Lib.hid hk2'
    have b02 := hk2'.cell (cell_lt b0) b0
    clear hk2 hk2' hc0 hs0 b0
    gi_wp2_with fail
    refine wpIn_label ?_
    gi_wp2_with fail
    gi_loopw [11, 50] (fun x j wr => ∃ k : Nat, k ≤ c ∧ j = .int .i64 k ∧ x = .string (appTo (F i) ss k) ∧ Kept W wr) (fun _ j _ => c - (intOf j).toNat)
    case atStart => exact ⟨0, by omega, rfl, rfl, HK2.out⟩
    case round =>
      obtain ⟨k, hk, rfl, rfl, hkr⟩ := hrel
      have HKR := Lib.hid hkr
      by_cases hlt : k < c
      · have hmc := (HS.out.kept (HKW.out.trans hkr)) i k hi hlt
        have hfx := hF i k
        have b03 := box1 ((H23.out.grown HG.out (by simp; omega)).kept hkr)
        have hck := (HKW.out.trans hkr).cell (HCL.out k hlt).1 (HCL.out k hlt).2
        have hsk := HFIT.out k hlt
        have hap := appTo_size (F i) ss k
        have hsucc : appTo (F i) ss (k + 1) = addedS (appTo (F i) ss k) (scaledS (ss.getD k ByteArray.empty) (F i k)) := rfl
        have hs0 := HS0.out
        generalize ss.getD k ByteArray.empty = s at hck hsk hsucc
        generalize hA : appTo (F i) ss k = A at hap hsucc
        have HA := Lib.hid hA
        have hAs : A.size ≤ 8192 := by omega
        have hsA : s.size = A.size := by omega
        have hsz := hsk.1
        clear hsk hap hkr hA hs0
        by_cases h0 : F i k = 0
        · rw [h0] at hmc hsucc
          rw [added_zero A s hsA] at hsucc
          have HSU := Lib.hid hsucc
          clear h0 hsucc hAs hsA
          gi_wp2
          go_roundw
          case rel => exact ⟨k + 1, by omega, by go_num, by rw [HSU.out], HKR.out⟩
          case measure => simp [intOf]; omega
        · have hb0 : (((F i k : Nat) : Int) == 0) = false := by rw [beq_eq_false_iff_ne]; omega
          have HSU := Lib.hid hsucc
          clear h0 hsucc
          gi_wp2_with fail
          refine (CallsIn.inRound l (callsIn_wide.2 (muladd_any A s (F i k) hfx hAs hsA _))).mono ?_
          rintro e W5 ⟨rfl, hk5⟩
          have HK5 := Lib.hid (HKR.out.trans hk5)
          clear hk5 hAs hsA
          gi_wp2
          go_roundw
          case rel => exact ⟨k + 1, by omega, by go_num, by rw [HSU.out], HK5.out⟩
          case measure => simp [intOf]; omega
      · obtain rfl : k = c := by omega
        have b8 := box1 ((H8.out.grown HG.out (by simp)).kept hkr)
        have hT5 := HT2.out.kept hkr
        have hcell := hT5.cell i hi
        have hfree := hT5.free i
        have hst := hT5.set hi (appTo (F i) ss k)
        have HST := Lib.hid hst
        generalize (if i ∈ ixs pre then appTo (F i) ss k else ByteArray.empty) = old at hcell
        clear hst hT5 hkr
        gi_wp2
        have hgt := grown_trans (grown_kept HKR.out (some q)) (grown_set wr q i (.string (appTo (F i) ss k)))
        obtain ⟨cs, hbq⟩ := HT2.out.blk
        refine ⟨others_of_grown hgt hbq, but_of_grown hgt rfl, ?_, grown_trans HG.out hgt⟩
        have h := HST.out
        have e : (fun j => if j = i then appTo (F i) ss k else if j ∈ ixs pre then appTo (F j) ss k else ByteArray.empty) = (fun j => if j ∈ ixs (pre ++ [⟨i, hi⟩]) then appTo (F j) ss k else ByteArray.empty) := by
          funext j
          rw [ixs_snoc pre i hi]
          by_cases e : j = i
          · subst e; simp
          · simp [e]
        rw [e] at h
        exact h
  case done =>
    rintro D ys W hD hys ⟨iT, iG⟩ hK
    rw [hys] at iT
    have b8 := box1 (H8.out.grown iG (by simp))
    have HT2 := Lib.hid iT
    have HKW := Lib.hid (Kept.grown HK3.out iG (fun k e => by cases e; omega))
    clear iT iG
    go_wp2
    refine ⟨by simp, .inl ⟨_, _, rfl, run_takeDeferred hK, ?_⟩⟩
    have g2 := grown_put W D (.deferred none)
    refine ⟨_, results_tmp2 rfl _ _ _, some ⟨q, 0, none⟩, rfl, by show w.heap.size ≤ q; omega, ?_, rfl, Kept.grown HKW.out g2 (fun k e => by cases e; omega)⟩
    have ht : Txt W q r (fun i => appTo (F i) ss c) := by
      obtain ⟨cs, hb⟩ := HT2.out.blk
      exact ⟨⟨cs, hb⟩, fun i hi => by have h := HT2.out.cell i hi; rw [if_pos (by simp [hi])] at h; exact h⟩
    have hql := ht.lt
    exact ht.grown g2 (by simp; omega)
  case stop =>
    rintro D c' pre W _ _ h _
    exact h.elim
end Go.Proofs.Ytoonpnpooljmlaa

namespace Go.Proofs.Ytoonpnpooljmlaa
open Go.RowKit Go.Shelf
attribute [local go_sem] Oper.semAt_some

theorem fitE_same (ss : List ByteArray) (q : Nat) (hq : q ≤ 8192) (h : ∀ s ∈ ss, s.size = q) : fitE ss = 0 := by
  have h1 : ss.any long = false := by
    rw [List.any_eq_false]
    intro s hs
    have := h s hs
    simp [long]
    omega
  have h2 : ss.any (unlike ss) = false := by
    rw [List.any_eq_false]
    intro s hs
    cases ss with
    | nil => cases hs
    | cons t l =>
      have e1 := h s hs
      have e2 := h t (by simp)
      simp [unlike, e1, e2]
  unfold fitE
  rw [h1, h2]
  rfl
theorem genF_bt (K : Nat) : Bt (genF K) := mulM_bt allF_bt K _
theorem sizedB_true {ss : List ByteArray} {n s : Nat} (h : sizedB ss n s = true) : ss.length = n ∧ ∀ x ∈ ss, x.size = s := by
  unfold sizedB at h
  rw [Bool.and_eq_true, List.all_eq_true] at h
  exact ⟨of_decide_eq_true h.1, fun x hx => of_decide_eq_true (h.2 x hx)⟩
set_option maxRecDepth 100000 in
set_option maxHeartbeats 1000000 in
theorem encode_shape (k m s : Int) (al : Option Addr) (ll cl : Nat) (w : World) (h : shpB k m s = false) :
    Calls Try.prog 19 #[.agg #[.int .i64 k, .int .i64 m, .int .i64 s], .slice al ll cl] w fun e w' => e = .returned (.tuple #[.slice none 0 0, .int .i64 1]) ∧ Kept w w' := by
  have he : shpE k m s = 1 := by unfold shpE; rw [h]; rfl
  have HE := Lib.hid he
  clear h he
  have HK0 := Lib.hid ((Kept.refl w).alloc (.cells #[.int .i64 k, .int .i64 m, .int .i64 s] 29))
  have hb := BlockAt.new w #[.int .i64 k, .int .i64 m, .int .i64 s] 29
  go_enter Try.func19, Try.ntmps19
  obtain ⟨c1, c2, c3⟩ := box3 hb
  clear hb
  go_wp2_with fail
  refine (code_check _ _ _ _).mono ?_
  rintro e w1 ⟨rfl, hk1⟩
  have HK := Lib.hid (HK0.out.trans hk1)
  rw [HE.out]
  clear hk1 c1 c2 c3
  go_wp2
  go_ret2
  exact ⟨rfl, HK.out⟩
set_option maxRecDepth 100000 in
set_option maxHeartbeats 1000000 in
theorem encode_unfit (K M s : Nat) (hK : 1 ≤ K ∧ K ≤ 8 ∧ M ≤ 6) (hs : 1 ≤ s ∧ s ≤ 120) (al : Option Addr) (ll cl : Nat) (ss : List ByteArray) (w : World) (hl : StrsIn w al ll ss) (h : sizedB ss K s = false) :
    Calls Try.prog 19 #[.agg #[.int .i64 K, .int .i64 M, .int .i64 s], .slice al ll cl] w fun e w' => e = .returned (.tuple #[.slice none 0 0, .int .i64 1]) ∧ Kept w w' := by
  have he : shpE K M s = 0 := by
    unfold shpE shpB
    rw [decide_eq_true (by omega)]
    rfl
  have HE := Lib.hid he
  have HSB := Lib.hid h
  clear h he
  have HK0 := Lib.hid ((Kept.refl w).alloc (.cells #[.int .i64 K, .int .i64 M, .int .i64 s] 29))
  have HB0 := Lib.hid (BlockAt.new w #[.int .i64 K, .int .i64 M, .int .i64 s] 29)
  have HL := Lib.hid hl
  clear hl
  go_enter Try.func19, Try.ntmps19
  obtain ⟨c1, c2, c3⟩ := box3 HB0.out
  go_wp2_with fail
  refine (code_check _ _ _ _).mono ?_
  rintro e w1 ⟨rfl, hk1⟩
  have HK := Lib.hid (HK0.out.trans hk1)
  rw [HE.out]
  obtain ⟨d1, d2, d3⟩ := box3 (HB0.out.kept hk1)
  clear hk1 c1 c2 c3
  go_wp2_with fail
  refine (sized_every K M s K al ll cl ss (by omega) _ (HL.out.kept HK.out)).mono ?_
  rintro e w2 ⟨rfl, hk2⟩
  have HK2 := Lib.hid (HK.out.trans hk2)
  rw [HSB.out]
  clear hk2 d1 d2 d3
  go_wp2
  go_ret2
  exact ⟨rfl, HK2.out⟩
set_option maxRecDepth 100000 in
set_option maxHeartbeats 1000000 in
theorem encode_any (K M H s : Nat) (hH : H = K + M) (hK : 1 ≤ K ∧ K ≤ 8 ∧ M ≤ 6) (hs : 1 ≤ s ∧ s ≤ 120) (al : Option Addr) (cl : Nat) (ss : List ByteArray) (w : World) (hl : StrsIn w al K ss) (hcl : K ≤ cl) (h : sizedB ss K s = true) :
    Calls Try.prog 19 #[.agg #[.int .i64 K, .int .i64 M, .int .i64 s], .slice al K cl] w fun e w' => ∃ a, e = .returned (.tuple #[.slice a H H, .int .i64 0]) ∧ w.heap.size ≤ (a.map (·.block)).getD w.heap.size ∧ Txt w' ((a.map (·.block)).getD 0) H (fun i => appTo (genF K i) ss K) ∧ a = some ⟨(a.map (·.block)).getD 0, 0, none⟩ ∧ Kept w w' := by
  have he : shpE K M s = 0 := by
    unfold shpE shpB
    rw [decide_eq_true (by omega)]
    rfl
  have hsz := (sizedB_true h).2
  have hf : fitE ss = 0 := fitE_same ss s (by omega) hsz
  have HF := Lib.hid hf
  have HE := Lib.hid he
  have HSB := Lib.hid h
  have HH := Lib.hid hH
  clear h he hsz hf hH
  have HK0 := Lib.hid ((Kept.refl w).alloc (.cells #[.int .i64 K, .int .i64 M, .int .i64 s] 29))
  have HB0 := Lib.hid (BlockAt.new w #[.int .i64 K, .int .i64 M, .int .i64 s] 29)
  have HL := Lib.hid hl
  clear hl
  go_enter Try.func19, Try.ntmps19
  obtain ⟨c1, c2, c3⟩ := box3 HB0.out
  go_wp2_with fail
  refine (code_check _ _ _ _).mono ?_
  rintro e w1 ⟨rfl, hk1⟩
  have HK := Lib.hid (HK0.out.trans hk1)
  rw [HE.out]
  have HB1 := Lib.hid (HB0.out.kept hk1)
  obtain ⟨d1, d2, d3⟩ := box3 HB1.out
  clear hk1 c1 c2 c3
  go_wp2_with fail
  refine (sized_every K M s K al K cl ss (by omega) _ (HL.out.kept HK.out)).mono ?_
  rintro e w2 ⟨rfl, hk2⟩
  have HK2 := Lib.hid (HK.out.trans hk2)
  rw [HSB.out]
  obtain ⟨e1, e2, e3⟩ := box3 (HB1.out.kept hk2)
  clear hk2 d1 d2 d3
  go_wp2_with fail
  refine (generator_any K M H s HH.out hK _).mono ?_
  rintro e w3 ⟨b, o, rfl, hb, hm, hk3⟩
  have HK3 := Lib.hid (HK2.out.trans hk3)
  have HM := Lib.hid hm
  clear hk3 hm e1 e2 e3
  go_wp2_with fail
  refine (apply_any H K b o (H * K) al cl ss (genF K) (by have := HH.out; omega) ⟨by omega, by omega⟩ (Nat.le_refl _) hcl (genF_bt K) _ HM.out.cell (HL.out.kept HK3.out) HF.out).mono ?_
  rintro e w4 ⟨a, rfl, ha, ht, ha2, hk4⟩
  have HK4 := Lib.hid (HK3.out.trans hk4)
  have HT := Lib.hid ht
  have HA := Lib.hid ha
  have HA2 := Lib.hid ha2
  clear hk4 ht ha ha2
  go_wp2
  go_ret2
  refine ⟨a, rfl, ?_, HT.out, HA2.out, HK4.out⟩
  have h3 := HA.out
  have h4 := HK3.out.size
  rw [HA2.out] at h3 ⊢
  show w.heap.size ≤ _
  exact Nat.le_trans h4 h3
end Go.Proofs.Ytoonpnpooljmlaa

namespace Go.Proofs.Ytoonpnpooljmlaa
open Go.RowKit

theorem gen_rows {K : Nat} (hK : K ≤ 255) {z : Nat → Nat} (hz : ∀ i, i < K → z i < 255) (hd : ∀ i j, i < K → j < K → z i = z j → i = j) : rankF K K (fun i k => genF K (z i) k) = K := by
  obtain ⟨T, hT⟩ : ∃ T, T = pickF allF (firstZ K) := ⟨_, rfl⟩
  obtain ⟨R, hR⟩ : ∃ R : Nat → Nat → Nat, R = fun i k => allF (z i) k := ⟨_, rfl⟩
  have bT : Bt T := by rw [hT]; exact fun i j => allF_bt _ _
  have bR : Bt R := by rw [hR]; exact fun i j => allF_bt _ _
  have rT : rankF K K T = K := by rw [hT]; exact top_rank2 K hK
  have rR : rankF K K R = K := by rw [hR]; exact rows_rank hz hd
  have e : (fun i k => genF K (z i) k) = mulM K R (invF K T) := by rw [hR, hT]; rfl
  have bIT := invF_bt bT K
  have bIR := invF_bt bR K
  rw [e]
  refine rank_of_inv (g := mulM K T (invF K R)) (mulM_bt bR K _) (mulM_bt bT K _) (fun i k hi hk => ?_)
  rw [mulM_assoc bR bIT (mulM_bt bT K _)]
  have h1 : ∀ j, j < K → mulM K (invF K T) (mulM K T (invF K R)) j k = invF K R j k := fun j hj => by
    rw [← mulM_assoc bIT bT bIR, mulM_congr (f' := oneF) (g' := invF K R) (fun l hl => inv_left bT rT hj hl) (fun l hl => rfl), mulM_one_left bIR hj]
  rw [mulM_congr (f' := R) (g' := invF K R) (fun l hl => rfl) h1]
  exact inv_right bR rR hi
theorem ints_own4 {w : World} {base l : Nat} {e : TypeId} {v : Value} {xs : List Int} (ho : w.ownsRow base e 1 v l (xs.map (Value.int .i64))) (hl : xs.length = l) (hw : ∀ x ∈ xs, 0 ≤ x ∧ x < 4294967296) :
    ∃ a cap, v = .slice a l cap ∧ IntsIn w .i64 a l xs := by
  have wf : ∀ x ∈ xs, (Lit.int .i64 x).wf = true := fun x hx => by
    have := hw x hx
    have h1 : IntKind.i64.min = -9223372036854775808 := by decide
    have h2 : IntKind.i64.max = 9223372036854775807 := by decide
    simp [Lit.wf, h1, h2]
    omega
  rcases ho.2 with ⟨rfl, rfl⟩ | ⟨g, cap, cur, rfl, hb, hg, hn, hm, _⟩
  · exact ⟨none, 0, rfl, hl, by omega, wf, 0, 0, fun h => absurd h (Nat.lt_irrefl 0), fun i hi => absurd hi (Nat.not_lt_zero i)⟩
  · refine ⟨_, cap, rfl, hl, by unfold maxLen at hm; omega, wf, g, 0, fun _ => rfl, fun i hi => ⟨(ho.lt g rfl).2, ?_⟩⟩
    rw [Nat.zero_add, ho.cellAt i (by omega)]
    have hi' : i < xs.length := by omega
    simp [List.getD, hi']
end Go.Proofs.Ytoonpnpooljmlaa

namespace Go.Proofs.Ytoonpnpooljmlaa.Pj
open Go.RowKit

/-- how many operations are left -/
def leftOf (listed : Array Bool) : Nat := listed.toList.count false
theorem left_set {listed : Array Bool} {i : Nat} (h : listed.getD i true = false) : leftOf (listed.setIfInBounds i true) + 1 = leftOf listed := by
  have hi : i < listed.size := by
    rcases Nat.lt_or_ge i listed.size with hi | hi
    · exact hi
    · rw [Array.getD_eq_getD_getElem?, Array.getElem?_eq_none hi] at h
      cases h
  have hv : listed.toList[i]'(by simpa using hi) = false := by
    rw [Array.getD_eq_getD_getElem?, Array.getElem?_eq_getElem hi] at h
    simpa using h
  have hpos : 0 < listed.toList.count false := List.count_pos_iff.2 (by rw [← hv]; exact List.getElem_mem _)
  unfold leftOf
  rw [Array.toList_setIfInBounds, List.count_set (by simpa using hi), hv, if_pos (by rfl), if_neg (by decide)]
  omega
theorem left_none {md : Region.Mode} {ops : Array Oper} {listed : Array Bool} (h : leftOf listed = 0) : Region.ready md ops listed = [] := by
  unfold Region.ready
  rw [List.filter_eq_nil_iff]
  intro i _ hb
  rw [Bool.and_eq_true] at hb
  have h1 : listed.getD i true = false := by simpa using hb.1
  have := left_set h1
  omega
theorem ready_open {md : Region.Mode} {ops : Array Oper} {listed : Array Bool} {i : Nat} (h : i ∈ Region.ready md ops listed) : listed.getD i true = false := by
  unfold Region.ready at h
  have := (List.mem_filter.1 h).2
  rw [Bool.and_eq_true] at this
  simpa using this.1
theorem wpAny_inv {P : Program} {md : Region.Mode} {ops : Array Oper} {Q : Exit → Act → World → Prop} (J : Array Bool → Act → World → Prop)
    (hstep : ∀ listed a w i, J listed a w → i ∈ Region.ready md ops listed → wpOp P ops Q i (J (listed.setIfInBounds i true)) a w)
    (hend : ∀ listed a w, J listed a w → Region.ready md ops listed = [] → Q .normal a w) : ∀ fuel listed a w, leftOf listed ≤ fuel → J listed a w → wpAny P md ops Q fuel listed a w
  | 0, listed, a, w, hl, hJ => by
    have hr : Region.ready md ops listed = [] := left_none (by omega)
    exact ⟨hr, hend listed a w hJ hr⟩
  | fuel + 1, listed, a, w, hl, hJ => by
    refine ⟨hend listed a w hJ, fun i hi => wpOp_mono (fun a' w' h => wpAny_inv J hstep hend fuel _ a' w' ?_ h) (hstep listed a w i hJ hi)⟩
    have := left_set (ready_open hi)
    omega
theorem getD_set (listed : Array Bool) (i j : Nat) : (listed.setIfInBounds i true).getD j true = if i = j then true else listed.getD j true := by
  simp only [Array.getD_eq_getD_getElem?, Array.getElem?_setIfInBounds]
  split
  · rename_i h
    split
    · rfl
    · rename_i h2
      rfl
  · rfl
theorem getD_rep (n j : Nat) (h : j < n) : (Array.replicate n false).getD j true = false := by
  simp [Array.getD_eq_getD_getElem?, h]

theorem getD_size (listed : Array Bool) (j : Nat) (h : j < listed.size) : listed.getD j false = listed.getD j true := by
  simp [Array.getD_eq_getD_getElem?, h]
/-- the edges that bind in whatever order go back -/
def backB (ops : Array Oper) : Bool := (List.range ops.size).all fun i => ((ops[i]?).map (fun o => o.after.all fun e => decide (e.on < i) || !Region.binds .any e)).getD true
theorem back_at {ops : Array Oper} (hb : backB ops = true) {i : Nat} {o : Oper} (ho : ops[i]? = some o) : o.after.all (fun e => decide (e.on < i) || !Region.binds .any e) = true := by
  have hi : i < ops.size := (Array.getElem?_eq_some_iff.1 ho).1
  have := List.all_eq_true.1 hb i (List.mem_range.2 hi)
  rw [ho] at this
  exact this
theorem all_listed {ops : Array Oper} (hb : backB ops = true) {listed : Array Bool} (hs : listed.size = ops.size) (hr : Region.ready .any ops listed = []) : ∀ n i, i < n → i < ops.size → listed.getD i true = true
  | n + 1, i, hin, hi => by
    have ih := all_listed hb hs hr n
    cases hl : listed.getD i true with
    | true => rfl
    | false =>
      exfalso
      have ho : ops[i]? = some ops[i] := Array.getElem?_eq_getElem hi
      have hall := back_at hb ho
      have hmem : i ∈ Region.ready .any ops listed := by
        unfold Region.ready
        refine List.mem_filter.2 ⟨List.mem_range.2 hi, ?_⟩
        rw [hl, ho]
        simp only [Bool.not_false, Bool.true_and, Option.map_some, Option.getD_some]
        rw [Array.all_eq_true] at hall ⊢
        intro k hk
        have h0 := hall k hk
        cases hbd : Region.binds .any (ops[i].after[k]) with
        | false => rfl
        | true =>
          rw [hbd] at h0
          have h1 : (ops[i].after[k]).on < i := by simpa using h0
          rw [getD_size listed _ (by omega), ih _ (by omega) (by omega), Bool.or_true]
      rw [hr] at hmem
      cases hmem
theorem wp_region_inv {P : Program} {id : Nat} {ops : Array Oper} {Q : Exit → Act → World → Prop} (J : (Nat → Prop) → Act → World → Prop) {a : Act} {w : World} (hm : P.follows .mixedOrders = true) (hb : backB ops = true)
    (h0 : ∀ L : Nat → Prop, (∀ j, j < ops.size → ¬ L j) → J L a w.drew)
    (hstep : ∀ (L L' : Nat → Prop) a w i o K, J L a w → ops[i]? = some o → ¬ L i → (∀ j, (o.after.any fun e => e.on == j && Region.binds .any e) = true → L j) → (∀ j, L' j ↔ (j = i ∨ L j)) → (∀ a' w', J L' a' w' → K a' w') →
      if Region.wanted o (yielded ops a.tmps) = true then Oper.wp P o a w K Q else K (a.put o.dst undef) w)
    (hend : ∀ (L : Nat → Prop) a w, J L a w → (∀ j, j < ops.size → L j) → Q .normal a w) : (Code.region id ops true).wp P Q a w := by
  refine wp_region_any hm (wpAny_inv (fun listed a w => listed.size = ops.size ∧ J (fun j => listed.getD j true = true) a w) ?_ ?_ ops.size _ a _ (by unfold leftOf; rw [Array.toList_replicate, List.count_replicate]; split <;> omega) ⟨Array.size_replicate, h0 _ (fun j hj => by simp [getD_rep _ _ hj])⟩)
  · rintro listed a w i ⟨hs, hJ⟩ hi
    have hopen := ready_open hi
    have hi2 := (List.mem_filter.1 hi).2
    have hil : i < ops.size := List.mem_range.1 (List.mem_filter.1 hi).1
    have ho : ops[i]? = some ops[i] := Array.getElem?_eq_getElem hil
    have hall := back_at hb ho
    refine wpOp_step ho fun K' hK => hstep _ (fun j => (listed.setIfInBounds i true).getD j true = true) a w i ops[i] K' hJ ho (by rw [hopen]; exact Bool.false_ne_true) (fun j hj => ?_) (fun j => ?_) (fun a' w' h' => hK a' w' ⟨by rw [Array.size_setIfInBounds]; exact hs, h'⟩)
    · rw [ho, hopen] at hi2
      simp only [Bool.not_false, Bool.true_and, Option.map_some, Option.getD_some] at hi2
      rw [Array.any_eq_true] at hj
      obtain ⟨k, hk, he⟩ := hj
      rw [Bool.and_eq_true] at he
      have h1 := (Array.all_eq_true.1 hi2) k hk
      have h0 := (Array.all_eq_true.1 hall) k hk
      rw [he.2] at h0
      have h2 : (ops[i].after[k]).on < i := by simpa using h0
      rw [he.2] at h1
      simp only [Bool.not_true, Bool.false_or] at h1
      have h3 : (ops[i].after[k]).on = j := by simpa using he.1
      rw [getD_size listed _ (by omega), h3] at h1
      exact h1
    · rw [getD_set]
      by_cases e : i = j
      · simp [e]
      · rw [if_neg e]
        exact ⟨.inr, fun h => h.resolve_left (fun h => e h.symm)⟩
  · rintro listed a w ⟨hs, hJ⟩ hr
    exact hend _ a w hJ (fun j hj => all_listed hb hs hr (j + 1) j (by omega) hj)
/-- the same, where the invariant names the frame that the region begins with -/
theorem wp_region_inv1 {P : Program} {id : Nat} {ops : Array Oper} {Q : Exit → Act → World → Prop} (J : Act → (Nat → Prop) → Act → World → Prop) {a : Act} {w : World} (hm : P.follows .mixedOrders = true) (hb : backB ops = true)
    (h0 : ∀ L : Nat → Prop, (∀ j, j < ops.size → ¬ L j) → J a L a w.drew)
    (hstep : ∀ (L L' : Nat → Prop) b w i o K, J a L b w → ops[i]? = some o → ¬ L i → (∀ j, (o.after.any fun e => e.on == j && Region.binds .any e) = true → L j) → (∀ j, L' j ↔ (j = i ∨ L j)) → (∀ a' w', J a L' a' w' → K a' w') →
      if Region.wanted o (yielded ops b.tmps) = true then Oper.wp P o b w K Q else K (b.put o.dst undef) w)
    (hend : ∀ (L : Nat → Prop) b w, J a L b w → (∀ j, j < ops.size → L j) → Q .normal b w) : (Code.region id ops true).wp P Q a w :=
  wp_region_inv (J a) hm hb h0 hstep hend


theorem wanted_free {o : Oper} (h : o.guard = none) (y : Nat → Option Bool) : Region.wanted o y = true := by unfold Region.wanted; rw [h]
/-- a value more -/
def vset (V : Nat → Value) (i : Nat) (x : Value) : Nat → Value := fun j => if j = i then x else V j
theorem vset_same (V : Nat → Value) (i : Nat) (x : Value) : vset V i x i = x := by simp [vset]
theorem vset_other (V : Nat → Value) {i j : Nat} (x : Value) (h : j ≠ i) : vset V i x j = V j := by simp [vset, h]
/-- what stays while memory is made -/
def Stays (p : World → Value → Prop) : Prop := ∀ w w' v, p w v → Kept w w' → p w' v
/-- just this value -/
def Is (x : Value) : World → Value → Prop := fun _ v => v = x
theorem Is.stays (x : Value) : Stays (Is x) := fun _ _ _ h _ => h
/-- what is told of each operation's value -/
def of (l : List (World → Value → Prop)) (j : Nat) : World → Value → Prop := l.getD j (fun _ _ => True)
def AllStay : List (World → Value → Prop) → Prop
  | [] => True
  | p :: l => Stays p ∧ AllStay l
theorem AllStay.at : ∀ {l : List (World → Value → Prop)}, AllStay l → ∀ j, Stays (of l j)
  | [], _, j => fun _ _ _ _ _ => by simp [of]
  | p :: l, h, 0 => h.1
  | p :: l, h, j + 1 => fun w w' v hv hk => by
    have := AllStay.at h.2 j w w' v (by simpa [of] using hv) hk
    simpa [of] using this
structure J (W : World) (l : List (World → Value → Prop)) (L : Nat → Prop) (V : Nat → Value) (w : World) : Prop where
  kp : Kept W w
  h : ∀ j, L j → of l j w (V j)
theorem J.none {W w : World} {l : List (World → Value → Prop)} {L : Nat → Prop} {V : Nat → Value} {n : Nat} (hn : l.length ≤ n) (hL : ∀ j, j < n → ¬ L j) (k : Kept W w) : J W l L V w :=
  ⟨k, fun j hj => by
    by_cases h : j < n
    · exact absurd hj (hL j h)
    · have : of l j = fun _ _ => True := by
        unfold of
        rw [List.getD_eq_getElem?_getD, List.getElem?_eq_none (by omega)]
        rfl
      rw [this]
      trivial⟩
theorem J.more {W : World} {l : List (World → Value → Prop)} {L L' : Nat → Prop} {V : Nat → Value} {w w' : World} {i : Nat} (h : J W l L V w) (hP : AllStay l) (hL : ∀ j, L' j ↔ (j = i ∨ L j)) (hk : Kept w w') {x : Value} (hx : of l i w' x) : J W l L' (vset V i x) w' :=
  ⟨h.kp.trans hk, fun j hj => by
    by_cases e : j = i
    · subst e; rw [vset_same]; exact hx
    · rw [vset_other _ _ e]; exact hP.at j w w' _ (h.h j (((hL j).1 hj).resolve_left e)) hk⟩
/-- the slots that are done hold their values -/
def puts (sl : List (Nat × Nat)) (V : Nat → Value) (a : Act) : Act := sl.foldl (fun a p => a.put (some p.1) (V p.2)) a
theorem put_self (a : Act) (s : Nat) : a.put (some s) (a.tmps.getD s undef) = a := by
  obtain ⟨t, d⟩ := a
  unfold Act.put
  simp only
  congr 1
  apply Array.ext_getElem?
  intro i
  rw [Array.getElem?_setIfInBounds]
  by_cases h : s = i
  · subst h
    by_cases h2 : s < t.size
    · simp [h2]
    · simp [h2]
  · simp [h]
theorem puts_self (a : Act) (f : Nat → Nat) : ∀ js : List Nat, a = puts (js.map fun j => (f j, j)) (fun j => a.tmps.getD (f j) undef) a
  | [] => rfl
  | j :: js => by
    have h := puts_self a f js
    have e : puts ((j :: js).map fun j => (f j, j)) (fun j => a.tmps.getD (f j) undef) a = puts (js.map fun j => (f j, j)) (fun j => a.tmps.getD (f j) undef) (a.put (some (f j)) (a.tmps.getD (f j) undef)) := rfl
    rw [e, put_self]
    exact h
theorem wanted_at {o : Oper} {g : Nat} {b : Bool} (h : o.guard = some (g, b)) {y : Nat → Option Bool} (hy : y g = some b) : Region.wanted o y = true := by
  unfold Region.wanted
  rw [h]
  simp [hy]
theorem wanted_not {o : Oper} {g : Nat} {b : Bool} (h : o.guard = some (g, b)) {y : Nat → Option Bool} (hy : y g = some (!b)) : ¬ Region.wanted o y = true := by
  unfold Region.wanted
  rw [h]
  simp [hy]
/-- a step of an operation that may be guarded: A if it is wanted, else B -/
def Step (o : Oper) (y : Nat → Option Bool) (A B : Prop) : Prop := (Region.wanted o y = true → A) ∧ (¬ Region.wanted o y = true → B)
theorem Step.free {o : Oper} {y : Nat → Option Bool} {A B : Prop} (h : o.guard = none) (a : A) : Step o y A B := ⟨fun _ => a, fun k => absurd (wanted_free h y) k⟩
theorem Step.at {o : Oper} {y : Nat → Option Bool} {A B : Prop} {g : Nat} {b : Bool} (h : o.guard = some (g, b)) (hy : y g = some b) (a : A) : Step o y A B := ⟨fun _ => a, fun k => absurd (wanted_at h hy) k⟩
theorem Step.not {o : Oper} {y : Nat → Option Bool} {A B : Prop} {g : Nat} {b : Bool} (h : o.guard = some (g, b)) (hy : y g = some (!b)) (a : B) : Step o y A B := ⟨fun k => absurd k (wanted_not h hy), fun _ => a⟩
theorem wp_region_step {P : Program} {id : Nat} {ops : Array Oper} {Q : Exit → Act → World → Prop} (J : Act → (Nat → Prop) → Act → World → Prop) {a : Act} {w : World} (hm : P.follows .mixedOrders = true) (hb : backB ops = true)
    (h0 : ∀ L : Nat → Prop, (∀ j, j < ops.size → ¬ L j) → J a L a w.drew)
    (hstep : ∀ (L L' : Nat → Prop) b w i o K, J a L b w → ops[i]? = some o → ¬ L i → (∀ j, (o.after.any fun e => e.on == j && Region.binds .any e) = true → L j) → (∀ j, L' j ↔ (j = i ∨ L j)) → (∀ a' w', J a L' a' w' → K a' w') →
      Step o (yielded ops b.tmps) (Oper.wp P o b w K Q) (K (b.put o.dst undef) w))
    (hend : ∀ (L : Nat → Prop) b w, J a L b w → (∀ j, j < ops.size → L j) → Q .normal b w) : (Code.region id ops true).wp P Q a w :=
  wp_region_inv1 J hm hb h0 (fun L L' b w i o K h1 h2 h3 h4 h5 h6 => by
    have h := hstep L L' b w i o K h1 h2 h3 h4 h5 h6
    by_cases hw : Region.wanted o (yielded ops b.tmps) = true
    · rw [if_pos hw]; exact h.1 hw
    · rw [if_neg hw]; exact h.2 hw) hend
end Go.Proofs.Ytoonpnpooljmlaa.Pj

namespace Go.Proofs.Ytoonpnpooljmlaa.Pj
open Go.RowKit
/-- what stays while no world shrinks -/
def Flat (p : World → Value → Prop) : Prop := ∀ w w' v, p w v → w.heap.size ≤ w'.heap.size → p w' v
theorem Is.flat (x : Value) : Flat (Is x) := fun _ _ _ h _ => h
def AllFlat : List (World → Value → Prop) → Prop
  | [] => True
  | p :: l => Flat p ∧ AllFlat l
theorem AllFlat.at : ∀ {l : List (World → Value → Prop)}, AllFlat l → ∀ j, Flat (of l j)
  | [], _, j => fun _ _ _ _ _ => by simp [of]
  | p :: l, h, 0 => h.1
  | p :: l, h, j + 1 => fun w w' v hv hk => by
    have := AllFlat.at h.2 j w w' v (by simpa [of] using hv) hk
    simpa [of] using this
/-- a block's pointer, from a world on -/
def Ptr (W : World) : World → Value → Prop := fun w v => ∃ b, v = .pointer (some ⟨b, 0, none⟩) ∧ W.heap.size ≤ b ∧ b < w.heap.size
theorem Ptr.flat (W : World) : Flat (Ptr W) := fun _ _ _ ⟨b, e, h1, h2⟩ k => ⟨b, e, h1, Nat.lt_of_lt_of_le h2 k⟩
structure JS (W : World) (l : List (World → Value → Prop)) (ia is : Nat) (Z X : Array Value) (t : TypeId) (L : Nat → Prop) (V : Nat → Value) (w : World) : Prop where
  kp : Kept W w
  h : ∀ j, L j → of l j w (V j)
  ord : L is → L ia
  z : L ia → ¬ L is → ∃ b, V ia = .pointer (some ⟨b, 0, none⟩) ∧ W.heap.size ≤ b ∧ BlockAt w b Z t
  x : L is → ∃ b, V ia = .pointer (some ⟨b, 0, none⟩) ∧ W.heap.size ≤ b ∧ BlockAt w b X t
section
variable {W w w' : World} {l : List (World → Value → Prop)} {ia is : Nat} {Z X : Array Value} {t : TypeId} {L L' : Nat → Prop} {V : Nat → Value}
theorem JS.start {n : Nat} (hn : l.length ≤ n) (hia : ia < n) (his : is < n) (hL : ∀ j, j < n → ¬ L j) (k : Kept W w) : JS W l ia is Z X t L V w :=
  ⟨k, fun j hj => by
    by_cases h : j < n
    · exact absurd hj (hL j h)
    · have : of l j = fun _ _ => True := by
        unfold of
        rw [List.getD_eq_getElem?_getD, List.getElem?_eq_none (by omega)]
        rfl
      rw [this]
      trivial, fun h => absurd h (hL is his), fun h => absurd h (hL ia hia), fun h => absurd h (hL is his)⟩
theorem JS.more {i : Nat} (h : JS W l ia is Z X t L V w) (hP : AllFlat l) (hia : i ≠ ia) (his : i ≠ is) (hL : ∀ j, L' j ↔ (j = i ∨ L j)) (hk : Kept w w') {x : Value} (hx : of l i w' x) : JS W l ia is Z X t L' (vset V i x) w' := by
  have e1 : L' ia ↔ L ia := ⟨fun q => ((hL ia).1 q).resolve_left (fun e => hia e.symm), fun q => (hL ia).2 (.inr q)⟩
  have e2 : L' is ↔ L is := ⟨fun q => ((hL is).1 q).resolve_left (fun e => his e.symm), fun q => (hL is).2 (.inr q)⟩
  have ev : vset V i x ia = V ia := vset_other _ _ (fun e => hia e.symm)
  refine ⟨h.kp.trans hk, fun j hj => ?_, fun q => e1.2 (h.ord (e2.1 q)), fun q r => ?_, fun q => ?_⟩
  · by_cases e : j = i
    · subst e; rw [vset_same]; exact hx
    · rw [vset_other _ _ e]; exact hP.at j w w' _ (h.h j (((hL j).1 hj).resolve_left e)) hk.size
  · obtain ⟨b, e, h1, h2⟩ := h.z (e1.1 q) (fun s => r (e2.2 s))
    exact ⟨b, ev.trans e, h1, h2.kept hk⟩
  · obtain ⟨b, e, h1, h2⟩ := h.x (e2.1 q)
    exact ⟨b, ev.trans e, h1, h2.kept hk⟩
theorem JS.made (h : JS W l ia is Z X t L V w) (hP : AllFlat l) (hne : ia ≠ is) (ho : ¬ L ia) (hL : ∀ j, L' j ↔ (j = ia ∨ L j)) (hx : of l ia = Ptr W) : JS W l ia is Z X t L' (vset V ia (.pointer (some ⟨w.heap.size, 0, none⟩))) (w.alloc (.cells Z t)) := by
  have hk : Kept w (w.alloc (.cells Z t)) := (Kept.refl w).alloc _
  have hns : ¬ L is := fun q => ho (h.ord q)
  have hns' : ¬ L' is := fun q => hns (((hL is).1 q).resolve_left (fun e => hne e.symm))
  refine ⟨h.kp.trans hk, fun j hj => ?_, fun q => absurd q hns', fun _ _ => ⟨_, vset_same _ _ _, h.kp.size, BlockAt.new w Z t⟩, fun q => absurd q hns'⟩
  by_cases e : j = ia
  · subst e; rw [vset_same, hx]; exact ⟨_, rfl, h.kp.size, by simp⟩
  · rw [vset_other _ _ e]; exact hP.at j w _ _ (h.h j (((hL j).1 hj).resolve_left e)) hk.size
theorem JS.stored {b : Nat} (h : JS W l ia is Z X t L V w) (hP : AllFlat l) (hne : ia ≠ is) (hl : L ia) (hL : ∀ j, L' j ↔ (j = is ∨ L j)) (hb : V ia = .pointer (some ⟨b, 0, none⟩)) (hw : W.heap.size ≤ b) (hz : BlockAt w b Z t) (hs : of l is = fun _ _ => True) : JS W l ia is Z X t L' (vset V is undef) (w.setRow b X) := by
  have ev : vset V is undef ia = V ia := vset_other _ _ hne
  refine ⟨h.kp.setRow hw X, fun j hj => ?_, fun _ => (hL ia).2 (.inr hl), fun _ r => absurd ((hL is).2 (.inl rfl)) r, fun _ => ⟨b, ev.trans hb, hw, hz.setRow X⟩⟩
  by_cases e : j = is
  · subst e; rw [hs]; trivial
  · rw [vset_other _ _ e]; exact hP.at j w _ _ (h.h j (((hL j).1 hj).resolve_left e)) (by simp [World.setRow])
end
theorem oper_store_block {P : Program} {op : Oper} {a : Act} {w : World} {K : Act → World → Prop} {Q : Exit → Act → World → Prop} (ty : TypeId) (x y : Operand) (ho : op.op = .store ty x y)
    (g : Nat) (cells old : Array Value) (t : TypeId) (hx : a.eval x = .pointer (some ⟨g, 0, none⟩)) (hy : a.eval y = .agg cells) (hg : BlockAt w g old t) (hi : (P.info? ty).map (·.size) = some cells.size) (hsz : old.size = cells.size) (h1 : cells.all (·.oneCell') = true)
    (h : K (a.put op.dst undef) (w.setRow g cells)) : Oper.wp P op a w K Q := by
  unfold Oper.wp execOp
  simp only [ho, hx, hy, Instr.storeAt, Instr.sureAddr, Sem.run_bind, Sem.run_pure, Result.andThen_ok, run_storeVar_row w g t ty old cells hg hi hsz h1]
  exact h
theorem oper_alloc_block {P : Program} {op : Oper} {a : Act} {w : World} {K : Act → World → Prop} {Q : Exit → Act → World → Prop} (ty : TypeId) (ho : op.op = .alloc ty)
    (z : Array Value) (hz : (P.info? ty).map (·.zero) = some (some (.agg z)))
    (h : K (a.put op.dst (.pointer (some ⟨w.heap.size, 0, none⟩))) (w.alloc (.cells z ty))) : Oper.wp P op a w K Q := by
  unfold Oper.wp execOp
  have hr : (Instr.alloc ty true (.tuple #[])).run P w = .ok (.pointer (some ⟨w.heap.size, 0, none⟩)) (w.alloc (.cells z ty)) := by
    simp [Instr.alloc, zero_run hz, Result.andThen, Value.cells, go_sem]
  simp only [ho, hr, Sem.run_bind, Sem.run_pure, Result.andThen_ok]
  exact h
end Go.Proofs.Ytoonpnpooljmlaa.Pj

namespace Go.Proofs.Ytoonpnpooljmlaa.Pj
open Go.RowKit

/-- one row's append: the row ahead of it, the row behind it, the one cell that is appended -/
structure Hlf (base : Nat) (t : TypeId) (va : Value) (na : Nat) (xs : List Value) (ua : Value) (ba aa : Nat) (L : Nat → Prop) (V : Nat → Value) (w : World) : Prop where
  a0 : ¬ L aa → w.ownsRow base t 1 va na xs
  a1 : L aa → w.ownsRow base t 1 (V aa) (na + 1) (xs ++ [ua])
  c : L ba → ¬ L aa → ∃ g, V ba = .slice (some ⟨g, 0, none⟩) 1 1 ∧ BlockAt w g #[ua] t
section
variable {base : Nat} {t : TypeId} {va : Value} {na : Nat} {xs : List Value} {ua : Value} {ba aa : Nat} {L L' : Nat → Prop} {V : Nat → Value} {w w' : World}
theorem Hlf.start (h : w.ownsRow base t 1 va na xs) (ha : ¬ L aa) (hb : ¬ L ba) : Hlf base t va na xs ua ba aa L V w := ⟨fun _ => h, fun q => absurd q ha, fun q => absurd q hb⟩
theorem Hlf.same {i : Nat} (h : Hlf base t va na xs ua ba aa L V w) (h1 : i ≠ ba) (h2 : i ≠ aa) (hL : ∀ j, L' j ↔ (j = i ∨ L j)) (hk : Kept w w') {x : Value} : Hlf base t va na xs ua ba aa L' (vset V i x) w' := by
  have e1 : L' ba ↔ L ba := ⟨fun q => ((hL ba).1 q).resolve_left (fun e => h1 e.symm), fun q => (hL ba).2 (.inr q)⟩
  have e2 : L' aa ↔ L aa := ⟨fun q => ((hL aa).1 q).resolve_left (fun e => h2 e.symm), fun q => (hL aa).2 (.inr q)⟩
  refine ⟨fun q => own_kept (h.a0 (fun r => q (e2.2 r))) hk, fun q => ?_, fun q r => ?_⟩
  · rw [vset_other _ _ (fun e => h2 e.symm)]; exact own_kept (h.a1 (e2.1 q)) hk
  · obtain ⟨g, e, hb⟩ := h.c (e1.1 q) (fun s => r (e2.2 s))
    exact ⟨g, (vset_other _ _ (fun e => h1 e.symm)).trans e, hb.kept hk⟩
theorem Hlf.made (h : Hlf base t va na xs ua ba aa L V w) (hne : ba ≠ aa) (hL : ∀ j, L' j ↔ (j = ba ∨ L j)) : Hlf base t va na xs ua ba aa L' (vset V ba (.slice (some ⟨w.heap.size, 0, none⟩) 1 1)) (w.alloc (.cells #[ua] t)) := by
  have e2 : L' aa ↔ L aa := ⟨fun q => ((hL aa).1 q).resolve_left (fun e => hne e.symm), fun q => (hL aa).2 (.inr q)⟩
  have hk : Kept w (w.alloc (.cells #[ua] t)) := (Kept.refl w).alloc _
  refine ⟨fun q => own_kept (h.a0 (fun r => q (e2.2 r))) hk, fun q => ?_, fun _ _ => ⟨_, vset_same _ _ _, BlockAt.new _ _ _⟩⟩
  rw [vset_other _ _ (fun e => hne e.symm)]; exact own_kept (h.a1 (e2.1 q)) hk
theorem Hlf.app {v' : Value} (h : w'.ownsRow base t 1 v' (na + 1) (xs ++ [ua])) (hL : ∀ j, L' j ↔ (j = aa ∨ L j)) : Hlf base t va na xs ua ba aa L' (vset V aa v') w' :=
  ⟨fun q => absurd ((hL aa).2 (.inl rfl)) q, fun _ => by rw [vset_same]; exact h, fun _ q => absurd ((hL aa).2 (.inl rfl)) q⟩
theorem own_row {A B : World} {n : Nat} {v : Value} {ys : List Value} {row : Option Nat} (h : A.ownsRow base t 1 v n ys) (g : A.grownBy B row) (hr : ∀ q C, BlockAt A q C t → some q ≠ row) : B.ownsRow base t 1 v n ys := by
  obtain ⟨h1, h2 | ⟨q, cap, cur, hv, hb, hg, h3⟩⟩ := h
  · exact ⟨h1, .inl h2⟩
  · exact ⟨h1, .inr ⟨q, cap, cur, hv, hb, block_grown (show BlockAt A q cur t from hg) g (hr q cur hg), h3⟩⟩
theorem Hlf.other {i : Nat} {row : Option Nat} (h : Hlf base t va na xs ua ba aa L V w) (h1 : i ≠ ba) (h2 : i ≠ aa) (hL : ∀ j, L' j ↔ (j = i ∨ L j)) (hg : w.grownBy w' row) (hr : ∀ q C, BlockAt w q C t → some q ≠ row) {x : Value} : Hlf base t va na xs ua ba aa L' (vset V i x) w' := by
  have e1 : L' ba ↔ L ba := ⟨fun q => ((hL ba).1 q).resolve_left (fun e => h1 e.symm), fun q => (hL ba).2 (.inr q)⟩
  have e2 : L' aa ↔ L aa := ⟨fun q => ((hL aa).1 q).resolve_left (fun e => h2 e.symm), fun q => (hL aa).2 (.inr q)⟩
  refine ⟨fun q => own_row (h.a0 (fun r => q (e2.2 r))) hg hr, fun q => ?_, fun q r => ?_⟩
  · rw [vset_other _ _ (fun e => h2 e.symm)]; exact own_row (h.a1 (e2.1 q)) hg hr
  · obtain ⟨g, e, hb⟩ := h.c (e1.1 q) (fun s => r (e2.2 s))
    exact ⟨g, (vset_other _ _ (fun e => h1 e.symm)).trans e, block_grown hb hg (hr g _ hb)⟩
/-- a struct's block of which one cell is stored anew: by what operation src yields, at operation so -/
structure Fld (pb : Nat) (T : TypeId) (C : Array Value) (c src so : Nat) (L : Nat → Prop) (V : Nat → Value) (w : World) : Prop where
  ord : L so → L src
  b0 : ¬ L so → BlockAt w pb C T
  b1 : L so → BlockAt w pb (C.setIfInBounds c (V src)) T
section
variable {pb : Nat} {T : TypeId} {C : Array Value} {c src so : Nat}
theorem Fld.start (h : BlockAt w pb C T) (hs : ¬ L so) : Fld pb T C c src so L V w := ⟨fun q => absurd q hs, fun _ => h, fun q => absurd q hs⟩
theorem Fld.keep {i : Nat} (h : Fld pb T C c src so L V w) (h1 : i ≠ so) (ho : ¬ L i) (hL : ∀ j, L' j ↔ (j = i ∨ L j)) (hw : ∀ D, BlockAt w pb D T → BlockAt w' pb D T) {x : Value} : Fld pb T C c src so L' (vset V i x) w' := by
  have e1 : L' so ↔ L so := ⟨fun q => ((hL so).1 q).resolve_left (fun e => h1 e.symm), fun q => (hL so).2 (.inr q)⟩
  refine ⟨fun q => (hL src).2 (.inr (h.ord (e1.1 q))), fun q => hw _ (h.b0 (fun r => q (e1.2 r))), fun q => ?_⟩
  have hs := h.ord (e1.1 q)
  have hne : src ≠ i := fun e => ho (by rw [← e]; exact hs)
  rw [vset_other _ _ hne]
  exact hw _ (h.b1 (e1.1 q))
theorem Fld.same {i : Nat} (h : Fld pb T C c src so L V w) (h1 : i ≠ so) (ho : ¬ L i) (hL : ∀ j, L' j ↔ (j = i ∨ L j)) (hk : Kept w w') {x : Value} : Fld pb T C c src so L' (vset V i x) w' := h.keep h1 ho hL (fun _ hb => hb.kept hk)
theorem Fld.other {i : Nat} {row : Option Nat} (h : Fld pb T C c src so L V w) (h1 : i ≠ so) (ho : ¬ L i) (hL : ∀ j, L' j ↔ (j = i ∨ L j)) (hg : w.grownBy w' row) (hr : ∀ q C, BlockAt w q C T → some q ≠ row) {x : Value} : Fld pb T C c src so L' (vset V i x) w' :=
  h.keep h1 ho hL (fun D hb => block_grown hb hg (hr pb D hb))
theorem Fld.stored (h : Fld pb T C c src so L V w) (ho : ¬ L so) (hs : L src) (hL : ∀ j, L' j ↔ (j = so ∨ L j)) {x y : Value} (hy : V src = y) : Fld pb T C c src so L' (vset V so x) (w.setCell ⟨pb, c, none⟩ y) := by
  subst hy
  refine ⟨fun _ => (hL src).2 (.inr hs), fun q => absurd ((hL so).2 (.inl rfl)) q, fun _ => ?_⟩
  have hne : src ≠ so := fun e => ho (by rw [← e]; exact hs)
  rw [vset_other _ _ hne]
  exact (h.b0 ho).set _
end
theorem block_types {s t : TypeId} {b : Nat} {C : Array Value} (h : BlockAt w b C s) (hne : t ≠ s) : ∀ q D, BlockAt w q D t → some q ≠ some b := by
  intro q D hq e
  cases e
  have h2 := Eq.trans (Eq.symm hq) h
  cases h2
  exact hne rfl
theorem J.flat {W : World} {l : List (World → Value → Prop)} {i : Nat} (h : J W l L V w) (hP : AllFlat l) (hL : ∀ j, L' j ↔ (j = i ∨ L j)) (hk : Kept W w') (hs : w.heap.size ≤ w'.heap.size) {x : Value} (hx : of l i w' x) : J W l L' (vset V i x) w' :=
  ⟨hk, fun j hj => by
    by_cases e : j = i
    · subst e; rw [vset_same]; exact hx
    · rw [vset_other _ _ e]; exact hP.at j w w' _ (h.h j (((hL j).1 hj).resolve_left e)) hs⟩
end
/-- rows of unlike kinds do not meet -/
theorem row_types {w : World} {base n : Nat} {s t : TypeId} {v : Value} {ys : List Value} (h : w.ownsRow base s 1 v n ys) (hne : t ≠ s) : ∀ q C, BlockAt w q C t → some q ≠ v.ownBlock := by
  intro q C hq e
  obtain ⟨_, h2 | ⟨g, cap, cur, hv, hb, hg, _⟩⟩ := h
  · rw [h2.1] at e
    cases e
  · rw [hv] at e
    cases e
    have h2 := Eq.trans (Eq.symm hq) hg
    cases h2
    exact hne rfl
/-- one cell more, appended to a row of one's own -/
theorem oper_app {P : Program} {o : Oper} {a : Act} {w : World} {K : Act → World → Prop} {Q : Exit → Act → World → Prop} (s x : Operand) (t : TypeId)
    (ho : o.op = .call { callee := .builtin .append, args := #[s, x], argTypes := #[t, t] })
    (base : Nat) (e : TypeId) (i : TypeInfo) (z : Value) (bytes : Nat) (ht : P.underlying t = some (.slice e)) (hi : P.info? e = some i) (hz : i.zero = some z)
    (hsize : i.size = 1) (hby : i.bytes = bytes) (hzs : z.cells.size = 1)
    (v : Value) (n : Nat) (xs : List Value) (hs : a.eval s = v) (hown : w.ownsRow base e 1 v n xs)
    (g : Nat) (u : Value) (hx : a.eval x = .slice (some ⟨g, 0, none⟩) 1 1) (hg : BlockAt w g #[u] e) (h1 : u.oneCell' = true)
    (hn : n + 1 ≤ 1000000) (hb : bytes ≤ 1000) (hbase : base ≤ w.heap.size)
    (h : ∀ v' w', w'.ownsRow base e 1 v' (n + 1) (xs ++ [u]) → w.grownBy w' v.ownBlock → K (a.put o.dst v') w') : Oper.wp P o a w K Q := by
  obtain ⟨v', w', hr, h2, h3, h4, h5⟩ := run_append_own_at (P := P) w base t o.type e i z 1 bytes ht hi hz hsize hby hzs (by omega) v n xs hown ⟨g, 0, none⟩ 1 1 [u] rfl (fun j y hj => by
    match j, hj with
    | 0, hj => simp at hj; subst hj; simpa [Addr.add] using hg.cell 0) (fun y hy => by simp at hy; subst hy; exact h1) (by unfold maxLen; omega) (Nat.le_trans (Nat.mul_le_mul hn hb) (by decide)) hbase
  unfold Oper.wp execOp
  simp only [ho, resolve, invoke, builtin, Sem.run_bind, Sem.run_pure, Result.andThen_ok, List.map_toArray, List.map_cons, List.map_nil, hs, hx, hr]
  exact h v' w' h2 h3
/-- an append that has no room makes memory of its own -/
theorem oper_grow {P : Program} {o : Oper} {a : Act} {w : World} {K : Act → World → Prop} {Q : Exit → Act → World → Prop} (s x : Operand) (t : TypeId)
    (ho : o.op = .call { callee := .builtin .append, args := #[s, x], argTypes := #[t, t] })
    (e : TypeId) (i : TypeInfo) (z : Value) (bytes : Nat) (ht : P.underlying t = some (.slice e)) (hi : P.info? e = some i) (hz : i.zero = some z)
    (hsize : i.size = 1) (hby : i.bytes = bytes) (hzs : z.cells.size = 1)
    (b : Addr) (n cap : Nat) (olds : List Value) (hs : a.eval s = .slice (some b) n cap) (hlo : olds.length = n) (holds : ∀ j u, olds[j]? = some u → w.cell? (b.add j) = some u)
    (ad : Addr) (m c : Nat) (news : List Value) (hx : a.eval x = .slice (some ad) m c) (hl : news.length = m) (hnews : ∀ j u, news[j]? = some u → w.cell? (ad.add j) = some u)
    (hg : cap < n + m) (hn : n + m ≤ 1000000) (hb : bytes ≤ 1000)
    (h : ∀ v' w', w'.ownsRow w.heap.size e 1 v' (n + m) (olds ++ news) → Kept w w' → K (a.put o.dst v') w') : Oper.wp P o a w K Q := by
  obtain ⟨v', w', hr, h2, h3⟩ := run_append_arg_grows (P := P) (w := w) t o.type e i z 1 bytes ht hi hz hsize hby hzs (by omega) b n cap olds (by omega) holds ad m c news (by omega) hnews hg (by unfold maxLen; omega) (Nat.le_trans (Nat.mul_le_mul hn hb) (by decide))
  unfold Oper.wp execOp
  simp only [ho, resolve, invoke, builtin, Sem.run_bind, Sem.run_pure, Result.andThen_ok, List.map_toArray, List.map_cons, List.map_nil, hs, hx, hr]
  exact h v' w' h2 ⟨h3.os, h3.tape, h3.output, h3.size, fun k hk => h3.block k hk (fun e => by cases e)⟩
end Go.Proofs.Ytoonpnpooljmlaa.Pj

namespace Go.Proofs.Ytoonpnpooljmlaa
open Go.RowKit Go.Shelf
attribute [local go_sem] Oper.semAt_some

/-- the first K of those that are there, of the first n -/
def lst (T : Nat → Bool) (K : Nat) : Nat → List Nat
  | 0 => []
  | n + 1 => if T n = true ∧ (lst T K n).length < K then lst T K n ++ [n] else lst T K n
theorem lst_add {T : Nat → Bool} {K n : Nat} (h : T n = true) (hl : (lst T K n).length < K) : lst T K (n + 1) = lst T K n ++ [n] := if_pos ⟨h, hl⟩
theorem lst_no {T : Nat → Bool} {K n : Nat} (h : T n = false) : lst T K (n + 1) = lst T K n := if_neg (fun q => by rw [h] at q; exact Bool.false_ne_true q.1)
theorem lst_full {T : Nat → Bool} {K n : Nat} (h : ¬ (lst T K n).length < K) : lst T K (n + 1) = lst T K n := if_neg (fun q => h q.2)
theorem lst_lt {T : Nat → Bool} {K : Nat} : ∀ {n x : Nat}, x ∈ lst T K n → x < n
  | 0, x, h => by cases h
  | n + 1, x, h => by
    have ih := @lst_lt T K n x
    simp only [lst] at h
    split at h
    · rcases List.mem_append.1 h with h | h
      · have := ih h; omega
      · simp at h; omega
    · have := ih h; omega
theorem lst_len {T : Nat → Bool} {K : Nat} : ∀ n : Nat, (lst T K n).length ≤ K ∧ (lst T K n).length ≤ n
  | 0 => by simp [lst]
  | n + 1 => by
    have ih := lst_len (T := T) (K := K) n
    simp only [lst]
    split
    · rename_i h
      simp only [List.length_append, List.length_cons, List.length_nil]
      omega
    · omega
theorem lst_nodup {T : Nat → Bool} {K : Nat} : ∀ n : Nat, (lst T K n).Nodup
  | 0 => by simp [lst]
  | n + 1 => by
    have ih := lst_nodup (T := T) (K := K) n
    simp only [lst]
    split
    · rw [List.nodup_append]
      refine ⟨ih, by simp, fun a ha b hb e => ?_⟩
      simp at hb
      have := lst_lt ha
      omega
    · exact ih
/-- their numbers, their texts -/
def lstZ (T : Nat → Bool) (K n : Nat) : List Int := (lst T K n).map fun i => ((i : Nat) : Int)
def lstS (T : Nat → Bool) (K n : Nat) (ss : List ByteArray) : List ByteArray := (lst T K n).map fun i => ss.getD i ByteArray.empty
theorem lstZ_add {T : Nat → Bool} {K n : Nat} (h : T n = true) (hl : (lst T K n).length < K) : (lstZ T K (n + 1)).map (Value.int .i64) = (lstZ T K n).map (Value.int .i64) ++ [.int .i64 (n : Int)] := by
  unfold lstZ; rw [lst_add h hl]; simp
theorem lstS_add {T : Nat → Bool} {K n : Nat} (ss : List ByteArray) (h : T n = true) (hl : (lst T K n).length < K) : (lstS T K (n + 1) ss).map Value.string = (lstS T K n ss).map Value.string ++ [.string (ss.getD n ByteArray.empty)] := by
  unfold lstS; rw [lst_add h hl]; simp
theorem lstZ_at {T : Nat → Bool} {K n i : Nat} (hi : i < (lst T K n).length) : ((lstZ T K n).getD i 0).toNat = (lst T K n).getD i 0 := by
  simp [lstZ, List.getD, hi]
/-- what is reckoned of them -/
def backF (T : Nat → Bool) (K H : Nat) : Nat → Nat → Nat := invF K (pickF (genF K) (lstZ T K H))
def allB (T : Nat → Bool) (K H : Nat) : Nat → Nat → Nat := mulM K (genF K) (backF T K H)
theorem lst_rank {T : Nat → Bool} {K H : Nat} (hK : K ≤ 255) (hH : H ≤ 255) (hl : (lst T K H).length = K) : rankF K K (pickF (genF K) (lstZ T K H)) = K := by
  have h := gen_rows (K := K) hK (z := fun i => ((lstZ T K H).getD i 0).toNat) (fun i hi => by
    show ((lstZ T K H).getD i 0).toNat < 255
    rw [lstZ_at (by omega), List.getD_eq_getElem?_getD, List.getElem?_eq_getElem (by omega)]
    exact Nat.lt_of_lt_of_le (lst_lt (List.getElem_mem _)) hH) (fun i j hi hj e => by
    have e' : ((lstZ T K H).getD i 0).toNat = ((lstZ T K H).getD j 0).toNat := e
    rw [lstZ_at (by omega), lstZ_at (by omega)] at e'
    have hi' : i < (lst T K H).length := by omega
    have hj' : j < (lst T K H).length := by omega
    simp only [List.getD_eq_getElem?_getD, List.getElem?_eq_getElem hi', List.getElem?_eq_getElem hj', Option.getD_some] at e'
    have hpw := List.pairwise_iff_getElem.1 (lst_nodup (T := T) (K := K) H)
    rcases Nat.lt_trichotomy i j with h | h | h
    · exact absurd e' (hpw i j hi' hj' h)
    · exact h
    · exact absurd e'.symm (hpw j i hj' hi' h))
  exact h
theorem lst_there {T : Nat → Bool} {K : Nat} : ∀ {n x : Nat}, x ∈ lst T K n → T x = true
  | 0, x, h => by cases h
  | n + 1, x, h => by
    have ih := @lst_there T K n x
    simp only [lst] at h
    split at h
    · rename_i hc
      rcases List.mem_append.1 h with h | h
      · exact ih h
      · simp at h; rw [h]; exact hc.1
    · exact ih h
theorem sizedT_len {ss : List ByteArray} {n s : Nat} {T : Nat → Bool} (h : sizedT ss n s T = true) : ss.length = n := by
  unfold sizedT at h
  rw [Bool.and_eq_true] at h
  exact of_decide_eq_true h.1
theorem sizedT_size {ss : List ByteArray} {n s : Nat} {T : Nat → Bool} (h : sizedT ss n s T = true) {q : Nat} (hq : q < n) (ht : T q = true) : (ss.getD q ByteArray.empty).size = s := by
  unfold sizedT at h
  rw [Bool.and_eq_true, List.all_eq_true] at h
  have := h.2 q (List.mem_range.2 hq)
  rw [ht] at this
  simpa using this
set_option maxRecDepth 100000 in
set_option maxHeartbeats 4000000 in
theorem rebuild_any (K M H s : Nat) (hH : H = K + M) (hK : 1 ≤ K ∧ K ≤ 8 ∧ M ≤ 6) (hs : 1 ≤ s ∧ s ≤ 120) (al ab : Option Addr) (ll cl cb : Nat) (ss : List ByteArray) (T : Nat → Bool) (w : World) (hl : StrsIn w al ll ss) (hb : BoolsIn w ab H T) (h : sizedT ss H s T = true) :
    Calls Try.prog 25 #[.agg #[.int .i64 K, .int .i64 M, .int .i64 s], .slice al ll cl, .slice ab H cb] w fun e w' =>
      ((lst T K H).length < K → e = .returned (.tuple #[.slice none 0 0, .int .i64 8])) ∧
      (¬ (lst T K H).length < K → ∃ a, e = .returned (.tuple #[.slice a H H, .int .i64 0]) ∧ Txt w' ((a.map (·.block)).getD 0) H (fun i => appTo (allB T K H i) (lstS T K H ss) K) ∧ a = some ⟨(a.map (·.block)).getD 0, 0, none⟩) ∧ Kept w w' := by
  have he : shpE K M s = 0 := by
    unfold shpE shpB
    rw [decide_eq_true (by omega)]
    rfl
  obtain ⟨iB, hi, hz0, hz1, hz2⟩ := info_parts Try.infoStr
  have HIB := Lib.hid (And.intro hi (And.intro hz0 (And.intro hz1 hz2)))
  obtain ⟨iA, hi2, hz3, hz4, hz5⟩ := info_parts Try.infoIc
  have HIA := Lib.hid (And.intro hi2 (And.intro hz3 (And.intro hz4 hz5)))
  clear hi hz0 hz1 hz2 hi2 hz3 hz4 hz5
  have HE := Lib.hid he
  have eH : (K : Int) + (M : Int) = (H : Int) := by omega
  have hH14 : H ≤ 14 := by omega
  have HH := Lib.hid hH
  have HST := Lib.hid h
  have HL := Lib.hid hl
  have HBO := Lib.hid hb
  have HLN := Lib.hid (sizedT_len h)
  obtain rfl : ll = H := by rw [← hl.len_eq, HLN.out]
  clear he hH h hl hb
  have HK0 := Lib.hid (((Kept.refl w).alloc (.cells #[.int .i64 K, .int .i64 M, .int .i64 s] 29)).alloc (.cells #[.slice ab ll cb] 24))
  have HB0 := Lib.hid ((BlockAt.new w #[.int .i64 K, .int .i64 M, .int .i64 s] 29).kept ((Kept.refl _).alloc (.cells #[.slice ab ll cb] 24)))
  have HP0 := Lib.hid (BlockAt.new1 w #[.slice ab ll cb] 24 (.cells #[.int .i64 K, .int .i64 M, .int .i64 s] 29))
  go_enter Try.func25, Try.ntmps25
  obtain ⟨c1, c2, c3⟩ := box3 HB0.out
  go_wp2_with fail
  refine (code_check _ _ _ _).mono ?_
  rintro e w1 ⟨rfl, hk1⟩
  have HK := Lib.hid (HK0.out.trans hk1)
  rw [HE.out]
  have HB1 := Lib.hid (HB0.out.kept hk1)
  obtain ⟨d1, d2, d3⟩ := box3 HB1.out
  have HP1 := Lib.hid (HP0.out.kept hk1)
  have d4 := box1 HP1.out
  clear hk1 c1 c2 c3
  go_wp2_with fail
  refine (sized_there K M s ll al ll cl ss (by omega) _ ab cb T _ (HL.out.kept HK.out) (HBO.out.kept HK.out) HP1.out).mono ?_
  rintro e w2 ⟨rfl, hk2⟩
  have HK2 := Lib.hid (HK.out.trans hk2)
  rw [HST.out]
  have HB2 := Lib.hid (HB1.out.kept hk2)
  have HP2 := Lib.hid (HP1.out.kept hk2)
  have d4 := box1 HP2.out
  clear hk2 d1 d2 d3
  have HOA0 := Lib.hid ((World.ownsRow_lit (size := 1) (base := w2.heap.size) (e := 3) w2 #[] 0 (Nat.le_refl _) (by decide) rfl).alloc (.cells #[] 9))
  have HOB0 := Lib.hid (show ((w2.alloc (.cells #[] 3)).alloc (.cells #[] 9)).ownsRow w2.heap.size 9 1 (.slice (some ⟨w2.heap.size + 1, 0, none⟩) 0 0) 0 [] by
    have h := World.ownsRow_lit (size := 1) (base := w2.heap.size) (e := 9) (w2.alloc (.cells #[] 3)) #[] 0 (by simp) (by decide) rfl
    simpa using h)
  have HKW0 := Lib.hid (((Kept.refl w2).alloc (.cells #[] 3)).alloc (.cells #[] 9))
  go_upto_region 6 with (fail)
  generalize (w2.alloc (.cells #[] 3)).alloc (.cells #[] 9) = w5 at *
  have d4 := box1 (HP2.out.kept HKW0.out)
  go_wp2_with fail
  go_loopw [8, 9, 46] (fun va vb i wr => ∃ k n : Nat, Hid (n = (lst T K k).length) ∧ k ≤ ll ∧ i = .int .i64 k ∧ wr.ownsRow w2.heap.size 3 1 va n ((lstZ T K k).map (Value.int .i64)) ∧ wr.ownsRow w2.heap.size 9 1 vb n ((lstS T K k ss).map Value.string) ∧ Kept w2 wr) (fun _ _ i _ => ll - (intOf i).toNat)
  case atStart => exact ⟨0, 0, Lib.hid rfl, by omega, rfl, HOA0.out, HOB0.out, HKW0.out⟩
  case round =>
    obtain ⟨k, n, HN, hk, rfl, hoa, hob, hkr⟩ := hrel
    have HOA := Lib.hid hoa
    have HOB := Lib.hid hob
    have HKR := Lib.hid hkr
    have hlk := lst_len (T := T) (K := K) k
    rw [← HN.out] at hlk
    obtain ⟨xa, ca, rfl⟩ := slice_of_own1 hoa
    obtain ⟨xb, cb', rfl⟩ := slice_of_own1 hob
    clear hoa hob hkr
    by_cases hlt : k < ll
    · obtain ⟨bb, ob, hab, hbc⟩ := HBO.out.cells
      obtain rfl := hab (by omega)
      have hbk := (HK2.out.trans HKR.out).cell (hbc k hlt).1 (hbc k hlt).2
      obtain ⟨f1, f2, f3⟩ := box3 (HB2.out.kept HKR.out)
      obtain ⟨bl, ol, hal, hlc⟩ := HL.out.cells
      obtain rfl := hal (by omega)
      have HLC := Lib.hid (hlc k hlt)
      clear hbc hlc hab hal
      by_cases hT : T k = true
      · have HT := Lib.hid hT
        rw [hT] at hbk
        clear hT
        by_cases hln : n < K
        · have HZA := Lib.hid (lstZ_add HT.out (HN.out ▸ hln))
          have HSA := Lib.hid (lstS_add ss HT.out (HN.out ▸ hln))
          have HLA := Lib.hid (show n + 1 = (lst T K (k + 1)).length by rw [lst_add HT.out (HN.out ▸ hln), List.length_append, ← HN.out]; rfl)
          generalize ss.getD k ByteArray.empty = t at *
          go_wp2_with fail
          refine Pj.wp_region_step (fun a0 L a w => ∃ V : Nat → Value, a = Pj.puts [(59, 0), (60, 1), (61, 2), (62, 3), (63, 4), (64, 5), (65, 6), (66, 7), (67, 8), (68, 9), (69, 10), (8, 11), (9, 12)] V a0 ∧ Pj.J w2 [Pj.Is (.slice xa n ca), Pj.Is (.int .i64 k), (fun _ _ => True), (fun _ _ => True), Pj.Is (.slice xb n cb'), Pj.Is (.slice (some ⟨bl, ol, none⟩) ll cl), Pj.Is (.int .i64 k), Pj.Is (.pointer (some ⟨bl, ol + k, none⟩)), Pj.Is (.string t), (fun _ _ => True), (fun _ _ => True), (fun _ _ => True), (fun _ _ => True)] L V w ∧ Pj.Hlf w2.heap.size 3 (.slice xa n ca) n ((lstZ T K k).map (Value.int .i64)) (.int .i64 (k : Int)) 2 3 L V w ∧ Pj.Hlf w2.heap.size 9 (.slice xb n cb') n ((lstS T K k ss).map Value.string) (.string t) 9 10 L V w ∧ (L 11 → L 3 ∧ V 11 = V 3) ∧ (L 12 → L 10 ∧ V 12 = V 10) ∧ (¬ L 11 → V 11 = .slice xa n ca) ∧ (L 11 → L 0) ∧ (¬ L 12 → V 12 = .slice xb n cb') ∧ (L 12 → L 4)) (by as_aux_lemma => kernel_rfl) (by as_aux_lemma => kernel_rfl) ?eh0 ?ehs ?ehe
          case eh0 =>
            intro L hL
            exact ⟨_, Pj.puts_self _ (fun j => ([59, 60, 61, 62, 63, 64, 65, 66, 67, 68, 69, 8, 9] : List Nat).getD j 0) [0, 1, 2, 3, 4, 5, 6, 7, 8, 9, 10, 11, 12], Pj.J.none (n := 13) (Nat.le_refl _) hL (HKR.out.drew), Pj.Hlf.start (own_kept HOA.out (Kept.refl _).drew) (hL 3 (by decide)) (hL 2 (by decide)), Pj.Hlf.start (own_kept HOB.out (Kept.refl _).drew) (hL 10 (by decide)) (hL 9 (by decide)), fun h => absurd h (hL 11 (by decide)), fun h => absurd h (hL 12 (by decide)), fun _ => rfl, fun h => absurd h (hL 11 (by decide)), fun _ => rfl, fun h => absurd h (hL 12 (by decide))⟩
          case ehs =>
            rintro L L' az w iz opz Kq ⟨V, rfl, hJ, hHA, hHB, hc11, hc12, hi11, hl11_0, hi12, hl12_4⟩ ho hopen hdep hL hKq
            have hP : Pj.AllFlat [Pj.Is (.slice xa n ca), Pj.Is (.int .i64 k), (fun _ _ => True), (fun _ _ => True), Pj.Is (.slice xb n cb'), Pj.Is (.slice (some ⟨bl, ol, none⟩) ll cl), Pj.Is (.int .i64 k), Pj.Is (.pointer (some ⟨bl, ol + k, none⟩)), Pj.Is (.string t), (fun _ _ => True), (fun _ _ => True), (fun _ _ => True), (fun _ _ => True)] := ⟨Pj.Is.flat _, Pj.Is.flat _, (fun _ _ _ _ _ => trivial), (fun _ _ _ _ _ => trivial), Pj.Is.flat _, Pj.Is.flat _, Pj.Is.flat _, Pj.Is.flat _, Pj.Is.flat _, (fun _ _ _ _ _ => trivial), (fun _ _ _ _ _ => trivial), (fun _ _ _ _ _ => trivial), (fun _ _ _ _ _ => trivial), trivial⟩
            have HP := Lib.hid hP
            clear hP
            match iz, ho with
            | 0, ho =>
              simp only [List.getElem?_toArray, List.getElem?_cons_zero, Option.some.injEq] at ho
              have ei11 : V 11 = .slice xa n ca := hi11 (fun h => hopen (hl11_0 h))
              have HJ := Lib.hid hJ
              clear hJ
              have HHA := Lib.hid hHA
              clear hHA
              have HHB := Lib.hid hHB
              clear hHB
              subst ho
              refine Pj.Step.free rfl ?_
              simp only [Pj.puts, List.foldl_cons, List.foldl_nil, Act.put, List.setIfInBounds_toArray, List.set_cons_zero, List.set_cons_succ, ei11]
              go_simp
              exact hKq _ _ ⟨Pj.vset V 0 (.slice xa n ca), by simp only [Pj.puts, List.foldl_cons, List.foldl_nil, Act.put, List.setIfInBounds_toArray, List.set_cons_zero, List.set_cons_succ, Pj.vset, Nat.reduceEqDiff, if_true, if_false, ei11], HJ.out.flat HP.out hL (HJ.out.kp.trans (Kept.refl _)) (Kept.size (Kept.refl _)) (rfl), HHA.out.same (by decide) (by decide) hL (Kept.refl _), HHB.out.same (by decide) (by decide) hL (Kept.refl _), fun h => ⟨(hL 3).2 (.inr (hc11 (((hL 11).1 h).resolve_left (by decide))).1), by rw [Pj.vset_other _ _ (by decide), Pj.vset_other _ _ (by decide)]; exact (hc11 (((hL 11).1 h).resolve_left (by decide))).2⟩, fun h => ⟨(hL 10).2 (.inr (hc12 (((hL 12).1 h).resolve_left (by decide))).1), by rw [Pj.vset_other _ _ (by decide), Pj.vset_other _ _ (by decide)]; exact (hc12 (((hL 12).1 h).resolve_left (by decide))).2⟩, fun h => by rw [Pj.vset_other _ _ (by decide)]; exact hi11 (fun q => h ((hL 11).2 (.inr q))), fun h => (hL 0).2 (((hL 11).1 h).elim (fun e => absurd e (by decide)) (fun q => .inr (hl11_0 q))), fun h => by rw [Pj.vset_other _ _ (by decide)]; exact hi12 (fun q => h ((hL 12).2 (.inr q))), fun h => (hL 4).2 (((hL 12).1 h).elim (fun e => absurd e (by decide)) (fun q => .inr (hl12_4 q)))⟩
            | 1, ho =>
              simp only [List.getElem?_toArray, List.getElem?_cons_zero, List.getElem?_cons_succ, Option.some.injEq] at ho
              have HJ := Lib.hid hJ
              clear hJ
              have HHA := Lib.hid hHA
              clear hHA
              have HHB := Lib.hid hHB
              clear hHB
              subst ho
              refine Pj.Step.free rfl ?_
              simp only [Pj.puts, List.foldl_cons, List.foldl_nil, Act.put, List.setIfInBounds_toArray, List.set_cons_zero, List.set_cons_succ]
              go_simp
              exact hKq _ _ ⟨Pj.vset V 1 (.int .i64 k), by simp only [Pj.puts, List.foldl_cons, List.foldl_nil, Act.put, List.setIfInBounds_toArray, List.set_cons_zero, List.set_cons_succ, Pj.vset, Nat.reduceEqDiff, if_true, if_false], HJ.out.flat HP.out hL (HJ.out.kp.trans (Kept.refl _)) (Kept.size (Kept.refl _)) (rfl), HHA.out.same (by decide) (by decide) hL (Kept.refl _), HHB.out.same (by decide) (by decide) hL (Kept.refl _), fun h => ⟨(hL 3).2 (.inr (hc11 (((hL 11).1 h).resolve_left (by decide))).1), by rw [Pj.vset_other _ _ (by decide), Pj.vset_other _ _ (by decide)]; exact (hc11 (((hL 11).1 h).resolve_left (by decide))).2⟩, fun h => ⟨(hL 10).2 (.inr (hc12 (((hL 12).1 h).resolve_left (by decide))).1), by rw [Pj.vset_other _ _ (by decide), Pj.vset_other _ _ (by decide)]; exact (hc12 (((hL 12).1 h).resolve_left (by decide))).2⟩, fun h => by rw [Pj.vset_other _ _ (by decide)]; exact hi11 (fun q => h ((hL 11).2 (.inr q))), fun h => (hL 0).2 (((hL 11).1 h).elim (fun e => absurd e (by decide)) (fun q => .inr (hl11_0 q))), fun h => by rw [Pj.vset_other _ _ (by decide)]; exact hi12 (fun q => h ((hL 12).2 (.inr q))), fun h => (hL 4).2 (((hL 12).1 h).elim (fun e => absurd e (by decide)) (fun q => .inr (hl12_4 q)))⟩
            | 2, ho =>
              simp only [List.getElem?_toArray, List.getElem?_cons_zero, List.getElem?_cons_succ, Option.some.injEq] at ho
              have e1 : V 1 = .int .i64 k := hJ.h 1 (hdep 1 (by rw [← ho]; kernel_rfl))
              have HJ := Lib.hid hJ
              clear hJ
              have HHA := Lib.hid hHA
              clear hHA
              have HHB := Lib.hid hHB
              clear hHB
              subst ho
              refine Pj.Step.free rfl ?_
              simp only [Pj.puts, List.foldl_cons, List.foldl_nil, Act.put, List.setIfInBounds_toArray, List.set_cons_zero, List.set_cons_succ, e1]
              go_simp
              exact hKq _ _ ⟨Pj.vset V 2 (.slice (some ⟨w.heap.size, 0, none⟩) 1 1), by simp only [Pj.puts, List.foldl_cons, List.foldl_nil, Act.put, List.setIfInBounds_toArray, List.set_cons_zero, List.set_cons_succ, Pj.vset, Nat.reduceEqDiff, if_true, if_false, e1], HJ.out.flat HP.out hL (HJ.out.kp.trans ((Kept.refl _).alloc _)) (Kept.size ((Kept.refl _).alloc _)) (trivial), HHA.out.made (by decide) hL, HHB.out.same (by decide) (by decide) hL ((Kept.refl _).alloc _), fun h => ⟨(hL 3).2 (.inr (hc11 (((hL 11).1 h).resolve_left (by decide))).1), by rw [Pj.vset_other _ _ (by decide), Pj.vset_other _ _ (by decide)]; exact (hc11 (((hL 11).1 h).resolve_left (by decide))).2⟩, fun h => ⟨(hL 10).2 (.inr (hc12 (((hL 12).1 h).resolve_left (by decide))).1), by rw [Pj.vset_other _ _ (by decide), Pj.vset_other _ _ (by decide)]; exact (hc12 (((hL 12).1 h).resolve_left (by decide))).2⟩, fun h => by rw [Pj.vset_other _ _ (by decide)]; exact hi11 (fun q => h ((hL 11).2 (.inr q))), fun h => (hL 0).2 (((hL 11).1 h).elim (fun e => absurd e (by decide)) (fun q => .inr (hl11_0 q))), fun h => by rw [Pj.vset_other _ _ (by decide)]; exact hi12 (fun q => h ((hL 12).2 (.inr q))), fun h => (hL 4).2 (((hL 12).1 h).elim (fun e => absurd e (by decide)) (fun q => .inr (hl12_4 q)))⟩
            | 3, ho =>
              simp only [List.getElem?_toArray, List.getElem?_cons_zero, List.getElem?_cons_succ, Option.some.injEq] at ho
              have e0 : V 0 = .slice xa n ca := hJ.h 0 (hdep 0 (by rw [← ho]; kernel_rfl))
              have l2 := hdep 2 (by rw [← ho]; kernel_rfl)
              obtain ⟨g, e2, hgb⟩ := hHA.c l2 hopen
              have hown := hHA.a0 hopen
              have HJ := Lib.hid hJ
              clear hJ
              have HHA := Lib.hid hHA
              clear hHA
              have HHB := Lib.hid hHB
              clear hHB
              subst ho
              refine Pj.Step.free rfl ?_
              simp only [Pj.puts, List.foldl_cons, List.foldl_nil, Act.put, List.setIfInBounds_toArray, List.set_cons_zero, List.set_cons_succ, e0, e2]
              refine Pj.oper_app _ _ 58 rfl w2.heap.size 3 iA (.int .i64 0) 8 Try.underlying58 HIA.out.1 HIA.out.2.1 HIA.out.2.2.1 HIA.out.2.2.2 rfl (.slice xa n ca) n ((lstZ T K k).map (Value.int .i64)) rfl hown g (.int .i64 (k : Int)) rfl hgb rfl (by omega) (by decide) (HJ.out.kp.size) ?_
              intro v' w' hown' hgrow
              simp only [Act.put, List.setIfInBounds_toArray, List.set_cons_zero, List.set_cons_succ]
              exact hKq _ _ ⟨Pj.vset V 3 (v'), by simp only [Pj.puts, List.foldl_cons, List.foldl_nil, Act.put, List.setIfInBounds_toArray, List.set_cons_zero, List.set_cons_succ, Pj.vset, Nat.reduceEqDiff, if_true, if_false, e0, e2], HJ.out.flat HP.out hL (kept_gr1 HJ.out.kp hgrow (fun q e => (hown.lt q e).1) (Nat.le_refl _)) (hgrow.size) (trivial), Pj.Hlf.app hown' hL, HHB.out.other (by decide) (by decide) hL hgrow (Pj.row_types hown (by decide)), fun h => absurd (hc11 (((hL 11).1 h).resolve_left (by decide))).1 hopen, fun h => ⟨(hL 10).2 (.inr (hc12 (((hL 12).1 h).resolve_left (by decide))).1), by rw [Pj.vset_other _ _ (by decide), Pj.vset_other _ _ (by decide)]; exact (hc12 (((hL 12).1 h).resolve_left (by decide))).2⟩, fun h => by rw [Pj.vset_other _ _ (by decide)]; exact hi11 (fun q => h ((hL 11).2 (.inr q))), fun h => (hL 0).2 (((hL 11).1 h).elim (fun e => absurd e (by decide)) (fun q => .inr (hl11_0 q))), fun h => by rw [Pj.vset_other _ _ (by decide)]; exact hi12 (fun q => h ((hL 12).2 (.inr q))), fun h => (hL 4).2 (((hL 12).1 h).elim (fun e => absurd e (by decide)) (fun q => .inr (hl12_4 q)))⟩
            | 4, ho =>
              simp only [List.getElem?_toArray, List.getElem?_cons_zero, List.getElem?_cons_succ, Option.some.injEq] at ho
              have ei12 : V 12 = .slice xb n cb' := hi12 (fun h => hopen (hl12_4 h))
              have HJ := Lib.hid hJ
              clear hJ
              have HHA := Lib.hid hHA
              clear hHA
              have HHB := Lib.hid hHB
              clear hHB
              subst ho
              refine Pj.Step.free rfl ?_
              simp only [Pj.puts, List.foldl_cons, List.foldl_nil, Act.put, List.setIfInBounds_toArray, List.set_cons_zero, List.set_cons_succ, ei12]
              go_simp
              exact hKq _ _ ⟨Pj.vset V 4 (.slice xb n cb'), by simp only [Pj.puts, List.foldl_cons, List.foldl_nil, Act.put, List.setIfInBounds_toArray, List.set_cons_zero, List.set_cons_succ, Pj.vset, Nat.reduceEqDiff, if_true, if_false, ei12], HJ.out.flat HP.out hL (HJ.out.kp.trans (Kept.refl _)) (Kept.size (Kept.refl _)) (rfl), HHA.out.same (by decide) (by decide) hL (Kept.refl _), HHB.out.same (by decide) (by decide) hL (Kept.refl _), fun h => ⟨(hL 3).2 (.inr (hc11 (((hL 11).1 h).resolve_left (by decide))).1), by rw [Pj.vset_other _ _ (by decide), Pj.vset_other _ _ (by decide)]; exact (hc11 (((hL 11).1 h).resolve_left (by decide))).2⟩, fun h => ⟨(hL 10).2 (.inr (hc12 (((hL 12).1 h).resolve_left (by decide))).1), by rw [Pj.vset_other _ _ (by decide), Pj.vset_other _ _ (by decide)]; exact (hc12 (((hL 12).1 h).resolve_left (by decide))).2⟩, fun h => by rw [Pj.vset_other _ _ (by decide)]; exact hi11 (fun q => h ((hL 11).2 (.inr q))), fun h => (hL 0).2 (((hL 11).1 h).elim (fun e => absurd e (by decide)) (fun q => .inr (hl11_0 q))), fun h => by rw [Pj.vset_other _ _ (by decide)]; exact hi12 (fun q => h ((hL 12).2 (.inr q))), fun h => (hL 4).2 (((hL 12).1 h).elim (fun e => absurd e (by decide)) (fun q => .inr (hl12_4 q)))⟩
            | 5, ho =>
              simp only [List.getElem?_toArray, List.getElem?_cons_zero, List.getElem?_cons_succ, Option.some.injEq] at ho
              have HJ := Lib.hid hJ
              clear hJ
              have HHA := Lib.hid hHA
              clear hHA
              have HHB := Lib.hid hHB
              clear hHB
              subst ho
              refine Pj.Step.free rfl ?_
              simp only [Pj.puts, List.foldl_cons, List.foldl_nil, Act.put, List.setIfInBounds_toArray, List.set_cons_zero, List.set_cons_succ]
              go_simp
              exact hKq _ _ ⟨Pj.vset V 5 (.slice (some ⟨bl, ol, none⟩) ll cl), by simp only [Pj.puts, List.foldl_cons, List.foldl_nil, Act.put, List.setIfInBounds_toArray, List.set_cons_zero, List.set_cons_succ, Pj.vset, Nat.reduceEqDiff, if_true, if_false], HJ.out.flat HP.out hL (HJ.out.kp.trans (Kept.refl _)) (Kept.size (Kept.refl _)) (rfl), HHA.out.same (by decide) (by decide) hL (Kept.refl _), HHB.out.same (by decide) (by decide) hL (Kept.refl _), fun h => ⟨(hL 3).2 (.inr (hc11 (((hL 11).1 h).resolve_left (by decide))).1), by rw [Pj.vset_other _ _ (by decide), Pj.vset_other _ _ (by decide)]; exact (hc11 (((hL 11).1 h).resolve_left (by decide))).2⟩, fun h => ⟨(hL 10).2 (.inr (hc12 (((hL 12).1 h).resolve_left (by decide))).1), by rw [Pj.vset_other _ _ (by decide), Pj.vset_other _ _ (by decide)]; exact (hc12 (((hL 12).1 h).resolve_left (by decide))).2⟩, fun h => by rw [Pj.vset_other _ _ (by decide)]; exact hi11 (fun q => h ((hL 11).2 (.inr q))), fun h => (hL 0).2 (((hL 11).1 h).elim (fun e => absurd e (by decide)) (fun q => .inr (hl11_0 q))), fun h => by rw [Pj.vset_other _ _ (by decide)]; exact hi12 (fun q => h ((hL 12).2 (.inr q))), fun h => (hL 4).2 (((hL 12).1 h).elim (fun e => absurd e (by decide)) (fun q => .inr (hl12_4 q)))⟩
            | 6, ho =>
              simp only [List.getElem?_toArray, List.getElem?_cons_zero, List.getElem?_cons_succ, Option.some.injEq] at ho
              have HJ := Lib.hid hJ
              clear hJ
              have HHA := Lib.hid hHA
              clear hHA
              have HHB := Lib.hid hHB
              clear hHB
              subst ho
              refine Pj.Step.free rfl ?_
              simp only [Pj.puts, List.foldl_cons, List.foldl_nil, Act.put, List.setIfInBounds_toArray, List.set_cons_zero, List.set_cons_succ]
              go_simp
              exact hKq _ _ ⟨Pj.vset V 6 (.int .i64 k), by simp only [Pj.puts, List.foldl_cons, List.foldl_nil, Act.put, List.setIfInBounds_toArray, List.set_cons_zero, List.set_cons_succ, Pj.vset, Nat.reduceEqDiff, if_true, if_false], HJ.out.flat HP.out hL (HJ.out.kp.trans (Kept.refl _)) (Kept.size (Kept.refl _)) (rfl), HHA.out.same (by decide) (by decide) hL (Kept.refl _), HHB.out.same (by decide) (by decide) hL (Kept.refl _), fun h => ⟨(hL 3).2 (.inr (hc11 (((hL 11).1 h).resolve_left (by decide))).1), by rw [Pj.vset_other _ _ (by decide), Pj.vset_other _ _ (by decide)]; exact (hc11 (((hL 11).1 h).resolve_left (by decide))).2⟩, fun h => ⟨(hL 10).2 (.inr (hc12 (((hL 12).1 h).resolve_left (by decide))).1), by rw [Pj.vset_other _ _ (by decide), Pj.vset_other _ _ (by decide)]; exact (hc12 (((hL 12).1 h).resolve_left (by decide))).2⟩, fun h => by rw [Pj.vset_other _ _ (by decide)]; exact hi11 (fun q => h ((hL 11).2 (.inr q))), fun h => (hL 0).2 (((hL 11).1 h).elim (fun e => absurd e (by decide)) (fun q => .inr (hl11_0 q))), fun h => by rw [Pj.vset_other _ _ (by decide)]; exact hi12 (fun q => h ((hL 12).2 (.inr q))), fun h => (hL 4).2 (((hL 12).1 h).elim (fun e => absurd e (by decide)) (fun q => .inr (hl12_4 q)))⟩
            | 7, ho =>
              simp only [List.getElem?_toArray, List.getElem?_cons_zero, List.getElem?_cons_succ, Option.some.injEq] at ho
              have e5 : V 5 = .slice (some ⟨bl, ol, none⟩) ll cl := hJ.h 5 (hdep 5 (by rw [← ho]; kernel_rfl))
              have e6 : V 6 = .int .i64 k := hJ.h 6 (hdep 6 (by rw [← ho]; kernel_rfl))
              have HJ := Lib.hid hJ
              clear hJ
              have HHA := Lib.hid hHA
              clear hHA
              have HHB := Lib.hid hHB
              clear hHB
              subst ho
              refine Pj.Step.free rfl ?_
              simp only [Pj.puts, List.foldl_cons, List.foldl_nil, Act.put, List.setIfInBounds_toArray, List.set_cons_zero, List.set_cons_succ, e5, e6]
              go_simp
              exact hKq _ _ ⟨Pj.vset V 7 (.pointer (some ⟨bl, ol + k, none⟩)), by simp only [Pj.puts, List.foldl_cons, List.foldl_nil, Act.put, List.setIfInBounds_toArray, List.set_cons_zero, List.set_cons_succ, Pj.vset, Nat.reduceEqDiff, if_true, if_false, e5, e6], HJ.out.flat HP.out hL (HJ.out.kp.trans (Kept.refl _)) (Kept.size (Kept.refl _)) (rfl), HHA.out.same (by decide) (by decide) hL (Kept.refl _), HHB.out.same (by decide) (by decide) hL (Kept.refl _), fun h => ⟨(hL 3).2 (.inr (hc11 (((hL 11).1 h).resolve_left (by decide))).1), by rw [Pj.vset_other _ _ (by decide), Pj.vset_other _ _ (by decide)]; exact (hc11 (((hL 11).1 h).resolve_left (by decide))).2⟩, fun h => ⟨(hL 10).2 (.inr (hc12 (((hL 12).1 h).resolve_left (by decide))).1), by rw [Pj.vset_other _ _ (by decide), Pj.vset_other _ _ (by decide)]; exact (hc12 (((hL 12).1 h).resolve_left (by decide))).2⟩, fun h => by rw [Pj.vset_other _ _ (by decide)]; exact hi11 (fun q => h ((hL 11).2 (.inr q))), fun h => (hL 0).2 (((hL 11).1 h).elim (fun e => absurd e (by decide)) (fun q => .inr (hl11_0 q))), fun h => by rw [Pj.vset_other _ _ (by decide)]; exact hi12 (fun q => h ((hL 12).2 (.inr q))), fun h => (hL 4).2 (((hL 12).1 h).elim (fun e => absurd e (by decide)) (fun q => .inr (hl12_4 q)))⟩
            | 8, ho =>
              simp only [List.getElem?_toArray, List.getElem?_cons_zero, List.getElem?_cons_succ, Option.some.injEq] at ho
              have e7 : V 7 = .pointer (some ⟨bl, ol + k, none⟩) := hJ.h 7 (hdep 7 (by rw [← ho]; kernel_rfl))
              have hcell := (HK2.out.trans hJ.kp).cell HLC.out.1 HLC.out.2
              have HJ := Lib.hid hJ
              clear hJ
              have HHA := Lib.hid hHA
              clear hHA
              have HHB := Lib.hid hHB
              clear hHB
              subst ho
              refine Pj.Step.free rfl ?_
              simp only [Pj.puts, List.foldl_cons, List.foldl_nil, Act.put, List.setIfInBounds_toArray, List.set_cons_zero, List.set_cons_succ, e7]
              go_simp
              exact hKq _ _ ⟨Pj.vset V 8 (.string t), by simp only [Pj.puts, List.foldl_cons, List.foldl_nil, Act.put, List.setIfInBounds_toArray, List.set_cons_zero, List.set_cons_succ, Pj.vset, Nat.reduceEqDiff, if_true, if_false, e7], HJ.out.flat HP.out hL (HJ.out.kp.trans (Kept.refl _)) (Kept.size (Kept.refl _)) (rfl), HHA.out.same (by decide) (by decide) hL (Kept.refl _), HHB.out.same (by decide) (by decide) hL (Kept.refl _), fun h => ⟨(hL 3).2 (.inr (hc11 (((hL 11).1 h).resolve_left (by decide))).1), by rw [Pj.vset_other _ _ (by decide), Pj.vset_other _ _ (by decide)]; exact (hc11 (((hL 11).1 h).resolve_left (by decide))).2⟩, fun h => ⟨(hL 10).2 (.inr (hc12 (((hL 12).1 h).resolve_left (by decide))).1), by rw [Pj.vset_other _ _ (by decide), Pj.vset_other _ _ (by decide)]; exact (hc12 (((hL 12).1 h).resolve_left (by decide))).2⟩, fun h => by rw [Pj.vset_other _ _ (by decide)]; exact hi11 (fun q => h ((hL 11).2 (.inr q))), fun h => (hL 0).2 (((hL 11).1 h).elim (fun e => absurd e (by decide)) (fun q => .inr (hl11_0 q))), fun h => by rw [Pj.vset_other _ _ (by decide)]; exact hi12 (fun q => h ((hL 12).2 (.inr q))), fun h => (hL 4).2 (((hL 12).1 h).elim (fun e => absurd e (by decide)) (fun q => .inr (hl12_4 q)))⟩
            | 9, ho =>
              simp only [List.getElem?_toArray, List.getElem?_cons_zero, List.getElem?_cons_succ, Option.some.injEq] at ho
              have e8 : V 8 = .string t := hJ.h 8 (hdep 8 (by rw [← ho]; kernel_rfl))
              have HJ := Lib.hid hJ
              clear hJ
              have HHA := Lib.hid hHA
              clear hHA
              have HHB := Lib.hid hHB
              clear hHB
              subst ho
              refine Pj.Step.free rfl ?_
              simp only [Pj.puts, List.foldl_cons, List.foldl_nil, Act.put, List.setIfInBounds_toArray, List.set_cons_zero, List.set_cons_succ, e8]
              go_simp
              exact hKq _ _ ⟨Pj.vset V 9 (.slice (some ⟨w.heap.size, 0, none⟩) 1 1), by simp only [Pj.puts, List.foldl_cons, List.foldl_nil, Act.put, List.setIfInBounds_toArray, List.set_cons_zero, List.set_cons_succ, Pj.vset, Nat.reduceEqDiff, if_true, if_false, e8], HJ.out.flat HP.out hL (HJ.out.kp.trans ((Kept.refl _).alloc _)) (Kept.size ((Kept.refl _).alloc _)) (trivial), HHA.out.same (by decide) (by decide) hL ((Kept.refl _).alloc _), HHB.out.made (by decide) hL, fun h => ⟨(hL 3).2 (.inr (hc11 (((hL 11).1 h).resolve_left (by decide))).1), by rw [Pj.vset_other _ _ (by decide), Pj.vset_other _ _ (by decide)]; exact (hc11 (((hL 11).1 h).resolve_left (by decide))).2⟩, fun h => ⟨(hL 10).2 (.inr (hc12 (((hL 12).1 h).resolve_left (by decide))).1), by rw [Pj.vset_other _ _ (by decide), Pj.vset_other _ _ (by decide)]; exact (hc12 (((hL 12).1 h).resolve_left (by decide))).2⟩, fun h => by rw [Pj.vset_other _ _ (by decide)]; exact hi11 (fun q => h ((hL 11).2 (.inr q))), fun h => (hL 0).2 (((hL 11).1 h).elim (fun e => absurd e (by decide)) (fun q => .inr (hl11_0 q))), fun h => by rw [Pj.vset_other _ _ (by decide)]; exact hi12 (fun q => h ((hL 12).2 (.inr q))), fun h => (hL 4).2 (((hL 12).1 h).elim (fun e => absurd e (by decide)) (fun q => .inr (hl12_4 q)))⟩
            | 10, ho =>
              simp only [List.getElem?_toArray, List.getElem?_cons_zero, List.getElem?_cons_succ, Option.some.injEq] at ho
              have e4 : V 4 = .slice xb n cb' := hJ.h 4 (hdep 4 (by rw [← ho]; kernel_rfl))
              have l9 := hdep 9 (by rw [← ho]; kernel_rfl)
              obtain ⟨g, e9, hgb⟩ := hHB.c l9 hopen
              have hown := hHB.a0 hopen
              have HJ := Lib.hid hJ
              clear hJ
              have HHA := Lib.hid hHA
              clear hHA
              have HHB := Lib.hid hHB
              clear hHB
              subst ho
              refine Pj.Step.free rfl ?_
              simp only [Pj.puts, List.foldl_cons, List.foldl_nil, Act.put, List.setIfInBounds_toArray, List.set_cons_zero, List.set_cons_succ, e4, e9]
              refine Pj.oper_app _ _ 23 rfl w2.heap.size 9 iB (.string ByteArray.empty) 16 Try.underlying23 HIB.out.1 HIB.out.2.1 HIB.out.2.2.1 HIB.out.2.2.2 rfl (.slice xb n cb') n ((lstS T K k ss).map Value.string) rfl hown g (.string t) rfl hgb rfl (by omega) (by decide) (HJ.out.kp.size) ?_
              intro v' w' hown' hgrow
              simp only [Act.put, List.setIfInBounds_toArray, List.set_cons_zero, List.set_cons_succ]
              exact hKq _ _ ⟨Pj.vset V 10 (v'), by simp only [Pj.puts, List.foldl_cons, List.foldl_nil, Act.put, List.setIfInBounds_toArray, List.set_cons_zero, List.set_cons_succ, Pj.vset, Nat.reduceEqDiff, if_true, if_false, e4, e9], HJ.out.flat HP.out hL (kept_gr1 HJ.out.kp hgrow (fun q e => (hown.lt q e).1) (Nat.le_refl _)) (hgrow.size) (trivial), HHA.out.other (by decide) (by decide) hL hgrow (Pj.row_types hown (by decide)), Pj.Hlf.app hown' hL, fun h => ⟨(hL 3).2 (.inr (hc11 (((hL 11).1 h).resolve_left (by decide))).1), by rw [Pj.vset_other _ _ (by decide), Pj.vset_other _ _ (by decide)]; exact (hc11 (((hL 11).1 h).resolve_left (by decide))).2⟩, fun h => absurd (hc12 (((hL 12).1 h).resolve_left (by decide))).1 hopen, fun h => by rw [Pj.vset_other _ _ (by decide)]; exact hi11 (fun q => h ((hL 11).2 (.inr q))), fun h => (hL 0).2 (((hL 11).1 h).elim (fun e => absurd e (by decide)) (fun q => .inr (hl11_0 q))), fun h => by rw [Pj.vset_other _ _ (by decide)]; exact hi12 (fun q => h ((hL 12).2 (.inr q))), fun h => (hL 4).2 (((hL 12).1 h).elim (fun e => absurd e (by decide)) (fun q => .inr (hl12_4 q)))⟩
            | 11, ho =>
              simp only [List.getElem?_toArray, List.getElem?_cons_zero, List.getElem?_cons_succ, Option.some.injEq] at ho
              have l3 := hdep 3 (by rw [← ho]; kernel_rfl)
              have hd11_0 := hdep 0 (by rw [← ho]; kernel_rfl)
              have HJ := Lib.hid hJ
              clear hJ
              have HHA := Lib.hid hHA
              clear hHA
              have HHB := Lib.hid hHB
              clear hHB
              subst ho
              refine Pj.Step.free rfl ?_
              simp only [Pj.puts, List.foldl_cons, List.foldl_nil, Act.put, List.setIfInBounds_toArray, List.set_cons_zero, List.set_cons_succ]
              go_simp
              exact hKq _ _ ⟨Pj.vset V 11 (V 3), by simp only [Pj.puts, List.foldl_cons, List.foldl_nil, Act.put, List.setIfInBounds_toArray, List.set_cons_zero, List.set_cons_succ, Pj.vset, Nat.reduceEqDiff, if_true, if_false], HJ.out.flat HP.out hL (HJ.out.kp.trans (Kept.refl _)) (Kept.size (Kept.refl _)) (trivial), HHA.out.same (by decide) (by decide) hL (Kept.refl _), HHB.out.same (by decide) (by decide) hL (Kept.refl _), fun _ => ⟨(hL 3).2 (.inr l3), by rw [Pj.vset_same, Pj.vset_other _ _ (by decide)]⟩, fun h => ⟨(hL 10).2 (.inr (hc12 (((hL 12).1 h).resolve_left (by decide))).1), by rw [Pj.vset_other _ _ (by decide), Pj.vset_other _ _ (by decide)]; exact (hc12 (((hL 12).1 h).resolve_left (by decide))).2⟩, fun h => absurd ((hL 11).2 (.inl rfl)) h, fun _ => (hL 0).2 (.inr hd11_0), fun h => by rw [Pj.vset_other _ _ (by decide)]; exact hi12 (fun q => h ((hL 12).2 (.inr q))), fun h => (hL 4).2 (((hL 12).1 h).elim (fun e => absurd e (by decide)) (fun q => .inr (hl12_4 q)))⟩
            | 12, ho =>
              simp only [List.getElem?_toArray, List.getElem?_cons_zero, List.getElem?_cons_succ, Option.some.injEq] at ho
              have l10 := hdep 10 (by rw [← ho]; kernel_rfl)
              have hd12_4 := hdep 4 (by rw [← ho]; kernel_rfl)
              have HJ := Lib.hid hJ
              clear hJ
              have HHA := Lib.hid hHA
              clear hHA
              have HHB := Lib.hid hHB
              clear hHB
              subst ho
              refine Pj.Step.free rfl ?_
              simp only [Pj.puts, List.foldl_cons, List.foldl_nil, Act.put, List.setIfInBounds_toArray, List.set_cons_zero, List.set_cons_succ]
              go_simp
              exact hKq _ _ ⟨Pj.vset V 12 (V 10), by simp only [Pj.puts, List.foldl_cons, List.foldl_nil, Act.put, List.setIfInBounds_toArray, List.set_cons_zero, List.set_cons_succ, Pj.vset, Nat.reduceEqDiff, if_true, if_false], HJ.out.flat HP.out hL (HJ.out.kp.trans (Kept.refl _)) (Kept.size (Kept.refl _)) (trivial), HHA.out.same (by decide) (by decide) hL (Kept.refl _), HHB.out.same (by decide) (by decide) hL (Kept.refl _), fun h => ⟨(hL 3).2 (.inr (hc11 (((hL 11).1 h).resolve_left (by decide))).1), by rw [Pj.vset_other _ _ (by decide), Pj.vset_other _ _ (by decide)]; exact (hc11 (((hL 11).1 h).resolve_left (by decide))).2⟩, fun _ => ⟨(hL 10).2 (.inr l10), by rw [Pj.vset_same, Pj.vset_other _ _ (by decide)]⟩, fun h => by rw [Pj.vset_other _ _ (by decide)]; exact hi11 (fun q => h ((hL 11).2 (.inr q))), fun h => (hL 0).2 (((hL 11).1 h).elim (fun e => absurd e (by decide)) (fun q => .inr (hl11_0 q))), fun h => absurd ((hL 12).2 (.inl rfl)) h, fun _ => (hL 4).2 (.inr hd12_4)⟩
            | n + 13, ho => simp at ho
          case ehe =>
            rintro L az w ⟨V, rfl, hJ, hHA, hHB, hc11, hc12, hi11, hl11_0, hi12, hl12_4⟩ hall
            have e11 : V 11 = V 3 := (hc11 (hall 11 (by decide))).2
            have e12 : V 12 = V 10 := (hc12 (hall 12 (by decide))).2
            have hOA := hHA.a1 (hall 3 (by decide))
            have hOB := hHB.a1 (hall 10 (by decide))
            have HKj := Lib.hid hJ.kp
            clear hJ hall hHA hHB hc11 hc12 hi11 hl11_0 hi12 hl12_4
            simp only [Pj.puts, List.foldl_cons, List.foldl_nil, Act.put, List.setIfInBounds_toArray, List.set_cons_zero, List.set_cons_succ, e11, e12]
            clear e11 e12
            generalize V 3 = vA at *
            generalize V 10 = vB at *
            have HOA1 := Lib.hid hOA
            clear hOA
            have HOB1 := Lib.hid hOB
            clear hOB
            go_wp2
            go_roundw
            case rel => exact ⟨k + 1, n + 1, HLA, by omega, by go_num, by rw [HZA.out]; exact HOA1.out, by rw [HSA.out]; exact HOB1.out, HKj.out⟩
            case measure => simp [intOf]; omega
        · have HFL := Lib.hid (lst_full (HN.out ▸ hln))
          go_wp2_with fail
          go_roundw
          case rel => exact ⟨k + 1, n, Lib.hid (by rw [HFL.out, ← HN.out]), by omega, by go_num, by unfold lstZ; rw [HFL.out]; exact HOA.out, by unfold lstS; rw [HFL.out]; exact HOB.out, HKR.out⟩
          case measure => simp [intOf]; omega
      · have hT : T k = false := by simpa using hT
        have HFL := Lib.hid (lst_no (K := K) hT)
        rw [hT] at hbk
        clear hT
        go_wp2_with fail
        go_roundw
        case rel => exact ⟨k + 1, n, Lib.hid (by rw [HFL.out, ← HN.out]), by omega, by go_num, by unfold lstZ; rw [HFL.out]; exact HOA.out, by unfold lstS; rw [HFL.out]; exact HOB.out, HKR.out⟩
        case measure => simp [intOf]; omega
    · obtain rfl : k = ll := by omega
      have HLR := Lib.hid (fun h => lst_rank (T := T) (K := K) (H := k) (by omega) (by omega) h)
      have HZL := Lib.hid (show (lstZ T K k).length = n by rw [HN.out]; simp [lstZ])
      have HSL := Lib.hid (show (lstS T K k ss).length = n by rw [HN.out]; simp [lstS])
      have HZO := Lib.hid (show pickOk k (lstZ T K k) from fun i hi => by
        rw [HZL.out, HN.out] at hi
        have hm := lst_lt (T := T) (K := K) (n := k) (List.getElem_mem hi)
        simp only [lstZ, List.getD_eq_getElem?_getD, List.getElem?_map, List.getElem?_eq_getElem hi, Option.map_some, Option.getD_some]
        omega)
      obtain ⟨xa', ca', ea, hza⟩ := ints_own4 HOA.out HZL.out (fun x hx => by
        simp only [lstZ, List.mem_map] at hx
        obtain ⟨i, hi, rfl⟩ := hx
        have := lst_lt hi
        omega)
      cases ea
      have HFT := Lib.hid (fitE_same (lstS T K k ss) s (by omega) (fun x hx => by
        simp only [lstS, List.mem_map] at hx
        obtain ⟨i, hi, rfl⟩ := hx
        exact sizedT_size HST.out (lst_lt hi) (lst_there hi)))
      obtain ⟨xb', cb2, eb, hle2, hsa⟩ := strs_own HOB.out HSL.out (fun x hx => by
        simp only [lstS, List.mem_map] at hx
        obtain ⟨i, hi, rfl⟩ := hx
        have := sizedT_size HST.out (lst_lt hi) (lst_there hi)
        omega)
      cases eb
      have HZA := Lib.hid hza
      have HSA := Lib.hid hsa
      have HF3 := Lib.hid (HB2.out.kept HKR.out)
      obtain ⟨f1, f2, f3⟩ := box3 HF3.out
      have HKF := Lib.hid (HK2.out.trans HKR.out)
      clear hza hsa
      by_cases hnK : n < K
      · have hd : decide ((n : Int) < (K : Int)) = true := decide_eq_true (by omega)
        go_wp2
        go_ret2
        exact ⟨fun _ => rfl, fun h => absurd (HN.out ▸ hnK) h, HKF.out⟩
      · obtain rfl : K = n := by omega
        have hkK : 1 ≤ k ∧ k ≤ 16 := by have := HH.out; omega
        have HK16 := Lib.hid hkK
        have HLEN := Lib.hid (HLR.out HN.out.symm)
        have HNK := Lib.hid (show ¬ (lst T K k).length < K by rw [← HN.out]; exact hnK)
        clear hkK hnK
        go_wp2_with fail
        refine (generator_any K M k s HH.out hK _).mono ?_
        rintro e w6 ⟨b0, o0, rfl, hb0, hm0, hk6⟩
        have HM0 := Lib.hid hm0
        have HK6 := Lib.hid hk6
        clear hm0 hk6 f1 f2 f3
        go_upto_region 15 with (fail)
        have k7 := (Kept.refl w6).alloc (.cells #[.int .i64 k, .int .i64 K, .slice (some ⟨b0, o0, none⟩) (k * K) (k * K)] 33)
        have HX0 := Lib.hid (BlockAt.new w6 #[.int .i64 k, .int .i64 K, .slice (some ⟨b0, o0, none⟩) (k * K) (k * K)] 33)
        have HM7 := Lib.hid (HM0.out.kept k7)
        have HK7 := Lib.hid (HK6.out.trans k7)
        generalize w6.alloc (.cells #[.int .i64 k, .int .i64 K, .slice (some ⟨b0, o0, none⟩) (k * K) (k * K)] 33) = w7 at *
        generalize w6.heap.size = p7 at *
        obtain ⟨f1, f2, f3⟩ := box3 HX0.out
        clear k7
        go_wp2_with fail
        refine (pick_any k K b0 o0 (k * K) xa K ca (lstZ T K k) (genF K) HK16.out ⟨by omega, by omega⟩ ⟨by omega, by omega⟩ (Nat.le_refl _) _ HM7.out.cell (HZA.out.kept HK7.out)).mono ?_
        rintro e w8 ⟨hp, -, hk8⟩
        obtain ⟨b1, o1, rfl, hb1, hm1⟩ := hp HZO.out
        rw [HZL.out] at hm1 ⊢
        have HK8 := Lib.hid hk8
        have HM1 := Lib.hid hm1
        clear hp hk8 hm1 f1 f2 f3
        go_upto_region 16 with (fail)
        have k9 := (Kept.refl w8).alloc (.cells #[.int .i64 K, .int .i64 K, .slice (some ⟨b1, o1, none⟩) (K * K) (K * K)] 33)
        have HX1 := Lib.hid (BlockAt.new w8 #[.int .i64 K, .int .i64 K, .slice (some ⟨b1, o1, none⟩) (K * K) (K * K)] 33)
        have HM9 := Lib.hid (HM1.out.kept k9)
        have HK9 := Lib.hid (HK8.out.trans k9)
        generalize w8.alloc (.cells #[.int .i64 K, .int .i64 K, .slice (some ⟨b1, o1, none⟩) (K * K) (K * K)] 33) = w9 at *
        generalize w8.heap.size = p9 at *
        obtain ⟨f1, f2, f3⟩ := box3 HX1.out
        clear k9
        go_wp2_with fail
        refine (invert_any K b1 o1 (K * K) (pickF (genF K) (lstZ T K k)) ⟨by omega, by omega⟩ (Nat.le_refl _) (fun i j => genF_bt K _ _) _ HM9.out.cell).mono ?_
        rintro e w10 ⟨hv, -, hk10⟩
        obtain ⟨b2, o2, rfl, hb2, hm2⟩ := hv HLEN.out
        have HK10 := Lib.hid hk10
        have HM2 := Lib.hid hm2
        clear hv hk10 hm2 f1 f2 f3
        go_upto_region 17 with (fail)
        have k11 := (Kept.refl w10).alloc (.cells #[.int .i64 K, .int .i64 K, .slice (some ⟨b2, o2, none⟩) (K * K) (K * K)] 33)
        have HX2 := Lib.hid (BlockAt.new w10 #[.int .i64 K, .int .i64 K, .slice (some ⟨b2, o2, none⟩) (K * K) (K * K)] 33)
        have HM11 := Lib.hid (HM2.out.kept k11)
        have HK11 := Lib.hid (HK10.out.trans k11)
        generalize w10.alloc (.cells #[.int .i64 K, .int .i64 K, .slice (some ⟨b2, o2, none⟩) (K * K) (K * K)] 33) = w11 at *
        generalize w10.heap.size = p11 at *
        have HK711 := Lib.hid (HK9.out.trans HK11.out)
        obtain ⟨f1, f2, f3⟩ := box3 (HX0.out.kept HK711.out)
        obtain ⟨g1, g2, g3⟩ := box3 HX2.out
        clear k11
        go_wp2_with fail
        refine (mat_mul_any k K K b0 o0 (k * K) b2 o2 (K * K) (genF K) (backF T K k) HK16.out ⟨by omega, by omega⟩ ⟨by omega, by omega⟩ (Nat.le_refl _) (Nat.le_refl _) (genF_bt K) (invF_bt (fun i j => genF_bt K _ _) K) _ (HM7.out.kept HK711.out).cell HM11.out.cell).mono ?_
        rintro e w12 ⟨b3, o3, rfl, hb3, hm3, hk12⟩
        have HK12 := Lib.hid hk12
        have HM3 := Lib.hid hm3
        clear hk12 hm3 f1 f2 f3 g1 g2 g3
        go_upto_region 18 with (fail)
        have k13 := (Kept.refl w12).alloc (.cells #[.int .i64 k, .int .i64 K, .slice (some ⟨b3, o3, none⟩) (k * K) (k * K)] 33)
        have HX3 := Lib.hid (BlockAt.new w12 #[.int .i64 k, .int .i64 K, .slice (some ⟨b3, o3, none⟩) (k * K) (k * K)] 33)
        have HM13 := Lib.hid (HM3.out.kept k13)
        have HK13 := Lib.hid (((HK7.out.trans HK711.out).trans HK12.out).trans k13)
        generalize w12.alloc (.cells #[.int .i64 k, .int .i64 K, .slice (some ⟨b3, o3, none⟩) (k * K) (k * K)] 33) = w13 at *
        generalize w12.heap.size = p13 at *
        obtain ⟨f1, f2, f3⟩ := box3 HX3.out
        clear k13
        go_wp2_with fail
        refine (apply_any k K b3 o3 (k * K) xb cb' (lstS T K k ss) (allB T K k) HK16.out ⟨by omega, by omega⟩ (Nat.le_refl _) hle2 (mulM_bt (genF_bt K) K _) _ HM13.out.cell (HSA.out.kept HK13.out) HFT.out).mono ?_
        rintro e w14 ⟨a, rfl, ha, ht, ha2, hk14⟩
        have HKL := Lib.hid ((HKF.out.trans HK13.out).trans hk14)
        have HT := Lib.hid ht
        have HA2 := Lib.hid ha2
        clear hk14 ht ha ha2 f1 f2 f3
        go_wp2
        go_ret2
        exact ⟨fun h => absurd h HNK.out, fun _ => ⟨a, rfl, HT.out, HA2.out⟩, HKL.out⟩
end Go.Proofs.Ytoonpnpooljmlaa

namespace Go.Proofs.Ytoonpnpooljmlaa
open Go.RowKit Go.Shelf
attribute [local go_sem] Oper.semAt_some

set_option maxRecDepth 100000 in
set_option maxHeartbeats 1000000 in
theorem verify_shape (k m s : Int) (al : Option Addr) (ll cl : Nat) (w : World) (h : shpB k m s = false) :
    Calls Try.prog 26 #[.agg #[.int .i64 k, .int .i64 m, .int .i64 s], .slice al ll cl] w fun e w' => e = .returned (.tuple #[.bool false, .int .i64 1]) ∧ Kept w w' := by
  have he : shpE k m s = 1 := by unfold shpE; rw [h]; rfl
  have HE := Lib.hid he
  clear h he
  have HK0 := Lib.hid ((Kept.refl w).alloc (.cells #[.int .i64 k, .int .i64 m, .int .i64 s] 29))
  have hb := BlockAt.new w #[.int .i64 k, .int .i64 m, .int .i64 s] 29
  go_enter Try.func26, Try.ntmps26
  obtain ⟨c1, c2, c3⟩ := box3 hb
  clear hb
  go_wp2_with fail
  refine (code_check _ _ _ _).mono ?_
  rintro e w1 ⟨rfl, hk1⟩
  have HK := Lib.hid (HK0.out.trans hk1)
  rw [HE.out]
  clear hk1 c1 c2 c3
  go_wp2
  go_ret2
  exact ⟨rfl, HK.out⟩
set_option maxRecDepth 100000 in
set_option maxHeartbeats 1000000 in
theorem verify_unfit (K M H s : Nat) (hH : H = K + M) (hK : 1 ≤ K ∧ K ≤ 8 ∧ M ≤ 6) (hs : 1 ≤ s ∧ s ≤ 120) (al : Option Addr) (ll cl : Nat) (ss : List ByteArray) (w : World) (hl : StrsIn w al ll ss) (h : sizedB ss H s = false) :
    Calls Try.prog 26 #[.agg #[.int .i64 K, .int .i64 M, .int .i64 s], .slice al ll cl] w fun e w' => e = .returned (.tuple #[.bool false, .int .i64 1]) ∧ Kept w w' := by
  have he : shpE K M s = 0 := by
    unfold shpE shpB
    rw [decide_eq_true (by omega)]
    rfl
  have HE := Lib.hid he
  have eH : (K : Int) + (M : Int) = (H : Int) := by omega
  have hH14 : H ≤ 1000000 := by omega
  have HH := Lib.hid hH
  have HSB := Lib.hid h
  clear h he hH
  have HK0 := Lib.hid ((Kept.refl w).alloc (.cells #[.int .i64 K, .int .i64 M, .int .i64 s] 29))
  have HB0 := Lib.hid (BlockAt.new w #[.int .i64 K, .int .i64 M, .int .i64 s] 29)
  have HL := Lib.hid hl
  clear hl
  go_enter Try.func26, Try.ntmps26
  obtain ⟨c1, c2, c3⟩ := box3 HB0.out
  go_wp2_with fail
  refine (code_check _ _ _ _).mono ?_
  rintro e w1 ⟨rfl, hk1⟩
  have HK := Lib.hid (HK0.out.trans hk1)
  rw [HE.out]
  obtain ⟨d1, d2, d3⟩ := box3 (HB0.out.kept hk1)
  clear hk1 c1 c2 c3
  go_wp2_with fail
  refine (sized_every K M s H al ll cl ss hH14 _ (HL.out.kept HK.out)).mono ?_
  rintro e w2 ⟨rfl, hk2⟩
  have HK2 := Lib.hid (HK.out.trans hk2)
  rw [HSB.out]
  clear hk2 d1 d2 d3
  go_wp2
  go_ret2
  exact ⟨rfl, HK2.out⟩
end Go.Proofs.Ytoonpnpooljmlaa
