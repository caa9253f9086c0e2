/- The walk of the law CodeRebuilds: it answers true and changes nothing that was there (no conditions). -/
import Derived.Test.YtoonpnpooljmlaaCdM
import Derived.Test.YtoonpnpooljmlaaQa11
namespace Go.Proofs.Ytoonpnpooljmlaa
open Go.RowKit Go.Shelf
attribute [local go_sem] Oper.semAt_some

/-- which pieces the law lays as there -/
def thB (T : Nat → Bool) (lb : Nat) : Nat → Bool := fun i => if lb = 0 then true else T (i % lb)
/-- a row of n truths of which the first k are written -/
structure Bc (w : World) (g n k : Nat) (T : Nat → Bool) : Prop where
  block : ∃ cs, BlockAt w g cs 4
  cell : ∀ i, i < n → w.cell? ⟨g, i, none⟩ = some (.bool (if i < k then T i else false))
theorem Bc.lt {w : World} {g n k : Nat} {T : Nat → Bool} (h : Bc w g n k T) : g < w.heap.size := by obtain ⟨cs, hb⟩ := h.block; exact hb.lt
theorem Bc.free {w : World} {g n k : Nat} {T : Nat → Bool} (h : Bc w g n k T) (i : Nat) : w.frozen? ⟨g, i, none⟩ = false := by obtain ⟨cs, hb⟩ := h.block; exact hb.free i
theorem Bc.kept {w w' : World} {g n k : Nat} {T : Nat → Bool} (h : Bc w g n k T) (q : Kept w w') : Bc w' g n k T := by
  obtain ⟨cs, hb⟩ := h.block
  exact ⟨⟨cs, hb.kept q⟩, fun i hi => q.cell hb.lt (h.cell i hi)⟩
theorem Bc.set {w : World} {g n k : Nat} {T : Nat → Bool} (h : Bc w g n k T) (hk : k < n) : Bc (w.setCell ⟨g, k, none⟩ (.bool (T k))) g n (k + 1) T := by
  obtain ⟨cs, hb⟩ := h.block
  refine ⟨⟨_, hb.set _⟩, fun i hi => ?_⟩
  by_cases e : i = k
  · subst e
    rw [World.cell?_setCell_same _ _ _ (h.cell i hk), if_pos (by omega)]
  · have hne : (⟨g, i, none⟩ : Addr) ≠ ⟨g, k, none⟩ := fun h => e (Addr.mk.inj h).2.1
    rw [World.cell?_setCell_other (h := hne.symm), h.cell i hi]
    by_cases h2 : i < k
    · rw [if_pos h2, if_pos (by omega)]
    · rw [if_neg h2, if_neg (by omega)]
theorem made_bools (u : World) (n : Nat) (T : Nat → Bool) : Bc (u.alloc (.cells (madeCells #[.bool false] n) 4)) u.heap.size n 0 T := by
  refine ⟨⟨_, BlockAt.new _ _ _⟩, fun i hi => ?_⟩
  rw [cell_new]
  simp [madeCells, hi, Nat.mod_one]
theorem Bc.bools {w : World} {g n : Nat} {T : Nat → Bool} (h : Bc w g n n T) : BoolsIn w (some ⟨g, 0, none⟩) n T :=
  ⟨g, 0, fun _ => rfl, fun i hi => ⟨h.lt, by rw [Nat.zero_add, h.cell i hi, if_pos hi]⟩⟩
theorem mkBools (n : Nat) (hn : n ≤ 1000000) : ∀ u : World, (Instr.makeSlice 24 (.int .i64 n) (.int .i64 n)).run Try.prog u =
    .ok (.slice (some ⟨u.heap.size, 0, none⟩) n n) (u.alloc (.cells (madeCells #[.bool false] n) 4)) := fun u => by
  obtain ⟨i0, hi, hz0, hz1, hz2⟩ := info_parts Try.infoBo
  have h := run_make (P := Try.prog) u 24 4 i0 (.bool false) Try.underlying24 hi hz0 .i64 .i64 (n : Int) (n : Int) (by omega) (Int.le_refl _) (by rw [hz2]; omega) (by omega)
  simpa [hz1, Value.cells] using h
/-- a list of so many texts, each so great, as a value -/
def LS (w : World) (u : Value) (l S : Nat) : Prop := ∃ a cap X, u = .slice a l cap ∧ l ≤ cap ∧ StrsIn w a l X ∧ ∀ x ∈ X, x.size = S
theorem LS.kept {w w' : World} {u : Value} {l S : Nat} (h : LS w u l S) (k : Kept w w') : LS w' u l S := by
  obtain ⟨a, cap, X, e, h1, h2, h3⟩ := h
  exact ⟨a, cap, X, e, h1, h2.kept k, h3⟩
def goneS : ByteArray := ⟨#[103, 111, 110, 101]⟩
/-- the texts, with those of the first n that are not there gone -/
def goneL (X : List ByteArray) (T : Nat → Bool) (n : Nat) : List ByteArray := (List.range X.length).map fun q => if q < n ∧ T q = false then goneS else X.getD q ByteArray.empty
theorem goneL_len (X : List ByteArray) (T : Nat → Bool) (n : Nat) : (goneL X T n).length = X.length := by simp [goneL]
theorem goneL_at (X : List ByteArray) (T : Nat → Bool) (n q : Nat) (hq : q < X.length) : (goneL X T n).getD q ByteArray.empty = if q < n ∧ T q = false then goneS else X.getD q ByteArray.empty := by
  simp only [goneL, List.getD_eq_getElem?_getD, List.getElem?_map, List.getElem?_range hq, Option.map_some, Option.getD_some]
theorem goneL_zero (X : List ByteArray) (T : Nat → Bool) : goneL X T 0 = X := getD_ext (goneL_len _ _ _) (fun q hq => by rw [goneL_at _ _ _ _ (by rwa [goneL_len] at hq), if_neg (by omega)])
theorem goneL_set (X : List ByteArray) (T : Nat → Bool) (n : Nat) (h : T n = false) : (goneL X T n).set n goneS = goneL X T (n + 1) := getD_ext (by rw [List.length_set, goneL_len, goneL_len]) (fun q hq => by
  rw [List.length_set, goneL_len] at hq
  rw [goneL_at _ _ _ _ hq]
  by_cases e : q = n
  · subst e
    rw [if_pos ⟨by omega, h⟩]
    simp [List.getD, goneL_len, hq]
  · have h1 := goneL_at X T n q hq
    have h2 : ((goneL X T n).set n goneS).getD q ByteArray.empty = (goneL X T n).getD q ByteArray.empty := by simp [List.getD, Ne.symm e]
    rw [h2, h1]
    by_cases h3 : q < n ∧ T q = false
    · rw [if_pos h3, if_pos ⟨by omega, h3.2⟩]
    · rw [if_neg h3, if_neg (fun h4 => h3 ⟨by omega, h4.2⟩)])
theorem goneL_same (X : List ByteArray) (T : Nat → Bool) (n : Nat) (h : T n = true) : goneL X T n = goneL X T (n + 1) := getD_ext (by rw [goneL_len, goneL_len]) (fun q hq => by
  rw [goneL_len] at hq
  rw [goneL_at _ _ _ _ hq, goneL_at _ _ _ _ hq]
  by_cases h3 : q < n ∧ T q = false
  · rw [if_pos h3, if_pos ⟨by omega, h3.2⟩]
  · rw [if_neg h3, if_neg (fun h4 => h3 ⟨by
      by_cases e : q = n
      · rw [e, h] at h4
        cases h4.2
      · omega, h4.2⟩)])
theorem goneL_size {X : List ByteArray} {T : Nat → Bool} {n S : Nat} (hX : ∀ x ∈ X, x.size = S) (hS : S ≤ 120) : ∀ x ∈ goneL X T n, x.size ≤ 9223372036854775807 := fun x hx => by
  simp only [goneL, List.mem_map, List.mem_range] at hx
  obtain ⟨q, hq, rfl⟩ := hx
  split
  · decide
  · have := hX (X.getD q ByteArray.empty) (by simp [List.getD, hq])
    omega
theorem goneL_sized {X : List ByteArray} {T : Nat → Bool} {H S : Nat} (hX : ∀ x ∈ X, x.size = S) (hl : X.length = H) : sizedT (goneL X T H) H S T = true := by
  unfold sizedT
  rw [Bool.and_eq_true, List.all_eq_true]
  refine ⟨decide_eq_true (by rw [goneL_len, hl]), fun q hq => ?_⟩
  have hq := List.mem_range.1 hq
  rw [goneL_at _ _ _ _ (by omega)]
  cases hT : T q with
  | false => rfl
  | true =>
    rw [if_neg (fun h => by cases h.2)]
    have hm : X.getD q ByteArray.empty ∈ X := by simp [List.getD, show q < X.length by omega]
    exact decide_eq_true (hX _ hm)
theorem sizedT_short {X : List ByteArray} {T : Nat → Bool} {H S : Nat} (hl : X.length ≠ H) : sizedT X H S T = false := by
  unfold sizedT
  rw [decide_eq_false hl, Bool.false_and]
theorem sizedB_short {X : List ByteArray} {H S : Nat} (hl : X.length ≠ H) : sizedB X H S = false := by
  unfold sizedB
  rw [decide_eq_false hl, Bool.false_and]
theorem sizedB_all {X : List ByteArray} {H S : Nat} (hl : X.length = H) (h : ∀ x ∈ X, x.size = S) : sizedB X H S = true := by
  unfold sizedB
  rw [Bool.and_eq_true, List.all_eq_true]
  exact ⟨decide_eq_true hl, fun x hx => decide_eq_true (h x hx)⟩
theorem lstS_size {X : List ByteArray} {T : Nat → Bool} {K H S : Nat} (hz : sizedT X H S T = true) (hl : (lst T K H).length = K) (j : Nat) (hj : j < K) : ((lstS T K H X).getD j ByteArray.empty).size = S := by
  have hi' : j < (lst T K H).length := by omega
  have hm := List.getElem_mem hi'
  simp only [lstS, List.getD_eq_getElem?_getD, List.getElem?_map, List.getElem?_eq_getElem hi', Option.map_some, Option.getD_some]
  have := sizedT_size hz (lst_lt hm) (lst_there hm)
  simpa [List.getD_eq_getElem?_getD] using this
/-- a row that one operation hands back, to which another appends one cell -/
structure Pj.Src (base : Nat) (t : TypeId) (na : Nat) (xs : List Value) (ua : Value) (src ba aa : Nat) (L : Nat → Prop) (V : Nat → Value) (w : World) : Prop where
  a0 : L src → ¬ L aa → w.ownsRow base t 1 (V src) na xs
  c : L ba → ¬ L aa → ∃ g, V ba = .slice (some ⟨g, 0, none⟩) 1 1 ∧ BlockAt w g #[ua] t
section
variable {base : Nat} {t : TypeId} {na : Nat} {xs : List Value} {ua : Value} {src ba aa : Nat} {L L' : Nat → Prop} {V : Nat → Value} {w w' : World}
theorem Pj.Src.start (h1 : ¬ L src) (h2 : ¬ L ba) : Pj.Src base t na xs ua src ba aa L V w := ⟨fun q => absurd q h1, fun q => absurd q h2⟩
theorem Pj.Src.same {i : Nat} (h : Pj.Src base t na xs ua src ba aa L V w) (h1 : i ≠ src) (h2 : i ≠ ba) (_h3 : i ≠ aa) (hL : ∀ j, L' j ↔ (j = i ∨ L j)) (hk : Kept w w') {x : Value} : Pj.Src base t na xs ua src ba aa L' (Pj.vset V i x) w' := by
  have e3 : L aa → L' aa := fun q => (hL aa).2 (.inr q)
  refine ⟨fun q r => ?_, fun q r => ?_⟩
  · rw [Pj.vset_other _ _ (fun e => h1 e.symm)]
    exact own_kept (h.a0 (((hL src).1 q).resolve_left (fun e => h1 e.symm)) (fun z => r (e3 z))) hk
  · obtain ⟨g, e, hb⟩ := h.c (((hL ba).1 q).resolve_left (fun e => h2 e.symm)) (fun z => r (e3 z))
    exact ⟨g, (Pj.vset_other _ _ (fun e => h2 e.symm)).trans e, hb.kept hk⟩
theorem Pj.Src.own (h : Pj.Src base t na xs ua src ba aa L V w) (h2 : src ≠ ba) (hk : Kept w w') {v : Value} (ho : w'.ownsRow base t 1 v na xs) (hL : ∀ j, L' j ↔ (j = src ∨ L j)) : Pj.Src base t na xs ua src ba aa L' (Pj.vset V src v) w' := by
  refine ⟨fun _ _ => by rw [Pj.vset_same]; exact ho, fun q r => ?_⟩
  obtain ⟨g, e, hb⟩ := h.c (((hL ba).1 q).resolve_left (fun e => h2 e.symm)) (fun z => r ((hL aa).2 (.inr z)))
  exact ⟨g, (Pj.vset_other _ _ (fun e => h2 e.symm)).trans e, hb.kept hk⟩
theorem Pj.Src.made (h : Pj.Src base t na xs ua src ba aa L V w) (h2 : ba ≠ src) (hL : ∀ j, L' j ↔ (j = ba ∨ L j)) : Pj.Src base t na xs ua src ba aa L' (Pj.vset V ba (.slice (some ⟨w.heap.size, 0, none⟩) 1 1)) (w.alloc (.cells #[ua] t)) := by
  refine ⟨fun q r => ?_, fun _ _ => ⟨_, Pj.vset_same _ _ _, BlockAt.new _ _ _⟩⟩
  rw [Pj.vset_other _ _ (fun e => h2 e.symm)]
  exact own_kept (h.a0 (((hL src).1 q).resolve_left (fun e => h2 e.symm)) (fun z => r ((hL aa).2 (.inr z)))) ((Kept.refl _).alloc _)
theorem Pj.Src.done (hL : ∀ j, L' j ↔ (j = aa ∨ L j)) : Pj.Src base t na xs ua src ba aa L' V w := ⟨fun _ r => absurd ((hL aa).2 (.inl rfl)) r, fun _ r => absurd ((hL aa).2 (.inl rfl)) r⟩
theorem own_mono {base' n : Nat} {v : Value} {ys : List Value} (h : w.ownsRow base' t 1 v n ys) (hb : base ≤ base') : w.ownsRow base t 1 v n ys := by
  obtain ⟨h1, h2 | ⟨g, cap, cur, hv, hg, h3⟩⟩ := h
  · exact ⟨h1, .inl h2⟩
  · exact ⟨h1, .inr ⟨g, cap, cur, hv, Nat.le_trans hb hg, h3⟩⟩
end
set_option maxRecDepth 100000 in
set_option maxHeartbeats 40000000 in
noncomputable def code_rebuildsM : {A : Prop × Prop × Prop × Prop // A.1 → A.2.1 → A.2.2.1 → A.2.2.2 → (∀ (ax : Option Addr) (ls cs : Nat) (al : Option Addr) (ll cl : Nat) (ss : List ByteArray) (ab : Option Addr) (lb cb : Nat) (T : Nat → Bool) (W : World) (_ : AskC W ax ls cs al ll cl ss) (_ : BoolsIn W ab lb T) (_ : lb ≤ 9223372036854775807), Calls Try.prog 4 #[.agg #[.slice ax ls cs, .slice al ll cl, .slice ab lb cb]] W fun e W' => e = .returned (.bool true) ∧ Kept W W')} := ⟨(_, _, _, _), by
  intro hcut0 hcut1 hcut2 hcut3
  have HCUT0 := Lib.hid hcut0
  have HCUT1 := Lib.hid hcut1
  have HCUT2 := Lib.hid hcut2
  have HCUT3 := Lib.hid hcut3
  clear hcut0 hcut1 hcut2 hcut3
  intro ax ls cs al ll cl ss ab lb cb T W h hT hlb
  have HA := Lib.hid h
  have HTT := Lib.hid hT
  obtain ⟨iBo, hi9, hz9, hy9, hx9⟩ := info_parts Try.infoBo
  have HIBo := Lib.hid (And.intro hi9 (And.intro hz9 (And.intro hy9 hx9)))
  clear hi9 hz9 hy9 hx9
  clear h hT
  have HK1 := Lib.hid ((Kept.refl W).alloc (.cells #[.slice ax ls cs, .slice al ll cl, .slice ab lb cb] 26))
  have hB1 := BlockAt.new W #[.slice ax ls cs, .slice al ll cl, .slice ab lb cb] 26
  go_enter Try.func4, Try.ntmps4
  go_upto_region 1 with (fail)
  generalize W.alloc (.cells #[.slice ax ls cs, .slice al ll cl, .slice ab lb cb] 26) = w1 at *
  have HREAD := Lib.hid (show ∀ w, Kept w1 w → w.cell? ⟨W.heap.size, 0, none⟩ = some (.slice ax ls cs) ∧ w.cell? ⟨W.heap.size, 1, none⟩ = some (.slice al ll cl) ∧ w.cell? ⟨W.heap.size, 2, none⟩ = some (.slice ab lb cb) from fun w k => box3c (hB1.kept k))
  clear hB1
  obtain ⟨a0, a1, a2⟩ := HREAD.out _ (Kept.refl _)
  go_wp2_with fail
  refine (heavy4_any ax ls cs al ll cl ss ab lb cb _ (HA.out.kept HK1.out)).mono ?_
  rintro e w2 ⟨he, hk2⟩
  have HK2 := Lib.hid hk2
  clear hk2 a0 a1 a2
  rcases he with rfl | ⟨rfl, hll, hls, hsz⟩
  · go_wp2
    go_ret
    exact ⟨rfl, HK1.out.trans HK2.out⟩
  · have HSZ := Lib.hid hsz
    clear hsz
    go_wp2_with fail
    go_loopw [3] (fun i wr => ∃ j : Nat, j ≤ ls ∧ i = .int .i64 j ∧ Kept w1 wr) (fun i _ => ls - (intOf i).toNat)
    case atStart => exact ⟨0, by omega, rfl, HK2.out⟩
    case round =>
      obtain ⟨j, hj, rfl, hK⟩ := hrel
      have HK := Lib.hid hK
      clear hK
      obtain ⟨a0, a1, a2⟩ := HREAD.out _ HK.out
      by_cases hjl : j < ls
      · by_cases hj4 : j < 4
        · obtain ⟨b, off, rfl, hc⟩ := HA.out.shapes.cell (by omega)
          obtain ⟨k, m, s, hkb, hcell⟩ := hc j hjl
          obtain ⟨c0, c1, c2⟩ := hcell _ (HK1.out.trans HK.out)
          clear hc hcell
          have hd1 : decide ((j : Int) < ls) = true := decide_eq_true (by omega)
          have hd2 : decide ((j : Int) < 4) = true := decide_eq_true (by omega)
          go_upto_region 7 with (fail)
          have HB4 := Lib.hid (BlockAt.new wr #[.int .i64 k, .int .i64 m, .int .i64 s] 29)
          have k4 : Kept wr (wr.alloc (.cells #[.int .i64 k, .int .i64 m, .int .i64 s] 29)) := (Kept.refl wr).alloc _
          generalize wr.alloc (.cells #[.int .i64 k, .int .i64 m, .int .i64 s] 29) = wa at *
          have HKa := Lib.hid (HK.out.trans k4)
          clear k4 a0 a1 a2 c0 c1 c2
          generalize wr.heap.size = p4 at *
          obtain ⟨c0, c1, c2⟩ := box3c HB4.out
          go_wp2_with fail
          refine (shape_ref k m s _).mono ?_
          rintro e wb ⟨rfl, hkb7⟩
          have HKb := Lib.hid hkb7
          have HB5 := Lib.hid (HB4.out.kept hkb7)
          obtain ⟨c0, c1, c2⟩ := box3c HB5.out
          clear hkb7 HB4
          by_cases hB : shpB k m s = true
          · obtain ⟨K, M, S, rfl, rfl, rfl, hK1, hS1⟩ := shape_nat hB
            have HSB := Lib.hid hB
            rw [hB]
            clear hB
            obtain ⟨H, hH⟩ : ∃ H, H = K + M := ⟨_, rfl⟩
            have HH := Lib.hid hH
            have eH : (K : Int) + (M : Int) = (H : Int) := by omega
            have hH14 : 1 ≤ H ∧ H ≤ 14 := by omega
            clear hH
            have hmk := mkBools H (by omega)
            have HMK := Lib.hid hmk
            clear hmk
            go_upto_region 13 with (fail)
            have hmk := HMK.out wb
            clear c0 c1 c2
            go_upto_region 14 with (fail)
            have HC0 := Lib.hid (made_bools wb H (thB T lb))
            have HK5 := Lib.hid ((Kept.refl wb).alloc (.cells (madeCells #[.bool false] H) 4))
            generalize wb.alloc (.cells (madeCells #[.bool false] H) 4) = w5 at *
            obtain ⟨pt, hpt⟩ : ∃ p, p = wb.heap.size := ⟨_, rfl⟩
            rw [← hpt] at HC0 ⊢
            have HPT := Lib.hid hpt
            clear hpt hmk HMK
            have HRB := Lib.hid (show ∀ w, Kept wb w → w.cell? ⟨W.heap.size, 0, none⟩ = some (.slice (some ⟨b, off, none⟩) ls cs) ∧ w.cell? ⟨W.heap.size, 1, none⟩ = some (.slice al ll cl) ∧ w.cell? ⟨W.heap.size, 2, none⟩ = some (.slice ab lb cb) from fun w q => HREAD.out _ ((HKa.out.trans HKb.out).trans q))
            have HTB := Lib.hid (show ∀ w, Kept wb w → BoolsIn w ab lb T from fun w q => HTT.out.kept ((HK1.out.trans (HKa.out.trans HKb.out)).trans q))
            go_wp2_with fail
            go_loopw [11] (fun iv wy => ∃ i : Nat, i ≤ H ∧ iv = .int .i64 i ∧ Bc wy pt H i (thB T lb) ∧ Kept wb wy) (fun iv _ => H - (intOf iv).toNat)
            case atStart => exact ⟨0, by omega, rfl, HC0.out, HK5.out⟩
            case round =>
              rename World => wy
              obtain ⟨i, hi, rfl, hbc, hky⟩ := hrel
              have HBC := Lib.hid hbc
              have HKY := Lib.hid hky
              clear hbc hky
              by_cases hiH : i < H
              · have hcell := HBC.out.cell i hiH
                have hfree := HBC.out.free i
                obtain ⟨a0, a1, a2⟩ := HRB.out _ HKY.out
                by_cases hl0 : lb = 0
                · have hl1 : ((lb : Int) == 0) = true := by rw [beq_iff_eq]; omega
                  have HTH := Lib.hid (show thB T lb i = true by unfold thB; rw [if_pos hl0])
                  clear hl0
                  go_wp2_with fail
                  refine (wpIn_wide (n := 0)).1 ?_
                  refine wpIn_region_quiet_tail_lit 18 (by kernel_rfl) (by kernel_rfl) (by kernel_rfl) ?_
                  simp only [List.take_succ_cons, List.take_zero, List.drop_succ_cons, List.drop_zero]
                  repeat (gi_big_quiet_step (fail))
                  refine wpQuietIn_nil ?_
                  intro _ hw'
                  obtain ⟨nq, hw''⟩ := hw'
                  subst hw''
                  gi_wp2
                  go_wp2
                  have hkn : Kept wy (wy.drewN nq) := (Kept.refl wy).drewN nq
                  have hbs := (HBC.out.kept hkn).set hiH
                  rw [HTH.out] at hbs
                  have HBS := Lib.hid hbs
                  have HKS := Lib.hid ((HKY.out.trans hkn).setCell (p := ⟨pt, i, none⟩) (by have := HPT.out; show wb.heap.size ≤ pt; omega) (.bool true))
                  clear hbs hkn
                  go_roundw
                  case rel => exact ⟨i + 1, by omega, by go_num, HBS.out, HKS.out⟩
                  case measure => simp [intOf]; omega
                · have hl1 : ((lb : Int) == 0) = false := by rw [beq_eq_false_iff_ne]; omega
                  obtain ⟨b9, o9, hab, hcb⟩ := (HTB.out _ HKY.out).cells
                  obtain rfl := hab (by omega)
                  obtain ⟨p, hp⟩ : ∃ p : Nat, p = i % lb := ⟨_, rfl⟩
                  have hpl : p < lb := by rw [hp]; exact Nat.mod_lt _ (by omega)
                  have e1 : (i : Int) % (lb : Int) = (p : Int) := by rw [hp]; simp
                  have e1t : (i : Int).tmod (lb : Int) = (p : Int) := by rw [Int.tmod_eq_emod_of_nonneg (by omega)]; exact e1
                  have HTH := Lib.hid (show thB T lb i = T p by unfold thB; rw [if_neg hl0, hp])
                  have hcp := (hcb p hpl).2
                  obtain ⟨y, hy⟩ : ∃ y, y = T p := ⟨_, rfl⟩
                  rw [← hy] at hcp HTH
                  clear hcb hab hp hy
                  go_wp2_with fail
                  refine (wpIn_wide (n := 0)).1 ?_
                  refine wpIn_region_quiet_tail_lit 18 (by kernel_rfl) (by kernel_rfl) (by kernel_rfl) ?_
                  simp only [List.take_succ_cons, List.take_zero, List.drop_succ_cons, List.drop_zero]
                  repeat (gi_big_quiet_step (fail))
                  refine wpQuietIn_nil ?_
                  intro _ hw'
                  obtain ⟨nq, hw''⟩ := hw'
                  subst hw''
                  gi_wp2
                  go_wp2
                  have hkn : Kept wy (wy.drewN nq) := (Kept.refl wy).drewN nq
                  have hbs := (HBC.out.kept hkn).set hiH
                  rw [HTH.out] at hbs
                  have HBS := Lib.hid hbs
                  have HKS := Lib.hid ((HKY.out.trans hkn).setCell (p := ⟨pt, i, none⟩) (by have := HPT.out; show wb.heap.size ≤ pt; omega) (.bool y))
                  clear hbs hkn
                  go_roundw
                  case rel => exact ⟨i + 1, by omega, by go_num, HBS.out, HKS.out⟩
                  case measure => simp [intOf]; omega
              · obtain rfl : H = i := by omega
                have HTI := Lib.hid HBC.out.bools
                have HTC0 := Lib.hid (show ∀ w, Kept wy w → ∀ n, n < H → w.cell? ⟨pt, n, none⟩ = some (.bool (thB T lb n)) from fun w kk n hn => kk.cell HBC.out.lt (by rw [HBC.out.cell n hn, if_pos hn]))
                have HBY := Lib.hid (HB5.out.kept HKY.out)
                obtain ⟨T9, hT9⟩ : ∃ T9, T9 = thB T lb := ⟨_, rfl⟩
                rw [← hT9] at HTI HTC0
                have HRW := Lib.hid (show ∀ w, Kept wy w → w.cell? ⟨W.heap.size, 1, none⟩ = some (.slice al ll cl) from fun w q => (HRB.out _ (HKY.out.trans q)).2.1)
                have HBW := Lib.hid (show ∀ w, Kept wy w → w.cell? ⟨p4, 0, none⟩ = some (.int .i64 K) ∧ w.cell? ⟨p4, 1, none⟩ = some (.int .i64 M) ∧ w.cell? ⟨p4, 2, none⟩ = some (.int .i64 S) from fun w q => box3c (HBY.out.kept q))
                have HFT := Lib.hid (show ∀ w, Kept wy w → ∀ kn : Nat, kn ≤ 100 → Calls Try.prog 14 #[.slice al ll cl, .int .i64 kn, .int .i64 S] w (FittedP w kn S) from fun w q kn hkn => fitted_any al ll cl ss kn S w (((HA.out.kept HK1.out).kept (((HKa.out.trans HKb.out).trans HKY.out).trans q)).texts.strs) (by omega) (fun i hi => Nat.le_trans (HSZ.out i hi) (by decide)) hkn hS1)
                have HEN := Lib.hid (show ∀ w a cap X, StrsIn w a K X → (∀ x ∈ X, x.size = S) → Calls Try.prog 21 #[.agg #[.int .i64 K, .int .i64 M, .int .i64 S], .slice a K cap] w fun e w' => ∃ a' k', e = .returned (.slice a' H k') ∧ H ≤ k' ∧ (∃ X', StrsIn w' a' H X' ∧ X' = appS (genF K) X H K ∧ ∀ x ∈ X', x.size = S) ∧ Kept w w' from fun w a cap X hX hXs => by
                  have hsz : ∀ j, j < K → (X.getD j ByteArray.empty).size = S := fun j hj => hXs _ (by simp [List.getD, show j < X.length by rw [hX.len_eq]; exact hj])
                  refine (rencode_any K M H S HH.out hK1 (by omega) a cap X w hX hsz).mono ?_
                  rintro e w' ⟨a', k', rfl, h1, h2, h3⟩
                  refine ⟨a', k', rfl, h1, ⟨_, h2, rfl, fun x hx => ?_⟩, h3⟩
                  simp only [appS, List.mem_map] at hx
                  obtain ⟨i, _, rfl⟩ := hx
                  rw [appTo_size]
                  exact hsz 0 (by omega))
                clear hT9
                go_wp2_with fail
                refine Pj.wp_region_step (fun az0 L az w => ∃ V : Nat → Value, az = Pj.puts [(105, 0), (106, 1), (107, 2), (108, 3), (109, 4), (110, 5), (111, 6), (112, 7), (113, 8), (12, 9)] V az0 ∧ Pj.J wy [Pj.Is (.agg #[.int .i64 K, .int .i64 M, .int .i64 S]), Pj.Is (.pointer (some ⟨W.heap.size, 1, none⟩)), Pj.Is (.slice al ll cl), Pj.Is (.pointer (some ⟨p4, 0, none⟩)), Pj.Is (.int .i64 K), Pj.Is (.pointer (some ⟨p4, 2, none⟩)), Pj.Is (.int .i64 S), (fun w v => ∃ a cap X, v = .slice a K cap ∧ StrsIn w a K X ∧ ∀ x ∈ X, x.size = S), (fun w v => ∃ a cap, v = .slice a H cap ∧ LS w (.slice a H cap) H S), (fun w v => ∃ a cap, v = .slice a H cap ∧ LS w (.slice a H cap) H S)] L V w) (by as_aux_lemma => kernel_rfl) (by as_aux_lemma => kernel_rfl) ?eh0 ?ehs ?ehe
                case eh0 =>
                  intro L hL
                  exact ⟨_, Pj.puts_self _ (fun j => ([105, 106, 107, 108, 109, 110, 111, 112, 113, 12] : List Nat).getD j 0) [0, 1, 2, 3, 4, 5, 6, 7, 8, 9], Pj.J.none (n := 10) (Nat.le_refl _) hL ((Kept.refl _).drew)⟩
                case ehs =>
                  rintro L L' az w iz opz Kq ⟨V, rfl, hJ⟩ ho hopen hdep hL hKq
                  have hP : Pj.AllStay [Pj.Is (.agg #[.int .i64 K, .int .i64 M, .int .i64 S]), Pj.Is (.pointer (some ⟨W.heap.size, 1, none⟩)), Pj.Is (.slice al ll cl), Pj.Is (.pointer (some ⟨p4, 0, none⟩)), Pj.Is (.int .i64 K), Pj.Is (.pointer (some ⟨p4, 2, none⟩)), Pj.Is (.int .i64 S), (fun w v => ∃ a cap X, v = .slice a K cap ∧ StrsIn w a K X ∧ ∀ x ∈ X, x.size = S), (fun w v => ∃ a cap, v = .slice a H cap ∧ LS w (.slice a H cap) H S), (fun w v => ∃ a cap, v = .slice a H cap ∧ LS w (.slice a H cap) H S)] := ⟨Pj.Is.stays _, Pj.Is.stays _, Pj.Is.stays _, Pj.Is.stays _, Pj.Is.stays _, Pj.Is.stays _, Pj.Is.stays _, fun _ _ _ ⟨a, cap, X, e, h1, h2⟩ q => ⟨a, cap, X, e, h1.kept q, h2⟩, fun _ _ _ ⟨a, cap, e, h⟩ q => ⟨a, cap, e, h.kept q⟩, fun _ _ _ ⟨a, cap, e, h⟩ q => ⟨a, cap, e, h.kept q⟩, trivial⟩
                  have HP := Lib.hid hP
                  clear hP
                  match iz, ho with
                  | 0, ho =>
                    simp only [List.getElem?_toArray, List.getElem?_cons_zero, Option.some.injEq] at ho
                    obtain ⟨d0, d1, d2⟩ := HBW.out _ hJ.kp
                    have HJ := Lib.hid hJ
                    clear hJ
                    subst ho
                    refine Pj.Step.free rfl ?_
                    simp only [Pj.puts, List.foldl_cons, List.foldl_nil, Act.put, List.setIfInBounds_toArray, List.set_cons_zero, List.set_cons_succ]
                    go_simp
                    exact hKq _ _ ⟨Pj.vset V 0 (.agg #[.int .i64 K, .int .i64 M, .int .i64 S]), by simp only [Pj.puts, List.foldl_cons, List.foldl_nil, Act.put, List.setIfInBounds_toArray, List.set_cons_zero, List.set_cons_succ, Pj.vset, Nat.reduceEqDiff, if_true, if_false], HJ.out.more HP.out hL (Kept.refl _) (rfl)⟩
                  | 1, ho =>
                    simp only [List.getElem?_toArray, List.getElem?_cons_zero, List.getElem?_cons_succ, Option.some.injEq] at ho
                    have HJ := Lib.hid hJ
                    clear hJ
                    subst ho
                    refine Pj.Step.free rfl ?_
                    simp only [Pj.puts, List.foldl_cons, List.foldl_nil, Act.put, List.setIfInBounds_toArray, List.set_cons_zero, List.set_cons_succ]
                    go_simp
                    exact hKq _ _ ⟨Pj.vset V 1 (.pointer (some ⟨W.heap.size, 1, none⟩)), by simp only [Pj.puts, List.foldl_cons, List.foldl_nil, Act.put, List.setIfInBounds_toArray, List.set_cons_zero, List.set_cons_succ, Pj.vset, Nat.reduceEqDiff, if_true, if_false], HJ.out.more HP.out hL (Kept.refl _) (rfl)⟩
                  | 2, ho =>
                    simp only [List.getElem?_toArray, List.getElem?_cons_zero, List.getElem?_cons_succ, Option.some.injEq] at ho
                    have e1 : V 1 = .pointer (some ⟨W.heap.size, 1, none⟩) := hJ.h 1 (hdep 1 (by rw [← ho]; kernel_rfl))
                    have hrw := HRW.out _ hJ.kp
                    have HJ := Lib.hid hJ
                    clear hJ
                    subst ho
                    refine Pj.Step.free rfl ?_
                    simp only [Pj.puts, List.foldl_cons, List.foldl_nil, Act.put, List.setIfInBounds_toArray, List.set_cons_zero, List.set_cons_succ, e1]
                    go_simp
                    exact hKq _ _ ⟨Pj.vset V 2 (.slice al ll cl), by simp only [Pj.puts, List.foldl_cons, List.foldl_nil, Act.put, List.setIfInBounds_toArray, List.set_cons_zero, List.set_cons_succ, Pj.vset, Nat.reduceEqDiff, if_true, if_false, e1], HJ.out.more HP.out hL (Kept.refl _) (rfl)⟩
                  | 3, ho =>
                    simp only [List.getElem?_toArray, List.getElem?_cons_zero, List.getElem?_cons_succ, Option.some.injEq] at ho
                    have HJ := Lib.hid hJ
                    clear hJ
                    subst ho
                    refine Pj.Step.free rfl ?_
                    simp only [Pj.puts, List.foldl_cons, List.foldl_nil, Act.put, List.setIfInBounds_toArray, List.set_cons_zero, List.set_cons_succ]
                    go_simp
                    exact hKq _ _ ⟨Pj.vset V 3 (.pointer (some ⟨p4, 0, none⟩)), by simp only [Pj.puts, List.foldl_cons, List.foldl_nil, Act.put, List.setIfInBounds_toArray, List.set_cons_zero, List.set_cons_succ, Pj.vset, Nat.reduceEqDiff, if_true, if_false], HJ.out.more HP.out hL (Kept.refl _) (rfl)⟩
                  | 4, ho =>
                    simp only [List.getElem?_toArray, List.getElem?_cons_zero, List.getElem?_cons_succ, Option.some.injEq] at ho
                    have e3 : V 3 = .pointer (some ⟨p4, 0, none⟩) := hJ.h 3 (hdep 3 (by rw [← ho]; kernel_rfl))
                    obtain ⟨d0, d1, d2⟩ := HBW.out _ hJ.kp
                    have HJ := Lib.hid hJ
                    clear hJ
                    subst ho
                    refine Pj.Step.free rfl ?_
                    simp only [Pj.puts, List.foldl_cons, List.foldl_nil, Act.put, List.setIfInBounds_toArray, List.set_cons_zero, List.set_cons_succ, e3]
                    go_simp
                    exact hKq _ _ ⟨Pj.vset V 4 (.int .i64 K), by simp only [Pj.puts, List.foldl_cons, List.foldl_nil, Act.put, List.setIfInBounds_toArray, List.set_cons_zero, List.set_cons_succ, Pj.vset, Nat.reduceEqDiff, if_true, if_false, e3], HJ.out.more HP.out hL (Kept.refl _) (rfl)⟩
                  | 5, ho =>
                    simp only [List.getElem?_toArray, List.getElem?_cons_zero, List.getElem?_cons_succ, Option.some.injEq] at ho
                    have HJ := Lib.hid hJ
                    clear hJ
                    subst ho
                    refine Pj.Step.free rfl ?_
                    simp only [Pj.puts, List.foldl_cons, List.foldl_nil, Act.put, List.setIfInBounds_toArray, List.set_cons_zero, List.set_cons_succ]
                    go_simp
                    exact hKq _ _ ⟨Pj.vset V 5 (.pointer (some ⟨p4, 2, none⟩)), by simp only [Pj.puts, List.foldl_cons, List.foldl_nil, Act.put, List.setIfInBounds_toArray, List.set_cons_zero, List.set_cons_succ, Pj.vset, Nat.reduceEqDiff, if_true, if_false], HJ.out.more HP.out hL (Kept.refl _) (rfl)⟩
                  | 6, ho =>
                    simp only [List.getElem?_toArray, List.getElem?_cons_zero, List.getElem?_cons_succ, Option.some.injEq] at ho
                    have e5 : V 5 = .pointer (some ⟨p4, 2, none⟩) := hJ.h 5 (hdep 5 (by rw [← ho]; kernel_rfl))
                    obtain ⟨d0, d1, d2⟩ := HBW.out _ hJ.kp
                    have HJ := Lib.hid hJ
                    clear hJ
                    subst ho
                    refine Pj.Step.free rfl ?_
                    simp only [Pj.puts, List.foldl_cons, List.foldl_nil, Act.put, List.setIfInBounds_toArray, List.set_cons_zero, List.set_cons_succ, e5]
                    go_simp
                    exact hKq _ _ ⟨Pj.vset V 6 (.int .i64 S), by simp only [Pj.puts, List.foldl_cons, List.foldl_nil, Act.put, List.setIfInBounds_toArray, List.set_cons_zero, List.set_cons_succ, Pj.vset, Nat.reduceEqDiff, if_true, if_false, e5], HJ.out.more HP.out hL (Kept.refl _) (rfl)⟩
                  | 7, ho =>
                    simp only [List.getElem?_toArray, List.getElem?_cons_zero, List.getElem?_cons_succ, Option.some.injEq] at ho
                    have e2 : V 2 = .slice al ll cl := hJ.h 2 (hdep 2 (by rw [← ho]; kernel_rfl))
                    have e4 : V 4 = .int .i64 K := hJ.h 4 (hdep 4 (by rw [← ho]; kernel_rfl))
                    have e6 : V 6 = .int .i64 S := hJ.h 6 (hdep 6 (by rw [← ho]; kernel_rfl))
                    have hft := HFT.out _ hJ.kp K (by omega)
                    have HJ := Lib.hid hJ
                    clear hJ
                    subst ho
                    refine Pj.Step.free rfl ?_
                    simp only [Pj.puts, List.foldl_cons, List.foldl_nil, Act.put, List.setIfInBounds_toArray, List.set_cons_zero, List.set_cons_succ, e2, e4, e6]
                    go_simp
                    refine hft.mono ?_
                    rintro e w' ⟨a9, c9, X9, rfl, -, hs9, hz9, hk9⟩
                    exact hKq _ _ ⟨Pj.vset V 7 (.slice a9 K c9), by simp only [Pj.puts, List.foldl_cons, List.foldl_nil, Act.put, List.setIfInBounds_toArray, List.set_cons_zero, List.set_cons_succ, Pj.vset, Nat.reduceEqDiff, if_true, if_false, e2, e4, e6], HJ.out.more HP.out hL (hk9) (⟨_, _, _, rfl, hs9, hz9⟩)⟩
                  | 8, ho =>
                    simp only [List.getElem?_toArray, List.getElem?_cons_zero, List.getElem?_cons_succ, Option.some.injEq] at ho
                    have e0 : V 0 = .agg #[.int .i64 K, .int .i64 M, .int .i64 S] := hJ.h 0 (hdep 0 (by rw [← ho]; kernel_rfl))
                    obtain ⟨a7, c7, X7, e7, h7, h7s⟩ := hJ.h 7 (hdep 7 (by rw [← ho]; kernel_rfl))
                    have hen := HEN.out _ _ c7 _ h7 h7s
                    have HJ := Lib.hid hJ
                    clear hJ
                    subst ho
                    refine Pj.Step.free rfl ?_
                    simp only [Pj.puts, List.foldl_cons, List.foldl_nil, Act.put, List.setIfInBounds_toArray, List.set_cons_zero, List.set_cons_succ, e0, e7]
                    go_simp
                    refine hen.mono ?_
                    rintro e w' ⟨a9, c9, rfl, hc9, ⟨X9, hs9, -, hz9⟩, hk9⟩
                    exact hKq _ _ ⟨Pj.vset V 8 (.slice a9 H c9), by simp only [Pj.puts, List.foldl_cons, List.foldl_nil, Act.put, List.setIfInBounds_toArray, List.set_cons_zero, List.set_cons_succ, Pj.vset, Nat.reduceEqDiff, if_true, if_false, e0, e7], HJ.out.more HP.out hL (hk9) (⟨_, _, rfl, _, _, _, rfl, hc9, hs9, hz9⟩)⟩
                  | 9, ho =>
                    simp only [List.getElem?_toArray, List.getElem?_cons_zero, List.getElem?_cons_succ, Option.some.injEq] at ho
                    obtain ⟨a8, c8, e8, h8⟩ := hJ.h 8 (hdep 8 (by rw [← ho]; kernel_rfl))
                    have HJ := Lib.hid hJ
                    clear hJ
                    subst ho
                    refine Pj.Step.free rfl ?_
                    simp only [Pj.puts, List.foldl_cons, List.foldl_nil, Act.put, List.setIfInBounds_toArray, List.set_cons_zero, List.set_cons_succ, e8]
                    go_simp
                    exact hKq _ _ ⟨Pj.vset V 9 (.slice a8 H c8), by simp only [Pj.puts, List.foldl_cons, List.foldl_nil, Act.put, List.setIfInBounds_toArray, List.set_cons_zero, List.set_cons_succ, Pj.vset, Nat.reduceEqDiff, if_true, if_false, e8], HJ.out.more HP.out hL (Kept.refl _) (⟨_, _, rfl, h8⟩)⟩
                  | n + 10, ho => simp at ho
                case ehe =>
                  rintro L az w ⟨V, rfl, hJ⟩ hall
                  have e0 : V 0 = .agg #[.int .i64 K, .int .i64 M, .int .i64 S] := hJ.h 0 (hall 0 (by decide))
                  have e1 : V 1 = .pointer (some ⟨W.heap.size, 1, none⟩) := hJ.h 1 (hall 1 (by decide))
                  have e2 : V 2 = .slice al ll cl := hJ.h 2 (hall 2 (by decide))
                  have e3 : V 3 = .pointer (some ⟨p4, 0, none⟩) := hJ.h 3 (hall 3 (by decide))
                  have e4 : V 4 = .int .i64 K := hJ.h 4 (hall 4 (by decide))
                  have e5 : V 5 = .pointer (some ⟨p4, 2, none⟩) := hJ.h 5 (hall 5 (by decide))
                  have e6 : V 6 = .int .i64 S := hJ.h 6 (hall 6 (by decide))
                  obtain ⟨a7, c7, X7, e7, h7, h7s⟩ := hJ.h 7 (hall 7 (by decide))
                  obtain ⟨a8, c8, e8, h8⟩ := hJ.h 8 (hall 8 (by decide))
                  obtain ⟨a9z, c9z, e9, h9z⟩ := hJ.h 9 (hall 9 (by decide))
                  have HKj := Lib.hid hJ.kp
                  clear hJ hall
                  simp only [Pj.puts, List.foldl_cons, List.foldl_nil, Act.put, List.setIfInBounds_toArray, List.set_cons_zero, List.set_cons_succ, e0, e1, e2, e3, e4, e5, e6, e7, e8, e9]
                  clear e0 e1 e2 e3 e4 e5 e6 e7 e8 e9
                  have HL18 := Lib.hid h9z
                  have HK18 := Lib.hid HKj.out
                  clear h9z
                  have hrw := HRW.out _ HK18.out
                  obtain ⟨c0, c1, c2⟩ := HBW.out _ HK18.out
                  go_wp2_with fail
                  refine (HFT.out _ HK18.out H (by omega)).mono ?_
                  rintro e w19 ⟨aw, cw, Xw, rfl, hcw, hsw, hzw, hk19⟩
                  have HLW := Lib.hid (show LS w19 (.slice aw H cw) H S from ⟨aw, cw, Xw, rfl, hcw, hsw, hzw⟩)
                  have HK19 := Lib.hid (HK18.out.trans hk19)
                  obtain ⟨a9, c9, X9, e9, hc9, hs9, hz9⟩ := HL18.out.kept hk19
                  cases e9
                  obtain ⟨b8, o8, hb8, -⟩ := hs9.cells
                  obtain rfl := hb8 (by omega)
                  have HLP := Lib.hid (show LS w19 (.slice (some ⟨b8, o8, none⟩) H c9z) H S from ⟨_, c9z, X9, rfl, hc9, hs9, hz9⟩)
                  have HLC := Lib.hid (show LS w19 (.slice (some ⟨b8, o8, none⟩) (H - 1) c9z) (H - 1) S from ⟨_, c9z, X9.take (H - 1), rfl, by omega, strs_take hs9 (by omega), fun x hx => hz9 x (List.mem_of_mem_take hx)⟩)
                  obtain ⟨H1, hH1⟩ : ∃ H1, H1 = H - 1 := ⟨_, rfl⟩
                  rw [← hH1] at HLC
                  have hHm : (H : Int) - 1 = (H1 : Int) := by omega
                  have hH1c : H1 ≤ c9z := by omega
                  have HH1 := Lib.hid (show H1 + 1 = H by omega)
                  clear hH1 hs9 hz9 hsw hzw hk19 hrw c0 c1 c2
                  go_upto_region 21 with (fail)
                  have HG := Lib.hid (BlockAt.new w19 #[.slice (some ⟨b8, o8, none⟩) H c9z, .slice aw H cw, .slice (some ⟨b8, o8, none⟩) H1 c9z] 23)
                  have kg := (Kept.refl w19).alloc (.cells #[.slice (some ⟨b8, o8, none⟩) H c9z, .slice aw H cw, .slice (some ⟨b8, o8, none⟩) H1 c9z] 23)
                  have HKL := Lib.hid (HK19.out.trans kg)
                  have HLP2 := Lib.hid (HLP.out.kept kg)
                  have HLW2 := Lib.hid (HLW.out.kept kg)
                  have HLC2 := Lib.hid (HLC.out.kept kg)
                  generalize w19.alloc (.cells #[.slice (some ⟨b8, o8, none⟩) H c9z, .slice aw H cw, .slice (some ⟨b8, o8, none⟩) H1 c9z] 23) = wl at *
                  generalize w19.heap.size = g14 at *
                  have HLS := Lib.hid (show ∀ q, q < 3 → ∃ u l, (∀ w, Kept wl w → w.cell? ⟨g14, q, none⟩ = some u) ∧ LS wl u l S ∧ (l = H ∨ l + 1 = H) from fun q hq => by
                    match q, hq with
                    | 0, _ => exact ⟨_, H, fun w kk => by simpa using (HG.out.kept kk).cell 0, HLP2.out, .inl rfl⟩
                    | 1, _ => exact ⟨_, H, fun w kk => by simpa using (HG.out.kept kk).cell 1, HLW2.out, .inl rfl⟩
                    | 2, _ => exact ⟨_, H1, fun w kk => by simpa using (HG.out.kept kk).cell 2, HLC2.out, .inr HH1.out⟩)
                  clear kg hH1c hHm
                  go_wp2_with fail
                  go_loopw [15] (fun kv wx => ∃ q : Nat, q ≤ 3 ∧ kv = .int .i64 q ∧ Kept wl wx) (fun kv _ => 3 - (intOf kv).toNat)
                  case atStart => exact ⟨0, by omega, rfl, Kept.refl _⟩
                  case round =>
                    rename World => wx
                    obtain ⟨q, hq, rfl, hkx⟩ := hrel
                    have HKX := Lib.hid hkx
                    clear hkx
                    by_cases hq3 : q < 3
                    · have hd3 : decide ((q : Int) < 3) = true := decide_eq_true (by omega)
                      obtain ⟨u, l, hcu, ⟨a, cap, X, rfl, hlc, hX, hXs⟩, hlH⟩ := HLS.out q hq3
                      have HCU := Lib.hid (show ∀ w, Kept wx w → w.cell? ⟨g14, q, none⟩ = some (.slice a l cap) from fun w kk => hcu _ (HKX.out.trans kk))
                      have hcell := hcu _ HKX.out
                      have HXX := Lib.hid (hX.kept HKX.out)
                      have HXS := Lib.hid hXs
                      have HXL := Lib.hid hX.len_eq
                      have HBX := Lib.hid (show ∀ w, Kept wx w → w.cell? ⟨p4, 0, none⟩ = some (.int .i64 K) ∧ w.cell? ⟨p4, 1, none⟩ = some (.int .i64 M) ∧ w.cell? ⟨p4, 2, none⟩ = some (.int .i64 S) from fun w kk => HBW.out _ ((HKL.out.trans HKX.out).trans kk))
                      clear hcu hX hXs
                      go_wp2_with fail
                      refine (copy_strings_own a l cap X _ HXX.out (by omega)).mono ?_
                      rintro e wE ⟨a2, cap2, rfl, hown, hkE⟩
                      have HOW := Lib.hid hown
                      have HKE := Lib.hid hkE
                      clear hown hkE hcell
                      go_wp2_with fail
                      go_loopw [17] (fun jv wj => ∃ n : Nat, n ≤ l ∧ jv = .int .i64 n ∧ wj.ownsRow wx.heap.size 9 1 (.slice a2 l cap2) l ((goneL X T9 n).map Value.string) ∧ Kept wx wj) (fun jv _ => l - (intOf jv).toNat)
                      case atStart => exact ⟨0, by omega, rfl, by rw [goneL_zero]; exact HOW.out, HKE.out⟩
                      case round =>
                        rename World => wj
                        obtain ⟨n, hn, rfl, hown, hkj⟩ := hrel
                        have HO2 := Lib.hid hown
                        have HKJ := Lib.hid hkj
                        clear hown hkj
                        by_cases hnl : n < l
                        · have hnH : n < H := by omega
                          have htc := HTC0.out _ ((HKL.out.trans HKX.out).trans HKJ.out) n hnH
                          cases hTn : T9 n with
                          | false =>
                            rw [hTn] at htc
                            have HGS := Lib.hid (goneL_set X T9 n hTn)
                            have hlen : ((goneL X T9 n).map Value.string).length = l := by rw [List.length_map, goneL_len, HXL.out]
                            have ho := HO2.out
                            obtain ⟨g2, rfl⟩ : ∃ g2, a2 = some ⟨g2, 0, none⟩ := by
                              rcases ho.2 with ⟨e, _⟩ | ⟨g2, c2, cur, e, _⟩
                              · injection e with e1 e2 e3
                                omega
                              · injection e with e1 e2 e3
                                exact ⟨g2, e1⟩
                            have hce := ho.cellAt n (by omega)
                            rw [List.getElem?_eq_getElem (by omega)] at hce
                            have hfr := ho.frozenAt n
                            have hst := ho.stored n (.string goneS)
                            have hbl := (ho.lt g2 rfl).1
                            generalize ((goneL X T9 n).map Value.string)[n] = old at hce
                            have hs9 : (wj.setCell ⟨g2, n, none⟩ (.string goneS)).ownsRow wx.heap.size 9 1 (.slice (some ⟨g2, 0, none⟩) l cap2) l ((goneL X T9 (n + 1)).map Value.string) := by
                              rw [← HGS.out, List.map_set]
                              exact hst.1
                            have HS9 := Lib.hid hs9
                            have HK9 := Lib.hid (HKJ.out.setCell (p := ⟨g2, n, none⟩) hbl (.string goneS))
                            have HTN := Lib.hid hTn
                            clear hs9 hst ho hlen hTn
                            go_wp2_with fail
                            go_roundw
                            case rel => exact ⟨n + 1, by omega, by go_num, HS9.out, HK9.out⟩
                            case measure => simp [intOf]; omega
                          | true =>
                            rw [hTn] at htc
                            have HGS := Lib.hid (goneL_same X T9 n hTn)
                            clear hTn
                            go_wp2_with fail
                            go_roundw
                            case rel => exact ⟨n + 1, by omega, by go_num, by rw [← HGS.out]; exact HO2.out, HKJ.out⟩
                            case measure => simp [intOf]; omega
                        · obtain rfl : l = n := by omega
                          have HTJ := Lib.hid (HTI.out.kept ((HKL.out.trans HKX.out).trans HKJ.out))
                          obtain ⟨a3, cap3, e3, hlc3, hin⟩ := strs_own HO2.out (by rw [goneL_len, HXL.out]) (goneL_size HXS.out hS1.2)
                          cases e3
                          have HIN := Lib.hid hin
                          obtain ⟨c0, c1, c2⟩ := HBX.out _ HKJ.out
                          clear hin
                          by_cases hlH2 : l = H
                          · obtain rfl : H = l := hlH2.symm
                            obtain ⟨ba, oa, hba, -⟩ := HXX.out.cells
                            obtain rfl := hba (by omega)
                            obtain ⟨B, hB9⟩ : ∃ B, B = decide (appS (genF K) (X.take K) H K = X) := ⟨_, rfl⟩
                            obtain ⟨G, hG9⟩ : ∃ G, G = appS (genF K) (X.take K) H K := ⟨_, rfl⟩
                            have hXB := sizedB_all HXL.out HXS.out
                            have HVF := Lib.hid (show ∀ w, Kept wx w → Calls Try.prog 26 #[.agg #[.int .i64 K, .int .i64 M, .int .i64 S], .slice (some ⟨ba, oa, none⟩) H cap] w fun e w' => e = .returned (.tuple #[.bool B, .int .i64 0]) ∧ Kept w w' from fun w kk => by
                              rw [hB9]
                              exact verify_any K M H S HH.out hK1 hS1 (some ⟨ba, oa, none⟩) cap X w (HXX.out.kept kk) hlc hXB)
                            have HE4 := Lib.hid (show ∀ w, Kept wx w → Calls Try.prog 21 #[.agg #[.int .i64 K, .int .i64 M, .int .i64 S], .slice (some ⟨ba, oa, none⟩) K cap] w fun e w' => ∃ a' k', e = .returned (.slice a' H k') ∧ StrsIn w' a' H G ∧ Kept w w' from fun w kk => by
                              refine (HEN.out w (some ⟨ba, oa, none⟩) cap (X.take K) (strs_take (HXX.out.kept kk) (by have := HH.out; omega)) (fun x hx => HXS.out x (List.mem_of_mem_take hx))).mono ?_
                              rintro e w' ⟨a', k', rfl, -, ⟨X', h1, h2, -⟩, h3⟩
                              exact ⟨a', k', rfl, by rw [hG9, ← h2]; exact h1, h3⟩)
                            have HEQ := Lib.hid (show ∀ w a' k', StrsIn w a' H G → Kept wx w → Calls Try.prog 22 #[.slice a' H k', .slice (some ⟨ba, oa, none⟩) H cap] w fun e w' => e = .returned (.bool B) ∧ Kept w w' from fun w a' k' hg kk => by
                              have := eq_strings2 a' (some ⟨ba, oa, none⟩) H H k' cap G X w hg (HXX.out.kept kk)
                              rwa [hG9, ← hB9] at this)
                            have hKc : K ≤ cap := by have := HH.out; omega
                            have hsT := goneL_sized (T := T9) HXS.out HXL.out
                            have HSZ9 := Lib.hid hsT
                            have HRR := Lib.hid (show ∀ w, Kept wj w → Calls Try.prog 27 #[.agg #[.int .i64 K, .int .i64 M, .int .i64 S], .slice a2 H cap2, .slice (some ⟨pt, 0, none⟩) H H] w fun e w' => ((lst T9 K H).length < K → e = .returned (.tuple #[.slice none 0 0, .bool false])) ∧ (¬ (lst T9 K H).length < K → ∃ a k, e = .returned (.tuple #[.slice a H k, .bool true]) ∧ StrsIn w' a H (appS (genF K) (appS (backF T9 K H) (lstS T9 K H (goneL X T9 H)) K K) H K)) ∧ Kept w w' from fun w kk => rrebuild_any K M H S HH.out hK1 hS1 a2 (some ⟨pt, 0, none⟩) cap2 H (goneL X T9 H) T9 w (HIN.out.kept kk) (HTJ.out.kept kk) hsT)
                            clear hB9 hG9 hXB hsT
                            go_wp2_with fail
                            refine (rebuild_any K M H S HH.out hK1 hS1 a2 (some ⟨pt, 0, none⟩) H cap2 H (goneL X T9 H) T9 _ HIN.out HTJ.out HSZ9.out).mono ?_
                            rintro e w30 ⟨hlo, hgo, hk30⟩
                            have HK30 := Lib.hid hk30
                            obtain ⟨c0, c1, c2⟩ := HBX.out _ (HKJ.out.trans hk30)
                            clear hk30
                            by_cases hlost : (lst T9 K H).length < K
                            · skip
                              rename_i zi0 zi1 zi2 zi3 zi4 zi5 zi6 zi7 zi8 zi9 zi10 zi11 zi12 zi13 zi14 zi15 zi16 zi17 zi18 zi19 zi20 zi21 zi22 zi23 zi24 zi25 zi26 zi27 zi28 zi29 zi30 zi31 zi32 zi33 zi34 zi35 zi36 zi37 zi38 zi39 zi40 zi41 zi42 zi43 zi44 zi45 zi46 zi47 zi48 zi49 zi50 zi51 zi52 zi53 zi54 zi55 zi56 zi57 zi58 zi59 zi60 zi61 zi62 zi63 zi64 zi65 zi66 zi67 zi68 zi69 zi70 zi71 zi72 zi73 zi74 zi75 zi76 zi77 zi78 zi79 zi80 zi81 zi82 zi83 zi84 zi85 zi86 zi87 zi88 zi89 zi90 zi91 zi92 zi93 zi94 zi95 zi96 zi97 zi98 zi99 zi100 zi101 zi102 zi103 zi104 zi105 zi106 zi107 zi108 zi109 zi110 zi111 zi112 zi113 zi114 zi115 zi116 zi117 zi118 zi119 zi120 zi121 zi122 zi123 zi124 zi125 zi126 zi127 zi128 zi129 zi130 zi131 zi132 zi133 zi134 zi135 zi136 zi137 zi138 zi139 zi140 zi141 zi142 zi143 zi144 zi145 zi146 zi147 zi148 zi149 zi150 zi151 zi152 zi153 zi154 zi155 zi156 zi157 zi158 zi159 zi160 zi161 zi162 zi163 zi164 zi165 zi166 zi167 zi168 zi169 zi170 zi171 zi172 zi173 zi174 zi175 zi176 zi177 zi178 zi179 zi180 zi181
                              clear HCUT1 HCUT2 HCUT3
                              revert ls cs al ll cl ss ab lb cb T W hlb HTT iBo HIBo zi0 w1 HK1 w2 HK2 hll hls HSZ zi1 zi2 wr zi3 u4 u5 u6 u7 u8 u9 u10 u11 u12 u13 u14 u15 zi4 zi5 zi6 zi7 zi8 zi9 zi10 zi11 zi12 zi13 zi14 zi15 u28 u29 u32 u33 u34 u35 u36 u37 u38 u39 u40 u41 u42 u43 u44 u45 u46 u47 u48 u49 u50 u51 u52 u53 u54 u55 u56 u57 u58 u59 u60 u61 u62 u63 u64 u65 u66 u67 u68 u69 u70 u71 u72 u73 u74 u75 u76 u77 u78 u79 u80 u81 zi16 zi17 zi18 zi19 zi20 zi21 zi22 zi23 zi24 zi25 zi26 zi27 zi28 zi29 zi30 zi31 zi32 zi33 zi34 zi35 zi36 zi37 zi38 u105 u106 u107 u108 u109 u110 u111 u112 u113 u114 u115 u116 u117 u118 u119 u120 u121 u122 u123 u124 u125 u126 zi39 zi40 zi41 zi42 zi43 zi44 zi45 zi46 zi47 zi48 zi49 zi50 zi51 zi52 zi53 zi54 zi55 zi56 zi57 zi58 zi59 zi60 zi61 zi62 zi63 zi64 zi65 zi66 zi67 zi68 zi69 zi70 zi71 zi72 zi73 zi74 zi75 zi76 zi77 zi78 zi79 zi80 zi81 zi82 zi83 zi84 zi85 zi86 zi87 zi88 zi89 zi90 zi91 zi92 zi93 zi94 zi95 zi96 zi97 zi98 zi99 zi100 zi101 zi102 zi103 zi104 zi105 zi106 zi107 zi108 zi109 zi110 zi111 zi112 zi113 zi114 zi115 zi116 zi117 zi118 zi119 zi120 zi121 zi122 zi123 zi124 zi125 zi126 zi127 zi128 zi129 zi130 zi131 zi132 zi133 zi134 zi135 zi136 u225 u226 u227 u228 u229 u230 u231 u232 u233 u234 u235 u236 u237 j hj HK hjl hj4 b off HA HREAD hd1 hd2 zi137 zi138 zi139 wa HKa p4 wb HKb K M S zi140 zi141 zi142 hkb HB5 hK1 hS1 HSB H HH eH hH14 zi143 w5 HK5 pt HC0 HPT HRB HTB wy u82 u83 u84 u85 u86 u87 u88 u89 u90 u91 u92 u93 u94 u95 u96 u97 u98 u99 u100 u101 u102 u103 u104 HKY hi HBC hiH HBY T9 HTC0 HTI HRW HBW HFT HEN zi144 zi145 zi146 L w V a7 c7 X7 h7 h7s a8 c8 h8 c9z HKj HK18 w19 aw cw Xw hcw HLW HK19 X9 hc9 b8 o8 HL18 HLP H1 HLC HH1 hb8 zi147 zi148 wl HKL HLP2 HLW2 HLC2 g14 HG HLS wx u2 u16 u17 u18 u19 u20 u21 u22 u23 u24 u25 u26 u27 u127 u128 u129 u130 u131 u132 u133 u134 u135 u136 u137 zi149 zi150 zi151 zi152 zi153 zi154 zi155 zi156 zi157 zi158 zi159 zi160 zi161 zi162 zi163 zi164 zi165 zi166 zi167 u157 u158 u159 u160 u161 u162 u163 u164 u165 u166 u167 u168 u169 u170 u171 u172 u173 u174 u175 u176 u177 u178 u179 u180 u181 u182 u183 u184 u185 u186 u187 u188 u189 u190 u191 u192 u193 u194 u195 u196 u197 u198 u199 u200 u201 u202 u203 u204 u205 u206 u207 u208 u209 u210 u211 u212 u213 u214 u215 u216 u217 u218 u219 u220 u221 u222 u223 u224 q hq HKX hq3 hd3 cap X HXS HBX zi168 zi169 zi170 wE a2 cap2 HKE zi171 wj u138 u139 u140 u141 u142 u143 u144 u145 u146 u147 u148 u149 u150 u151 u152 u153 u154 u155 u156 HKJ HTJ zi172 zi173 zi174 hlc HXL HOW hn HO2 hnl hlc3 HIN ba oa HCU HXX B G HVF HE4 HEQ hKc HSZ9 HRR zi175 zi176 zi177 zi178 zi179 zi180 zi181 hlH hlH2 hba e w30 hlo hgo HK30 c0 c1 c2 hlost
                              exact HCUT0.out
                            · skip
                              rename_i zi0 zi1 zi2 zi3 zi4 zi5 zi6 zi7 zi8 zi9 zi10 zi11 zi12 zi13 zi14 zi15 zi16 zi17 zi18 zi19 zi20 zi21 zi22 zi23 zi24 zi25 zi26 zi27 zi28 zi29 zi30 zi31 zi32 zi33 zi34 zi35 zi36 zi37 zi38 zi39 zi40 zi41 zi42 zi43 zi44 zi45 zi46 zi47 zi48 zi49 zi50 zi51 zi52 zi53 zi54 zi55 zi56 zi57 zi58 zi59 zi60 zi61 zi62 zi63 zi64 zi65 zi66 zi67 zi68 zi69 zi70 zi71 zi72 zi73 zi74 zi75 zi76 zi77 zi78 zi79 zi80 zi81 zi82 zi83 zi84 zi85 zi86 zi87 zi88 zi89 zi90 zi91 zi92 zi93 zi94 zi95 zi96 zi97 zi98 zi99 zi100 zi101 zi102 zi103 zi104 zi105 zi106 zi107 zi108 zi109 zi110 zi111 zi112 zi113 zi114 zi115 zi116 zi117 zi118 zi119 zi120 zi121 zi122 zi123 zi124 zi125 zi126 zi127 zi128 zi129 zi130 zi131 zi132 zi133 zi134 zi135 zi136 zi137 zi138 zi139 zi140 zi141 zi142 zi143 zi144 zi145 zi146 zi147 zi148 zi149 zi150 zi151 zi152 zi153 zi154 zi155 zi156 zi157 zi158 zi159 zi160 zi161 zi162 zi163 zi164 zi165 zi166 zi167 zi168 zi169 zi170 zi171 zi172 zi173 zi174 zi175 zi176 zi177 zi178 zi179 zi180 zi181
                              clear HCUT0 HCUT2 HCUT3
                              revert ls cs al ll cl ss ab lb cb T W hlb HTT iBo HIBo zi0 w1 HK1 w2 HK2 hll hls HSZ zi1 zi2 wr zi3 u4 u5 u6 u7 u8 u9 u10 u11 u12 u13 u14 u15 zi4 zi5 zi6 zi7 zi8 zi9 zi10 zi11 zi12 zi13 zi14 zi15 u28 u29 u32 u33 u34 u35 u36 u37 u38 u39 u40 u41 u42 u43 u44 u45 u46 u47 u48 u49 u50 u51 u52 u53 u54 u55 u56 u57 u58 u59 u60 u61 u62 u63 u64 u65 u66 u67 u68 u69 u70 u71 u72 u73 u74 u75 u76 u77 u78 u79 u80 u81 zi16 zi17 zi18 zi19 zi20 zi21 zi22 zi23 zi24 zi25 zi26 zi27 zi28 zi29 zi30 zi31 zi32 zi33 zi34 zi35 zi36 zi37 zi38 u105 u106 u107 u108 u109 u110 u111 u112 u113 u114 u115 u116 u117 u118 u119 u120 u121 u122 u123 u124 u125 u126 zi39 zi40 zi41 zi42 zi43 zi44 zi45 zi46 zi47 zi48 zi49 zi50 zi51 zi52 zi53 zi54 zi55 zi56 zi57 zi58 zi59 zi60 zi61 zi62 zi63 zi64 zi65 zi66 zi67 zi68 zi69 zi70 zi71 zi72 zi73 zi74 zi75 zi76 zi77 zi78 zi79 zi80 zi81 zi82 zi83 zi84 zi85 zi86 zi87 zi88 zi89 zi90 zi91 zi92 zi93 zi94 zi95 zi96 zi97 zi98 zi99 zi100 zi101 zi102 zi103 zi104 zi105 zi106 zi107 zi108 zi109 zi110 zi111 zi112 zi113 zi114 zi115 zi116 zi117 zi118 zi119 zi120 zi121 zi122 zi123 zi124 zi125 zi126 zi127 zi128 zi129 zi130 zi131 zi132 zi133 zi134 zi135 zi136 u225 u226 u227 u228 u229 u230 u231 u232 u233 u234 u235 u236 u237 j hj HK hjl hj4 b off HA HREAD hd1 hd2 zi137 zi138 zi139 wa HKa p4 wb HKb K M S zi140 zi141 zi142 hkb HB5 hK1 hS1 HSB H HH eH hH14 zi143 w5 HK5 pt HC0 HPT HRB HTB wy u82 u83 u84 u85 u86 u87 u88 u89 u90 u91 u92 u93 u94 u95 u96 u97 u98 u99 u100 u101 u102 u103 u104 HKY hi HBC hiH HBY T9 HTC0 HTI HRW HBW HFT HEN zi144 zi145 zi146 L w V a7 c7 X7 h7 h7s a8 c8 h8 c9z HKj HK18 w19 aw cw Xw hcw HLW HK19 X9 hc9 b8 o8 HL18 HLP H1 HLC HH1 hb8 zi147 zi148 wl HKL HLP2 HLW2 HLC2 g14 HG HLS wx u2 u16 u17 u18 u19 u20 u21 u22 u23 u24 u25 u26 u27 u127 u128 u129 u130 u131 u132 u133 u134 u135 u136 u137 zi149 zi150 zi151 zi152 zi153 zi154 zi155 zi156 zi157 zi158 zi159 zi160 zi161 zi162 zi163 zi164 zi165 zi166 zi167 u157 u158 u159 u160 u161 u162 u163 u164 u165 u166 u167 u168 u169 u170 u171 u172 u173 u174 u175 u176 u177 u178 u179 u180 u181 u182 u183 u184 u185 u186 u187 u188 u189 u190 u191 u192 u193 u194 u195 u196 u197 u198 u199 u200 u201 u202 u203 u204 u205 u206 u207 u208 u209 u210 u211 u212 u213 u214 u215 u216 u217 u218 u219 u220 u221 u222 u223 u224 q hq HKX hq3 hd3 cap X HXS HBX zi168 zi169 zi170 wE a2 cap2 HKE zi171 wj u138 u139 u140 u141 u142 u143 u144 u145 u146 u147 u148 u149 u150 u151 u152 u153 u154 u155 u156 HKJ HTJ zi172 zi173 zi174 hlc HXL HOW hn HO2 hnl hlc3 HIN ba oa HCU HXX B G HVF HE4 HEQ hKc HSZ9 HRR zi175 zi176 zi177 zi178 zi179 zi180 zi181 hlH hlH2 hba e w30 hlo hgo HK30 c0 c1 c2 hlost
                              exact HCUT1.out
                          · skip
                            rename_i zi0 zi1 zi2 zi3 zi4 zi5 zi6 zi7 zi8 zi9 zi10 zi11 zi12 zi13 zi14 zi15 zi16 zi17 zi18 zi19 zi20 zi21 zi22 zi23 zi24 zi25 zi26 zi27 zi28 zi29 zi30 zi31 zi32 zi33 zi34 zi35 zi36 zi37 zi38 zi39 zi40 zi41 zi42 zi43 zi44 zi45 zi46 zi47 zi48 zi49 zi50 zi51 zi52 zi53 zi54 zi55 zi56 zi57 zi58 zi59 zi60 zi61 zi62 zi63 zi64 zi65 zi66 zi67 zi68 zi69 zi70 zi71 zi72 zi73 zi74 zi75 zi76 zi77 zi78 zi79 zi80 zi81 zi82 zi83 zi84 zi85 zi86 zi87 zi88 zi89 zi90 zi91 zi92 zi93 zi94 zi95 zi96 zi97 zi98 zi99 zi100 zi101 zi102 zi103 zi104 zi105 zi106 zi107 zi108 zi109 zi110 zi111 zi112 zi113 zi114 zi115 zi116 zi117 zi118 zi119 zi120 zi121 zi122 zi123 zi124 zi125 zi126 zi127 zi128 zi129 zi130 zi131 zi132 zi133 zi134 zi135 zi136 zi137 zi138 zi139 zi140 zi141 zi142 zi143 zi144 zi145 zi146 zi147 zi148 zi149 zi150 zi151 zi152 zi153 zi154 zi155 zi156 zi157 zi158 zi159 zi160 zi161 zi162 zi163 zi164 zi165 zi166 zi167 zi168 zi169 zi170 zi171 zi172
                            clear HCUT0 HCUT1 HCUT3
                            revert ls cs al ll cl ss ab lb cb T W hlb HTT iBo HIBo zi0 w1 HK1 w2 HK2 hll hls HSZ zi1 zi2 wr zi3 u4 u5 u6 u7 u8 u9 u10 u11 u12 u13 u14 u15 zi4 zi5 zi6 zi7 zi8 zi9 zi10 zi11 zi12 zi13 zi14 zi15 u28 u29 u32 u33 u34 u35 u36 u37 u38 u39 u40 u41 u42 u43 u44 u45 u46 u47 u48 u49 u50 u51 u52 u53 u54 u55 u56 u57 u58 u59 u60 u61 u62 u63 u64 u65 u66 u67 u68 u69 u70 u71 u72 u73 u74 u75 u76 u77 u78 u79 u80 u81 zi16 zi17 zi18 zi19 zi20 zi21 zi22 zi23 zi24 zi25 zi26 zi27 zi28 zi29 zi30 zi31 zi32 zi33 zi34 zi35 zi36 zi37 zi38 u105 u106 u107 u108 u109 u110 u111 u112 u113 u114 u115 u116 u117 u118 u119 u120 u121 u122 u123 u124 u125 u126 zi39 zi40 zi41 zi42 zi43 zi44 zi45 zi46 zi47 zi48 zi49 zi50 zi51 zi52 zi53 zi54 zi55 zi56 zi57 zi58 zi59 zi60 zi61 zi62 zi63 zi64 zi65 zi66 zi67 zi68 zi69 zi70 zi71 zi72 zi73 zi74 zi75 zi76 zi77 zi78 zi79 zi80 zi81 zi82 zi83 zi84 zi85 zi86 zi87 zi88 zi89 zi90 zi91 zi92 zi93 zi94 zi95 zi96 zi97 zi98 zi99 zi100 zi101 zi102 zi103 zi104 zi105 zi106 zi107 zi108 zi109 zi110 zi111 zi112 zi113 zi114 zi115 zi116 zi117 zi118 zi119 zi120 zi121 zi122 zi123 zi124 zi125 zi126 zi127 zi128 zi129 zi130 zi131 zi132 zi133 zi134 zi135 zi136 u225 u226 u227 u228 u229 u230 u231 u232 u233 u234 u235 u236 u237 j hj HK hjl hj4 b off HA HREAD hd1 hd2 zi137 zi138 zi139 wa HKa p4 wb HKb K M S zi140 zi141 zi142 hkb HB5 hK1 hS1 HSB H HH eH hH14 zi143 w5 HK5 pt HC0 HPT HRB HTB wy u82 u83 u84 u85 u86 u87 u88 u89 u90 u91 u92 u93 u94 u95 u96 u97 u98 u99 u100 u101 u102 u103 u104 HKY hi HBC hiH HBY T9 HTC0 HTI HRW HBW HFT HEN zi144 zi145 zi146 L w V a7 c7 X7 h7 h7s a8 c8 h8 c9z HKj HK18 w19 aw cw Xw hcw HLW HK19 X9 hc9 b8 o8 HL18 HLP H1 HLC HH1 hb8 zi147 zi148 wl HKL HLP2 HLW2 HLC2 g14 HG HLS wx u2 u16 u17 u18 u19 u20 u21 u22 u23 u24 u25 u26 u27 u127 u128 u129 u130 u131 u132 u133 u134 u135 u136 u137 zi149 zi150 zi151 zi152 zi153 zi154 zi155 zi156 zi157 zi158 zi159 zi160 zi161 zi162 zi163 zi164 zi165 zi166 zi167 u157 u158 u159 u160 u161 u162 u163 u164 u165 u166 u167 u168 u169 u170 u171 u172 u173 u174 u175 u176 u177 u178 u179 u180 u181 u182 u183 u184 u185 u186 u187 u188 u189 u190 u191 u192 u193 u194 u195 u196 u197 u198 u199 u200 u201 u202 u203 u204 u205 u206 u207 u208 u209 u210 u211 u212 u213 u214 u215 u216 u217 u218 u219 u220 u221 u222 u223 u224 q hq HKX hq3 hd3 l hlH a cap X hlc HCU HXX HXS HXL HBX zi168 zi169 zi170 wE a2 cap2 HOW HKE zi171 zi172 wj u138 u139 u140 u141 u142 u143 u144 u145 u146 u147 u148 u149 u150 u151 u152 u153 u154 u155 u156 HKJ hn HO2 hnl HTJ hlc3 HIN c0 c1 c2 hlH2
                            exact HCUT2.out
                    · skip
                      rename_i zi0 zi1 zi2 zi3 zi4 zi5 zi6 zi7 zi8 zi9 zi10 zi11 zi12 zi13 zi14 zi15 zi16 zi17 zi18 zi19 zi20 zi21 zi22 zi23 zi24 zi25 zi26 zi27 zi28 zi29 zi30 zi31 zi32 zi33 zi34 zi35 zi36 zi37 zi38 zi39 zi40 zi41 zi42 zi43 zi44 zi45 zi46 zi47 zi48 zi49 zi50 zi51 zi52 zi53 zi54 zi55 zi56 zi57 zi58 zi59 zi60 zi61 zi62 zi63 zi64 zi65 zi66 zi67 zi68 zi69 zi70 zi71 zi72 zi73 zi74 zi75 zi76 zi77 zi78 zi79 zi80 zi81 zi82 zi83 zi84 zi85 zi86 zi87 zi88 zi89 zi90 zi91 zi92 zi93 zi94 zi95 zi96 zi97 zi98 zi99 zi100 zi101 zi102 zi103 zi104 zi105 zi106 zi107 zi108 zi109 zi110 zi111 zi112 zi113 zi114 zi115 zi116 zi117 zi118 zi119 zi120 zi121 zi122 zi123 zi124 zi125 zi126 zi127 zi128 zi129 zi130 zi131 zi132 zi133 zi134 zi135 zi136 zi137 zi138 zi139 zi140 zi141 zi142 zi143 zi144 zi145
                      clear HCUT0 HCUT1 HCUT2
                      revert ls cs al ll cl ss ab lb cb T W hlb HTT iBo HIBo zi0 w1 HK1 w2 HK2 hll hls HSZ zi1 zi2 wr zi3 u4 u5 u6 u7 u8 u9 u10 u11 u12 u13 u14 u15 zi4 zi5 zi6 zi7 zi8 zi9 zi10 zi11 zi12 zi13 zi14 zi15 u28 u29 u32 u33 u34 u35 u36 u37 u38 u39 u40 u41 u42 u43 u44 u45 u46 u47 u48 u49 u50 u51 u52 u53 u54 u55 u56 u57 u58 u59 u60 u61 u62 u63 u64 u65 u66 u67 u68 u69 u70 u71 u72 u73 u74 u75 u76 u77 u78 u79 u80 u81 zi16 zi17 zi18 zi19 zi20 zi21 zi22 zi23 zi24 zi25 zi26 zi27 zi28 zi29 zi30 zi31 zi32 zi33 zi34 zi35 zi36 zi37 zi38 u105 u106 u107 u108 u109 u110 u111 u112 u113 u114 u115 u116 u117 u118 u119 u120 u121 u122 u123 u124 u125 u126 zi39 zi40 zi41 zi42 zi43 zi44 zi45 zi46 zi47 zi48 zi49 zi50 zi51 zi52 zi53 zi54 zi55 zi56 zi57 zi58 zi59 zi60 zi61 zi62 zi63 zi64 zi65 zi66 zi67 zi68 zi69 zi70 zi71 zi72 zi73 zi74 zi75 zi76 zi77 zi78 zi79 zi80 zi81 zi82 zi83 zi84 zi85 zi86 zi87 zi88 zi89 zi90 zi91 zi92 zi93 zi94 zi95 zi96 zi97 zi98 zi99 zi100 zi101 zi102 zi103 zi104 zi105 zi106 zi107 zi108 zi109 zi110 zi111 zi112 zi113 zi114 zi115 zi116 zi117 zi118 zi119 zi120 zi121 zi122 zi123 zi124 zi125 zi126 zi127 zi128 zi129 zi130 zi131 zi132 zi133 zi134 zi135 zi136 u225 u226 u227 u228 u229 u230 u231 u232 u233 u234 u235 u236 u237 j hj HK hjl hj4 b off HA HREAD hd1 hd2 zi137 zi138 zi139 wa HKa p4 wb HKb K M S c0 c1 c2 hkb HB5 hK1 hS1 HSB H HH eH hH14 zi140 w5 HK5 pt HC0 HPT HRB HTB wy u82 u83 u84 u85 u86 u87 u88 u89 u90 u91 u92 u93 u94 u95 u96 u97 u98 u99 u100 u101 u102 u103 u104 HKY hi HBC hiH HBY T9 HTC0 HTI HRW HBW HFT HEN zi141 zi142 zi143 L w V a7 c7 X7 h7 h7s a8 c8 h8 c9z HKj HK18 w19 aw cw Xw hcw HLW HK19 X9 hc9 b8 o8 HL18 HLP H1 HLC HH1 hb8 zi144 zi145 wl HKL HLP2 HLW2 HLC2 g14 HG HLS wx u2 u16 u17 u18 u19 u20 u21 u22 u23 u24 u25 u26 u27 u127 u128 u129 u130 u131 u132 u133 u134 u135 u136 u137 u138 u139 u140 u141 u142 u143 u144 u145 u146 u147 u148 u149 u150 u151 u152 u153 u154 u155 u156 u157 u158 u159 u160 u161 u162 u163 u164 u165 u166 u167 u168 u169 u170 u171 u172 u173 u174 u175 u176 u177 u178 u179 u180 u181 u182 u183 u184 u185 u186 u187 u188 u189 u190 u191 u192 u193 u194 u195 u196 u197 u198 u199 u200 u201 u202 u203 u204 u205 u206 u207 u208 u209 u210 u211 u212 u213 u214 u215 u216 u217 u218 u219 u220 u221 u222 u223 u224 q hq HKX hq3
                      exact HCUT3.out
          · skip
            clear HCUT0 HCUT1 HCUT2 HCUT3
            have hBf : shpB k m s = false := by simpa using hB
            have HSB := Lib.hid hBf
            rw [hBf]
            clear hB hBf
            have HRB := Lib.hid (show ∀ w, Kept wb w → w.cell? ⟨W.heap.size, 0, none⟩ = some (.slice (some ⟨b, off, none⟩) ls cs) ∧ w.cell? ⟨W.heap.size, 1, none⟩ = some (.slice al ll cl) ∧ w.cell? ⟨W.heap.size, 2, none⟩ = some (.slice ab lb cb) from fun w q => HREAD.out _ ((HKa.out.trans HKb.out).trans q))
            obtain ⟨a0, a1, a2⟩ := HRB.out _ (Kept.refl _)
            go_wp2_with fail
            refine (rebuild_shape k m s al ab ll cl lb cb _ HSB.out).mono ?_
            rintro e wc ⟨rfl, hkc⟩
            have HKc := Lib.hid hkc
            clear a0 a1 a2 c0 c1 c2
            obtain ⟨a0, a1, a2⟩ := HRB.out _ hkc
            obtain ⟨c0, c1, c2⟩ := box3c (HB5.out.kept hkc)
            clear hkc
            go_wp2_with fail
            refine (verify_shape k m s al ll cl _ HSB.out).mono ?_
            rintro e wd ⟨rfl, hkd⟩
            have HKd := Lib.hid (((HKa.out.trans HKb.out).trans HKc.out).trans hkd)
            clear hkd a0 a1 a2 c0 c1 c2
            go_wp2_with fail
            refine (num4_any _ _).mono ?_
            rintro e w' ⟨rfl, rfl⟩
            go_wp2_with fail
            refine (num4_any _ _).mono ?_
            rintro e w' ⟨rfl, rfl⟩
            go_wp2_with fail
            go_roundw
            case rel => exact ⟨j + 1, by omega, by go_num, HKd.out⟩
            case measure => simp [intOf]; omega
        · skip
          clear HCUT0 HCUT1 HCUT2 HCUT3
          have hd1 : decide ((j : Int) < ls) = true := decide_eq_true (by omega)
          have hd2 : decide ((j : Int) < 4) = false := decide_eq_false (by omega)
          go_wp2_with fail
          refine (wakes4_any _).mono ?_
          rintro e w' ⟨rfl, hk9⟩
          have HK9 := Lib.hid ((HK1.out.trans HK.out).trans hk9)
          clear hk9
          go_wp2
          go_ret
          exact ⟨rfl, HK9.out⟩
      · skip
        clear HCUT0 HCUT1 HCUT2 HCUT3
        have hd1 : decide ((j : Int) < ls) = false := decide_eq_false (by omega)
        go_wp2_with fail
        refine (wakes4_any _).mono ?_
        rintro e w' ⟨rfl, hk9⟩
        have HK9 := Lib.hid ((HK1.out.trans HK.out).trans hk9)
        clear hk9
        go_wp2
        go_ret
        exact ⟨rfl, HK9.out⟩

  ⟩
end Go.Proofs.Ytoonpnpooljmlaa
