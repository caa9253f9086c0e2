/- siloref1.swap, by what it does (sides within bounds, numbers below 256). -/
import Derived.Test.YtlpjpeonejbpjaaMatC
import Derived.Test.YtlpjpeonejbpjaaRefM
import Derived.Test.YtlpjpeonejbpjaaInvAny
namespace Go.Proofs.Ytlpjpeonejbpjaa

/-- a matrix from its column c on -/
def sh (c : Nat) (F : Nat → Nat → Nat) : Nat → Nat → Nat := fun i j => F i (c + j)
theorem sh_bt {F : Nat → Nat → Nat} (h : Bt F) (c : Nat) : Bt (sh c F) := fun _ _ => h _ _
theorem sh_swap (c a t : Nat) (F : Nat → Nat → Nat) : swapF (sh c F) a t = sh c (swapF F a t) := rfl
theorem sh_scale (c a v : Nat) (F : Nat → Nat → Nat) : scaleF (sh c F) a v = sh c (scaleF F a v) := rfl
theorem sh_add (c a t v : Nat) (F : Nat → Nat → Nat) : addF (sh c F) a t v = sh c (addF F a t v) := rfl
theorem sh_beside (c : Nat) (F : Nat → Nat → Nat) : sh c (beside c F oneF) = oneF := by
  funext i j
  exact beside_right c i j F oneF
/-- two rows changed places as far as column k -/
def swTo (F : Nat → Nat → Nat) (a t k : Nat) : Nat → Nat → Nat := fun i j => if j < k then swapF F a t i j else F i j
theorem swTo_zero (F : Nat → Nat → Nat) (a t : Nat) : swTo F a t 0 = F := by
  funext i j
  simp [swTo]
theorem swTo_at (F : Nat → Nat → Nat) (a t k i : Nat) : swTo F a t k i k = F i k := by simp [swTo]
theorem swTo_succ (F : Nat → Nat → Nat) (a t k : Nat) : upd (upd (swTo F a t k) a k (F t k)) t k (F a k) = swTo F a t (k + 1) := by
  funext i j
  unfold upd swTo
  by_cases e : j = k
  · subst e
    rw [if_neg (Nat.lt_irrefl j), if_pos (Nat.lt_succ_self j)]
    unfold swapF
    by_cases h1 : i = t
    · subst h1
      by_cases h2 : i = a
      · subst h2; simp
      · simp [h2]
    · by_cases h2 : i = a
      · subst h2; simp [h1]
      · simp [h1, h2]
  · have h : j < k + 1 ↔ j < k := by omega
    simp [e, h]
/-- one more row made 0 in the column, or left since it is the top one -/
theorem elim_top (F : Nat → Nat → Nat) (t col n : Nat) (h : n = t) : elimTo F t col n = elimTo F t col (n + 1) := by
  subst h
  exact (elimTo_top F n col).symm
theorem elim_row (F : Nat → Nat → Nat) (t col n : Nat) (h : n ≠ t) : addF (elimTo F t col n) n t (elimTo F t col n n col) = elimTo F t col (n + 1) := by
  rw [elimTo_at]
  exact elimTo_succ F t col n h

open Go.RowKit

/-- one more value -/
def vset (V : Nat → Value) (i : Nat) (x : Value) : Nat → Value := fun j => if j = i then x else V j
theorem vset_same (V : Nat → Value) (i : Nat) (x : Value) : vset V i x i = x := if_pos rfl
theorem vset_other (V : Nat → Value) {i j : Nat} (x : Value) (h : j ≠ i) : vset V i x j = V j := if_neg h
theorem vset_ok {L L' : Nat → Prop} {V val : Nat → Value} {i : Nat} (hV : ∀ j, L j → V j = val j) (hL : ∀ j, L' j ↔ (j = i ∨ L j)) : ∀ j, L' j → vset V i (val i) j = val j := fun j hj => by
  by_cases e : j = i
  · subst e; exact vset_same _ _ _
  · rw [vset_other _ _ e]
    exact hV j (((hL j).1 hj).resolve_left e)
theorem wanted_free {o : Oper} (h : o.guard = none) (y : Nat → Option Bool) : Region.wanted o y = true := by unfold Region.wanted; rw [h]
/-- the worlds of two stores in turn -/
structure SwW (w0 w1 w2 : World) (L : Nat → Prop) (w : World) : Prop where
  d : L 37 → L 25 ∧ L 35
  e : L 39 → L 37
  s0 : ¬ L 37 → w = w0
  s1 : L 37 → ¬ L 39 → w = w1
  s2 : L 39 → w = w2
theorem SwW.more {w0 w1 w2 w : World} {L L' : Nat → Prop} {i : Nat} (h : SwW w0 w1 w2 L w) (hi : 37 ≠ i ∧ 39 ≠ i) (hL : ∀ j, L' j ↔ (j = i ∨ L j)) : SwW w0 w1 w2 L' w := by
  have h7 : L' 37 ↔ L 37 := by rw [hL]; exact ⟨fun h => h.resolve_left hi.1, .inr⟩
  have h9 : L' 39 ↔ L 39 := by rw [hL]; exact ⟨fun h => h.resolve_left hi.2, .inr⟩
  exact ⟨fun x => ⟨(hL 25).2 (.inr (h.d (h7.1 x)).1), (hL 35).2 (.inr (h.d (h7.1 x)).2)⟩, fun x => h7.2 (h.e (h9.1 x)), fun x => h.s0 (fun y => x (h7.2 y)), fun x y => h.s1 (h7.1 x) (fun z => y (h9.2 z)), fun x => h.s2 (h9.1 x)⟩
theorem SwW.either {w0 w1 w2 w : World} {L : Nat → Prop} (h : SwW w0 w1 w2 L w) : w = w0 ∨ w = w1 ∨ w = w2 := by
  by_cases h7 : L 37
  · by_cases h9 : L 39
    · exact .inr (.inr (h.s2 h9))
    · exact .inr (.inl (h.s1 h7 h9))
  · exact .inl (h.s0 h7)
theorem SwW.first {w0 w1 w2 w : World} {L L' : Nat → Prop} (h : SwW w0 w1 w2 L w) (ho : ¬ L 37) (h5 : L 25) (h6 : L 35) (hL : ∀ j, L' j ↔ (j = 37 ∨ L j)) : SwW w0 w1 w2 L' w1 := by
  have h7 : L' 37 := (hL 37).2 (.inl rfl)
  have h9 : ¬ L' 39 := fun x => ho (h.e (((hL 39).1 x).resolve_left (by decide)))
  exact ⟨fun _ => ⟨(hL 25).2 (.inr h5), (hL 35).2 (.inr h6)⟩, fun _ => h7, fun x => absurd h7 x, fun _ _ => rfl, fun x => absurd x h9⟩
theorem SwW.second {w0 w1 w2 w : World} {L L' : Nat → Prop} (h : SwW w0 w1 w2 L w) (h7 : L 37) (hL : ∀ j, L' j ↔ (j = 39 ∨ L j)) : SwW w0 w1 w2 L' w2 := by
  have h7' : L' 37 := (hL 37).2 (.inr h7)
  have h9 : L' 39 := (hL 39).2 (.inl rfl)
  exact ⟨fun _ => ⟨(hL 25).2 (.inr (h.d h7).1), (hL 35).2 (.inr (h.d h7).2)⟩, fun _ => h7', fun x => absurd h7' x, fun _ x => absurd h9 x, fun _ => rfl⟩
set_option maxRecDepth 100000 in
set_option maxHeartbeats 8000000 in
theorem rswap (r c b off cap a t : Nat) (F : Nat → Nat → Nat) (hF : Bt F) (hr : r ≤ 16) (hc : c ≤ 16) (ha : a < r) (ht : t < r) (w : World) (h : Mat w b off r c F) :
    Calls Try.prog 91 #[.agg #[.int .i64 r, .int .i64 c, .slice (some ⟨b, off, none⟩) (r * c) cap], .int .i64 a, .int .i64 t] w fun e w' => (∃ u, e = .returned u) ∧ Mat w' b off r c (swapF F a t) ∧ w.grownBy w' (some b) := by
  have k1 : Kept w (w.alloc (.cells #[.int .i64 r, .int .i64 c, .slice (some ⟨b, off, none⟩) (r * c) cap] 50)) := (Kept.refl w).alloc _
  have hb := BlockAt.new w #[.int .i64 r, .int .i64 c, .slice (some ⟨b, off, none⟩) (r * c) cap] 50
  have HM := Lib.hid (h.kept k1)
  have HB := Lib.hid hb
  have HG := Lib.hid (grown_kept k1 (some b))
  have hbl := h.lt
  have hm := mul_cast a c
  have hmt := mul_cast t c
  have hrc := Nat.mul_le_mul hr hc
  have HAC := Lib.hid (fun k (hk : k < c) => idx_lt (r := r) ha hk)
  have HTC := Lib.hid (fun k (hk : k < c) => idx_lt (r := r) ht hk)
  clear h hb k1
  go_enter Try.func91, Try.ntmps91
  go_wp2
  generalize w.alloc (.cells #[.int .i64 r, .int .i64 c, .slice (some ⟨b, off, none⟩) (r * c) cap] 50) = w1 at *
  go_loopw [6] (fun i wr => ∃ k : Nat, k ≤ c ∧ i = .int .i64 k ∧ Mat wr b off r c (swTo F a t k) ∧ w1.grownBy wr (some b)) (fun i _ => c - (intOf i).toNat)
  case atStart => exact ⟨0, by omega, rfl, by rw [swTo_zero]; exact HM.out, grown_refl _ _⟩
  case round =>
    obtain ⟨k, hk, rfl, hmr, hg⟩ := hrel
    obtain ⟨x0, x1, x2⟩ := box3 (HB.out.grown hg (by simp; omega))
    by_cases hlt : k < c
    · have hmd := hmr.kept (Kept.refl wr).drew
      have hcell := hmd.cell a k ha hlt
      have hcell2 := hmd.cell t k ht hlt
      rw [swTo_at, Nat.add_assoc] at hcell hcell2
      have hst := (hmd.set ha hlt (F t k)).set ht hlt (F a k)
      rw [swTo_succ, Nat.add_assoc, Nat.add_assoc] at hst
      have hst1 := (hmd.set ha hlt (F t k)).cell t k ht hlt
      rw [Nat.add_assoc, Nat.add_assoc] at hst1
      generalize upd (swTo F a t k) a k (F t k) t k = z at hst1
      have hfree := hmd.free (off + (a * c + k))
      have hfree2 := (hmd.set ha hlt (F t k)).free (off + (t * c + k))
      rw [Nat.add_assoc] at hfree2
      have hx := hF a k
      have hy := hF t k
      have hlt2 := HAC.out k hlt
      have hlt3 := HTC.out k hlt
      have hsum : ((a * c : Nat) : Int) + (k : Int) = ((a * c + k : Nat) : Int) := by simp
      have hsumt : ((t * c : Nat) : Int) + (k : Int) = ((t * c + k : Nat) : Int) := by simp
      generalize F a k = x at hcell hst hx
      generalize F t k = y at hcell2 hst hst1 hfree2 hy
      have g0 := (grown_kept (Kept.refl wr).drew (some b))
      have g1 := grown_trans g0 (grown_set wr.drew b (off + (a * c + k)) (.int .u8 (y : Int)))
      have g2 := grown_trans g1 (grown_set (wr.drew.setCell ⟨b, off + (a * c + k), none⟩ (.int .u8 (y : Int))) b (off + (t * c + k)) (.int .u8 (x : Int)))
      have HST := Lib.hid (And.intro hst (grown_trans hg g2))
      have hbx := fun w' (hw : w' = wr.drew ∨ w' = wr.drew.setCell ⟨b, off + (a * c + k), none⟩ (.int .u8 (y : Int)) ∨ w' = (wr.drew.setCell ⟨b, off + (a * c + k), none⟩ (.int .u8 (y : Int))).setCell ⟨b, off + (t * c + k), none⟩ (.int .u8 (x : Int))) =>
        box3 (HB.out.grown (grown_trans hg (show wr.grownBy w' (some b) by rcases hw with rfl | rfl | rfl <;> assumption)) (by simp; omega))
      have HBX := Lib.hid hbx
      clear hmr hg hst hmd g0 g1 g2 hbx
      generalize hac : a * c = ac at *
      generalize hak : ac + k = ak at *
      generalize htc : t * c = tc at *
      generalize htk : tc + k = tk at *
      have H1 := Lib.hid hac
      have H2 := Lib.hid hak
      have H3 := Lib.hid htc
      have H4 := Lib.hid htk
      clear hac hak htc htk
      generalize hLn : r * c = Ln at *
      have HLn := Lib.hid hLn
      clear hLn
      have i0 : (0 : Int) ≤ (ak : Int) := by omega
      have i1 : (ak : Int) < (Ln : Int) := by omega
      have i2 : (0 : Int) ≤ (tk : Int) := by omega
      have i3 : (tk : Int) < (Ln : Int) := by omega
      go_wp2_with fail
      have HC := Lib.hid hcell
      have HC2 := Lib.hid hcell2
      have HS1 := Lib.hid hst1
      have HF1 := Lib.hid hfree
      have HF2 := Lib.hid hfree2
      clear hcell hcell2 hst1 hfree hfree2 x0 x1 x2
      have wa := wrap_i64_nat ac (by omega)
      have wk := wrap_i64_nat ak (by omega)
      have wt := wrap_i64_nat tc (by omega)
      have wtk := wrap_i64_nat tk (by omega)
      let val : Nat → Value := fun j => ([.pointer (some ⟨w.heap.size, 2, none⟩), .slice (some ⟨b, off, none⟩) Ln cap, .int .i64 a, .pointer (some ⟨w.heap.size, 1, none⟩), .int .i64 c, .int .i64 ac, .int .i64 k, .int .i64 ak, .pointer (some ⟨w.heap.size, 2, none⟩), .slice (some ⟨b, off, none⟩) Ln cap, .int .i64 t, .pointer (some ⟨w.heap.size, 1, none⟩), .int .i64 c, .int .i64 tc, .int .i64 k, .int .i64 tk, .pointer (some ⟨w.heap.size, 2, none⟩), .slice (some ⟨b, off, none⟩) Ln cap, .int .i64 t, .pointer (some ⟨w.heap.size, 1, none⟩), .int .i64 c, .int .i64 tc, .int .i64 k, .int .i64 tk, .pointer (some ⟨b, off + tk, none⟩), .int .u8 (y : Int), .pointer (some ⟨w.heap.size, 2, none⟩), .slice (some ⟨b, off, none⟩) Ln cap, .int .i64 a, .pointer (some ⟨w.heap.size, 1, none⟩), .int .i64 c, .int .i64 ac, .int .i64 k, .int .i64 ak, .pointer (some ⟨b, off + ak, none⟩), .int .u8 (x : Int), .pointer (some ⟨b, off + ak, none⟩), undef, .pointer (some ⟨b, off + tk, none⟩)] : List Value).getD j undef
      refine wp_region_inv (fun L a' w' => ∃ V : Nat → Value, a' = { tmps := #[.agg #[.int .i64 r, .int .i64 c, .slice (some ⟨b, off, none⟩) Ln cap], .int .i64 a, .int .i64 t, .pointer (some ⟨w.heap.size, 0, none⟩), undef, undef, .int .i64 k, .int .i64 k, .pointer (some ⟨w.heap.size, 1, none⟩), .int .i64 c, .bool true, u11, u12, V 0, V 1, V 2, V 3, V 4, V 5, V 6, V 7, V 8, V 9, V 10, V 11, V 12, V 13, V 14, V 15, V 16, V 17, V 18, V 19, V 20, V 21, V 22, V 23, V 24, V 25, V 26, V 27, V 28, V 29, V 30, V 31, V 32, V 33, V 34, V 35, V 36, V 38], defers := [] } ∧ (∀ j, L j → V j = val j) ∧
        SwW wr.drew (wr.drew.setCell ⟨b, off + ak, none⟩ (.int .u8 (y : Int))) ((wr.drew.setCell ⟨b, off + ak, none⟩ (.int .u8 (y : Int))).setCell ⟨b, off + tk, none⟩ (.int .u8 (x : Int))) L w') (by kernel_rfl) (by kernel_rfl) ?hh0 ?hhs ?hhe
      case hh0 =>
        intro L hL
        exact ⟨fun j => ([u13, u14, u15, u16, u17, u18, u19, u20, u21, u22, u23, u24, u25, u26, u27, u28, u29, u30, u31, u32, u33, u34, u35, u36, u37, u38, u39, u40, u41, u42, u43, u44, u45, u46, u47, u48, u49, undef, u50] : List Value).getD j undef, rfl, fun j hj => by
          by_cases h : j < 40
          · exact absurd hj (hL j h)
          · simp [val, show ¬ j < 39 by omega], ⟨fun h => absurd h (hL _ (by decide)), fun h => absurd h (hL _ (by decide)), fun _ => rfl, fun h => absurd h (hL _ (by decide)), fun h => absurd h (hL _ (by decide))⟩⟩
      case hhs =>
        rintro L L' a' w' i o K ⟨V, rfl, hV, hW⟩ ho hopen hdep hL hK
        obtain ⟨x0, x1, x2⟩ := HBX.out _ hW.either
        match i, ho with
        | 0, ho =>
          simp only [List.getElem?_toArray, List.getElem?_cons_zero, Option.some.injEq] at ho
          subst ho
          rw [if_pos (wanted_free rfl _)]
          go_simp
          exact hK _ _ ⟨vset V 0 (val 0), by simp only [vset, Nat.reduceEqDiff, if_true, if_false]; rfl, vset_ok hV hL, hW.more (by decide) hL⟩
        | 1, ho =>
          simp only [List.getElem?_toArray, List.getElem?_cons_zero, List.getElem?_cons_succ, Option.some.injEq] at ho
          subst ho
          rw [if_pos (wanted_free rfl _)]
          have e0 : V 0 = .pointer (some ⟨w.heap.size, 2, none⟩) := hV 0 (hdep 0 (by kernel_rfl))
          simp only [e0]
          go_simp
          exact hK _ _ ⟨vset V 1 (val 1), by simp only [vset, Nat.reduceEqDiff, if_true, if_false, e0]; rfl, vset_ok hV hL, hW.more (by decide) hL⟩
        | 2, ho =>
          simp only [List.getElem?_toArray, List.getElem?_cons_zero, List.getElem?_cons_succ, Option.some.injEq] at ho
          subst ho
          rw [if_pos (wanted_free rfl _)]
          go_simp
          exact hK _ _ ⟨vset V 2 (val 2), by simp only [vset, Nat.reduceEqDiff, if_true, if_false]; rfl, vset_ok hV hL, hW.more (by decide) hL⟩
        | 3, ho =>
          simp only [List.getElem?_toArray, List.getElem?_cons_zero, List.getElem?_cons_succ, Option.some.injEq] at ho
          subst ho
          rw [if_pos (wanted_free rfl _)]
          go_simp
          exact hK _ _ ⟨vset V 3 (val 3), by simp only [vset, Nat.reduceEqDiff, if_true, if_false]; rfl, vset_ok hV hL, hW.more (by decide) hL⟩
        | 4, ho =>
          simp only [List.getElem?_toArray, List.getElem?_cons_zero, List.getElem?_cons_succ, Option.some.injEq] at ho
          subst ho
          rw [if_pos (wanted_free rfl _)]
          have e3 : V 3 = .pointer (some ⟨w.heap.size, 1, none⟩) := hV 3 (hdep 3 (by kernel_rfl))
          simp only [e3]
          go_simp
          exact hK _ _ ⟨vset V 4 (val 4), by simp only [vset, Nat.reduceEqDiff, if_true, if_false, e3]; rfl, vset_ok hV hL, hW.more (by decide) hL⟩
        | 5, ho =>
          simp only [List.getElem?_toArray, List.getElem?_cons_zero, List.getElem?_cons_succ, Option.some.injEq] at ho
          subst ho
          rw [if_pos (wanted_free rfl _)]
          have e2 : V 2 = .int .i64 a := hV 2 (hdep 2 (by kernel_rfl))
          have e4 : V 4 = .int .i64 c := hV 4 (hdep 4 (by kernel_rfl))
          simp only [e2, e4]
          go_simp
          exact hK _ _ ⟨vset V 5 (val 5), by simp only [vset, Nat.reduceEqDiff, if_true, if_false, e2, e4]; rfl, vset_ok hV hL, hW.more (by decide) hL⟩
        | 6, ho =>
          simp only [List.getElem?_toArray, List.getElem?_cons_zero, List.getElem?_cons_succ, Option.some.injEq] at ho
          subst ho
          rw [if_pos (wanted_free rfl _)]
          go_simp
          exact hK _ _ ⟨vset V 6 (val 6), by simp only [vset, Nat.reduceEqDiff, if_true, if_false]; rfl, vset_ok hV hL, hW.more (by decide) hL⟩
        | 7, ho =>
          simp only [List.getElem?_toArray, List.getElem?_cons_zero, List.getElem?_cons_succ, Option.some.injEq] at ho
          subst ho
          rw [if_pos (wanted_free rfl _)]
          have e5 : V 5 = .int .i64 ac := hV 5 (hdep 5 (by kernel_rfl))
          have e6 : V 6 = .int .i64 k := hV 6 (hdep 6 (by kernel_rfl))
          simp only [e5, e6]
          go_simp
          exact hK _ _ ⟨vset V 7 (val 7), by simp only [vset, Nat.reduceEqDiff, if_true, if_false, e5, e6]; rfl, vset_ok hV hL, hW.more (by decide) hL⟩
        | 8, ho =>
          simp only [List.getElem?_toArray, List.getElem?_cons_zero, List.getElem?_cons_succ, Option.some.injEq] at ho
          subst ho
          rw [if_pos (wanted_free rfl _)]
          go_simp
          exact hK _ _ ⟨vset V 8 (val 8), by simp only [vset, Nat.reduceEqDiff, if_true, if_false]; rfl, vset_ok hV hL, hW.more (by decide) hL⟩
        | 9, ho =>
          simp only [List.getElem?_toArray, List.getElem?_cons_zero, List.getElem?_cons_succ, Option.some.injEq] at ho
          subst ho
          rw [if_pos (wanted_free rfl _)]
          have e8 : V 8 = .pointer (some ⟨w.heap.size, 2, none⟩) := hV 8 (hdep 8 (by kernel_rfl))
          simp only [e8]
          go_simp
          exact hK _ _ ⟨vset V 9 (val 9), by simp only [vset, Nat.reduceEqDiff, if_true, if_false, e8]; rfl, vset_ok hV hL, hW.more (by decide) hL⟩
        | 10, ho =>
          simp only [List.getElem?_toArray, List.getElem?_cons_zero, List.getElem?_cons_succ, Option.some.injEq] at ho
          subst ho
          rw [if_pos (wanted_free rfl _)]
          go_simp
          exact hK _ _ ⟨vset V 10 (val 10), by simp only [vset, Nat.reduceEqDiff, if_true, if_false]; rfl, vset_ok hV hL, hW.more (by decide) hL⟩
        | 11, ho =>
          simp only [List.getElem?_toArray, List.getElem?_cons_zero, List.getElem?_cons_succ, Option.some.injEq] at ho
          subst ho
          rw [if_pos (wanted_free rfl _)]
          go_simp
          exact hK _ _ ⟨vset V 11 (val 11), by simp only [vset, Nat.reduceEqDiff, if_true, if_false]; rfl, vset_ok hV hL, hW.more (by decide) hL⟩
        | 12, ho =>
          simp only [List.getElem?_toArray, List.getElem?_cons_zero, List.getElem?_cons_succ, Option.some.injEq] at ho
          subst ho
          rw [if_pos (wanted_free rfl _)]
          have e11 : V 11 = .pointer (some ⟨w.heap.size, 1, none⟩) := hV 11 (hdep 11 (by kernel_rfl))
          simp only [e11]
          go_simp
          exact hK _ _ ⟨vset V 12 (val 12), by simp only [vset, Nat.reduceEqDiff, if_true, if_false, e11]; rfl, vset_ok hV hL, hW.more (by decide) hL⟩
        | 13, ho =>
          simp only [List.getElem?_toArray, List.getElem?_cons_zero, List.getElem?_cons_succ, Option.some.injEq] at ho
          subst ho
          rw [if_pos (wanted_free rfl _)]
          have e10 : V 10 = .int .i64 t := hV 10 (hdep 10 (by kernel_rfl))
          have e12 : V 12 = .int .i64 c := hV 12 (hdep 12 (by kernel_rfl))
          simp only [e10, e12]
          go_simp
          exact hK _ _ ⟨vset V 13 (val 13), by simp only [vset, Nat.reduceEqDiff, if_true, if_false, e10, e12]; rfl, vset_ok hV hL, hW.more (by decide) hL⟩
        | 14, ho =>
          simp only [List.getElem?_toArray, List.getElem?_cons_zero, List.getElem?_cons_succ, Option.some.injEq] at ho
          subst ho
          rw [if_pos (wanted_free rfl _)]
          go_simp
          exact hK _ _ ⟨vset V 14 (val 14), by simp only [vset, Nat.reduceEqDiff, if_true, if_false]; rfl, vset_ok hV hL, hW.more (by decide) hL⟩
        | 15, ho =>
          simp only [List.getElem?_toArray, List.getElem?_cons_zero, List.getElem?_cons_succ, Option.some.injEq] at ho
          subst ho
          rw [if_pos (wanted_free rfl _)]
          have e13 : V 13 = .int .i64 tc := hV 13 (hdep 13 (by kernel_rfl))
          have e14 : V 14 = .int .i64 k := hV 14 (hdep 14 (by kernel_rfl))
          simp only [e13, e14]
          go_simp
          exact hK _ _ ⟨vset V 15 (val 15), by simp only [vset, Nat.reduceEqDiff, if_true, if_false, e13, e14]; rfl, vset_ok hV hL, hW.more (by decide) hL⟩
        | 16, ho =>
          simp only [List.getElem?_toArray, List.getElem?_cons_zero, List.getElem?_cons_succ, Option.some.injEq] at ho
          subst ho
          rw [if_pos (wanted_free rfl _)]
          go_simp
          exact hK _ _ ⟨vset V 16 (val 16), by simp only [vset, Nat.reduceEqDiff, if_true, if_false]; rfl, vset_ok hV hL, hW.more (by decide) hL⟩
        | 17, ho =>
          simp only [List.getElem?_toArray, List.getElem?_cons_zero, List.getElem?_cons_succ, Option.some.injEq] at ho
          subst ho
          rw [if_pos (wanted_free rfl _)]
          have e16 : V 16 = .pointer (some ⟨w.heap.size, 2, none⟩) := hV 16 (hdep 16 (by kernel_rfl))
          simp only [e16]
          go_simp
          exact hK _ _ ⟨vset V 17 (val 17), by simp only [vset, Nat.reduceEqDiff, if_true, if_false, e16]; rfl, vset_ok hV hL, hW.more (by decide) hL⟩
        | 18, ho =>
          simp only [List.getElem?_toArray, List.getElem?_cons_zero, List.getElem?_cons_succ, Option.some.injEq] at ho
          subst ho
          rw [if_pos (wanted_free rfl _)]
          go_simp
          exact hK _ _ ⟨vset V 18 (val 18), by simp only [vset, Nat.reduceEqDiff, if_true, if_false]; rfl, vset_ok hV hL, hW.more (by decide) hL⟩
        | 19, ho =>
          simp only [List.getElem?_toArray, List.getElem?_cons_zero, List.getElem?_cons_succ, Option.some.injEq] at ho
          subst ho
          rw [if_pos (wanted_free rfl _)]
          go_simp
          exact hK _ _ ⟨vset V 19 (val 19), by simp only [vset, Nat.reduceEqDiff, if_true, if_false]; rfl, vset_ok hV hL, hW.more (by decide) hL⟩
        | 20, ho =>
          simp only [List.getElem?_toArray, List.getElem?_cons_zero, List.getElem?_cons_succ, Option.some.injEq] at ho
          subst ho
          rw [if_pos (wanted_free rfl _)]
          have e19 : V 19 = .pointer (some ⟨w.heap.size, 1, none⟩) := hV 19 (hdep 19 (by kernel_rfl))
          simp only [e19]
          go_simp
          exact hK _ _ ⟨vset V 20 (val 20), by simp only [vset, Nat.reduceEqDiff, if_true, if_false, e19]; rfl, vset_ok hV hL, hW.more (by decide) hL⟩
        | 21, ho =>
          simp only [List.getElem?_toArray, List.getElem?_cons_zero, List.getElem?_cons_succ, Option.some.injEq] at ho
          subst ho
          rw [if_pos (wanted_free rfl _)]
          have e18 : V 18 = .int .i64 t := hV 18 (hdep 18 (by kernel_rfl))
          have e20 : V 20 = .int .i64 c := hV 20 (hdep 20 (by kernel_rfl))
          simp only [e18, e20]
          go_simp
          exact hK _ _ ⟨vset V 21 (val 21), by simp only [vset, Nat.reduceEqDiff, if_true, if_false, e18, e20]; rfl, vset_ok hV hL, hW.more (by decide) hL⟩
        | 22, ho =>
          simp only [List.getElem?_toArray, List.getElem?_cons_zero, List.getElem?_cons_succ, Option.some.injEq] at ho
          subst ho
          rw [if_pos (wanted_free rfl _)]
          go_simp
          exact hK _ _ ⟨vset V 22 (val 22), by simp only [vset, Nat.reduceEqDiff, if_true, if_false]; rfl, vset_ok hV hL, hW.more (by decide) hL⟩
        | 23, ho =>
          simp only [List.getElem?_toArray, List.getElem?_cons_zero, List.getElem?_cons_succ, Option.some.injEq] at ho
          subst ho
          rw [if_pos (wanted_free rfl _)]
          have e21 : V 21 = .int .i64 tc := hV 21 (hdep 21 (by kernel_rfl))
          have e22 : V 22 = .int .i64 k := hV 22 (hdep 22 (by kernel_rfl))
          simp only [e21, e22]
          go_simp
          exact hK _ _ ⟨vset V 23 (val 23), by simp only [vset, Nat.reduceEqDiff, if_true, if_false, e21, e22]; rfl, vset_ok hV hL, hW.more (by decide) hL⟩
        | 24, ho =>
          simp only [List.getElem?_toArray, List.getElem?_cons_zero, List.getElem?_cons_succ, Option.some.injEq] at ho
          subst ho
          rw [if_pos (wanted_free rfl _)]
          have e17 : V 17 = .slice (some ⟨b, off, none⟩) Ln cap := hV 17 (hdep 17 (by kernel_rfl))
          have e23 : V 23 = .int .i64 tk := hV 23 (hdep 23 (by kernel_rfl))
          simp only [e17, e23]
          go_simp
          exact hK _ _ ⟨vset V 24 (val 24), by simp only [vset, Nat.reduceEqDiff, if_true, if_false, e17, e23]; rfl, vset_ok hV hL, hW.more (by decide) hL⟩
        | 25, ho =>
          simp only [List.getElem?_toArray, List.getElem?_cons_zero, List.getElem?_cons_succ, Option.some.injEq] at ho
          subst ho
          rw [if_pos (wanted_free rfl _)]
          have e24 : V 24 = .pointer (some ⟨b, off + tk, none⟩) := hV 24 (hdep 24 (by kernel_rfl))
          simp only [e24]
          obtain rfl := hW.s0 (fun h => hopen (hW.d h).1)
          have hc := HC2.out
          go_simp
          exact hK _ _ ⟨vset V 25 (val 25), by simp only [vset, Nat.reduceEqDiff, if_true, if_false, e24]; rfl, vset_ok hV hL, hW.more (by decide) hL⟩
        | 26, ho =>
          simp only [List.getElem?_toArray, List.getElem?_cons_zero, List.getElem?_cons_succ, Option.some.injEq] at ho
          subst ho
          rw [if_pos (wanted_free rfl _)]
          go_simp
          exact hK _ _ ⟨vset V 26 (val 26), by simp only [vset, Nat.reduceEqDiff, if_true, if_false]; rfl, vset_ok hV hL, hW.more (by decide) hL⟩
        | 27, ho =>
          simp only [List.getElem?_toArray, List.getElem?_cons_zero, List.getElem?_cons_succ, Option.some.injEq] at ho
          subst ho
          rw [if_pos (wanted_free rfl _)]
          have e26 : V 26 = .pointer (some ⟨w.heap.size, 2, none⟩) := hV 26 (hdep 26 (by kernel_rfl))
          simp only [e26]
          go_simp
          exact hK _ _ ⟨vset V 27 (val 27), by simp only [vset, Nat.reduceEqDiff, if_true, if_false, e26]; rfl, vset_ok hV hL, hW.more (by decide) hL⟩
        | 28, ho =>
          simp only [List.getElem?_toArray, List.getElem?_cons_zero, List.getElem?_cons_succ, Option.some.injEq] at ho
          subst ho
          rw [if_pos (wanted_free rfl _)]
          go_simp
          exact hK _ _ ⟨vset V 28 (val 28), by simp only [vset, Nat.reduceEqDiff, if_true, if_false]; rfl, vset_ok hV hL, hW.more (by decide) hL⟩
        | 29, ho =>
          simp only [List.getElem?_toArray, List.getElem?_cons_zero, List.getElem?_cons_succ, Option.some.injEq] at ho
          subst ho
          rw [if_pos (wanted_free rfl _)]
          go_simp
          exact hK _ _ ⟨vset V 29 (val 29), by simp only [vset, Nat.reduceEqDiff, if_true, if_false]; rfl, vset_ok hV hL, hW.more (by decide) hL⟩
        | 30, ho =>
          simp only [List.getElem?_toArray, List.getElem?_cons_zero, List.getElem?_cons_succ, Option.some.injEq] at ho
          subst ho
          rw [if_pos (wanted_free rfl _)]
          have e29 : V 29 = .pointer (some ⟨w.heap.size, 1, none⟩) := hV 29 (hdep 29 (by kernel_rfl))
          simp only [e29]
          go_simp
          exact hK _ _ ⟨vset V 30 (val 30), by simp only [vset, Nat.reduceEqDiff, if_true, if_false, e29]; rfl, vset_ok hV hL, hW.more (by decide) hL⟩
        | 31, ho =>
          simp only [List.getElem?_toArray, List.getElem?_cons_zero, List.getElem?_cons_succ, Option.some.injEq] at ho
          subst ho
          rw [if_pos (wanted_free rfl _)]
          have e28 : V 28 = .int .i64 a := hV 28 (hdep 28 (by kernel_rfl))
          have e30 : V 30 = .int .i64 c := hV 30 (hdep 30 (by kernel_rfl))
          simp only [e28, e30]
          go_simp
          exact hK _ _ ⟨vset V 31 (val 31), by simp only [vset, Nat.reduceEqDiff, if_true, if_false, e28, e30]; rfl, vset_ok hV hL, hW.more (by decide) hL⟩
        | 32, ho =>
          simp only [List.getElem?_toArray, List.getElem?_cons_zero, List.getElem?_cons_succ, Option.some.injEq] at ho
          subst ho
          rw [if_pos (wanted_free rfl _)]
          go_simp
          exact hK _ _ ⟨vset V 32 (val 32), by simp only [vset, Nat.reduceEqDiff, if_true, if_false]; rfl, vset_ok hV hL, hW.more (by decide) hL⟩
        | 33, ho =>
          simp only [List.getElem?_toArray, List.getElem?_cons_zero, List.getElem?_cons_succ, Option.some.injEq] at ho
          subst ho
          rw [if_pos (wanted_free rfl _)]
          have e31 : V 31 = .int .i64 ac := hV 31 (hdep 31 (by kernel_rfl))
          have e32 : V 32 = .int .i64 k := hV 32 (hdep 32 (by kernel_rfl))
          simp only [e31, e32]
          go_simp
          exact hK _ _ ⟨vset V 33 (val 33), by simp only [vset, Nat.reduceEqDiff, if_true, if_false, e31, e32]; rfl, vset_ok hV hL, hW.more (by decide) hL⟩
        | 34, ho =>
          simp only [List.getElem?_toArray, List.getElem?_cons_zero, List.getElem?_cons_succ, Option.some.injEq] at ho
          subst ho
          rw [if_pos (wanted_free rfl _)]
          have e27 : V 27 = .slice (some ⟨b, off, none⟩) Ln cap := hV 27 (hdep 27 (by kernel_rfl))
          have e33 : V 33 = .int .i64 ak := hV 33 (hdep 33 (by kernel_rfl))
          simp only [e27, e33]
          go_simp
          exact hK _ _ ⟨vset V 34 (val 34), by simp only [vset, Nat.reduceEqDiff, if_true, if_false, e27, e33]; rfl, vset_ok hV hL, hW.more (by decide) hL⟩
        | 35, ho =>
          simp only [List.getElem?_toArray, List.getElem?_cons_zero, List.getElem?_cons_succ, Option.some.injEq] at ho
          subst ho
          rw [if_pos (wanted_free rfl _)]
          have e34 : V 34 = .pointer (some ⟨b, off + ak, none⟩) := hV 34 (hdep 34 (by kernel_rfl))
          simp only [e34]
          obtain rfl := hW.s0 (fun h => hopen (hW.d h).2)
          have hc := HC.out
          go_simp
          exact hK _ _ ⟨vset V 35 (val 35), by simp only [vset, Nat.reduceEqDiff, if_true, if_false, e34]; rfl, vset_ok hV hL, hW.more (by decide) hL⟩
        | 36, ho =>
          simp only [List.getElem?_toArray, List.getElem?_cons_zero, List.getElem?_cons_succ, Option.some.injEq] at ho
          subst ho
          rw [if_pos (wanted_free rfl _)]
          have e1 : V 1 = .slice (some ⟨b, off, none⟩) Ln cap := hV 1 (hdep 1 (by kernel_rfl))
          have e7 : V 7 = .int .i64 ak := hV 7 (hdep 7 (by kernel_rfl))
          simp only [e1, e7]
          go_simp
          exact hK _ _ ⟨vset V 36 (val 36), by simp only [vset, Nat.reduceEqDiff, if_true, if_false, e1, e7]; rfl, vset_ok hV hL, hW.more (by decide) hL⟩
        | 37, ho =>
          simp only [List.getElem?_toArray, List.getElem?_cons_zero, List.getElem?_cons_succ, Option.some.injEq] at ho
          subst ho
          rw [if_pos (wanted_free rfl _)]
          have e36 : V 36 = .pointer (some ⟨b, off + ak, none⟩) := hV 36 (hdep 36 (by kernel_rfl))
          have e25 : V 25 = .int .u8 (y : Int) := hV 25 (hdep 25 (by kernel_rfl))
          simp only [e36, e25]
          obtain rfl := hW.s0 hopen
          have hc := HC.out
          have hf := HF1.out
          go_simp
          exact hK _ _ ⟨vset V 37 (val 37), by simp only [vset, Nat.reduceEqDiff, if_false, e36, e25], vset_ok hV hL, hW.first hopen (hdep 25 (by kernel_rfl)) (hdep 35 (by kernel_rfl)) hL⟩
        | 38, ho =>
          simp only [List.getElem?_toArray, List.getElem?_cons_zero, List.getElem?_cons_succ, Option.some.injEq] at ho
          subst ho
          rw [if_pos (wanted_free rfl _)]
          have e9 : V 9 = .slice (some ⟨b, off, none⟩) Ln cap := hV 9 (hdep 9 (by kernel_rfl))
          have e15 : V 15 = .int .i64 tk := hV 15 (hdep 15 (by kernel_rfl))
          simp only [e9, e15]
          go_simp
          exact hK _ _ ⟨vset V 38 (val 38), by simp only [vset, Nat.reduceEqDiff, if_true, if_false, e9, e15]; rfl, vset_ok hV hL, hW.more (by decide) hL⟩
        | 39, ho =>
          simp only [List.getElem?_toArray, List.getElem?_cons_zero, List.getElem?_cons_succ, Option.some.injEq] at ho
          subst ho
          rw [if_pos (wanted_free rfl _)]
          have e38 : V 38 = .pointer (some ⟨b, off + tk, none⟩) := hV 38 (hdep 38 (by kernel_rfl))
          have e35 : V 35 = .int .u8 (x : Int) := hV 35 (hdep 35 (by kernel_rfl))
          simp only [e38, e35]
          obtain rfl := hW.s1 (hdep 37 (by kernel_rfl)) hopen
          have hc : (wr.setCell ⟨b, off + ak, none⟩ (.int .u8 (y : Int))).drew.cell? ⟨b, off + tk, none⟩ = some (.int .u8 (z : Int)) := HS1.out
          have hf : (wr.setCell ⟨b, off + ak, none⟩ (.int .u8 (y : Int))).drew.frozen? ⟨b, off + tk, none⟩ = false := HF2.out
          go_simp
          exact hK _ _ ⟨vset V 39 (val 39), by simp only [vset, Nat.reduceEqDiff, if_false, e38, e35], vset_ok hV hL, hW.second (hdep 37 (by kernel_rfl)) hL⟩
        | n + 40, ho => simp at ho
      case hhe =>
        rintro L a' w' ⟨V, rfl, hV, hW⟩ hall
        obtain rfl := hW.s2 (hall 39 (by decide))
        go_wp2
        go_roundw
        case rel => exact ⟨k + 1, by omega, by go_num, HST.out.1, HST.out.2⟩
        case measure => simp [intOf]; omega
    · obtain rfl : k = c := by omega
      have hfin := hmr.congr (G := swapF F a t) (fun i j _ hj => by unfold swTo; rw [if_pos hj])
      have HFI := Lib.hid hfin
      have HG2 := Lib.hid hg
      clear hmr hg hfin
      go_wp2
      go_end0
      exact ⟨⟨_, rfl⟩, HFI.out, grown_trans HG.out HG2.out⟩
end Go.Proofs.Ytlpjpeonejbpjaa
