/- siloref1.Rank and Invert, by what they answer (sides within bounds, numbers below 256). -/
import Derived.Test.YtlpjpeonejbpjaaMatOne
import Derived.Test.YtlpjpeonejbpjaaRefM
import Derived.BigRegion
import Derived.Test.YtlpjpeonejbpjaaRefSwp
namespace Go.Proofs.Ytlpjpeonejbpjaa
open Go.RowKit

/-- One as far as row k -/
def oneTo (k : Nat) : Nat → Nat → Nat := fun i j => if i = j ∧ i < k then 1 else 0
theorem oneTo_zero : oneTo 0 = zeroF := by funext i j; simp [oneTo, zeroF]
theorem oneTo_succ (k : Nat) : upd (oneTo k) k k 1 = oneTo (k + 1) := by
  funext i j
  unfold upd oneTo
  by_cases h : i = k ∧ j = k
  · obtain ⟨rfl, rfl⟩ := h; simp
  · rw [if_neg h]
    by_cases e : i = j
    · subst e
      have hk : i ≠ k := fun h' => h ⟨h', h'⟩
      have : i < k + 1 ↔ i < k := by omega
      simp [this]
    · simp [e]
theorem oneTo_all (n i j : Nat) (hi : i < n) : oneTo n i j = oneF i j := by
  unfold oneTo oneF
  by_cases e : i = j
  · subst e; simp [hi]
  · simp [e]
set_option maxRecDepth 100000 in
set_option maxHeartbeats 4000000 in
theorem rone (n : Nat) (hn : 1 ≤ n ∧ n ≤ 16) (w : World) :
    Calls Try.prog 46 #[.int .i64 n] w
      fun e w' => ∃ b, e = .returned (.agg #[.int .i64 n, .int .i64 n, .slice (some ⟨b, 0, none⟩) (n * n) (n * n)]) ∧ w.heap.size ≤ b ∧ Mat w' b 0 n n oneF ∧ Kept w w' := by
  have hnn : n * n ≤ 256 := Nat.le_trans (Nat.mul_le_mul hn.2 hn.2) (by decide)
  have hpp : (n : Int) * (n : Int) = ((n * n : Nat) : Int) := by simp
  have HLT := Lib.hid (fun k (hk : k < n) => idx_lt (r := n) (c := n) hk hk)
  have hkn := fun k : Nat => mul_cast k n
  have HKN := Lib.hid hkn
  have hb := fun u : World => made_mat u n n
  generalize hmnn : n * n = m at *
  have hmk := make_bytes m (by omega)
  generalize madeCells #[.int .u8 0] m = Z at hmk hb
  have HBM := Lib.hid hb
  clear hb hkn
  go_enter Try.func46, Try.ntmps46
  go_wp2_with fail
  have hR := ((BlockAt.new w #[.int .i64 0, .int .i64 0, .slice none 0 0] 50).kept ((Kept.refl _).alloc (.cells Z 5))).kept ((Kept.refl _).alloc (.cells #[.int .i64 n, .int .i64 n, .slice (some ⟨w.heap.size + 1, 0, none⟩) m m] 50))
  have hY := BlockAt.new2 w #[.int .i64 n, .int .i64 n, .slice (some ⟨w.heap.size + 1, 0, none⟩) m m] 50 (.cells #[.int .i64 0, .int .i64 0, .slice none 0 0] 50) (.cells Z 5)
  have hQ := (HBM.out (w.alloc (.cells #[.int .i64 0, .int .i64 0, .slice none 0 0] 50))).kept ((Kept.refl _).alloc (.cells #[.int .i64 n, .int .i64 n, .slice (some ⟨w.heap.size + 1, 0, none⟩) m m] 50))
  simp only [World.size_alloc] at hQ
  have k4 := (((Kept.refl w).alloc (.cells #[.int .i64 0, .int .i64 0, .slice none 0 0] 50)).alloc (.cells Z 5)).alloc (.cells #[.int .i64 n, .int .i64 n, .slice (some ⟨w.heap.size + 1, 0, none⟩) m m] 50)
  have HR := Lib.hid hR
  have HY := Lib.hid hY
  have HQ := Lib.hid hQ
  have HK := Lib.hid k4
  clear hR hY hQ k4 hmk HBM
  generalize ((w.alloc _).alloc _).alloc _ = w4 at *
  have hsz := HK.out.size
  go_loopw [4] (fun i wr => ∃ k : Nat, k ≤ n ∧ i = .int .i64 k ∧ Mat wr (w.heap.size + 1) 0 n n (oneTo k) ∧ w4.grownBy wr (some (w.heap.size + 1))) (fun i _ => n - (intOf i).toNat)
  case atStart => exact ⟨0, by omega, rfl, by rw [oneTo_zero]; exact HQ.out, grown_refl _ _⟩
  case round =>
    obtain ⟨k, hk, rfl, hmr, hg⟩ := hrel
    have HMR := Lib.hid hmr
    have HG := Lib.hid hg
    obtain ⟨y0, y1, y2⟩ := box3 (HY.out.grown hg (by simp))
    by_cases hlt : k < n
    · have hcell := hmr.cell k k hlt hlt
      have hset := hmr.set hlt hlt 1
      rw [oneTo_succ] at hset
      rw [Nat.zero_add] at hcell hset
      have hfree := hmr.free (k * n + k)
      have hl2 := HLT.out k hlt
      have hk2 := HKN.out k
      have hsum : ((k * n : Nat) : Int) + (k : Int) = ((k * n + k : Nat) : Int) := by simp
      generalize oneTo k k k = x at hcell
      have HSET := Lib.hid hset
      clear hmr hg hset
      generalize hq : k * n = kn at *
      generalize hq2 : kn + k = kk at *
      have HQ1 := Lib.hid hq
      have HQ2 := Lib.hid hq2
      clear hq hq2
      go_wp2_with fail
      go_roundw
      case rel => exact ⟨k + 1, by omega, by go_num, HSET.out, grown_trans HG.out (grown_set _ _ _ _)⟩
      case measure => simp [intOf]; omega
    · obtain rfl : k = n := by omega
      have HR2 := Lib.hid (HR.out.grown hg (by simp))
      have hfin := hmr.congr (G := oneF) (fun i j hi _ => oneTo_all k i j hi)
      have HF := Lib.hid hfin
      clear hmr hg hfin HMR
      go_wp2_with (refine wpList_store_block rfl 50 (.tmp 2) (.tmp 25) rfl _ #[.int .i64 k, .int .i64 k, .slice (some ⟨w.heap.size + 1, 0, none⟩) m m] #[.int .i64 0, .int .i64 0, .slice none 0 0] 50 rfl rfl HR2.out Try.infoMat rfl (one3 _ _ _ _ _) ?_)
      have g2 := grown_row wr w.heap.size #[.int .i64 k, .int .i64 k, .slice (some ⟨w.heap.size + 1, 0, none⟩) m m]
      refine bodyPost_ret (v := .agg #[.int .i64 k, .int .i64 k, .slice (some ⟨w.heap.size + 1, 0, none⟩) m m]) ?_ rfl ⟨_, rfl, by omega, HF.out.grown g2 (by simp), (Kept.grown HK.out HG.out (fun q e => by cases e; omega)).grown g2 (fun q e => by cases e; omega)⟩
      exact results_cell_row rfl _ _ w.heap.size 50 #[.int .i64 k, .int .i64 k, .slice (some ⟨w.heap.size + 1, 0, none⟩) m m] (0, 0) _ rfl (HR2.out.setRow _) Try.underlying50 rfl Try.infoMat

open Go.RowKit

/-- what the operations that are done have left, in whatever order -/
structure PJ (W : World) (P : Nat → World → Value → Prop) (L : Nat → Prop) (V : Nat → Value) (w : World) : Prop where
  kp : Kept W w
  h : ∀ j, L j → P j w (V j)
theorem PJ.more {W : World} {P : Nat → World → Value → Prop} {L L' : Nat → Prop} {V : Nat → Value} {w w' : World} {i : Nat} (h : PJ W P L V w) (hP : ∀ j w w' v, P j w v → Kept w w' → P j w' v) (hL : ∀ j, L' j ↔ (j = i ∨ L j)) (hk : Kept w w') {x : Value} (hx : P i w' x) : PJ W P L' (vset V i x) w' :=
  ⟨h.kp.trans hk, fun j hj => by
    by_cases e : j = i
    · subst e; rw [vset_same]; exact hx
    · rw [vset_other _ _ e]; exact hP j w w' _ (h.h j (((hL j).1 hj).resolve_left e)) hk⟩
theorem PJ.store {W : World} {P : Nat → World → Value → Prop} {L L' : Nat → Prop} {V : Nat → Value} {w w' : World} {i b : Nat} (h : PJ W P L V w) (hL : ∀ j, L' j ↔ (j = i ∨ L j)) (hb : W.heap.size ≤ b) (hg : w.grownBy w' (some b)) (hP : ∀ j v, P j w v → P j w' v) {x : Value} (hx : P i w' x) : PJ W P L' (vset V i x) w' :=
  ⟨Kept.grown h.kp hg (fun q e => by cases e; exact hb), fun j hj => by
    by_cases e : j = i
    · subst e; rw [vset_same]; exact hx
    · rw [vset_other _ _ e]; exact hP j _ (h.h j (((hL j).1 hj).resolve_left e))⟩
theorem ne_of_types {w : World} {b b' : Nat} {C C' : Array Value} {t t' : TypeId} (h : BlockAt w b C t) (h' : BlockAt w b' C' t') (hne : t ≠ t') : b ≠ b' := fun e => by
  subst e
  have h1 : w.heap[b]? = some (.cells C t (0, 0)) := h
  have h2 : w.heap[b]? = some (.cells C' t' (0, 0)) := h'
  rw [h1] at h2
  cases h2
  exact hne rfl
theorem Mat.grownT {w w' : World} {b off r c b' : Nat} {F : Nat → Nat → Nat} {C : Array Value} {t : TypeId} (h : Mat w b off r c F) (g : w.grownBy w' (some b')) (hb : BlockAt w b' C t) (hne : 5 ≠ t) : Mat w' b off r c F := by
  obtain ⟨cs, hc⟩ := h.blk
  exact h.grown g (fun e => ne_of_types hc hb hne (Option.some.inj e))
theorem rswept_g (r c b o cap : Nat) (F : Nat → Nat → Nat) (hr : 1 ≤ r ∧ r ≤ 16) (hc : 1 ≤ c ∧ c ≤ 16) (hF : Bt F) (R : Nat) (hR : rankF r c F = R) (G : Nat → Nat → Nat) (hG : sh c (redTo r (beside c F oneF) c).2 = G) (b' : Nat) (W : World) (hm : MatR W b o r c F) (ho : MatR W b' 0 r r oneF) :
    Calls Try.prog 76 #[.agg #[.int .i64 r, .int .i64 c, .slice (some ⟨b, o, none⟩) (r * c) cap], .agg #[.int .i64 r, .int .i64 r, .slice (some ⟨b', 0, none⟩) (r * r) (r * r)]] W
      fun e w' => ∃ g k, e = .returned (.tuple #[.int .i64 R, .agg #[.int .i64 r, .int .i64 r, .slice (some ⟨g, 0, none⟩) (r * r) k]]) ∧ r * r ≤ k ∧ W.heap.size ≤ g ∧ Mat w' g 0 r r G ∧ Kept W w' := by
  subst hR hG
  exact rswept r c b o cap b' 0 (r * r) F hr hc hF W hm ho
/-- a copy swept: its rank, and what One beside it became -/
def SwV (r : Nat) (G : Nat → Nat → Nat) (W w : World) (g k : Nat) : Prop := r * r ≤ k ∧ W.heap.size ≤ g ∧ Mat w g 0 r r G
def SwP (q r c R : Nat) (vm : Value) (G : Nat → Nat → Nat) (W : World) : Nat → World → Value → Prop
  | 0, _, v => v = .agg #[.int .i64 r, .int .i64 c, vm]
  | 1, _, v => v = .pointer (some ⟨q, 0, none⟩)
  | 2, _, v => v = .int .i64 r
  | 3, w, v => ∃ b, v = .agg #[.int .i64 r, .int .i64 r, .slice (some ⟨b, 0, none⟩) (r * r) (r * r)] ∧ Mat w b 0 r r oneF
  | 4, w, v => ∃ g k, v = .tuple #[.int .i64 R, .agg #[.int .i64 r, .int .i64 r, .slice (some ⟨g, 0, none⟩) (r * r) k]] ∧ SwV r G W w g k
  | 5, w, v => ∃ g k, v = .tuple #[.int .i64 R, .agg #[.int .i64 r, .int .i64 r, .slice (some ⟨g, 0, none⟩) (r * r) k]] ∧ SwV r G W w g k
  | 6, _, v => v = .int .i64 R
  | 7, w, v => ∃ g k, v = .agg #[.int .i64 r, .int .i64 r, .slice (some ⟨g, 0, none⟩) (r * r) k] ∧ SwV r G W w g k
  | 8, w, v => ∃ b x y z, v = .pointer (some ⟨b, 0, none⟩) ∧ W.heap.size ≤ b ∧ BlockAt w b #[x, y, z] 50
  | 9, _, v => v = .int .i64 R
  | 10, w, v => ∃ b g k, v = .pointer (some ⟨b, 0, none⟩) ∧ W.heap.size ≤ b ∧ BlockAt w b #[.int .i64 r, .int .i64 r, .slice (some ⟨g, 0, none⟩) (r * r) k] 50 ∧ SwV r G W w g k
  | _, _, _ => True
theorem SwV.kept {r : Nat} {G : Nat → Nat → Nat} {W w w' : World} {g k : Nat} (h : SwV r G W w g k) (hk : Kept w w') : SwV r G W w' g k := ⟨h.1, h.2.1, h.2.2.kept hk⟩
theorem swP_kept {q r c R : Nat} {vm : Value} {G : Nat → Nat → Nat} {W : World} : ∀ j w w' v, SwP q r c R vm G W j w v → Kept w w' → SwP q r c R vm G W j w' v := fun j w w' v h hk => by
  match j with
  | 0 => exact h
  | 1 => exact h
  | 2 => exact h
  | 3 => obtain ⟨b, e, m⟩ := h; exact ⟨b, e, m.kept hk⟩
  | 4 => obtain ⟨g, k, e, m⟩ := h; exact ⟨g, k, e, m.kept hk⟩
  | 5 => obtain ⟨g, k, e, m⟩ := h; exact ⟨g, k, e, m.kept hk⟩
  | 6 => exact h
  | 7 => obtain ⟨g, k, e, m⟩ := h; exact ⟨g, k, e, m.kept hk⟩
  | 8 => obtain ⟨b, x, y, z, e, hs, m⟩ := h; exact ⟨b, x, y, z, e, hs, m.kept hk⟩
  | 9 => exact h
  | 10 => obtain ⟨b, g, k, e, hs, m, n⟩ := h; exact ⟨b, g, k, e, hs, m.kept hk, n.kept hk⟩
  | _ + 11 => exact trivial
theorem SwV.stored {r : Nat} {G : Nat → Nat → Nat} {W w w' : World} {g k b : Nat} {C : Array Value} (h : SwV r G W w g k) (hg : w.grownBy w' (some b)) (hb : BlockAt w b C 50) : SwV r G W w' g k := ⟨h.1, h.2.1, h.2.2.grownT hg hb (by decide)⟩
/-- a store into a variable of a matrix' type leaves what the others left -/
theorem swP_store {q r c R : Nat} {vm : Value} {G : Nat → Nat → Nat} {W w w' : World} {b : Nat} {x y z x' y' z' : Value} (hb : BlockAt w b #[x, y, z] 50) (hg : w.grownBy w' (some b)) (hb' : BlockAt w' b #[x', y', z'] 50) (v : Value) (j : Nat) (hj : j ≠ 10) (h : SwP q r c R vm G W j w v) : SwP q r c R vm G W j w' v := by
  match j, hj with
  | 0, _ => exact h
  | 1, _ => exact h
  | 2, _ => exact h
  | 3, _ => obtain ⟨b, e, m⟩ := h; exact ⟨b, e, m.grownT hg hb (by decide)⟩
  | 4, _ => obtain ⟨g, k, e, m⟩ := h; exact ⟨g, k, e, m.stored hg hb⟩
  | 5, _ => obtain ⟨g, k, e, m⟩ := h; exact ⟨g, k, e, m.stored hg hb⟩
  | 6, _ => exact h
  | 7, _ => obtain ⟨g, k, e, m⟩ := h; exact ⟨g, k, e, m.stored hg hb⟩
  | 8, _ =>
    obtain ⟨b2, x2, y2, z2, e, hs, m⟩ := h
    by_cases hh : b2 = b
    · subst hh; exact ⟨b2, x', y', z', e, hs, hb'⟩
    · exact ⟨b2, x2, y2, z2, e, hs, m.grown hg (fun e => hh (Option.some.inj e))⟩
  | 9, _ => exact h
  | _ + 11, _ => exact trivial
set_option maxRecDepth 100000 in
set_option maxHeartbeats 1000000 in
theorem rrank (r c b o cap : Nat) (F : Nat → Nat → Nat) (hr : 1 ≤ r ∧ r ≤ 16) (hc : 1 ≤ c ∧ c ≤ 16) (hF : Bt F) (W : World) (hm : MatR W b o r c F) :
    Calls Try.prog 37 #[.agg #[.int .i64 r, .int .i64 c, .slice (some ⟨b, o, none⟩) (r * c) cap]] W fun e w' => e = .returned (.int .i64 (rankF r c F : Nat)) ∧ Kept W w' := by
  obtain ⟨G, hG⟩ : ∃ G, sh c (redTo r (beside c F oneF) c).2 = G := ⟨_, rfl⟩
  have hsw := fun R hR => rswept_g r c b o cap F hr hc hF R hR G hG
  generalize hR : rankF r c F = R at hsw ⊢
  have HSW := Lib.hid (hsw R rfl)
  clear hsw hR hG
  have k1 : Kept W (W.alloc (.cells #[.int .i64 r, .int .i64 c, .slice (some ⟨b, o, none⟩) (r * c) cap] 50)) := (Kept.refl W).alloc _
  have HM := Lib.hid (hm.kept k1)
  have HB := Lib.hid (BlockAt.new W #[.int .i64 r, .int .i64 c, .slice (some ⟨b, o, none⟩) (r * c) cap] 50)
  have HK1 := Lib.hid k1
  clear hm k1
  go_enter Try.func37, Try.ntmps37
  go_wp2_with fail
  generalize W.alloc (.cells #[.int .i64 r, .int .i64 c, .slice (some ⟨b, o, none⟩) (r * c) cap] 50) = w0 at *
  refine wp_region_inv1 (fun a0 L a w => ∃ V : Nat → Value, a = ((((((((((a0.put (some 6) (V 0)).put (some 7) (V 1)).put (some 8) (V 2)).put (some 9) (V 3)).put (some 10) (V 4)).put (some 5) (V 5)).put (some 11) (V 6)).put (some 12) (V 7)).put (some 4) (V 8)).put (some 3) (V 9)) ∧ PJ w0 (SwP W.heap.size r c R (.slice (some ⟨b, o, none⟩) (r * c) cap) G w0) L V w ∧ (L 10 → L 8 ∧ V 10 = V 8)) (by kernel_rfl) (by kernel_rfl) ?rh0 ?rhs ?rhe
  case rh0 =>
    intro L hL
    exact ⟨fun _ => undef, by simp only [Act.put, List.setIfInBounds_toArray, List.set_cons_zero, List.set_cons_succ], ⟨(Kept.refl _).drew, fun j hj => by
      by_cases h : j < 11
      · exact absurd hj (hL j h)
      · obtain ⟨m, rfl⟩ : ∃ m, j = m + 11 := ⟨j - 11, by omega⟩
        exact trivial⟩, fun h => absurd h (hL 10 (by decide))⟩
  case rhs =>
    rintro L L' a w i op K ⟨V, rfl, hJ, hT⟩ ho hopen hdep hL hK
    obtain ⟨x0, x1, x2⟩ := box3 (HB.out.kept hJ.kp)
    have tie : ∀ x, i ≠ 8 → i ≠ 10 → (L' 10 → L' 8 ∧ vset V i x 10 = vset V i x 8) := fun x h8 h10 h => by
      obtain ⟨t1, t2⟩ := hT (((hL 10).1 h).resolve_left (fun e => h10 e.symm))
      exact ⟨(hL 8).2 (.inr t1), by rw [vset_other _ _ (fun e => h10 e.symm), vset_other _ _ (fun e => h8 e.symm)]; exact t2⟩
    match i, ho with
    | 0, ho =>
      simp only [List.getElem?_toArray, List.getElem?_cons_zero, Option.some.injEq] at ho
      subst ho
      rw [if_pos (wanted_free rfl _)]
      simp only [Act.put, List.setIfInBounds_toArray, List.set_cons_zero, List.set_cons_succ]
      go_simp
      exact hK _ _ ⟨vset V 0 (.agg #[.int .i64 r, .int .i64 c, .slice (some ⟨b, o, none⟩) (r * c) cap]), by simp only [Act.put, List.setIfInBounds_toArray, List.set_cons_zero, List.set_cons_succ, vset, Nat.reduceEqDiff, if_true, if_false], hJ.more swP_kept hL (Kept.refl _) (rfl), tie _ (by decide) (by decide)⟩
    | 1, ho =>
      simp only [List.getElem?_toArray, List.getElem?_cons_zero, List.getElem?_cons_succ, Option.some.injEq] at ho
      subst ho
      rw [if_pos (wanted_free rfl _)]
      simp only [Act.put, List.setIfInBounds_toArray, List.set_cons_zero, List.set_cons_succ]
      go_simp
      exact hK _ _ ⟨vset V 1 (.pointer (some ⟨W.heap.size, 0, none⟩)), by simp only [Act.put, List.setIfInBounds_toArray, List.set_cons_zero, List.set_cons_succ, vset, Nat.reduceEqDiff, if_true, if_false], hJ.more swP_kept hL (Kept.refl _) (rfl), tie _ (by decide) (by decide)⟩
    | 2, ho =>
      simp only [List.getElem?_toArray, List.getElem?_cons_zero, List.getElem?_cons_succ, Option.some.injEq] at ho
      have e1 : V 1 = .pointer (some ⟨W.heap.size, 0, none⟩) := hJ.h 1 (hdep 1 (by rw [← ho]; kernel_rfl))
      subst ho
      rw [if_pos (wanted_free rfl _)]
      simp only [Act.put, List.setIfInBounds_toArray, List.set_cons_zero, List.set_cons_succ, e1]
      go_simp
      exact hK _ _ ⟨vset V 2 (.int .i64 r), by simp only [Act.put, List.setIfInBounds_toArray, List.set_cons_zero, List.set_cons_succ, vset, Nat.reduceEqDiff, if_true, if_false, e1], hJ.more swP_kept hL (Kept.refl _) (rfl), tie _ (by decide) (by decide)⟩
    | 3, ho =>
      simp only [List.getElem?_toArray, List.getElem?_cons_zero, List.getElem?_cons_succ, Option.some.injEq] at ho
      have e2 : V 2 = .int .i64 r := hJ.h 2 (hdep 2 (by rw [← ho]; kernel_rfl))
      subst ho
      rw [if_pos (wanted_free rfl _)]
      simp only [Act.put, List.setIfInBounds_toArray, List.set_cons_zero, List.set_cons_succ, e2]
      have hkb := hJ.kp.size
      go_simp
      refine (rone r hr w).mono ?_
      rintro e w' ⟨nb, rfl, _, hm, hk⟩
      exact hK _ _ ⟨vset V 3 (.agg #[.int .i64 r, .int .i64 r, .slice (some ⟨nb, 0, none⟩) (r * r) (r * r)]), by simp only [Act.put, List.setIfInBounds_toArray, List.set_cons_zero, List.set_cons_succ, vset, Nat.reduceEqDiff, if_true, if_false, e2], hJ.more swP_kept hL hk (⟨nb, rfl, hm⟩), tie _ (by decide) (by decide)⟩
    | 4, ho =>
      simp only [List.getElem?_toArray, List.getElem?_cons_zero, List.getElem?_cons_succ, Option.some.injEq] at ho
      have e0 : V 0 = .agg #[.int .i64 r, .int .i64 c, .slice (some ⟨b, o, none⟩) (r * c) cap] := hJ.h 0 (hdep 0 (by rw [← ho]; kernel_rfl))
      obtain ⟨b3, e3, m3⟩ := hJ.h 3 (hdep 3 (by rw [← ho]; kernel_rfl))
      subst ho
      rw [if_pos (wanted_free rfl _)]
      simp only [Act.put, List.setIfInBounds_toArray, List.set_cons_zero, List.set_cons_succ, e0, e3]
      have hkb := hJ.kp.size
      go_simp
      refine (HSW.out b3 w (HM.out.kept hJ.kp) m3.cell).mono ?_
      rintro e w' ⟨g, k, rfl, h1, h2, h3, hk⟩
      exact hK _ _ ⟨vset V 4 (.tuple #[.int .i64 R, .agg #[.int .i64 r, .int .i64 r, .slice (some ⟨g, 0, none⟩) (r * r) k]]), by simp only [Act.put, List.setIfInBounds_toArray, List.set_cons_zero, List.set_cons_succ, vset, Nat.reduceEqDiff, if_true, if_false, e0, e3], hJ.more swP_kept hL hk (⟨g, k, rfl, h1, by omega, h3⟩), tie _ (by decide) (by decide)⟩
    | 5, ho =>
      simp only [List.getElem?_toArray, List.getElem?_cons_zero, List.getElem?_cons_succ, Option.some.injEq] at ho
      obtain ⟨g, k, e4, hv⟩ := hJ.h 4 (hdep 4 (by rw [← ho]; kernel_rfl))
      subst ho
      rw [if_pos (wanted_free rfl _)]
      simp only [Act.put, List.setIfInBounds_toArray, List.set_cons_zero, List.set_cons_succ, e4]
      go_simp
      exact hK _ _ ⟨vset V 5 (.tuple #[.int .i64 R, .agg #[.int .i64 r, .int .i64 r, .slice (some ⟨g, 0, none⟩) (r * r) k]]), by simp only [Act.put, List.setIfInBounds_toArray, List.set_cons_zero, List.set_cons_succ, vset, Nat.reduceEqDiff, if_true, if_false, e4], hJ.more swP_kept hL (Kept.refl _) (⟨g, k, rfl, hv⟩), tie _ (by decide) (by decide)⟩
    | 6, ho =>
      simp only [List.getElem?_toArray, List.getElem?_cons_zero, List.getElem?_cons_succ, Option.some.injEq] at ho
      obtain ⟨g, k, e5, hv⟩ := hJ.h 5 (hdep 5 (by rw [← ho]; kernel_rfl))
      subst ho
      rw [if_pos (wanted_free rfl _)]
      simp only [Act.put, List.setIfInBounds_toArray, List.set_cons_zero, List.set_cons_succ, e5]
      go_simp
      exact hK _ _ ⟨vset V 6 (.int .i64 R), by simp only [Act.put, List.setIfInBounds_toArray, List.set_cons_zero, List.set_cons_succ, vset, Nat.reduceEqDiff, if_true, if_false, e5], hJ.more swP_kept hL (Kept.refl _) (rfl), tie _ (by decide) (by decide)⟩
    | 7, ho =>
      simp only [List.getElem?_toArray, List.getElem?_cons_zero, List.getElem?_cons_succ, Option.some.injEq] at ho
      obtain ⟨g, k, e5, hv⟩ := hJ.h 5 (hdep 5 (by rw [← ho]; kernel_rfl))
      subst ho
      rw [if_pos (wanted_free rfl _)]
      simp only [Act.put, List.setIfInBounds_toArray, List.set_cons_zero, List.set_cons_succ, e5]
      go_simp
      exact hK _ _ ⟨vset V 7 (.agg #[.int .i64 r, .int .i64 r, .slice (some ⟨g, 0, none⟩) (r * r) k]), by simp only [Act.put, List.setIfInBounds_toArray, List.set_cons_zero, List.set_cons_succ, vset, Nat.reduceEqDiff, if_true, if_false, e5], hJ.more swP_kept hL (Kept.refl _) (⟨g, k, rfl, hv⟩), tie _ (by decide) (by decide)⟩
    | 8, ho =>
      simp only [List.getElem?_toArray, List.getElem?_cons_zero, List.getElem?_cons_succ, Option.some.injEq] at ho
      subst ho
      rw [if_pos (wanted_free rfl _)]
      simp only [Act.put, List.setIfInBounds_toArray, List.set_cons_zero, List.set_cons_succ]
      have n10 : ¬ L 10 := fun h => hopen (hT h).1
      have hkb := hJ.kp.size
      go_simp
      exact hK _ _ ⟨vset V 8 (.pointer (some ⟨w.heap.size, 0, none⟩)), by simp only [Act.put, List.setIfInBounds_toArray, List.set_cons_zero, List.set_cons_succ, vset, Nat.reduceEqDiff, if_true, if_false], hJ.more swP_kept hL ((Kept.refl _).alloc _) ⟨_, _, _, _, rfl, hkb, BlockAt.new _ _ _⟩, fun h => absurd (((hL 10).1 h).resolve_left (by decide)) n10⟩
    | 9, ho =>
      simp only [List.getElem?_toArray, List.getElem?_cons_zero, List.getElem?_cons_succ, Option.some.injEq] at ho
      have e6 : V 6 = .int .i64 R := hJ.h 6 (hdep 6 (by rw [← ho]; kernel_rfl))
      subst ho
      rw [if_pos (wanted_free rfl _)]
      simp only [Act.put, List.setIfInBounds_toArray, List.set_cons_zero, List.set_cons_succ, e6]
      go_simp
      exact hK _ _ ⟨vset V 9 (.int .i64 R), by simp only [Act.put, List.setIfInBounds_toArray, List.set_cons_zero, List.set_cons_succ, vset, Nat.reduceEqDiff, if_true, if_false, e6], hJ.more swP_kept hL (Kept.refl _) (rfl), tie _ (by decide) (by decide)⟩
    | 10, ho =>
      simp only [List.getElem?_toArray, List.getElem?_cons_zero, List.getElem?_cons_succ, Option.some.injEq] at ho
      obtain ⟨b8, y0, y1, y2, e8, hs8, hb8⟩ := hJ.h 8 (hdep 8 (by rw [← ho]; kernel_rfl))
      obtain ⟨g, k, e7, hv⟩ := hJ.h 7 (hdep 7 (by rw [← ho]; kernel_rfl))
      have l8 := hdep 8 (by rw [← ho]; kernel_rfl)
      obtain ⟨c0, c1, c2⟩ := box3 hb8
      subst ho
      rw [if_pos (wanted_free rfl _)]
      simp only [Act.put, List.setIfInBounds_toArray, List.set_cons_zero, List.set_cons_succ, e8, e7]
      have f0 := hb8.free 0
      have f1 := hb8.free 1
      have f2 := hb8.free 2
      have hg8 := grown3b w b8 (.int .i64 r) (.int .i64 r) (.slice (some ⟨g, 0, none⟩) (r * r) k)
      have hs3 := set3b hb8 (.int .i64 r) (.int .i64 r) (.slice (some ⟨g, 0, none⟩) (r * r) k)
      have hn : PJ w0 (SwP W.heap.size r c R (.slice (some ⟨b, o, none⟩) (r * c) cap) G w0) L' (vset V 10 (.pointer (some ⟨b8, 0, none⟩))) _ :=
        ⟨Kept.grown hJ.kp hg8 (fun q e => by cases e; exact hs8), fun j hj => by
          by_cases e : j = 10
          · subst e; rw [vset_same]; exact ⟨b8, g, k, rfl, hs8, hs3, hv.stored hg8 hb8⟩
          · rw [vset_other _ _ e]; exact swP_store hb8 hg8 hs3 _ j e (hJ.h j (((hL j).1 hj).resolve_left e))⟩
      have HN := Lib.hid hn
      clear hn hg8 hs3
      go_simp
      exact hK _ _ ⟨vset V 10 (.pointer (some ⟨b8, 0, none⟩)), by simp only [Act.put, List.setIfInBounds_toArray, List.set_cons_zero, List.set_cons_succ, vset, Nat.reduceEqDiff, if_false, e8, e7], HN.out, fun _ => ⟨(hL 8).2 (.inr l8), by rw [vset_same, vset_other _ _ (by decide)]; exact e8.symm⟩⟩
    | n + 11, ho => simp at ho
  case rhe =>
    rintro L a w ⟨V, rfl, hJ, _⟩ hall
    have e9 : V 9 = .int .i64 R := hJ.h 9 (hall 9 (by decide))
    have HK := Lib.hid (HK1.out.trans hJ.kp)
    clear hJ hall
    simp only [Act.put, List.setIfInBounds_toArray, List.set_cons_zero, List.set_cons_succ, e9]
    go_wp2_with fail
    go_ret
    exact ⟨rfl, HK.out⟩
set_option maxRecDepth 100000 in
set_option maxHeartbeats 1000000 in
theorem rinvert (r b o cap : Nat) (F : Nat → Nat → Nat) (hr : 1 ≤ r ∧ r ≤ 16) (hF : Bt F) (W : World) (hm : MatR W b o r r F) :
    Calls Try.prog 38 #[.agg #[.int .i64 r, .int .i64 r, .slice (some ⟨b, o, none⟩) (r * r) cap]] W fun e w' => ∃ g k, e = .returned (.tuple #[.agg #[.int .i64 r, .int .i64 r, .slice (some ⟨g, 0, none⟩) (r * r) k], .bool (((rankF r r F : Nat) : Int) == (r : Int))]) ∧ r * r ≤ k ∧ W.heap.size ≤ g ∧ Mat w' g 0 r r (invF r F) ∧ Kept W w' := by
  have hsw := fun R hR G hG => rswept_g r r b o cap F hr hr hF R hR G hG
  generalize hR : rankF r r F = R at hsw ⊢
  have hsw := hsw R rfl
  generalize hG : invF r F = G at hsw ⊢
  have HSW := Lib.hid (hsw G hG)
  clear hsw hR hG
  have k1 : Kept W ((W.alloc (.cells #[.int .i64 r, .int .i64 r, .slice (some ⟨b, o, none⟩) (r * r) cap] 50)).alloc (.cells #[.int .i64 0, .int .i64 0, .slice none 0 0] 50)) := ((Kept.refl W).alloc _).alloc _
  have HM := Lib.hid (hm.kept k1)
  have HB := Lib.hid ((BlockAt.new W #[.int .i64 r, .int .i64 r, .slice (some ⟨b, o, none⟩) (r * r) cap] 50).kept ((Kept.refl _).alloc (.cells #[.int .i64 0, .int .i64 0, .slice none 0 0] 50)))
  have HR := Lib.hid (BlockAt.new1 W #[.int .i64 0, .int .i64 0, .slice none 0 0] 50 (.cells #[.int .i64 r, .int .i64 r, .slice (some ⟨b, o, none⟩) (r * r) cap] 50))
  have HK1 := Lib.hid k1
  have hz : W.heap.size + 1 < ((W.alloc (.cells #[.int .i64 r, .int .i64 r, .slice (some ⟨b, o, none⟩) (r * r) cap] 50)).alloc (.cells #[.int .i64 0, .int .i64 0, .slice none 0 0] 50)).heap.size := by simp
  clear hm k1
  go_enter Try.func38, Try.ntmps38
  go_wp2_with fail
  generalize (W.alloc _).alloc _ = w0 at *
  refine wp_region_inv1 (fun a0 L a w => ∃ V : Nat → Value, a = ((((((((((a0.put (some 7) (V 0)).put (some 8) (V 1)).put (some 9) (V 2)).put (some 10) (V 3)).put (some 11) (V 4)).put (some 6) (V 5)).put (some 12) (V 6)).put (some 13) (V 7)).put (some 5) (V 8)).put (some 4) (V 9)) ∧ PJ w0 (SwP W.heap.size r r R (.slice (some ⟨b, o, none⟩) (r * r) cap) G w0) L V w ∧ (L 10 → L 8 ∧ V 10 = V 8)) (by kernel_rfl) (by kernel_rfl) ?rh0 ?rhs ?rhe
  case rh0 =>
    intro L hL
    exact ⟨fun _ => undef, by simp only [Act.put, List.setIfInBounds_toArray, List.set_cons_zero, List.set_cons_succ], ⟨(Kept.refl _).drew, fun j hj => by
      by_cases h : j < 11
      · exact absurd hj (hL j h)
      · obtain ⟨m, rfl⟩ : ∃ m, j = m + 11 := ⟨j - 11, by omega⟩
        exact trivial⟩, fun h => absurd h (hL 10 (by decide))⟩
  case rhs =>
    rintro L L' a w i op K ⟨V, rfl, hJ, hT⟩ ho hopen hdep hL hK
    obtain ⟨x0, x1, x2⟩ := box3 (HB.out.kept hJ.kp)
    have tie : ∀ x, i ≠ 8 → i ≠ 10 → (L' 10 → L' 8 ∧ vset V i x 10 = vset V i x 8) := fun x h8 h10 h => by
      obtain ⟨t1, t2⟩ := hT (((hL 10).1 h).resolve_left (fun e => h10 e.symm))
      exact ⟨(hL 8).2 (.inr t1), by rw [vset_other _ _ (fun e => h10 e.symm), vset_other _ _ (fun e => h8 e.symm)]; exact t2⟩
    match i, ho with
    | 0, ho =>
      simp only [List.getElem?_toArray, List.getElem?_cons_zero, Option.some.injEq] at ho
      subst ho
      rw [if_pos (wanted_free rfl _)]
      simp only [Act.put, List.setIfInBounds_toArray, List.set_cons_zero, List.set_cons_succ]
      go_simp
      exact hK _ _ ⟨vset V 0 (.agg #[.int .i64 r, .int .i64 r, .slice (some ⟨b, o, none⟩) (r * r) cap]), by simp only [Act.put, List.setIfInBounds_toArray, List.set_cons_zero, List.set_cons_succ, vset, Nat.reduceEqDiff, if_true, if_false], hJ.more swP_kept hL (Kept.refl _) (rfl), tie _ (by decide) (by decide)⟩
    | 1, ho =>
      simp only [List.getElem?_toArray, List.getElem?_cons_zero, List.getElem?_cons_succ, Option.some.injEq] at ho
      subst ho
      rw [if_pos (wanted_free rfl _)]
      simp only [Act.put, List.setIfInBounds_toArray, List.set_cons_zero, List.set_cons_succ]
      go_simp
      exact hK _ _ ⟨vset V 1 (.pointer (some ⟨W.heap.size, 0, none⟩)), by simp only [Act.put, List.setIfInBounds_toArray, List.set_cons_zero, List.set_cons_succ, vset, Nat.reduceEqDiff, if_true, if_false], hJ.more swP_kept hL (Kept.refl _) (rfl), tie _ (by decide) (by decide)⟩
    | 2, ho =>
      simp only [List.getElem?_toArray, List.getElem?_cons_zero, List.getElem?_cons_succ, Option.some.injEq] at ho
      have e1 : V 1 = .pointer (some ⟨W.heap.size, 0, none⟩) := hJ.h 1 (hdep 1 (by rw [← ho]; kernel_rfl))
      subst ho
      rw [if_pos (wanted_free rfl _)]
      simp only [Act.put, List.setIfInBounds_toArray, List.set_cons_zero, List.set_cons_succ, e1]
      go_simp
      exact hK _ _ ⟨vset V 2 (.int .i64 r), by simp only [Act.put, List.setIfInBounds_toArray, List.set_cons_zero, List.set_cons_succ, vset, Nat.reduceEqDiff, if_true, if_false, e1], hJ.more swP_kept hL (Kept.refl _) (rfl), tie _ (by decide) (by decide)⟩
    | 3, ho =>
      simp only [List.getElem?_toArray, List.getElem?_cons_zero, List.getElem?_cons_succ, Option.some.injEq] at ho
      have e2 : V 2 = .int .i64 r := hJ.h 2 (hdep 2 (by rw [← ho]; kernel_rfl))
      subst ho
      rw [if_pos (wanted_free rfl _)]
      simp only [Act.put, List.setIfInBounds_toArray, List.set_cons_zero, List.set_cons_succ, e2]
      have hkb := hJ.kp.size
      go_simp
      refine (rone r hr w).mono ?_
      rintro e w' ⟨nb, rfl, _, hm, hk⟩
      exact hK _ _ ⟨vset V 3 (.agg #[.int .i64 r, .int .i64 r, .slice (some ⟨nb, 0, none⟩) (r * r) (r * r)]), by simp only [Act.put, List.setIfInBounds_toArray, List.set_cons_zero, List.set_cons_succ, vset, Nat.reduceEqDiff, if_true, if_false, e2], hJ.more swP_kept hL hk (⟨nb, rfl, hm⟩), tie _ (by decide) (by decide)⟩
    | 4, ho =>
      simp only [List.getElem?_toArray, List.getElem?_cons_zero, List.getElem?_cons_succ, Option.some.injEq] at ho
      have e0 : V 0 = .agg #[.int .i64 r, .int .i64 r, .slice (some ⟨b, o, none⟩) (r * r) cap] := hJ.h 0 (hdep 0 (by rw [← ho]; kernel_rfl))
      obtain ⟨b3, e3, m3⟩ := hJ.h 3 (hdep 3 (by rw [← ho]; kernel_rfl))
      subst ho
      rw [if_pos (wanted_free rfl _)]
      simp only [Act.put, List.setIfInBounds_toArray, List.set_cons_zero, List.set_cons_succ, e0, e3]
      have hkb := hJ.kp.size
      go_simp
      refine (HSW.out b3 w (HM.out.kept hJ.kp) m3.cell).mono ?_
      rintro e w' ⟨g, k, rfl, h1, h2, h3, hk⟩
      exact hK _ _ ⟨vset V 4 (.tuple #[.int .i64 R, .agg #[.int .i64 r, .int .i64 r, .slice (some ⟨g, 0, none⟩) (r * r) k]]), by simp only [Act.put, List.setIfInBounds_toArray, List.set_cons_zero, List.set_cons_succ, vset, Nat.reduceEqDiff, if_true, if_false, e0, e3], hJ.more swP_kept hL hk (⟨g, k, rfl, h1, by omega, h3⟩), tie _ (by decide) (by decide)⟩
    | 5, ho =>
      simp only [List.getElem?_toArray, List.getElem?_cons_zero, List.getElem?_cons_succ, Option.some.injEq] at ho
      obtain ⟨g, k, e4, hv⟩ := hJ.h 4 (hdep 4 (by rw [← ho]; kernel_rfl))
      subst ho
      rw [if_pos (wanted_free rfl _)]
      simp only [Act.put, List.setIfInBounds_toArray, List.set_cons_zero, List.set_cons_succ, e4]
      go_simp
      exact hK _ _ ⟨vset V 5 (.tuple #[.int .i64 R, .agg #[.int .i64 r, .int .i64 r, .slice (some ⟨g, 0, none⟩) (r * r) k]]), by simp only [Act.put, List.setIfInBounds_toArray, List.set_cons_zero, List.set_cons_succ, vset, Nat.reduceEqDiff, if_true, if_false, e4], hJ.more swP_kept hL (Kept.refl _) (⟨g, k, rfl, hv⟩), tie _ (by decide) (by decide)⟩
    | 6, ho =>
      simp only [List.getElem?_toArray, List.getElem?_cons_zero, List.getElem?_cons_succ, Option.some.injEq] at ho
      obtain ⟨g, k, e5, hv⟩ := hJ.h 5 (hdep 5 (by rw [← ho]; kernel_rfl))
      subst ho
      rw [if_pos (wanted_free rfl _)]
      simp only [Act.put, List.setIfInBounds_toArray, List.set_cons_zero, List.set_cons_succ, e5]
      go_simp
      exact hK _ _ ⟨vset V 6 (.int .i64 R), by simp only [Act.put, List.setIfInBounds_toArray, List.set_cons_zero, List.set_cons_succ, vset, Nat.reduceEqDiff, if_true, if_false, e5], hJ.more swP_kept hL (Kept.refl _) (rfl), tie _ (by decide) (by decide)⟩
    | 7, ho =>
      simp only [List.getElem?_toArray, List.getElem?_cons_zero, List.getElem?_cons_succ, Option.some.injEq] at ho
      obtain ⟨g, k, e5, hv⟩ := hJ.h 5 (hdep 5 (by rw [← ho]; kernel_rfl))
      subst ho
      rw [if_pos (wanted_free rfl _)]
      simp only [Act.put, List.setIfInBounds_toArray, List.set_cons_zero, List.set_cons_succ, e5]
      go_simp
      exact hK _ _ ⟨vset V 7 (.agg #[.int .i64 r, .int .i64 r, .slice (some ⟨g, 0, none⟩) (r * r) k]), by simp only [Act.put, List.setIfInBounds_toArray, List.set_cons_zero, List.set_cons_succ, vset, Nat.reduceEqDiff, if_true, if_false, e5], hJ.more swP_kept hL (Kept.refl _) (⟨g, k, rfl, hv⟩), tie _ (by decide) (by decide)⟩
    | 8, ho =>
      simp only [List.getElem?_toArray, List.getElem?_cons_zero, List.getElem?_cons_succ, Option.some.injEq] at ho
      subst ho
      rw [if_pos (wanted_free rfl _)]
      simp only [Act.put, List.setIfInBounds_toArray, List.set_cons_zero, List.set_cons_succ]
      have n10 : ¬ L 10 := fun h => hopen (hT h).1
      have hkb := hJ.kp.size
      go_simp
      exact hK _ _ ⟨vset V 8 (.pointer (some ⟨w.heap.size, 0, none⟩)), by simp only [Act.put, List.setIfInBounds_toArray, List.set_cons_zero, List.set_cons_succ, vset, Nat.reduceEqDiff, if_true, if_false], hJ.more swP_kept hL ((Kept.refl _).alloc _) ⟨_, _, _, _, rfl, hkb, BlockAt.new _ _ _⟩, fun h => absurd (((hL 10).1 h).resolve_left (by decide)) n10⟩
    | 9, ho =>
      simp only [List.getElem?_toArray, List.getElem?_cons_zero, List.getElem?_cons_succ, Option.some.injEq] at ho
      have e6 : V 6 = .int .i64 R := hJ.h 6 (hdep 6 (by rw [← ho]; kernel_rfl))
      subst ho
      rw [if_pos (wanted_free rfl _)]
      simp only [Act.put, List.setIfInBounds_toArray, List.set_cons_zero, List.set_cons_succ, e6]
      go_simp
      exact hK _ _ ⟨vset V 9 (.int .i64 R), by simp only [Act.put, List.setIfInBounds_toArray, List.set_cons_zero, List.set_cons_succ, vset, Nat.reduceEqDiff, if_true, if_false, e6], hJ.more swP_kept hL (Kept.refl _) (rfl), tie _ (by decide) (by decide)⟩
    | 10, ho =>
      simp only [List.getElem?_toArray, List.getElem?_cons_zero, List.getElem?_cons_succ, Option.some.injEq] at ho
      obtain ⟨b8, y0, y1, y2, e8, hs8, hb8⟩ := hJ.h 8 (hdep 8 (by rw [← ho]; kernel_rfl))
      obtain ⟨g, k, e7, hv⟩ := hJ.h 7 (hdep 7 (by rw [← ho]; kernel_rfl))
      have l8 := hdep 8 (by rw [← ho]; kernel_rfl)
      obtain ⟨c0, c1, c2⟩ := box3 hb8
      subst ho
      rw [if_pos (wanted_free rfl _)]
      simp only [Act.put, List.setIfInBounds_toArray, List.set_cons_zero, List.set_cons_succ, e8, e7]
      have f0 := hb8.free 0
      have f1 := hb8.free 1
      have f2 := hb8.free 2
      have hg8 := grown3b w b8 (.int .i64 r) (.int .i64 r) (.slice (some ⟨g, 0, none⟩) (r * r) k)
      have hs3 := set3b hb8 (.int .i64 r) (.int .i64 r) (.slice (some ⟨g, 0, none⟩) (r * r) k)
      have hn : PJ w0 (SwP W.heap.size r r R (.slice (some ⟨b, o, none⟩) (r * r) cap) G w0) L' (vset V 10 (.pointer (some ⟨b8, 0, none⟩))) _ :=
        ⟨Kept.grown hJ.kp hg8 (fun q e => by cases e; exact hs8), fun j hj => by
          by_cases e : j = 10
          · subst e; rw [vset_same]; exact ⟨b8, g, k, rfl, hs8, hs3, hv.stored hg8 hb8⟩
          · rw [vset_other _ _ e]; exact swP_store hb8 hg8 hs3 _ j e (hJ.h j (((hL j).1 hj).resolve_left e))⟩
      have HN := Lib.hid hn
      clear hn hg8 hs3
      go_simp
      exact hK _ _ ⟨vset V 10 (.pointer (some ⟨b8, 0, none⟩)), by simp only [Act.put, List.setIfInBounds_toArray, List.set_cons_zero, List.set_cons_succ, vset, Nat.reduceEqDiff, if_false, e8, e7], HN.out, fun _ => ⟨(hL 8).2 (.inr l8), by rw [vset_same, vset_other _ _ (by decide)]; exact e8.symm⟩⟩
    | n + 11, ho => simp at ho
  case rhe =>
    rintro L a w ⟨V, rfl, hJ, hT⟩ hall
    have e4 : V 9 = .int .i64 R := hJ.h 9 (hall 9 (by decide))
    obtain ⟨bo, g, k, e10, hs, hbo, hgk, hgs, hmg⟩ := hJ.h 10 (hall 10 (by decide))
    have e8 : V 8 = .pointer (some ⟨bo, 0, none⟩) := (hT (hall 10 (by decide))).2.symm.trans e10
    have hkp := HK1.out.trans hJ.kp
    have HK := Lib.hid hkp
    have HBw := Lib.hid (HB.out.kept hJ.kp)
    have HRw := Lib.hid (HR.out.kept hJ.kp)
    have HBO := Lib.hid hbo
    have HMG := Lib.hid hmg
    have hzw := hJ.kp.size
    clear hJ hall hT hkp hbo hmg
    simp only [Act.put, List.setIfInBounds_toArray, List.set_cons_zero, List.set_cons_succ, e4, e8]
    clear e4 e8 e10
    go_wp2_with fail
    let val : Nat → Value := fun j => ([.agg #[.int .i64 r, .int .i64 r, .slice (some ⟨g, 0, none⟩) (r * r) k], .int .i64 R, .pointer (some ⟨W.heap.size, 0, none⟩), .int .i64 r, .bool ((R : Int) == (r : Int)), undef, .bool ((R : Int) == (r : Int))] : List Value).getD j undef
    have k0 := (Kept.refl w).drew
    have HB0 := Lib.hid (HBw.out.kept k0)
    have HR0 := Lib.hid (HRw.out.kept k0)
    have HO0 := Lib.hid (HBO.out.kept k0)
    have HM0 := Lib.hid (HMG.out.kept k0)
    have HK0 := Lib.hid (HK.out.trans k0)
    have hz0 := k0.size
    clear k0 HBw HRw HBO HMG HK
    have hneo := ne_of_types HO0.out HR0.out
    refine wp_region_inv1 (fun a0 L a w' => ∃ V : Nat → Value, a = ((((((a0.put (some 14) (V 0)).put (some 15) (V 1)).put (some 16) (V 2)).put (some 17) (V 3)).put (some 18) (V 4)).put (some 3) (V 6)) ∧ (∀ j, L j → j ≠ 5 → V j = val j) ∧ (L 5 → L 0) ∧ (¬ L 5 → w' = w.drew) ∧ (L 5 → w' = ((w.drew.setCell ⟨W.heap.size + 1, 0, none⟩ (.int .i64 r)).setCell ⟨W.heap.size + 1, 1, none⟩ (.int .i64 r)).setCell ⟨W.heap.size + 1, 2, none⟩ (.slice (some ⟨g, 0, none⟩) (r * r) k))) (by kernel_rfl) (by kernel_rfl) ?eh0 ?ehs ?ehe
    case eh0 =>
      intro L hL
      exact ⟨fun j => if j = 6 then .bool false else undef, by simp only [Act.put, List.setIfInBounds_toArray, List.set_cons_zero, List.set_cons_succ, Nat.reduceEqDiff, if_true, if_false], fun j hj _ => by
        by_cases h : j < 7
        · exact absurd hj (hL j h)
        · simp [val, show ¬ j < 7 by omega, show j ≠ 6 by omega], fun h => absurd h (hL 5 (by decide)), fun _ => rfl, fun h => absurd h (hL 5 (by decide))⟩
    case ehs =>
      rintro L L' a w' i op K ⟨V, rfl, hV, hd, hw0, hw5⟩ ho hopen hdep hL hK
      have vok : i ≠ 5 → ∀ j, L' j → j ≠ 5 → vset V i (val i) j = val j := fun h5 j hj hj5 => by
        by_cases e : j = i
        · subst e; exact vset_same _ _ _
        · rw [vset_other _ _ e]; exact hV j (((hL j).1 hj).resolve_left e) hj5
      have hd' : i ≠ 5 → L' 5 → L' 0 := fun h5 h => (hL 0).2 (.inr (hd (((hL 5).1 h).resolve_left (fun e => h5 e.symm))))
      have hw0' : i ≠ 5 → ¬ L' 5 → w' = w.drew := fun h5 h => hw0 (fun x => h ((hL 5).2 (.inr x)))
      have hw5' : i ≠ 5 → L' 5 → w' = ((w.drew.setCell ⟨W.heap.size + 1, 0, none⟩ (.int .i64 r)).setCell ⟨W.heap.size + 1, 1, none⟩ (.int .i64 r)).setCell ⟨W.heap.size + 1, 2, none⟩ (.slice (some ⟨g, 0, none⟩) (r * r) k) := fun h5 h => hw5 (((hL 5).1 h).resolve_left (fun e => h5 e.symm))
      have hq : BlockAt w' W.heap.size #[.int .i64 r, .int .i64 r, .slice (some ⟨b, o, none⟩) (r * r) cap] 50 := by
        by_cases h : L 5
        · rw [hw5 h]; exact HB0.out.grown (grown3b w.drew (W.heap.size + 1) _ _ _) (by simp)
        · rw [hw0 h]; exact HB0.out
      obtain ⟨x0, x1, x2⟩ := box3 hq
      have HV := Lib.hid hV
      have HH := Lib.hid (And.intro hd' (And.intro hw0' hw5'))
      clear hd' hw0' hw5' hq
      match i, ho with
      | 0, ho =>
        simp only [List.getElem?_toArray, List.getElem?_cons_zero, Option.some.injEq] at ho
        clear hV
        have hw := hw0 (fun h => hopen (hd h))
        have hob : BlockAt w' bo #[.int .i64 r, .int .i64 r, .slice (some ⟨g, 0, none⟩) (r * r) k] 50 := by rw [hw]; exact HO0.out
        obtain ⟨c0, c1, c2⟩ := box3 hob
        clear hw hob hw0 hw5
        subst ho
        rw [if_pos (wanted_free rfl _)]
        simp only [Act.put, List.setIfInBounds_toArray, List.set_cons_zero, List.set_cons_succ]
        go_simp
        exact hK _ _ ⟨vset V 0 (val 0), by simp only [Act.put, List.setIfInBounds_toArray, List.set_cons_zero, List.set_cons_succ, vset, Nat.reduceEqDiff, if_true, if_false]; rfl, vok (by decide), HH.out.1 (by decide), HH.out.2.1 (by decide), HH.out.2.2 (by decide)⟩
      | 1, ho =>
        simp only [List.getElem?_toArray, List.getElem?_cons_zero, List.getElem?_cons_succ, Option.some.injEq] at ho
        clear hV
        clear hw0 hw5
        subst ho
        rw [if_pos (wanted_free rfl _)]
        simp only [Act.put, List.setIfInBounds_toArray, List.set_cons_zero, List.set_cons_succ]
        go_simp
        exact hK _ _ ⟨vset V 1 (val 1), by simp only [Act.put, List.setIfInBounds_toArray, List.set_cons_zero, List.set_cons_succ, vset, Nat.reduceEqDiff, if_true, if_false]; rfl, vok (by decide), HH.out.1 (by decide), HH.out.2.1 (by decide), HH.out.2.2 (by decide)⟩
      | 2, ho =>
        simp only [List.getElem?_toArray, List.getElem?_cons_zero, List.getElem?_cons_succ, Option.some.injEq] at ho
        clear hV
        clear hw0 hw5
        subst ho
        rw [if_pos (wanted_free rfl _)]
        simp only [Act.put, List.setIfInBounds_toArray, List.set_cons_zero, List.set_cons_succ]
        go_simp
        exact hK _ _ ⟨vset V 2 (val 2), by simp only [Act.put, List.setIfInBounds_toArray, List.set_cons_zero, List.set_cons_succ, vset, Nat.reduceEqDiff, if_true, if_false]; rfl, vok (by decide), HH.out.1 (by decide), HH.out.2.1 (by decide), HH.out.2.2 (by decide)⟩
      | 3, ho =>
        simp only [List.getElem?_toArray, List.getElem?_cons_zero, List.getElem?_cons_succ, Option.some.injEq] at ho
        have e2 : V 2 = .pointer (some ⟨W.heap.size, 0, none⟩) := hV 2 (hdep 2 (by rw [← ho]; kernel_rfl)) (by decide)
        clear hV
        clear hw0 hw5
        subst ho
        rw [if_pos (wanted_free rfl _)]
        simp only [Act.put, List.setIfInBounds_toArray, List.set_cons_zero, List.set_cons_succ, e2]
        go_simp
        exact hK _ _ ⟨vset V 3 (val 3), by simp only [Act.put, List.setIfInBounds_toArray, List.set_cons_zero, List.set_cons_succ, vset, Nat.reduceEqDiff, if_true, if_false, e2]; rfl, vok (by decide), HH.out.1 (by decide), HH.out.2.1 (by decide), HH.out.2.2 (by decide)⟩
      | 4, ho =>
        simp only [List.getElem?_toArray, List.getElem?_cons_zero, List.getElem?_cons_succ, Option.some.injEq] at ho
        have e1 : V 1 = .int .i64 R := hV 1 (hdep 1 (by rw [← ho]; kernel_rfl)) (by decide)
        have e3 : V 3 = .int .i64 r := hV 3 (hdep 3 (by rw [← ho]; kernel_rfl)) (by decide)
        clear hV
        clear hw0 hw5
        subst ho
        rw [if_pos (wanted_free rfl _)]
        simp only [Act.put, List.setIfInBounds_toArray, List.set_cons_zero, List.set_cons_succ, e1, e3]
        go_simp
        exact hK _ _ ⟨vset V 4 (val 4), by simp only [Act.put, List.setIfInBounds_toArray, List.set_cons_zero, List.set_cons_succ, vset, Nat.reduceEqDiff, if_true, if_false, e1, e3]; rfl, vok (by decide), HH.out.1 (by decide), HH.out.2.1 (by decide), HH.out.2.2 (by decide)⟩
      | 5, ho =>
        simp only [List.getElem?_toArray, List.getElem?_cons_zero, List.getElem?_cons_succ, Option.some.injEq] at ho
        have e0 : V 0 = .agg #[.int .i64 r, .int .i64 r, .slice (some ⟨g, 0, none⟩) (r * r) k] := hV 0 (hdep 0 (by rw [← ho]; kernel_rfl)) (by decide)
        clear hV
        have hw := hw0 hopen
        have l0 := hdep 0 (by rw [← ho]; kernel_rfl)
        have hrb : BlockAt w' (W.heap.size + 1) #[.int .i64 0, .int .i64 0, .slice none 0 0] 50 := by rw [hw]; exact HR0.out
        obtain ⟨c0, c1, c2⟩ := box3 hrb
        have f0 := hrb.free 0
        have f1 := hrb.free 1
        have f2 := hrb.free 2
        have HW := Lib.hid hw
        clear hw hrb hw0 hw5
        subst ho
        rw [if_pos (wanted_free rfl _)]
        simp only [Act.put, List.setIfInBounds_toArray, List.set_cons_zero, List.set_cons_succ, e0]
        go_simp
        exact hK _ _ ⟨vset V 5 undef, by simp only [Act.put, List.setIfInBounds_toArray, List.set_cons_zero, List.set_cons_succ, vset, Nat.reduceEqDiff, if_false, e0], fun j hj h5 => by rw [vset_other _ _ h5]; exact HV.out j (((hL j).1 hj).resolve_left h5) h5, fun _ => (hL 0).2 (.inr l0), fun h => absurd ((hL 5).2 (.inl rfl)) h, fun _ => by rw [HW.out]⟩
      | 6, ho =>
        simp only [List.getElem?_toArray, List.getElem?_cons_zero, List.getElem?_cons_succ, Option.some.injEq] at ho
        have e4 : V 4 = .bool ((R : Int) == (r : Int)) := hV 4 (hdep 4 (by rw [← ho]; kernel_rfl)) (by decide)
        clear hV
        clear hw0 hw5
        subst ho
        rw [if_pos (wanted_free rfl _)]
        simp only [Act.put, List.setIfInBounds_toArray, List.set_cons_zero, List.set_cons_succ, e4]
        go_simp
        exact hK _ _ ⟨vset V 6 (val 6), by simp only [Act.put, List.setIfInBounds_toArray, List.set_cons_zero, List.set_cons_succ, vset, Nat.reduceEqDiff, if_true, if_false, e4]; rfl, vok (by decide), HH.out.1 (by decide), HH.out.2.1 (by decide), HH.out.2.2 (by decide)⟩
      | n + 7, ho => simp at ho
    case ehe =>
      rintro L a w' ⟨V, rfl, hV, hd, hw0, hw5⟩ hall
      have e6 : V 6 = .bool ((R : Int) == (r : Int)) := hV 6 (hall 6 (by decide)) (by decide)
      have hw := hw5 (hall 5 (by decide))
      subst hw
      have gz := grown3b w.drew (W.heap.size + 1) (.int .i64 r) (.int .i64 r) (.slice (some ⟨g, 0, none⟩) (r * r) k)
      have HG := Lib.hid gz
      clear hV hd hw0 hw5 hall gz
      simp only [Act.put, List.setIfInBounds_toArray, List.set_cons_zero, List.set_cons_succ, e6]
      go_wp2
      refine bodyPost_ret (v := .tuple #[.agg #[.int .i64 r, .int .i64 r, .slice (some ⟨g, 0, none⟩) (r * r) k], .bool ((R : Int) == (r : Int))]) ?_ rfl ⟨g, k, rfl, hgk, by omega, HM0.out.grown HG.out (by simp; omega), Kept.grown HK0.out HG.out (fun q e => by cases e; omega)⟩
      exact results_row_tmp rfl _ _ (W.heap.size + 1) 50 #[.int .i64 r, .int .i64 r, .slice (some ⟨g, 0, none⟩) (r * r) k] _ rfl (set3b HR0.out _ _ _) Try.underlying50 rfl Try.infoMat _ rfl
end Go.Proofs.Ytlpjpeonejbpjaa
