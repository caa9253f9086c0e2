/- siloref1.Times, by what it answers (sides within bounds, numbers below 256). -/
import Derived.Test.YtlpjpeonejbpjaaRefInv
import Derived.Test.YtlpjpeonejbpjaaMatMul
namespace Go.Proofs.Ytlpjpeonejbpjaa
open Go.RowKit

/-- a product as far as row i and column j -/
def tmTo (k : Nat) (A B : Nat → Nat → Nat) (i j : Nat) : Nat → Nat → Nat := fun a b => if a < i ∨ (a = i ∧ b < j) then mulM k A B a b else 0
theorem tmTo_zero (k : Nat) (A B : Nat → Nat → Nat) : tmTo k A B 0 0 = zeroF := by
  funext a b
  simp [tmTo, zeroF]
theorem tmTo_succ (k : Nat) (A B : Nat → Nat → Nat) (i j : Nat) : upd (tmTo k A B i j) i j (mulM k A B i j) = tmTo k A B i (j + 1) := by
  funext a b
  unfold upd tmTo
  by_cases h : a = i
  · subst h
    by_cases e : b = j
    · subst e; simp
    · have hb : b < j + 1 ↔ b < j := by omega
      simp [e, hb]
  · simp [h]
theorem tmTo_row (k : Nat) (A B : Nat → Nat → Nat) (i c a b : Nat) (hb : b < c) : tmTo k A B i c a b = tmTo k A B (i + 1) 0 a b := by
  unfold tmTo
  have h : (a < i ∨ a = i ∧ b < c) ↔ (a < i + 1 ∨ a = i + 1 ∧ b < 0) := by omega
  simp only [h]
theorem tmTo_all (k : Nat) (A B : Nat → Nat → Nat) (r a b : Nat) (ha : a < r) : tmTo k A B r 0 a b = mulM k A B a b := if_pos (.inl ha)

/-- what the making of the product's variable has left, operation by operation -/
def TmP (q r c rc : Nat) (W : World) : Nat → World → Value → Prop
  | 0, _, v => v = .pointer (some ⟨q, 0, none⟩)
  | 1, _, v => v = .int .i64 r
  | 2, _, v => v = .pointer (some ⟨q + 1, 1, none⟩)
  | 3, _, v => v = .int .i64 c
  | 4, _, v => v = .pointer (some ⟨q, 0, none⟩)
  | 5, _, v => v = .int .i64 r
  | 6, _, v => v = .pointer (some ⟨q + 1, 1, none⟩)
  | 7, _, v => v = .int .i64 c
  | 8, _, v => v = .int .i64 rc
  | 9, w, v => ∃ g, v = .slice (some ⟨g, 0, none⟩) rc rc ∧ W.heap.size ≤ g ∧ Mat w g 0 r c zeroF
  | 10, w, v => ∃ g, v = .agg #[.int .i64 r, .int .i64 c, .slice (some ⟨g, 0, none⟩) rc rc] ∧ W.heap.size ≤ g ∧ Mat w g 0 r c zeroF
  | 11, w, v => ∃ b x y z, v = .pointer (some ⟨b, 0, none⟩) ∧ W.heap.size ≤ b ∧ BlockAt w b #[x, y, z] 50
  | 12, w, v => ∃ b g, v = .pointer (some ⟨b, 0, none⟩) ∧ W.heap.size ≤ b ∧ BlockAt w b #[.int .i64 r, .int .i64 c, .slice (some ⟨g, 0, none⟩) rc rc] 50 ∧ W.heap.size ≤ g ∧ Mat w g 0 r c zeroF
  | _, _, _ => True
theorem tmP_kept {q r c rc : Nat} {W : World} : ∀ j w w' v, TmP q r c rc W j w v → Kept w w' → TmP q r c rc W j w' v := fun j w w' v h hk => by
  match j with
  | 0 => exact h
  | 1 => exact h
  | 2 => exact h
  | 3 => exact h
  | 4 => exact h
  | 5 => exact h
  | 6 => exact h
  | 7 => exact h
  | 8 => exact h
  | 9 => obtain ⟨g, e, hs, m⟩ := h; exact ⟨g, e, hs, m.kept hk⟩
  | 10 => obtain ⟨g, e, hs, m⟩ := h; exact ⟨g, e, hs, m.kept hk⟩
  | 11 => obtain ⟨b, x, y, z, e, hs, m⟩ := h; exact ⟨b, x, y, z, e, hs, m.kept hk⟩
  | 12 => obtain ⟨b, g, e, hs, m, hg, n⟩ := h; exact ⟨b, g, e, hs, m.kept hk, hg, n.kept hk⟩
  | _ + 13 => exact trivial
theorem tmP_store {q r c rc : Nat} {W w w' : World} {b : Nat} {x y z x' y' z' : Value} (hb : BlockAt w b #[x, y, z] 50) (hg : w.grownBy w' (some b)) (hb' : BlockAt w' b #[x', y', z'] 50) (v : Value) (j : Nat) (hj : j ≠ 12) (h : TmP q r c rc W j w v) : TmP q r c rc W j w' v := by
  match j, hj with
  | 0, _ => exact h
  | 1, _ => exact h
  | 2, _ => exact h
  | 3, _ => exact h
  | 4, _ => exact h
  | 5, _ => exact h
  | 6, _ => exact h
  | 7, _ => exact h
  | 8, _ => exact h
  | 9, _ => obtain ⟨g, e, hs, m⟩ := h; exact ⟨g, e, hs, m.grownT hg hb (by decide)⟩
  | 10, _ => obtain ⟨g, e, hs, m⟩ := h; exact ⟨g, e, hs, m.grownT hg hb (by decide)⟩
  | 11, _ =>
    obtain ⟨b2, x2, y2, z2, e, hs, m⟩ := h
    by_cases hh : b2 = b
    · subst hh; exact ⟨b2, x', y', z', e, hs, hb'⟩
    · exact ⟨b2, x2, y2, z2, e, hs, m.grown hg (fun e => hh (Option.some.inj e))⟩
  | _ + 13, _ => exact trivial
/-- what the loops know -/
structure TmSt (W : World) (r k c ba oa ca bb ob cb b5 g : Nat) (A B G : Nat → Nat → Nat) (w : World) : Prop where
  pa : BlockAt w W.heap.size #[.int .i64 r, .int .i64 k, .slice (some ⟨ba, oa, none⟩) (r * k) ca] 50
  pb : BlockAt w (W.heap.size + 1) #[.int .i64 k, .int .i64 c, .slice (some ⟨bb, ob, none⟩) (k * c) cb] 50
  z : BlockAt w (W.heap.size + 1 + 1) #[.int .i64 0, .int .i64 0, .slice none 0 0] 50
  p5 : BlockAt w b5 #[.int .i64 r, .int .i64 c, .slice (some ⟨g, 0, none⟩) (r * c) (r * c)] 50
  ma : MatR w ba oa r k A
  mb : MatR w bb ob k c B
  m : Mat w g 0 r c G
  kp : Kept W w
theorem TmSt.kept {W : World} {r k c ba oa ca bb ob cb b5 g : Nat} {A B G : Nat → Nat → Nat} {w w' : World} (h : TmSt W r k c ba oa ca bb ob cb b5 g A B G w) (kk : Kept w w') : TmSt W r k c ba oa ca bb ob cb b5 g A B G w' :=
  ⟨h.pa.kept kk, h.pb.kept kk, h.z.kept kk, h.p5.kept kk, h.ma.kept kk, h.mb.kept kk, h.m.kept kk, h.kp.trans kk⟩
theorem TmSt.as {W : World} {r k c ba oa ca bb ob cb b5 g : Nat} {A B G G' : Nat → Nat → Nat} {w : World} (h : TmSt W r k c ba oa ca bb ob cb b5 g A B G w) (e : ∀ i j, i < r → j < c → G i j = G' i j) : TmSt W r k c ba oa ca bb ob cb b5 g A B G' w :=
  ⟨h.pa, h.pb, h.z, h.p5, h.ma, h.mb, h.m.congr e, h.kp⟩
theorem TmSt.on {W : World} {r k c ba oa ca bb ob cb b5 g : Nat} {A B G G' : Nat → Nat → Nat} {w w' : World} (h : TmSt W r k c ba oa ca bb ob cb b5 g A B G w) (ha : ba < W.heap.size) (hb : bb < W.heap.size) (hg : W.heap.size + 1 + 1 < g) (gr : w.grownBy w' (some g)) (m : Mat w' g 0 r c G') : TmSt W r k c ba oa ca bb ob cb b5 g A B G' w' := by
  obtain ⟨cs, hc⟩ := h.m.blk
  have hne := ne_of_types h.p5 hc (by decide)
  exact ⟨h.pa.grown gr (by simp; omega), h.pb.grown gr (by simp; omega), h.z.grown gr (by simp; omega), h.p5.grown gr (by simp; omega), h.ma.grown gr (by simp; omega), h.mb.grown gr (by simp; omega), m, Kept.grown h.kp gr (fun q e => by cases e; omega)⟩
set_option maxRecDepth 100000 in
set_option maxHeartbeats 2000000 in
theorem rtimes (r k c ba oa ca bb ob cb : Nat) (A B : Nat → Nat → Nat) (hr : 1 ≤ r ∧ r ≤ 16) (hk : 1 ≤ k ∧ k ≤ 16) (hc : 1 ≤ c ∧ c ≤ 16) (hA : Bt A) (hB : Bt B) (W : World) (hma : MatR W ba oa r k A) (hmb : MatR W bb ob k c B) :
    Calls Try.prog 49 #[.agg #[.int .i64 r, .int .i64 k, .slice (some ⟨ba, oa, none⟩) (r * k) ca], .agg #[.int .i64 k, .int .i64 c, .slice (some ⟨bb, ob, none⟩) (k * c) cb]] W
      fun e w' => ∃ g, e = .returned (.agg #[.int .i64 r, .int .i64 c, .slice (some ⟨g, 0, none⟩) (r * c) (r * c)]) ∧ W.heap.size ≤ g ∧ Mat w' g 0 r c (mulM k A B) ∧ Kept W w' := by
  have hba : ba < W.heap.size := cell_lt (hma 0 0 (by omega) (by omega))
  have hbb : bb < W.heap.size := cell_lt (hmb 0 0 (by omega) (by omega))
  have k3 := (((Kept.refl W).alloc (.cells #[.int .i64 r, .int .i64 k, .slice (some ⟨ba, oa, none⟩) (r * k) ca] 50)).alloc (.cells #[.int .i64 k, .int .i64 c, .slice (some ⟨bb, ob, none⟩) (k * c) cb] 50)).alloc (.cells #[.int .i64 0, .int .i64 0, .slice none 0 0] 50)
  have hpa := ((BlockAt.new W #[.int .i64 r, .int .i64 k, .slice (some ⟨ba, oa, none⟩) (r * k) ca] 50).kept ((Kept.refl _).alloc (.cells #[.int .i64 k, .int .i64 c, .slice (some ⟨bb, ob, none⟩) (k * c) cb] 50))).kept ((Kept.refl _).alloc (.cells #[.int .i64 0, .int .i64 0, .slice none 0 0] 50))
  have hpb := (BlockAt.new1 W #[.int .i64 k, .int .i64 c, .slice (some ⟨bb, ob, none⟩) (k * c) cb] 50 (.cells #[.int .i64 r, .int .i64 k, .slice (some ⟨ba, oa, none⟩) (r * k) ca] 50)).kept ((Kept.refl _).alloc (.cells #[.int .i64 0, .int .i64 0, .slice none 0 0] 50))
  have hpz := BlockAt.new2 W #[.int .i64 0, .int .i64 0, .slice none 0 0] 50 (.cells #[.int .i64 r, .int .i64 k, .slice (some ⟨ba, oa, none⟩) (r * k) ca] 50) (.cells #[.int .i64 k, .int .i64 c, .slice (some ⟨bb, ob, none⟩) (k * c) cb] 50)
  have hz3 : W.heap.size + 3 ≤ (((W.alloc (.cells #[.int .i64 r, .int .i64 k, .slice (some ⟨ba, oa, none⟩) (r * k) ca] 50)).alloc (.cells #[.int .i64 k, .int .i64 c, .slice (some ⟨bb, ob, none⟩) (k * c) cb] 50)).alloc (.cells #[.int .i64 0, .int .i64 0, .slice none 0 0] 50)).heap.size := by simp
  have hrc : r * c ≤ 256 := Nat.le_trans (Nat.mul_le_mul hr.2 hc.2) (by decide)
  have hmrc := mul_cast r c
  have hmk := make_bytes (r * c) (by omega)
  have hbz := fun u : World => made_mat u r c
  generalize hLL : r * c = rc at *
  have HLL := Lib.hid hLL
  have wrc := wrap_i64_nat rc (by omega)
  generalize hZZ : madeCells #[.int .u8 0] (r * c) = Z at hmk hbz
  have HMK := Lib.hid hmk
  have HBZ := Lib.hid hbz
  clear hZZ hmk hbz hLL
  go_enter Try.func49, Try.ntmps49
  go_wp2_with fail
  generalize ((W.alloc _).alloc _).alloc _ = w0 at *
  have HPA := Lib.hid hpa
  have HPB := Lib.hid hpb
  have HPZ := Lib.hid hpz
  have HK3 := Lib.hid k3
  have HMA := Lib.hid hma
  have HMB := Lib.hid hmb
  clear hpa hpb hpz k3 hma hmb
  refine wp_region_inv1 (fun a0 L a w => ∃ V : Nat → Value, a = ((((((((((((a0.put (some 10) (V 0)).put (some 11) (V 1)).put (some 12) (V 2)).put (some 13) (V 3)).put (some 14) (V 4)).put (some 15) (V 5)).put (some 16) (V 6)).put (some 17) (V 7)).put (some 18) (V 8)).put (some 19) (V 9)).put (some 20) (V 10)).put (some 5) (V 11)) ∧ PJ w0 (TmP W.heap.size r c rc w0) L V w ∧ (L 12 → L 11 ∧ V 12 = V 11)) (by kernel_rfl) (by kernel_rfl) ?rh0 ?rhs ?rhe
  case rh0 =>
    intro L hL
    exact ⟨fun _ => undef, by simp only [Act.put, List.setIfInBounds_toArray, List.set_cons_zero, List.set_cons_succ], ⟨(Kept.refl _).drew, fun j hj => by
      by_cases h : j < 13
      · exact absurd hj (hL j h)
      · obtain ⟨m, rfl⟩ : ∃ m, j = m + 13 := ⟨j - 13, by omega⟩
        exact trivial⟩, fun h => absurd h (hL 12 (by decide))⟩
  case rhs =>
    rintro L L' a w i op K ⟨V, rfl, hJ, hT⟩ ho hopen hdep hL hK
    have hkb := hJ.kp.size
    have tie : ∀ x, i ≠ 11 → i ≠ 12 → (L' 12 → L' 11 ∧ vset V i x 12 = vset V i x 11) := fun x h8 h10 h => by
      obtain ⟨t1, t2⟩ := hT (((hL 12).1 h).resolve_left (fun e => h10 e.symm))
      exact ⟨(hL 11).2 (.inr t1), by rw [vset_other _ _ (fun e => h10 e.symm), vset_other _ _ (fun e => h8 e.symm)]; exact t2⟩
    match i, ho with
    | 0, ho =>
      simp only [List.getElem?_toArray, List.getElem?_cons_zero, Option.some.injEq] at ho
      subst ho
      rw [if_pos (wanted_free rfl _)]
      simp only [Act.put, List.setIfInBounds_toArray, List.set_cons_zero, List.set_cons_succ]
      go_simp
      exact hK _ _ ⟨vset V 0 (.pointer (some ⟨W.heap.size, 0, none⟩)), by simp only [Act.put, List.setIfInBounds_toArray, List.set_cons_zero, List.set_cons_succ, vset, Nat.reduceEqDiff, if_true, if_false], hJ.more tmP_kept hL (Kept.refl _) (rfl), tie _ (by decide) (by decide)⟩
    | 1, ho =>
      simp only [List.getElem?_toArray, List.getElem?_cons_zero, List.getElem?_cons_succ, Option.some.injEq] at ho
      have e0 : V 0 = .pointer (some ⟨W.heap.size, 0, none⟩) := hJ.h 0 (hdep 0 (by rw [← ho]; kernel_rfl))
      obtain ⟨x0, x1, x2⟩ := box3 (HPA.out.kept hJ.kp)
      subst ho
      rw [if_pos (wanted_free rfl _)]
      simp only [Act.put, List.setIfInBounds_toArray, List.set_cons_zero, List.set_cons_succ, e0]
      go_simp
      exact hK _ _ ⟨vset V 1 (.int .i64 r), by simp only [Act.put, List.setIfInBounds_toArray, List.set_cons_zero, List.set_cons_succ, vset, Nat.reduceEqDiff, if_true, if_false, e0], hJ.more tmP_kept hL (Kept.refl _) (rfl), tie _ (by decide) (by decide)⟩
    | 2, ho =>
      simp only [List.getElem?_toArray, List.getElem?_cons_zero, List.getElem?_cons_succ, Option.some.injEq] at ho
      subst ho
      rw [if_pos (wanted_free rfl _)]
      simp only [Act.put, List.setIfInBounds_toArray, List.set_cons_zero, List.set_cons_succ]
      go_simp
      exact hK _ _ ⟨vset V 2 (.pointer (some ⟨W.heap.size + 1, 1, none⟩)), by simp only [Act.put, List.setIfInBounds_toArray, List.set_cons_zero, List.set_cons_succ, vset, Nat.reduceEqDiff, if_true, if_false], hJ.more tmP_kept hL (Kept.refl _) (rfl), tie _ (by decide) (by decide)⟩
    | 3, ho =>
      simp only [List.getElem?_toArray, List.getElem?_cons_zero, List.getElem?_cons_succ, Option.some.injEq] at ho
      have e2 : V 2 = .pointer (some ⟨W.heap.size + 1, 1, none⟩) := hJ.h 2 (hdep 2 (by rw [← ho]; kernel_rfl))
      obtain ⟨x0, x1, x2⟩ := box3 (HPB.out.kept hJ.kp)
      subst ho
      rw [if_pos (wanted_free rfl _)]
      simp only [Act.put, List.setIfInBounds_toArray, List.set_cons_zero, List.set_cons_succ, e2]
      go_simp
      exact hK _ _ ⟨vset V 3 (.int .i64 c), by simp only [Act.put, List.setIfInBounds_toArray, List.set_cons_zero, List.set_cons_succ, vset, Nat.reduceEqDiff, if_true, if_false, e2], hJ.more tmP_kept hL (Kept.refl _) (rfl), tie _ (by decide) (by decide)⟩
    | 4, ho =>
      simp only [List.getElem?_toArray, List.getElem?_cons_zero, List.getElem?_cons_succ, Option.some.injEq] at ho
      subst ho
      rw [if_pos (wanted_free rfl _)]
      simp only [Act.put, List.setIfInBounds_toArray, List.set_cons_zero, List.set_cons_succ]
      go_simp
      exact hK _ _ ⟨vset V 4 (.pointer (some ⟨W.heap.size, 0, none⟩)), by simp only [Act.put, List.setIfInBounds_toArray, List.set_cons_zero, List.set_cons_succ, vset, Nat.reduceEqDiff, if_true, if_false], hJ.more tmP_kept hL (Kept.refl _) (rfl), tie _ (by decide) (by decide)⟩
    | 5, ho =>
      simp only [List.getElem?_toArray, List.getElem?_cons_zero, List.getElem?_cons_succ, Option.some.injEq] at ho
      have e4 : V 4 = .pointer (some ⟨W.heap.size, 0, none⟩) := hJ.h 4 (hdep 4 (by rw [← ho]; kernel_rfl))
      obtain ⟨x0, x1, x2⟩ := box3 (HPA.out.kept hJ.kp)
      subst ho
      rw [if_pos (wanted_free rfl _)]
      simp only [Act.put, List.setIfInBounds_toArray, List.set_cons_zero, List.set_cons_succ, e4]
      go_simp
      exact hK _ _ ⟨vset V 5 (.int .i64 r), by simp only [Act.put, List.setIfInBounds_toArray, List.set_cons_zero, List.set_cons_succ, vset, Nat.reduceEqDiff, if_true, if_false, e4], hJ.more tmP_kept hL (Kept.refl _) (rfl), tie _ (by decide) (by decide)⟩
    | 6, ho =>
      simp only [List.getElem?_toArray, List.getElem?_cons_zero, List.getElem?_cons_succ, Option.some.injEq] at ho
      subst ho
      rw [if_pos (wanted_free rfl _)]
      simp only [Act.put, List.setIfInBounds_toArray, List.set_cons_zero, List.set_cons_succ]
      go_simp
      exact hK _ _ ⟨vset V 6 (.pointer (some ⟨W.heap.size + 1, 1, none⟩)), by simp only [Act.put, List.setIfInBounds_toArray, List.set_cons_zero, List.set_cons_succ, vset, Nat.reduceEqDiff, if_true, if_false], hJ.more tmP_kept hL (Kept.refl _) (rfl), tie _ (by decide) (by decide)⟩
    | 7, ho =>
      simp only [List.getElem?_toArray, List.getElem?_cons_zero, List.getElem?_cons_succ, Option.some.injEq] at ho
      have e6 : V 6 = .pointer (some ⟨W.heap.size + 1, 1, none⟩) := hJ.h 6 (hdep 6 (by rw [← ho]; kernel_rfl))
      obtain ⟨x0, x1, x2⟩ := box3 (HPB.out.kept hJ.kp)
      subst ho
      rw [if_pos (wanted_free rfl _)]
      simp only [Act.put, List.setIfInBounds_toArray, List.set_cons_zero, List.set_cons_succ, e6]
      go_simp
      exact hK _ _ ⟨vset V 7 (.int .i64 c), by simp only [Act.put, List.setIfInBounds_toArray, List.set_cons_zero, List.set_cons_succ, vset, Nat.reduceEqDiff, if_true, if_false, e6], hJ.more tmP_kept hL (Kept.refl _) (rfl), tie _ (by decide) (by decide)⟩
    | 8, ho =>
      simp only [List.getElem?_toArray, List.getElem?_cons_zero, List.getElem?_cons_succ, Option.some.injEq] at ho
      have e5 : V 5 = .int .i64 r := hJ.h 5 (hdep 5 (by rw [← ho]; kernel_rfl))
      have e7 : V 7 = .int .i64 c := hJ.h 7 (hdep 7 (by rw [← ho]; kernel_rfl))
      subst ho
      rw [if_pos (wanted_free rfl _)]
      simp only [Act.put, List.setIfInBounds_toArray, List.set_cons_zero, List.set_cons_succ, e5, e7]
      go_simp
      exact hK _ _ ⟨vset V 8 (.int .i64 rc), by simp only [Act.put, List.setIfInBounds_toArray, List.set_cons_zero, List.set_cons_succ, vset, Nat.reduceEqDiff, if_true, if_false, e5, e7], hJ.more tmP_kept hL (Kept.refl _) (rfl), tie _ (by decide) (by decide)⟩
    | 9, ho =>
      simp only [List.getElem?_toArray, List.getElem?_cons_zero, List.getElem?_cons_succ, Option.some.injEq] at ho
      have e8 : V 8 = .int .i64 rc := hJ.h 8 (hdep 8 (by rw [← ho]; kernel_rfl))
      subst ho
      rw [if_pos (wanted_free rfl _)]
      simp only [Act.put, List.setIfInBounds_toArray, List.set_cons_zero, List.set_cons_succ, e8]
      have hmk := HMK.out
      go_simp
      exact hK _ _ ⟨vset V 9 (.slice (some ⟨w.heap.size, 0, none⟩) rc rc), by simp only [Act.put, List.setIfInBounds_toArray, List.set_cons_zero, List.set_cons_succ, vset, Nat.reduceEqDiff, if_true, if_false, e8], hJ.more tmP_kept hL ((Kept.refl _).alloc _) (⟨_, rfl, hkb, HBZ.out w⟩), tie _ (by decide) (by decide)⟩
    | 10, ho =>
      simp only [List.getElem?_toArray, List.getElem?_cons_zero, List.getElem?_cons_succ, Option.some.injEq] at ho
      have e1 : V 1 = .int .i64 r := hJ.h 1 (hdep 1 (by rw [← ho]; kernel_rfl))
      have e3 : V 3 = .int .i64 c := hJ.h 3 (hdep 3 (by rw [← ho]; kernel_rfl))
      obtain ⟨g, e9, hg, hm⟩ := hJ.h 9 (hdep 9 (by rw [← ho]; kernel_rfl))
      subst ho
      rw [if_pos (wanted_free rfl _)]
      simp only [Act.put, List.setIfInBounds_toArray, List.set_cons_zero, List.set_cons_succ, e1, e3, e9]
      go_simp
      exact hK _ _ ⟨vset V 10 (.agg #[.int .i64 r, .int .i64 c, .slice (some ⟨g, 0, none⟩) rc rc]), by simp only [Act.put, List.setIfInBounds_toArray, List.set_cons_zero, List.set_cons_succ, vset, Nat.reduceEqDiff, if_true, if_false, e1, e3, e9], hJ.more tmP_kept hL (Kept.refl _) (⟨g, rfl, hg, hm⟩), tie _ (by decide) (by decide)⟩
    | 11, ho =>
      simp only [List.getElem?_toArray, List.getElem?_cons_zero, List.getElem?_cons_succ, Option.some.injEq] at ho
      have nlast : ¬ L 12 := fun h => hopen (hT h).1
      subst ho
      rw [if_pos (wanted_free rfl _)]
      simp only [Act.put, List.setIfInBounds_toArray, List.set_cons_zero, List.set_cons_succ]
      go_simp
      exact hK _ _ ⟨vset V 11 (.pointer (some ⟨w.heap.size, 0, none⟩)), by simp only [Act.put, List.setIfInBounds_toArray, List.set_cons_zero, List.set_cons_succ, vset, Nat.reduceEqDiff, if_true, if_false], hJ.more tmP_kept hL ((Kept.refl _).alloc _) (⟨_, _, _, _, rfl, hkb, BlockAt.new _ _ _⟩), fun h => absurd (((hL 12).1 h).resolve_left (by decide)) nlast⟩
    | 12, ho =>
      simp only [List.getElem?_toArray, List.getElem?_cons_zero, List.getElem?_cons_succ, Option.some.injEq] at ho
      obtain ⟨b8, y0, y1, y2, e11, hs8, hb8⟩ := hJ.h 11 (hdep 11 (by rw [← ho]; kernel_rfl))
      obtain ⟨g, e10, hg, hm⟩ := hJ.h 10 (hdep 10 (by rw [← ho]; kernel_rfl))
      have lal := hdep 11 (by rw [← ho]; kernel_rfl)
      obtain ⟨c0, c1, c2⟩ := box3 hb8
      have f0 := hb8.free 0
      have f1 := hb8.free 1
      have f2 := hb8.free 2
      have hg8 := grown3b w b8 (.int .i64 r) (.int .i64 c) (.slice (some ⟨g, 0, none⟩) rc rc)
      have hs3 := set3b hb8 (.int .i64 r) (.int .i64 c) (.slice (some ⟨g, 0, none⟩) rc rc)
      have hn : PJ w0 (TmP W.heap.size r c rc w0) L' (vset V 12 (.pointer (some ⟨b8, 0, none⟩))) _ :=
        ⟨Kept.grown hJ.kp hg8 (fun q e => by cases e; exact hs8), fun j hj => by
          by_cases e : j = 12
          · subst e; rw [vset_same]; exact ⟨b8, g, rfl, hs8, hs3, hg, hm.grownT hg8 hb8 (by decide)⟩
          · rw [vset_other _ _ e]; exact tmP_store hb8 hg8 hs3 _ j e (hJ.h j (((hL j).1 hj).resolve_left e))⟩
      have HN := Lib.hid hn
      clear hn hg8 hs3
      subst ho
      rw [if_pos (wanted_free rfl _)]
      simp only [Act.put, List.setIfInBounds_toArray, List.set_cons_zero, List.set_cons_succ, e11, e10]
      go_simp
      exact hK _ _ ⟨vset V 12 (.pointer (some ⟨b8, 0, none⟩)), by simp only [Act.put, List.setIfInBounds_toArray, List.set_cons_zero, List.set_cons_succ, vset, Nat.reduceEqDiff, if_false, e11, e10], HN.out, fun _ => ⟨(hL 11).2 (.inr lal), by rw [vset_same, vset_other _ _ (by decide)]; exact e11.symm⟩⟩
    | n + 13, ho => simp at ho
  case rhe =>
    rintro L a w1 ⟨V, rfl, hJ, hT⟩ hall
    obtain ⟨b5, g, e10, hs, hb5, hgs, hmg⟩ := hJ.h 12 (hall 12 (by decide))
    have hLL := HLL.out
    clear wrc hmrc
    subst hLL
    have e8 : V 11 = .pointer (some ⟨b5, 0, none⟩) := (hT (hall 12 (by decide))).2.symm.trans e10
    have HS := Lib.hid (TmSt.mk (W := W) (HPA.out.kept hJ.kp) (HPB.out.kept hJ.kp) (HPZ.out.kept hJ.kp) hb5 (HMA.out.kept (HK3.out.trans hJ.kp)) (HMB.out.kept (HK3.out.trans hJ.kp)) hmg (HK3.out.trans hJ.kp))
    have hg : W.heap.size + 1 + 1 < g := by omega
    clear hJ hT hall e10 hb5 hmg HPA HPB HPZ HMA HMB HK3 HMK HBZ
    simp only [Act.put, List.setIfInBounds_toArray, List.set_cons_zero, List.set_cons_succ, e8]
    clear e8
    go_wp2_with fail
    go_loopw [6] (fun i wr => ∃ n : Nat, n ≤ r ∧ i = .int .i64 n ∧ TmSt W r k c ba oa ca bb ob cb b5 g A B (tmTo k A B n 0) wr) (fun i _ => r - (intOf i).toNat)
    case atStart => exact ⟨0, by omega, rfl, by rw [tmTo_zero]; exact HS.out⟩
    case round =>
      obtain ⟨n, hn, rfl, hS1⟩ := hrel
      obtain ⟨a0, a1, a2⟩ := box3 hS1.pa
      have HS1 := Lib.hid hS1
      clear hS1
      by_cases hnr : n < r
      · go_wp2_with fail
        go_loopw [7] (fun i wy => ∃ m : Nat, m ≤ c ∧ i = .int .i64 m ∧ TmSt W r k c ba oa ca bb ob cb b5 g A B (tmTo k A B n m) wy) (fun i _ => c - (intOf i).toNat)
        case atStart => exact ⟨0, by omega, rfl, HS1.out⟩
        case round =>
          obtain ⟨m, hm, rfl, hS2⟩ := hrel
          obtain ⟨c0, c1, c2⟩ := box3 hS2.pb
          have HS2 := Lib.hid hS2
          clear hS2 a0 a1 a2
          by_cases hmc : m < c
          · go_wp2_with fail
            go_loopw [8, 9] (fun x i wz => ∃ q : Nat, q ≤ k ∧ i = .int .i64 q ∧ x = .int .u8 (xs (fun t => Gf.mul (A n t) (B t m)) q : Nat) ∧ TmSt W r k c ba oa ca bb ob cb b5 g A B (tmTo k A B n m) wz) (fun _ i _ => k - (intOf i).toNat)
            case atStart => exact ⟨0, by omega, rfl, rfl, HS2.out⟩
            case round =>
              obtain ⟨q, hq, rfl, rfl, hS3⟩ := hrel
              obtain ⟨a0, a1, a2⟩ := box3 hS3.pa
              obtain ⟨d0, d1, d2⟩ := box3 hS3.pb
              have hxs : xs (fun t => Gf.mul (A n t) (B t m)) q < 256 := xs_lt (fun j => Gf.mul_lt (hA n j) _) q
              have HS3 := Lib.hid hS3
              clear c0 c1 c2
              by_cases hqk : q < k
              · have hca := hS3.ma n q hnr hqk
                have hcb := hS3.mb q m hqk hmc
                have hla := idx_lt hnr hqk
                have hlb := idx_lt hqk hmc
                have hqa := mul_cast n k
                have hqb := mul_cast q c
                have hsa : ((n * k : Nat) : Int) + (q : Int) = ((n * k + q : Nat) : Int) := by simp
                have hsb : ((q * c : Nat) : Int) + (m : Int) = ((q * c + m : Nat) : Int) := by simp
                have hrk : r * k ≤ 256 := Nat.le_trans (Nat.mul_le_mul hr.2 hk.2) (by decide)
                have hkc : k * c ≤ 256 := Nat.le_trans (Nat.mul_le_mul hk.2 hc.2) (by decide)
                rw [Nat.add_assoc] at hca hcb
                have hxa := hA n q
                have hxb := hB q m
                have hnext : xs (fun t => Gf.mul (A n t) (B t m)) (q + 1) = xs (fun t => Gf.mul (A n t) (B t m)) q ^^^ Gf.mul (A n q) (B q m) := rfl
                have HNX := Lib.hid hnext
                clear hnext hS3
                generalize xs (fun t => Gf.mul (A n t) (B t m)) q = X at *
                generalize A n q = ya at *
                generalize B q m = yb at *
                have hxy := xor_u8 X (Gf.mul ya yb) hxs (Gf.mul_lt hxa yb)
                have hmy := Gf.mul_lt hxa yb
                generalize hnk : n * k = nk at *
                generalize hnq : nk + q = nq' at *
                generalize hqc : q * c = qc at *
                generalize hqm : qc + m = qm at *
                have HQ1 := Lib.hid hnk
                have HQ2 := Lib.hid hnq
                have HQ3 := Lib.hid hqc
                have HQ4 := Lib.hid hqm
                clear hnk hnq hqc hqm
                go_wp2_with fail
                go_quiet ((go_at_call 68; exact quietly (refmul_any ya yb hxa hxb _)))
                go_wp2
                go_roundw
                case rel => exact ⟨q + 1, by omega, by go_num, by rw [HNX.out], HS3.out.kept ((Kept.refl _).drewN nq)⟩
                case measure => simp [intOf]; omega
              · obtain rfl : q = k := by omega
                have hcell := hS3.m.cell n m hnr hmc
                have hset := hS3.m.set hnr hmc (mulM q A B n m)
                rw [tmTo_succ, Nat.zero_add, show mulM q A B n m = xs (fun t => Gf.mul (A n t) (B t m)) q from rfl] at hset
                rw [Nat.zero_add] at hcell
                have hfree := hS3.m.free (n * c + m)
                obtain ⟨e0, e1, e2⟩ := box3 hS3.p5
                have hla := idx_lt hnr hmc
                have hqa := mul_cast n c
                have hsa : ((n * c : Nat) : Int) + (m : Int) = ((n * c + m : Nat) : Int) := by simp
                have HSET := Lib.hid hset
                clear hS3 hset
                generalize tmTo q A B n m n m = xx at hcell
                generalize xs (fun t => Gf.mul (A n t) (B t m)) q = X at *
                generalize hnk : n * c = nk at *
                generalize hnq : nk + m = nq' at *
                have HQ1 := Lib.hid hnk
                have HQ2 := Lib.hid hnq
                clear hnk hnq
                go_wp2_with fail
                go_roundw
                case rel => exact ⟨m + 1, by omega, by go_num, HS3.out.on hba hbb hg (grown_set _ _ _ _) HSET.out⟩
                case measure => simp [intOf]; omega
          · obtain rfl : m = c := by omega
            go_wp2_with fail
            go_roundw
            case rel => exact ⟨n + 1, by omega, by go_num, HS2.out.as (fun i j _ hj => tmTo_row k A B n m i j hj)⟩
            case measure => simp [intOf]; omega
      · obtain rfl : n = r := by omega
        have hfin := HS1.out.m.congr (G := mulM k A B) (fun i j hi _ => tmTo_all k A B n i j hi)
        have HF := Lib.hid hfin
        clear hfin
        obtain ⟨c0, c1, c2⟩ := box3 HS1.out.p5
        go_wp2_with (refine wpList_store_block rfl 50 (.tmp 4) (.tmp 72) rfl _ #[.int .i64 n, .int .i64 c, .slice (some ⟨g, 0, none⟩) (n * c) (n * c)] #[.int .i64 0, .int .i64 0, .slice none 0 0] 50 rfl rfl HS1.out.z Try.infoMat rfl (one3 _ _ _ _ _) ?_)
        have g2 := grown_row wr (W.heap.size + 1 + 1) #[.int .i64 n, .int .i64 c, .slice (some ⟨g, 0, none⟩) (n * c) (n * c)]
        refine bodyPost_ret (v := .agg #[.int .i64 n, .int .i64 c, .slice (some ⟨g, 0, none⟩) (n * c) (n * c)]) ?_ rfl ⟨_, rfl, by omega, HF.out.grown g2 (by simp; omega), Kept.grown HS1.out.kp g2 (fun q e => by cases e; omega)⟩
        exact results_cell_row rfl _ _ (W.heap.size + 1 + 1) 50 #[.int .i64 n, .int .i64 c, .slice (some ⟨g, 0, none⟩) (n * c) (n * c)] (0, 0) _ rfl (HS1.out.z.setRow _) Try.underlying50 rfl Try.infoMat
end Go.Proofs.Ytlpjpeonejbpjaa
