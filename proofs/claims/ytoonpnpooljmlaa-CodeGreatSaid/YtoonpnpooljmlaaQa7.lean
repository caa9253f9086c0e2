/- Contracts of the code and of the reference, laid into one file: part 7 (what each says stands at its head). -/
import Derived.Test.YtoonpnpooljmlaaQa6

namespace Go.Proofs.Ytoonpnpooljmlaa
open Go.RowKit

/-- the two matrices, shown by the blocks q and q + 1; a result's block behind them -/
structure SwSt (W : World) (r c g k g' k' : Nat) (S T : Nat → Nat → Nat) (w : World) : Prop where
  bm : BlockAt w W.heap.size #[.int .i64 r, .int .i64 c, .slice (some ⟨g, 0, none⟩) (r * c) k] 33
  bo : BlockAt w (W.heap.size + 1) #[.int .i64 r, .int .i64 r, .slice (some ⟨g', 0, none⟩) (r * r) k'] 33
  z : BlockAt w (W.heap.size + 1 + 1) #[.int .i64 0, .int .i64 0, .slice none 0 0] 33
  m : Mat w g 0 r c S
  o : Mat w g' 0 r r T
  kp : Kept W w
theorem SwSt.kept {W : World} {r c g k g' k' : Nat} {S T : Nat → Nat → Nat} {w w' : World} (h : SwSt W r c g k g' k' S T w) (kk : Kept w w') : SwSt W r c g k g' k' S T w' :=
  ⟨h.bm.kept kk, h.bo.kept kk, h.z.kept kk, h.m.kept kk, h.o.kept kk, h.kp.trans kk⟩
theorem SwSt.onM {W : World} {r c g k g' k' : Nat} {S S' T : Nat → Nat → Nat} {w w' : World} (h : SwSt W r c g k g' k' S T w) (hg : W.heap.size + 1 + 1 < g) (hne : g' ≠ g) (m : Mat w' g 0 r c S') (gr : w.grownBy w' (some g)) : SwSt W r c g k g' k' S' T w' :=
  ⟨h.bm.grown gr (by simp; omega), h.bo.grown gr (by simp; omega), h.z.grown gr (by simp; omega), m, h.o.grown gr (by simp; omega), Kept.grown h.kp gr (fun q e => by cases e; omega)⟩
theorem SwSt.onO {W : World} {r c g k g' k' : Nat} {S T T' : Nat → Nat → Nat} {w w' : World} (h : SwSt W r c g k g' k' S T w) (hg : W.heap.size + 1 + 1 < g') (hne : g' ≠ g) (o : Mat w' g' 0 r r T') (gr : w.grownBy w' (some g')) : SwSt W r c g k g' k' S T' w' :=
  ⟨h.bm.grown gr (by simp; omega), h.bo.grown gr (by simp; omega), h.z.grown gr (by simp; omega), h.m.grown gr (by simp; omega), o, Kept.grown h.kp gr (fun q e => by cases e; omega)⟩
/-- the first region: both matrices copied, whatever the order -/
structure SwCp (W : World) (r c : Nat) (F : Nat → Nat → Nat) (vm vo : Value) (L : Nat → Prop) (w : World) (v0 v1 v2 v3 : Value) (g k g' k' : Nat) : Prop where
  kp : Kept W w
  z : BlockAt w (W.heap.size + 1 + 1) #[.int .i64 0, .int .i64 0, .slice none 0 0] 33
  f0 : L 0 → v0 = .agg #[.int .i64 r, .int .i64 c, vm]
  f1 : L 1 → v1 = .agg #[.int .i64 r, .int .i64 c, .slice (some ⟨g, 0, none⟩) (r * c) k] ∧ r * c ≤ k ∧ W.heap.size + 1 + 1 < g ∧ Mat w g 0 r c F
  f2 : L 2 → v2 = .agg #[.int .i64 r, .int .i64 r, vo]
  f3 : L 3 → v3 = .agg #[.int .i64 r, .int .i64 r, .slice (some ⟨g', 0, none⟩) (r * r) k'] ∧ r * r ≤ k' ∧ W.heap.size + 1 + 1 < g' ∧ Mat w g' 0 r r oneF
  f13 : L 1 → L 3 → g' ≠ g
  m0 : ¬ L 4 → BlockAt w W.heap.size #[.int .i64 r, .int .i64 c, vm] 33
  m1 : L 4 → BlockAt w W.heap.size #[.int .i64 r, .int .i64 c, .slice (some ⟨g, 0, none⟩) (r * c) k] 33
  o0 : ¬ L 5 → BlockAt w (W.heap.size + 1) #[.int .i64 r, .int .i64 r, vo] 33
  o1 : L 5 → BlockAt w (W.heap.size + 1) #[.int .i64 r, .int .i64 r, .slice (some ⟨g', 0, none⟩) (r * r) k'] 33
  d1 : L 1 → L 0
  d3 : L 3 → L 2
  d4 : L 4 → L 1 ∧ L 3
  d5 : L 5 → L 1 ∧ L 3
/-- one more of the first four operations is done -/
theorem SwCp.more {W : World} {r c : Nat} {F : Nat → Nat → Nat} {vm vo : Value} {L L' : Nat → Prop} {w w' : World} {v0 v1 v2 v3 v0' v1' v2' v3' : Value} {g k g' k' ng nk ng' nk' : Nat} (h : SwCp W r c F vm vo L w v0 v1 v2 v3 g k g' k') (i : Nat) (hi : i < 4) (hL : ∀ j, L' j ↔ (j = i ∨ L j)) (hk : Kept w w')
    (n4 : ¬ L 4) (n5 : ¬ L 5)
    (e0 : i = 0 ∧ v0' = .agg #[.int .i64 r, .int .i64 c, vm] ∨ i ≠ 0 ∧ v0' = v0)
    (e1 : i = 1 ∧ L 0 ∧ v1' = .agg #[.int .i64 r, .int .i64 c, .slice (some ⟨ng, 0, none⟩) (r * c) nk] ∧ r * c ≤ nk ∧ W.heap.size + 1 + 1 < ng ∧ Mat w' ng 0 r c F ∧ (L 3 → g' ≠ ng) ∨ i ≠ 1 ∧ v1' = v1 ∧ ng = g ∧ nk = k)
    (e2 : i = 2 ∧ v2' = .agg #[.int .i64 r, .int .i64 r, vo] ∨ i ≠ 2 ∧ v2' = v2)
    (e3 : i = 3 ∧ L 2 ∧ v3' = .agg #[.int .i64 r, .int .i64 r, .slice (some ⟨ng', 0, none⟩) (r * r) nk'] ∧ r * r ≤ nk' ∧ W.heap.size + 1 + 1 < ng' ∧ Mat w' ng' 0 r r oneF ∧ (L 1 → ng' ≠ g) ∨ i ≠ 3 ∧ v3' = v3 ∧ ng' = g' ∧ nk' = k') :
    SwCp W r c F vm vo L' w' v0' v1' v2' v3' ng nk ng' nk' := by
  have old : ∀ {j}, L' j → i ≠ j → L j := fun {j} hj hne => ((hL j).1 hj).resolve_left (fun e => hne e.symm)
  have new : ∀ {j}, L j → L' j := fun {j} hj => (hL j).2 (.inr hj)
  have n4' : ¬ L' 4 := fun x => n4 (old x (by omega))
  have n5' : ¬ L' 5 := fun x => n5 (old x (by omega))
  refine ⟨h.kp.trans hk, h.z.kept hk, fun x => ?_, fun x => ?_, fun x => ?_, fun x => ?_, fun x y => ?_, fun _ => (h.m0 n4).kept hk, fun x => absurd x n4', fun _ => (h.o0 n5).kept hk, fun x => absurd x n5', fun x => ?_, fun x => ?_, fun x => absurd x n4', fun x => absurd x n5'⟩
  · rcases e0 with ⟨_, e⟩ | ⟨hne, rfl⟩
    · exact e
    · exact h.f0 (old x hne)
  · rcases e1 with ⟨_, _, e, a, b, m, _⟩ | ⟨hne, rfl, rfl, rfl⟩
    · exact ⟨e, a, b, m⟩
    · obtain ⟨e, a, b, m⟩ := h.f1 (old x hne)
      exact ⟨e, a, b, m.kept hk⟩
  · rcases e2 with ⟨_, e⟩ | ⟨hne, rfl⟩
    · exact e
    · exact h.f2 (old x hne)
  · rcases e3 with ⟨_, _, e, a, b, m, _⟩ | ⟨hne, rfl, rfl, rfl⟩
    · exact ⟨e, a, b, m⟩
    · obtain ⟨e, a, b, m⟩ := h.f3 (old x hne)
      exact ⟨e, a, b, m.kept hk⟩
  · rcases e1 with ⟨i1, _, _, _, _, _, n⟩ | ⟨h1, _, rfl, _⟩
    · rcases e3 with ⟨i3, _⟩ | ⟨h3, _, rfl, _⟩
      · omega
      · exact n (old y h3)
    · rcases e3 with ⟨i3, _, _, _, _, _, n⟩ | ⟨h3, _, rfl, _⟩
      · exact n (old x h1)
      · exact h.f13 (old x h1) (old y h3)
  · rcases e1 with ⟨_, l, _⟩ | ⟨hne, _⟩
    · exact new l
    · exact new (h.d1 (old x hne))
  · rcases e3 with ⟨_, l, _⟩ | ⟨hne, _⟩
    · exact new l
    · exact new (h.d3 (old x hne))
theorem grown3b (w : World) (b : Nat) (x y z : Value) : w.grownBy (((w.setCell ⟨b, 0, none⟩ x).setCell ⟨b, 1, none⟩ y).setCell ⟨b, 2, none⟩ z) (some b) := grown_trans (grown_trans (grown_set _ _ _ _) (grown_set _ _ _ _)) (grown_set _ _ _ _)
theorem set3b {w : World} {b : Nat} {x y z : Value} {t : TypeId} (h : BlockAt w b #[x, y, z] t) (x' y' z' : Value) : BlockAt (((w.setCell ⟨b, 0, none⟩ x').setCell ⟨b, 1, none⟩ y').setCell ⟨b, 2, none⟩ z') b #[x', y', z'] t := by
  have h0 : BlockAt (w.setCell ⟨b, 0, none⟩ x') b #[x', y, z] t := h.set (i := 0) x'
  have h1 : BlockAt ((w.setCell ⟨b, 0, none⟩ x').setCell ⟨b, 1, none⟩ y') b #[x', y', z] t := h0.set (i := 1) y'
  exact h1.set (i := 2) z'
/-- the first store -/
theorem SwCp.storeM {W : World} {r c : Nat} {F : Nat → Nat → Nat} {vm vo : Value} {L L' : Nat → Prop} {w : World} {v0 v1 v2 v3 : Value} {g k g' k' : Nat} (h : SwCp W r c F vm vo L w v0 v1 v2 v3 g k g' k') (h1 : L 1) (h3 : L 3) (n4 : ¬ L 4) (hL : ∀ j, L' j ↔ (j = 4 ∨ L j)) :
    SwCp W r c F vm vo L' (((w.setCell ⟨W.heap.size, 0, none⟩ (.int .i64 r)).setCell ⟨W.heap.size, 1, none⟩ (.int .i64 c)).setCell ⟨W.heap.size, 2, none⟩ (.slice (some ⟨g, 0, none⟩) (r * c) k)) v0 v1 v2 v3 g k g' k' := by
  have hg := grown3b w W.heap.size (.int .i64 r) (.int .i64 c) (.slice (some ⟨g, 0, none⟩) (r * c) k)
  have hs := set3b (h.m0 n4) (.int .i64 r) (.int .i64 c) (.slice (some ⟨g, 0, none⟩) (r * c) k)
  have old : ∀ {j}, L' j → j ≠ 4 → L j := fun {j} hj hne => ((hL j).1 hj).resolve_left hne
  have new : ∀ {j}, L j → L' j := fun {j} hj => (hL j).2 (.inr hj)
  obtain ⟨a1, b1, c1, m1⟩ := h.f1 h1
  obtain ⟨a3, b3, c3, m3⟩ := h.f3 h3
  exact ⟨Kept.grown h.kp hg (fun q e => by cases e; omega), h.z.grown hg (by simp; omega), fun x => h.f0 (old x (by decide)), fun _ => ⟨a1, b1, c1, m1.grown hg (by simp; omega)⟩, fun x => h.f2 (old x (by decide)), fun _ => ⟨a3, b3, c3, m3.grown hg (by simp; omega)⟩, fun _ _ => h.f13 h1 h3,
    fun x => absurd ((hL 4).2 (.inl rfl)) x, fun _ => hs, fun x => (h.o0 (fun y => x (new y))).grown hg (by simp), fun x => (h.o1 (old x (by decide))).grown hg (by simp), fun _ => new (h.d1 h1), fun _ => new (h.d3 h3), fun _ => ⟨new h1, new h3⟩, fun _ => ⟨new h1, new h3⟩⟩
/-- the second store -/
theorem SwCp.storeO {W : World} {r c : Nat} {F : Nat → Nat → Nat} {vm vo : Value} {L L' : Nat → Prop} {w : World} {v0 v1 v2 v3 : Value} {g k g' k' : Nat} (h : SwCp W r c F vm vo L w v0 v1 v2 v3 g k g' k') (h1 : L 1) (h3 : L 3) (n5 : ¬ L 5) (hL : ∀ j, L' j ↔ (j = 5 ∨ L j)) :
    SwCp W r c F vm vo L' (((w.setCell ⟨W.heap.size + 1, 0, none⟩ (.int .i64 r)).setCell ⟨W.heap.size + 1, 1, none⟩ (.int .i64 r)).setCell ⟨W.heap.size + 1, 2, none⟩ (.slice (some ⟨g', 0, none⟩) (r * r) k')) v0 v1 v2 v3 g k g' k' := by
  have hg := grown3b w (W.heap.size + 1) (.int .i64 r) (.int .i64 r) (.slice (some ⟨g', 0, none⟩) (r * r) k')
  have hs := set3b (h.o0 n5) (.int .i64 r) (.int .i64 r) (.slice (some ⟨g', 0, none⟩) (r * r) k')
  have old : ∀ {j}, L' j → j ≠ 5 → L j := fun {j} hj hne => ((hL j).1 hj).resolve_left hne
  have new : ∀ {j}, L j → L' j := fun {j} hj => (hL j).2 (.inr hj)
  obtain ⟨a1, b1, c1, m1⟩ := h.f1 h1
  obtain ⟨a3, b3, c3, m3⟩ := h.f3 h3
  exact ⟨Kept.grown h.kp hg (fun q e => by cases e; omega), h.z.grown hg (by simp), fun x => h.f0 (old x (by decide)), fun _ => ⟨a1, b1, c1, m1.grown hg (by simp; omega)⟩, fun x => h.f2 (old x (by decide)), fun _ => ⟨a3, b3, c3, m3.grown hg (by simp; omega)⟩, fun _ _ => h.f13 h1 h3,
    fun x => (h.m0 (fun y => x (new y))).grown hg (by simp), fun x => (h.m1 (old x (by decide))).grown hg (by simp), fun x => absurd ((hL 5).2 (.inl rfl)) x, fun _ => hs, fun _ => new (h.d1 h1), fun _ => new (h.d3 h3), fun _ => ⟨new h1, new h3⟩, fun _ => ⟨new h1, new h3⟩⟩
/-- a copy of a matrix, in a block of its own -/
theorem copy_mat (r c b o cap : Nat) (F : Nat → Nat → Nat) (hr : 1 ≤ r ∧ r ≤ 16) (hc : 1 ≤ c ∧ c ≤ 16) (w : World) (h : MatR w b o r c F) :
    Calls Try.prog 68 #[.agg #[.int .i64 r, .int .i64 c, .slice (some ⟨b, o, none⟩) (r * c) cap]] w fun e w' => ∃ g k, e = .returned (.agg #[.int .i64 r, .int .i64 c, .slice (some ⟨g, 0, none⟩) (r * c) k]) ∧ r * c ≤ k ∧ w.heap.size ≤ g ∧ Mat w' g 0 r c F ∧ Kept w w' := by
  have hrc := Nat.mul_le_mul hr.2 hc.2
  have hp : 0 < r * c := Nat.mul_pos hr.1 hc.1
  refine (copy_matrix r c (some ⟨b, o, none⟩) (r * c) cap (flat c F) (by omega) w h.flat).mono ?_
  rintro e w' ⟨a', k, rfl, hk, hb, hg, hkp⟩
  obtain ⟨g, cs, rfl, hg1, hg2⟩ := hg hp
  obtain ⟨b', off', ha, hcell⟩ := hb.cells
  cases ha hp
  refine ⟨g, k, rfl, hk, hg1, ⟨⟨cs, hg2⟩, fun i j hi hj => ?_⟩, hkp⟩
  have h1 := (hcell (i * c + j) (idx_lt hi hj)).2
  unfold flat at h1
  rw [(divmod hj).1, (divmod hj).2, ← Nat.add_assoc] at h1
  exact h1

open Go.RowKit

set_option maxRecDepth 100000 in
set_option maxHeartbeats 8000000 in
theorem rswept (r c b o cap b' o' cap' : Nat) (F : Nat → Nat → Nat) (hr : 1 ≤ r ∧ r ≤ 16) (hc : 1 ≤ c ∧ c ≤ 16) (hF : Bt F) (W : World) (hm : MatR W b o r c F) (ho : MatR W b' o' r r oneF) :
    Calls Try.prog 51 #[.agg #[.int .i64 r, .int .i64 c, .slice (some ⟨b, o, none⟩) (r * c) cap], .agg #[.int .i64 r, .int .i64 r, .slice (some ⟨b', o', none⟩) (r * r) cap']] W
      fun e w' => ∃ g k, e = .returned (.tuple #[.int .i64 (rankF r c F : Nat), .agg #[.int .i64 r, .int .i64 r, .slice (some ⟨g, 0, none⟩) (r * r) k]]) ∧ r * r ≤ k ∧ W.heap.size ≤ g ∧ Mat w' g 0 r r (sh c (redTo r (beside c F oneF) c).2) ∧ Kept W w' := by
  have HM := Lib.hid hm
  have HO := Lib.hid ho
  clear hm ho
  go_enter Try.func51, Try.ntmps51
  go_wp2_with fail
  have k3 := (((Kept.refl W).alloc (.cells #[.int .i64 r, .int .i64 c, .slice (some ⟨b, o, none⟩) (r * c) cap] 33)).alloc (.cells #[.int .i64 r, .int .i64 r, .slice (some ⟨b', o', none⟩) (r * r) cap'] 33)).alloc (.cells #[.int .i64 0, .int .i64 0, .slice none 0 0] 33)
  have hbm := ((BlockAt.new W #[.int .i64 r, .int .i64 c, .slice (some ⟨b, o, none⟩) (r * c) cap] 33).kept ((Kept.refl _).alloc (.cells #[.int .i64 r, .int .i64 r, .slice (some ⟨b', o', none⟩) (r * r) cap'] 33))).kept ((Kept.refl _).alloc (.cells #[.int .i64 0, .int .i64 0, .slice none 0 0] 33))
  have hbo := (BlockAt.new1 W #[.int .i64 r, .int .i64 r, .slice (some ⟨b', o', none⟩) (r * r) cap'] 33 (.cells #[.int .i64 r, .int .i64 c, .slice (some ⟨b, o, none⟩) (r * c) cap] 33)).kept ((Kept.refl _).alloc (.cells #[.int .i64 0, .int .i64 0, .slice none 0 0] 33))
  have hbz := BlockAt.new2 W #[.int .i64 0, .int .i64 0, .slice none 0 0] 33 (.cells #[.int .i64 r, .int .i64 c, .slice (some ⟨b, o, none⟩) (r * c) cap] 33) (.cells #[.int .i64 r, .int .i64 r, .slice (some ⟨b', o', none⟩) (r * r) cap'] 33)
  have hsz : W.heap.size + 3 ≤ (((W.alloc (.cells #[.int .i64 r, .int .i64 c, .slice (some ⟨b, o, none⟩) (r * c) cap] 33)).alloc (.cells #[.int .i64 r, .int .i64 r, .slice (some ⟨b', o', none⟩) (r * r) cap'] 33)).alloc (.cells #[.int .i64 0, .int .i64 0, .slice none 0 0] 33)).heap.size := by simp
  generalize ((W.alloc _).alloc _).alloc _ = w0 at *
  have HZ := Lib.hid hsz
  have hcp : ∀ L : Nat → Prop, (∀ j, j < 6 → ¬ L j) → SwCp W r c F (.slice (some ⟨b, o, none⟩) (r * c) cap) (.slice (some ⟨b', o', none⟩) (r * r) cap') L w0.drew undef undef undef undef 0 0 0 0 := fun L hL =>
    ⟨k3.trans (Kept.refl w0).drew, hbz.kept (Kept.refl w0).drew, fun h => absurd h (hL _ (by decide)), fun h => absurd h (hL _ (by decide)), fun h => absurd h (hL _ (by decide)), fun h => absurd h (hL _ (by decide)), fun h => absurd h (hL _ (by decide)),
      fun _ => hbm.kept (Kept.refl w0).drew, fun h => absurd h (hL _ (by decide)), fun _ => hbo.kept (Kept.refl w0).drew, fun h => absurd h (hL _ (by decide)), fun h => absurd h (hL _ (by decide)), fun h => absurd h (hL _ (by decide)), fun h => absurd h (hL _ (by decide)), fun h => absurd h (hL _ (by decide))⟩
  have HCP := Lib.hid hcp
  clear hbm hbo hbz k3 hsz hcp
  refine wp_region_inv (fun L a' w' => ∃ v0 v1 v2 v3 g k g' k', a' = { tmps := #[.agg #[.int .i64 r, .int .i64 c, .slice (some ⟨b, o, none⟩) (r * c) cap], .agg #[.int .i64 r, .int .i64 r, .slice (some ⟨b', o', none⟩) (r * r) cap'], .pointer (some ⟨W.heap.size, 0, none⟩), .pointer (some ⟨W.heap.size + 1, 0, none⟩), .int .i64 0, .pointer (some ⟨W.heap.size + 1 + 1, 0, none⟩), undef, undef, undef, undef, undef, undef, v0, v1, v2, v3, undef, undef, undef, undef, undef, undef, undef, undef, undef, undef, undef, undef, undef, undef, undef, undef, undef, undef, undef, undef, undef, undef, undef, undef, undef, undef, undef, undef, undef, undef, undef, undef, undef, undef, undef, undef, undef, undef, undef, undef, undef, undef, undef, undef, undef, undef, undef, undef, undef, undef, undef, undef, undef, undef, undef, undef, undef, undef, undef, undef, undef, undef, undef, undef, undef, undef, undef, undef, undef, undef, undef, undef, undef, undef, undef, undef, undef, undef, undef, undef, undef, undef, undef, undef, undef, undef, undef, undef, undef, undef, undef, undef, undef, undef, undef, undef], defers := [] } ∧ SwCp W r c F (.slice (some ⟨b, o, none⟩) (r * c) cap) (.slice (some ⟨b', o', none⟩) (r * r) cap') L w' v0 v1 v2 v3 g k g' k') (by kernel_rfl) (by kernel_rfl) ?hh0 ?hhs ?hhe
  case hh0 =>
    intro L hL
    exact ⟨undef, undef, undef, undef, 0, 0, 0, 0, rfl, HCP.out L (fun j hj => hL j hj)⟩
  case hhs =>
    rintro L L' a' w i op K ⟨v0, v1, v2, v3, g, k, g', k', rfl, hS⟩ ho hopen hdep hL hK
    match i, ho with
    | 0, ho =>
      simp only [List.getElem?_toArray, List.getElem?_cons_zero, Option.some.injEq] at ho
      subst ho
      rw [if_pos (wanted_free rfl _)]
      have n4 : ¬ L 4 := fun x => hopen (hS.d1 (hS.d4 x).1)
      have n5 : ¬ L 5 := fun x => hopen (hS.d1 (hS.d5 x).1)
      obtain ⟨x0, x1, x2⟩ := box3 (hS.m0 n4)
      go_simp
      exact hK _ _ ⟨.agg #[.int .i64 r, .int .i64 c, .slice (some ⟨b, o, none⟩) (r * c) cap], v1, v2, v3, g, k, g', k', rfl, hS.more 0 (by decide) hL (Kept.refl _) n4 n5 (.inl ⟨rfl, rfl⟩) (.inr ⟨by decide, rfl, rfl, rfl⟩) (.inr ⟨by decide, rfl⟩) (.inr ⟨by decide, rfl, rfl, rfl⟩)⟩
    | 1, ho =>
      simp only [List.getElem?_toArray, List.getElem?_cons_zero, List.getElem?_cons_succ, Option.some.injEq] at ho
      subst ho
      rw [if_pos (wanted_free rfl _)]
      have n4 : ¬ L 4 := fun x => hopen (hS.d4 x).1
      have n5 : ¬ L 5 := fun x => hopen (hS.d5 x).1
      have l0 := hdep 0 (by kernel_rfl)
      have e0 := hS.f0 l0
      have hlt := fun h3 : L 3 => (hS.f3 h3).2.2.2.lt
      have hkz := hS.kp.size
      have hz := hS.z.lt
      subst e0
      go_simp
      refine (copy_mat r c b o cap F hr hc w (HM.out.kept hS.kp)).mono ?_
      rintro e w' ⟨ng, nk, rfl, h1, h2, h3, hk⟩
      exact hK _ _ ⟨_, .agg #[.int .i64 r, .int .i64 c, .slice (some ⟨ng, 0, none⟩) (r * c) nk], v2, v3, ng, nk, g', k', rfl, hS.more 1 (by decide) hL hk n4 n5 (.inr ⟨by decide, rfl⟩) (.inl ⟨rfl, l0, rfl, h1, by omega, h3, fun h => by have := hlt h; omega⟩) (.inr ⟨by decide, rfl⟩) (.inr ⟨by decide, rfl, rfl, rfl⟩)⟩
    | 2, ho =>
      simp only [List.getElem?_toArray, List.getElem?_cons_zero, List.getElem?_cons_succ, Option.some.injEq] at ho
      subst ho
      rw [if_pos (wanted_free rfl _)]
      have n4 : ¬ L 4 := fun x => hopen (hS.d3 (hS.d4 x).2)
      have n5 : ¬ L 5 := fun x => hopen (hS.d3 (hS.d5 x).2)
      obtain ⟨x0, x1, x2⟩ := box3 (hS.o0 n5)
      go_simp
      exact hK _ _ ⟨v0, v1, .agg #[.int .i64 r, .int .i64 r, .slice (some ⟨b', o', none⟩) (r * r) cap'], v3, g, k, g', k', rfl, hS.more 2 (by decide) hL (Kept.refl _) n4 n5 (.inr ⟨by decide, rfl⟩) (.inr ⟨by decide, rfl, rfl, rfl⟩) (.inl ⟨rfl, rfl⟩) (.inr ⟨by decide, rfl, rfl, rfl⟩)⟩
    | 3, ho =>
      simp only [List.getElem?_toArray, List.getElem?_cons_zero, List.getElem?_cons_succ, Option.some.injEq] at ho
      subst ho
      rw [if_pos (wanted_free rfl _)]
      have n4 : ¬ L 4 := fun x => hopen (hS.d4 x).2
      have n5 : ¬ L 5 := fun x => hopen (hS.d5 x).2
      have l2 := hdep 2 (by kernel_rfl)
      have e2 := hS.f2 l2
      have hlt := fun h1 : L 1 => (hS.f1 h1).2.2.2.lt
      have hz := hS.z.lt
      subst e2
      go_simp
      refine (copy_mat r r b' o' cap' oneF hr hr w (HO.out.kept hS.kp)).mono ?_
      rintro e w' ⟨ng, nk, rfl, h1, h2, h3, hk⟩
      exact hK _ _ ⟨v0, v1, _, .agg #[.int .i64 r, .int .i64 r, .slice (some ⟨ng, 0, none⟩) (r * r) nk], g, k, ng, nk, rfl, hS.more 3 (by decide) hL hk n4 n5 (.inr ⟨by decide, rfl⟩) (.inr ⟨by decide, rfl, rfl, rfl⟩) (.inr ⟨by decide, rfl⟩) (.inl ⟨rfl, l2, rfl, h1, by omega, h3, fun h => by have := hlt h; omega⟩)⟩
    | 4, ho =>
      simp only [List.getElem?_toArray, List.getElem?_cons_zero, List.getElem?_cons_succ, Option.some.injEq] at ho
      subst ho
      rw [if_pos (wanted_free rfl _)]
      have l1 := hdep 1 (by kernel_rfl)
      have l3 := hdep 3 (by kernel_rfl)
      have hnew := hS.storeM l1 l3 hopen hL
      have e1 := (hS.f1 l1).1
      obtain ⟨x0, x1, x2⟩ := box3 (hS.m0 hopen)
      have f0 := (hS.m0 hopen).free 0
      have f1 := (hS.m0 hopen).free 1
      have f2 := (hS.m0 hopen).free 2
      have HN := Lib.hid hnew
      clear hnew hS
      subst e1
      go_simp
      exact hK _ _ ⟨_, _, _, _, _, _, _, _, rfl, HN.out⟩
    | 5, ho =>
      simp only [List.getElem?_toArray, List.getElem?_cons_zero, List.getElem?_cons_succ, Option.some.injEq] at ho
      subst ho
      rw [if_pos (wanted_free rfl _)]
      have l1 := hdep 1 (by kernel_rfl)
      have l3 := hdep 3 (by kernel_rfl)
      have hnew := hS.storeO l1 l3 hopen hL
      have e3 := (hS.f3 l3).1
      obtain ⟨x0, x1, x2⟩ := box3 (hS.o0 hopen)
      have f0 := (hS.o0 hopen).free 0
      have f1 := (hS.o0 hopen).free 1
      have f2 := (hS.o0 hopen).free 2
      have HN := Lib.hid hnew
      clear hnew hS
      subst e3
      go_simp
      exact hK _ _ ⟨_, _, _, _, _, _, _, _, rfl, HN.out⟩
    | n + 6, ho => simp at ho
  case hhe =>
    rintro L a' w1 ⟨v0, v1, v2, v3, g, k, g', k', rfl, hS⟩ hall
    obtain ⟨q1, hk1, hg, hmc⟩ := hS.f1 (hall 1 (by decide))
    obtain ⟨q2, hk2, hg', hoc⟩ := hS.f3 (hall 3 (by decide))
    have hne := hS.f13 (hall 1 (by decide)) (hall 3 (by decide))
    have hst0 : SwSt W r c g k g' k' (redTo r (beside c F oneF) 0).2 (sh c (redTo r (beside c F oneF) 0).2) w1 :=
      ⟨hS.m1 (hall 4 (by decide)), hS.o1 (hall 5 (by decide)), hS.z, hmc.congr (fun i j _ hj => (beside_left F oneF hj).symm), by
        rw [show sh c (redTo r (beside c F oneF) 0).2 = oneF from sh_beside c F]; exact hoc, hS.kp⟩
    have hBt := beside_bt hF oneF_bt c
    have hrk : rankF r c F = (redTo r (beside c F oneF) c).1 := rfl
    have HRK := Lib.hid hrk
    have HST0 := Lib.hid hst0
    clear hst0 hS hmc hoc hall hrk HCP HM HO HZ q1 q2
    generalize hB : beside c F oneF = B at *
    have HBE := Lib.hid hB
    clear hB
    have hrc : r * c ≤ 256 := Nat.le_trans (Nat.mul_le_mul hr.2 hc.2) (by decide)
    go_wp2_with fail
    go_loopw [6, 7] (fun v i wr => ∃ n : Nat, n ≤ c ∧ i = .int .i64 n ∧ v = .int .i64 ((redTo r B n).1 : Nat) ∧ SwSt W r c g k g' k' (redTo r B n).2 (sh c (redTo r B n).2) wr) (fun _ i _ => c - (intOf i).toNat)
    case atStart => exact ⟨0, by omega, rfl, rfl, HST0.out⟩
    case round =>
      obtain ⟨n, hn, rfl, rfl, hS⟩ := hrel
      obtain ⟨a0, a1, a2⟩ := box3 hS.bm
      have hbt := redTo_bt r B hBt n
      have hrk := redTo_le r B n
      by_cases hlt : n < c
      · by_cases hlr : (redTo r B n).1 < r
        · have hNo : pv (redTo r B n).2 n (redTo r B n).1 (r - (redTo r B n).1) = none → (redTo r B (n + 1)).1 = (redTo r B n).1 ∧ (redTo r B (n + 1)).2 = (redTo r B n).2 := fun h => by rw [redTo_none r B n h]; exact ⟨rfl, rfl⟩
          have hSo : ∀ a, pv (redTo r B n).2 n (redTo r B n).1 (r - (redTo r B n).1) = some a → (redTo r B (n + 1)).1 = (redTo r B n).1 + 1 ∧ (redTo r B (n + 1)).2 = sweepF r (redTo r B n).2 (redTo r B n).1 n a := fun a h => by rw [redTo_some r B n a h]; exact ⟨rfl, rfl⟩
          have HNO := Lib.hid hNo
          have HSO := Lib.hid hSo
          have HSR := Lib.hid hS
          clear hNo hSo hS
          generalize (redTo r B n).1 = rho at *
          generalize (redTo r B n).2 = S at *
          go_wp2_with fail
          go_loop [8] (fun v => ∃ m : Nat, v = .int .i64 m ∧ rho ≤ m ∧ m ≤ r ∧ ∀ i, rho ≤ i → i < m → S i n = 0) (fun v => r - (intOf v).toNat)
          case atStart => exact ⟨rho, rfl, Nat.le_refl _, by omega, fun i h1 h2 => by omega⟩
          case round =>
            obtain ⟨m, rfl, hm1, hm2, hm3⟩ := hrel
            have HM3 := Lib.hid hm3
            clear hm3
            by_cases hmr : m < r
            · have hcell := HSR.out.m.cell m n hmr hlt
              rw [Nat.zero_add] at hcell
              have hq := mul_cast m c
              have hlq := idx_lt hmr hlt
              have hsum : ((m * c : Nat) : Int) + (n : Int) = ((m * c + n : Nat) : Int) := by simp
              by_cases h0 : S m n = 0
              · have H0 := Lib.hid h0
                rw [h0] at hcell
                clear h0
                generalize hmc : m * c = mc at *
                generalize hmn : mc + n = mn at *
                have HQ1 := Lib.hid hmc
                have HQ2 := Lib.hid hmn
                clear hmc hmn
                go_wp2_with fail
                go_round
                case rel => exact ⟨m + 1, by go_num, by omega, by omega, fun i h1 h2 => by
                  by_cases e : i = m
                  · rw [e]; exact H0.out
                  · exact HM3.out i h1 (by omega)⟩
                case measure => simp [intOf]; omega
              · have hb0 : (((S m n : Nat) : Int) == 0) = false := by rw [beq_eq_false_iff_ne]; omega
                have hp := pv_first (f := S) (col := n) (n := rho) (a := m) (k := r - rho) hm1 (by omega) h0 (fun i h1 h2 => HM3.out i h1 h2)
                have HP := Lib.hid (HSO.out m hp)
                have hx := hbt m n
                have hne2 : ((m : Int) == (r : Int)) = false := by rw [beq_eq_false_iff_ne]; omega
                have HX0 := Lib.hid h0
                have HLQ := Lib.hid hlq
                clear h0 hp HNO HSO HM3
                generalize hmc : m * c = mc at hcell hq hlq hsum
                generalize hmn : mc + n = mn at hcell hlq hsum
                have HQ1 := Lib.hid hmc
                have HQ2 := Lib.hid hmn
                clear hmc hmn
                go_wp2_with fail
                refine (rswap r c g 0 k m rho S hbt hr.2 hc.2 hmr hlr _ HSR.out.m).mono ?_
                rintro e w2 ⟨⟨y2, rfl⟩, hm2', hg2⟩
                have hS2 := HSR.out.onM hg hne hm2' hg2
                rw [swapF_comm] at hS2
                have HS2 := Lib.hid hS2
                obtain ⟨c0, c1, c2⟩ := box3 hS2.bo
                clear hS2 hm2' hg2 hcell hb0 hq hlq hsum a0 a1 a2 HSR HST0
                go_wp2_with fail
                refine (rswap r r g' 0 k' m rho (sh c S) (sh_bt hbt c) hr.2 hr.2 hmr hlr _ HS2.out.o).mono ?_
                rintro e w3 ⟨⟨y3, rfl⟩, hm3', hg3⟩
                rw [sh_swap, swapF_comm] at hm3'
                have hS3 := HS2.out.onO hg' hne hm3' hg3
                obtain ⟨a0, a1, a2⟩ := box3 hS3.bm
                have hcell := hS3.m.cell rho n hlr hlt
                rw [Nat.zero_add, show swapF S rho m rho n = S m n from if_pos rfl] at hcell
                have HS3 := Lib.hid hS3
                have hq := mul_cast rho c
                have hlq := idx_lt hlr hlt
                have hsum : ((rho * c : Nat) : Int) + (n : Int) = ((rho * c + n : Nat) : Int) := by simp
                have htf : topF S rho n m = scaleF (swapF S rho m) rho (Gf.inv (S m n)) := rfl
                have HTF := Lib.hid htf
                clear hS3 hm3' hg3 c0 c1 c2 HS2 htf
                generalize S m n = x at *
                generalize hmc : rho * c = mc at *
                generalize hmn : mc + n = mn at *
                have HQ3 := Lib.hid hmc
                have HQ4 := Lib.hid hmn
                clear hmc hmn
                go_wp2_with fail
                refine (refinv_any x hx _).mono ?_
                rintro e w' ⟨rfl, rfl⟩
                clear hcell hq hlq hsum
                go_wp2_with fail
                refine (rscale r c g 0 k rho (Gf.inv x) (swapF S rho m) (hbt.swap _ _) hr.2 hc.2 hlr (Gf.inv_lt hx) _ HS3.out.m).mono ?_
                rintro e w4 ⟨⟨y4, rfl⟩, hm4, hg4⟩
                rw [← HTF.out] at hm4
                have hS4 := HS3.out.onM hg hne hm4 hg4
                obtain ⟨c0, c1, c2⟩ := box3 hS4.bo
                have HS4 := Lib.hid hS4
                clear hS4 hm4 hg4 a0 a1 a2 HS3
                go_wp2_with fail
                refine (rscale r r g' 0 k' rho (Gf.inv x) (sh c (swapF S rho m)) (sh_bt (hbt.swap _ _) c) hr.2 hr.2 hlr (Gf.inv_lt hx) _ HS4.out.o).mono ?_
                rintro e w5 ⟨⟨y5, rfl⟩, hm5, hg5⟩
                rw [sh_scale, ← HTF.out] at hm5
                have HS5 := Lib.hid (HS4.out.onO hg' hne hm5 hg5)
                have hbT : Bt (topF S rho n m) := hbt.top _ _ _
                have hP1 := HP.out.1
                have hP2 : (redTo r B (n + 1)).2 = elimTo (topF S rho n m) rho n r := HP.out.2
                have HP1 := Lib.hid hP1
                have HP2 := Lib.hid hP2
                clear hm5 hg5 c0 c1 c2 HS4 HP hP1 hP2 HTF
                generalize topF S rho n m = T at *
                go_wp2_with fail
                go_loopw [10] (fun i wx => ∃ q : Nat, q ≤ r ∧ i = .int .i64 q ∧ SwSt W r c g k g' k' (elimTo T rho n q) (sh c (elimTo T rho n q)) wx) (fun i _ => r - (intOf i).toNat)
                case atStart => exact ⟨0, by omega, rfl, by rw [elimTo_zero]; exact HS5.out⟩
                case round =>
                  obtain ⟨q, hq, rfl, hS6⟩ := hrel
                  obtain ⟨a0, a1, a2⟩ := box3 hS6.bm
                  have HS6 := Lib.hid hS6
                  by_cases hqr : q < r
                  · by_cases hqe : q = rho
                    · have hqb : ((q : Int) == (rho : Int)) = true := by rw [beq_iff_eq]; omega
                      have HQE := Lib.hid hqe
                      clear hqe hS6
                      go_wp2_with fail
                      go_roundw
                      case rel => exact ⟨q + 1, by omega, by go_num, by rw [← elim_top T rho n q HQE.out]; exact HS6.out⟩
                      case measure => simp [intOf]; omega
                    · have hqb : ((q : Int) == (rho : Int)) = false := by rw [beq_eq_false_iff_ne]; omega
                      have HQE := Lib.hid hqe
                      have HRW := Lib.hid (elim_row T rho n q hqe)
                      have hcell := hS6.m.cell q n hqr hlt
                      rw [Nat.zero_add] at hcell
                      have hq1 := mul_cast q c
                      have hlq := idx_lt hqr hlt
                      have hsum : ((q * c : Nat) : Int) + (n : Int) = ((q * c + n : Nat) : Int) := by simp
                      have hbe : Bt (elimTo T rho n q) := hbT.elim _ _ _
                      have hx6 := hbe q n
                      clear hS6 hqe
                      generalize elimTo T rho n q = E at *
                      generalize E q n = x6 at *
                      generalize hmc : q * c = mc at *
                      generalize hmn : mc + n = mn at *
                      have HQ5 := Lib.hid hmc
                      have HQ6 := Lib.hid hmn
                      clear hmc hmn
                      go_wp2_with fail
                      refine (radd r c g 0 k q rho x6 E hbe hr.2 hc.2 hqr hlr HQE.out hx6 _ HS6.out.m).mono ?_
                      rintro e w7 ⟨⟨y7, rfl⟩, hm7, hg7⟩
                      have hS7 := HS6.out.onM hg hne hm7 hg7
                      obtain ⟨c0, c1, c2⟩ := box3 hS7.bo
                      have HS7 := Lib.hid hS7
                      clear hS7 hm7 hg7 a0 a1 a2 HS6 hcell hq1 hlq hsum
                      go_wp2_with fail
                      refine (radd r r g' 0 k' q rho x6 (sh c E) (sh_bt hbe c) hr.2 hr.2 hqr hlr HQE.out hx6 _ HS7.out.o).mono ?_
                      rintro e w8 ⟨⟨y8, rfl⟩, hm8, hg8⟩
                      rw [sh_add] at hm8
                      have hS8 := HS7.out.onO hg' hne hm8 hg8
                      rw [HRW.out] at hS8
                      have HS8 := Lib.hid hS8
                      clear hS8 hm8 hg8 c0 c1 c2 HS7
                      go_wp2_with fail
                      go_roundw
                      case rel => exact ⟨q + 1, by omega, by go_num, HS8.out⟩
                      case measure => simp [intOf]; omega
                  · obtain rfl : q = r := by omega
                    clear hS6
                    go_wp2_with fail
                    go_roundw
                    case rel => exact ⟨n + 1, by omega, by go_num, by rw [HP1.out]; go_num, by rw [HP2.out]; exact HS6.out⟩
                    case measure => simp [intOf]; omega
            · obtain rfl : m = r := by omega
              have hp := pv_zeros (f := S) (col := n) (n := rho) (k := m - rho) (fun i h1 h2 => HM3.out i h1 (by omega))
              have HP := Lib.hid (HNO.out hp)
              clear hp HNO HSO
              go_wp2_with fail
              go_roundw
              case rel => exact ⟨n + 1, by omega, by go_num, by rw [HP.out.1], by rw [HP.out.2]; exact HSR.out⟩
              case measure => simp [intOf]; omega
        · have hfin : redTo r B c = redTo r B n := by
            have h := redTo_full r B n (by omega) (c - n)
            rw [show n + (c - n) = c by omega] at h
            exact h
          have HFI := Lib.hid hfin
          have HSE := Lib.hid (hS.kept (Kept.refl wr).drew)
          clear hfin hS hbt
          go_wp2_with fail
          clear a0 a1 a2 hrk
          refine wp_region_inv1 (fun a0 L a w => ∃ v4 v0 v1, a = (((a0.put (some 4) v4).put (some 110) v0).put (some 111) v1) ∧ (L 0 → v0 = .int .i64 ((redTo r B n).1 : Nat)) ∧ (L 1 → v1 = .agg #[.int .i64 r, .int .i64 r, .slice (some ⟨g', 0, none⟩) (r * r) k']) ∧ (L 2 → v4 = .int .i64 ((redTo r B n).1 : Nat)) ∧ (L 3 → L 1) ∧ (¬ L 3 → w = wr.drew) ∧
            (L 3 → w = ((wr.drew.setCell ⟨W.heap.size + 1 + 1, 0, none⟩ (.int .i64 r)).setCell ⟨W.heap.size + 1 + 1, 1, none⟩ (.int .i64 r)).setCell ⟨W.heap.size + 1 + 1, 2, none⟩ (.slice (some ⟨g', 0, none⟩) (r * r) k'))) (by kernel_rfl) (by kernel_rfl) ?eh0 ?ehs ?ehe
          case eh0 =>
            intro L hL
            exact ⟨.int .i64 0, undef, undef, by simp only [Act.put, List.setIfInBounds_toArray, List.set_cons_zero, List.set_cons_succ], fun h => absurd h (hL _ (by decide)), fun h => absurd h (hL _ (by decide)), fun h => absurd h (hL _ (by decide)), fun h => absurd h (hL _ (by decide)), fun _ => rfl, fun h => absurd h (hL _ (by decide))⟩
          case ehs =>
            rintro L L' a w i op K ⟨v4, v0, v1, rfl, h0, h1, h2, hd, hw0, hw3⟩ ho hopen hdep hL hK
            have old : ∀ {i j}, (∀ j, L' j ↔ (j = i ∨ L j)) → L' j → j ≠ i → L j := fun {i j} hL hj hne => ((hL j).1 hj).resolve_left hne
            match i, ho with
            | 0, ho =>
              simp only [List.getElem?_toArray, List.getElem?_cons_zero, Option.some.injEq] at ho
              subst ho
              rw [if_pos (wanted_free rfl _)]
              simp only [Act.put, List.setIfInBounds_toArray, List.set_cons_zero, List.set_cons_succ]
              go_simp
              exact hK _ _ ⟨v4, .int .i64 ((redTo r B n).1 : Nat), v1, by simp only [Act.put, List.setIfInBounds_toArray, List.set_cons_zero, List.set_cons_succ], fun _ => rfl, fun h => h1 (old hL h (by decide)), fun h => h2 (old hL h (by decide)), fun h => (hL _).2 (.inr (hd (old hL h (by decide)))), fun h => hw0 (fun x => h ((hL _).2 (.inr x))), fun h => hw3 (old hL h (by decide))⟩
            | 1, ho =>
              simp only [List.getElem?_toArray, List.getElem?_cons_zero, List.getElem?_cons_succ, Option.some.injEq] at ho
              subst ho
              rw [if_pos (wanted_free rfl _)]
              simp only [Act.put, List.setIfInBounds_toArray, List.set_cons_zero, List.set_cons_succ]
              obtain rfl := hw0 (fun x => hopen (hd x))
              obtain ⟨c0, c1, c2⟩ := box3 HSE.out.bo
              go_simp
              exact hK _ _ ⟨v4, v0, .agg #[.int .i64 r, .int .i64 r, .slice (some ⟨g', 0, none⟩) (r * r) k'], by simp only [Act.put, List.setIfInBounds_toArray, List.set_cons_zero, List.set_cons_succ], fun h => h0 (old hL h (by decide)), fun _ => rfl, fun h => h2 (old hL h (by decide)), fun _ => (hL _).2 (.inl rfl), fun h => hw0 (fun x => h ((hL _).2 (.inr x))), fun h => hw3 (old hL h (by decide))⟩
            | 2, ho =>
              simp only [List.getElem?_toArray, List.getElem?_cons_zero, List.getElem?_cons_succ, Option.some.injEq] at ho
              subst ho
              rw [if_pos (wanted_free rfl _)]
              have e0 := h0 (hdep 0 (by kernel_rfl))
              subst e0
              simp only [Act.put, List.setIfInBounds_toArray, List.set_cons_zero, List.set_cons_succ]
              go_simp
              exact hK _ _ ⟨.int .i64 ((redTo r B n).1 : Nat), _, v1, by simp only [Act.put, List.setIfInBounds_toArray, List.set_cons_zero, List.set_cons_succ], fun _ => rfl, fun h => h1 (old hL h (by decide)), fun _ => rfl, fun h => (hL _).2 (.inr (hd (old hL h (by decide)))), fun h => hw0 (fun x => h ((hL _).2 (.inr x))), fun h => hw3 (old hL h (by decide))⟩
            | 3, ho =>
              simp only [List.getElem?_toArray, List.getElem?_cons_zero, List.getElem?_cons_succ, Option.some.injEq] at ho
              subst ho
              rw [if_pos (wanted_free rfl _)]
              have l1 := hdep 1 (by kernel_rfl)
              have e1 := h1 l1
              subst e1
              simp only [Act.put, List.setIfInBounds_toArray, List.set_cons_zero, List.set_cons_succ]
              have hw := hw0 hopen
              have hS : SwSt W r c g k g' k' (redTo r B n).2 (sh c (redTo r B n).2) w := by rw [hw]; exact HSE.out
              obtain ⟨c0, c1, c2⟩ := box3 hS.z
              have z0 := hS.z.free 0
              have z1 := hS.z.free 1
              have z2 := hS.z.free 2
              have HW := Lib.hid hw
              clear hw hw0 hw3 hS
              go_simp
              exact hK _ _ ⟨v4, v0, _, by simp only [Act.put, List.setIfInBounds_toArray, List.set_cons_zero, List.set_cons_succ], fun h => h0 (old hL h (by decide)), fun _ => rfl, fun h => h2 (old hL h (by decide)), fun _ => (hL _).2 (.inr l1), fun h => absurd ((hL _).2 (.inl rfl)) h, fun _ => by rw [HW.out]⟩
            | n + 4, ho => simp at ho
          case ehe =>
            rintro L a w ⟨v4, v0, v1, rfl, h0, h1, h2, hd, hw0, hw3⟩ hall
            have e2 := h2 (hall 2 (by decide))
            subst e2
            obtain rfl := hw3 (hall 3 (by decide))
            simp only [Act.put, List.setIfInBounds_toArray, List.set_cons_zero, List.set_cons_succ]
            go_wp2
            have gz := grown3b wr.drew (W.heap.size + 1 + 1) (.int .i64 r) (.int .i64 r) (.slice (some ⟨g', 0, none⟩) (r * r) k')
            refine bodyPost_ret (v := .tuple #[.int .i64 ((redTo r B n).1 : Nat), .agg #[.int .i64 r, .int .i64 r, .slice (some ⟨g', 0, none⟩) (r * r) k']]) ?_ rfl ⟨g', k', by rw [HRK.out, HFI.out], hk2, by omega, by rw [HBE.out, HFI.out]; exact HSE.out.o.grown gz (by simp; omega), Kept.grown HSE.out.kp gz (fun q e => by cases e; omega)⟩
            exact results_tmp_row rfl _ _ (W.heap.size + 1 + 1) 33 #[.int .i64 r, .int .i64 r, .slice (some ⟨g', 0, none⟩) (r * r) k'] _ rfl (set3b HSE.out.z _ _ _) Try.underlying33 rfl Try.infoMat _ rfl
      · have hfin : redTo r B c = redTo r B n := by rw [show n = c by omega]
        have HFI := Lib.hid hfin
        have HSE := Lib.hid (hS.kept (Kept.refl wr).drew)
        clear hfin hS hbt
        go_wp2_with fail
        clear a0 a1 a2 hrk
        refine wp_region_inv1 (fun a0 L a w => ∃ v4 v0 v1, a = (((a0.put (some 4) v4).put (some 110) v0).put (some 111) v1) ∧ (L 0 → v0 = .int .i64 ((redTo r B n).1 : Nat)) ∧ (L 1 → v1 = .agg #[.int .i64 r, .int .i64 r, .slice (some ⟨g', 0, none⟩) (r * r) k']) ∧ (L 2 → v4 = .int .i64 ((redTo r B n).1 : Nat)) ∧ (L 3 → L 1) ∧ (¬ L 3 → w = wr.drew) ∧
          (L 3 → w = ((wr.drew.setCell ⟨W.heap.size + 1 + 1, 0, none⟩ (.int .i64 r)).setCell ⟨W.heap.size + 1 + 1, 1, none⟩ (.int .i64 r)).setCell ⟨W.heap.size + 1 + 1, 2, none⟩ (.slice (some ⟨g', 0, none⟩) (r * r) k'))) (by kernel_rfl) (by kernel_rfl) ?eh0 ?ehs ?ehe
        case eh0 =>
          intro L hL
          exact ⟨.int .i64 0, undef, undef, by simp only [Act.put, List.setIfInBounds_toArray, List.set_cons_zero, List.set_cons_succ], fun h => absurd h (hL _ (by decide)), fun h => absurd h (hL _ (by decide)), fun h => absurd h (hL _ (by decide)), fun h => absurd h (hL _ (by decide)), fun _ => rfl, fun h => absurd h (hL _ (by decide))⟩
        case ehs =>
          rintro L L' a w i op K ⟨v4, v0, v1, rfl, h0, h1, h2, hd, hw0, hw3⟩ ho hopen hdep hL hK
          have old : ∀ {i j}, (∀ j, L' j ↔ (j = i ∨ L j)) → L' j → j ≠ i → L j := fun {i j} hL hj hne => ((hL j).1 hj).resolve_left hne
          match i, ho with
          | 0, ho =>
            simp only [List.getElem?_toArray, List.getElem?_cons_zero, Option.some.injEq] at ho
            subst ho
            rw [if_pos (wanted_free rfl _)]
            simp only [Act.put, List.setIfInBounds_toArray, List.set_cons_zero, List.set_cons_succ]
            go_simp
            exact hK _ _ ⟨v4, .int .i64 ((redTo r B n).1 : Nat), v1, by simp only [Act.put, List.setIfInBounds_toArray, List.set_cons_zero, List.set_cons_succ], fun _ => rfl, fun h => h1 (old hL h (by decide)), fun h => h2 (old hL h (by decide)), fun h => (hL _).2 (.inr (hd (old hL h (by decide)))), fun h => hw0 (fun x => h ((hL _).2 (.inr x))), fun h => hw3 (old hL h (by decide))⟩
          | 1, ho =>
            simp only [List.getElem?_toArray, List.getElem?_cons_zero, List.getElem?_cons_succ, Option.some.injEq] at ho
            subst ho
            rw [if_pos (wanted_free rfl _)]
            simp only [Act.put, List.setIfInBounds_toArray, List.set_cons_zero, List.set_cons_succ]
            obtain rfl := hw0 (fun x => hopen (hd x))
            obtain ⟨c0, c1, c2⟩ := box3 HSE.out.bo
            go_simp
            exact hK _ _ ⟨v4, v0, .agg #[.int .i64 r, .int .i64 r, .slice (some ⟨g', 0, none⟩) (r * r) k'], by simp only [Act.put, List.setIfInBounds_toArray, List.set_cons_zero, List.set_cons_succ], fun h => h0 (old hL h (by decide)), fun _ => rfl, fun h => h2 (old hL h (by decide)), fun _ => (hL _).2 (.inl rfl), fun h => hw0 (fun x => h ((hL _).2 (.inr x))), fun h => hw3 (old hL h (by decide))⟩
          | 2, ho =>
            simp only [List.getElem?_toArray, List.getElem?_cons_zero, List.getElem?_cons_succ, Option.some.injEq] at ho
            subst ho
            rw [if_pos (wanted_free rfl _)]
            have e0 := h0 (hdep 0 (by kernel_rfl))
            subst e0
            simp only [Act.put, List.setIfInBounds_toArray, List.set_cons_zero, List.set_cons_succ]
            go_simp
            exact hK _ _ ⟨.int .i64 ((redTo r B n).1 : Nat), _, v1, by simp only [Act.put, List.setIfInBounds_toArray, List.set_cons_zero, List.set_cons_succ], fun _ => rfl, fun h => h1 (old hL h (by decide)), fun _ => rfl, fun h => (hL _).2 (.inr (hd (old hL h (by decide)))), fun h => hw0 (fun x => h ((hL _).2 (.inr x))), fun h => hw3 (old hL h (by decide))⟩
          | 3, ho =>
            simp only [List.getElem?_toArray, List.getElem?_cons_zero, List.getElem?_cons_succ, Option.some.injEq] at ho
            subst ho
            rw [if_pos (wanted_free rfl _)]
            have l1 := hdep 1 (by kernel_rfl)
            have e1 := h1 l1
            subst e1
            simp only [Act.put, List.setIfInBounds_toArray, List.set_cons_zero, List.set_cons_succ]
            have hw := hw0 hopen
            have hS : SwSt W r c g k g' k' (redTo r B n).2 (sh c (redTo r B n).2) w := by rw [hw]; exact HSE.out
            obtain ⟨c0, c1, c2⟩ := box3 hS.z
            have z0 := hS.z.free 0
            have z1 := hS.z.free 1
            have z2 := hS.z.free 2
            have HW := Lib.hid hw
            clear hw hw0 hw3 hS
            go_simp
            exact hK _ _ ⟨v4, v0, _, by simp only [Act.put, List.setIfInBounds_toArray, List.set_cons_zero, List.set_cons_succ], fun h => h0 (old hL h (by decide)), fun _ => rfl, fun h => h2 (old hL h (by decide)), fun _ => (hL _).2 (.inr l1), fun h => absurd ((hL _).2 (.inl rfl)) h, fun _ => by rw [HW.out]⟩
          | n + 4, ho => simp at ho
        case ehe =>
          rintro L a w ⟨v4, v0, v1, rfl, h0, h1, h2, hd, hw0, hw3⟩ hall
          have e2 := h2 (hall 2 (by decide))
          subst e2
          obtain rfl := hw3 (hall 3 (by decide))
          simp only [Act.put, List.setIfInBounds_toArray, List.set_cons_zero, List.set_cons_succ]
          go_wp2
          have gz := grown3b wr.drew (W.heap.size + 1 + 1) (.int .i64 r) (.int .i64 r) (.slice (some ⟨g', 0, none⟩) (r * r) k')
          refine bodyPost_ret (v := .tuple #[.int .i64 ((redTo r B n).1 : Nat), .agg #[.int .i64 r, .int .i64 r, .slice (some ⟨g', 0, none⟩) (r * r) k']]) ?_ rfl ⟨g', k', by rw [HRK.out, HFI.out], hk2, by omega, by rw [HBE.out, HFI.out]; exact HSE.out.o.grown gz (by simp; omega), Kept.grown HSE.out.kp gz (fun q e => by cases e; omega)⟩
          exact results_tmp_row rfl _ _ (W.heap.size + 1 + 1) 33 #[.int .i64 r, .int .i64 r, .slice (some ⟨g', 0, none⟩) (r * r) k'] _ rfl (set3b HSE.out.z _ _ _) Try.underlying33 rfl Try.infoMat _ rfl
end Go.Proofs.Ytoonpnpooljmlaa

namespace Go.Proofs.Ytoonpnpooljmlaa
open Go.RowKit

/-- One as far as row k -/
def oneTo (k : Nat) : Nat → Nat → Nat := fun i j => if i = j ∧ i < k then 1 else 0
theorem oneTo_zero : oneTo 0 = zeroF := by funext i j; simp [oneTo, zeroF]
theorem oneTo_succ (k : Nat) : upd (oneTo k) k k 1 = oneTo (k + 1) := by
  funext i j
  unfold upd oneTo
  by_cases h : i = k ∧ j = k
  · obtain ⟨rfl, rfl⟩ := h; simp
  · rw [if_neg h]
    by_cases e : i = j
    · subst e
      have hk : i ≠ k := fun h' => h ⟨h', h'⟩
      have : i < k + 1 ↔ i < k := by omega
      simp [this]
    · simp [e]
theorem oneTo_all (n i j : Nat) (hi : i < n) : oneTo n i j = oneF i j := by
  unfold oneTo oneF
  by_cases e : i = j
  · subst e; simp [hi]
  · simp [e]
set_option maxRecDepth 100000 in
set_option maxHeartbeats 4000000 in
theorem rone (n : Nat) (hn : 1 ≤ n ∧ n ≤ 16) (w : World) :
    Calls Try.prog 52 #[.int .i64 n] w
      fun e w' => ∃ b, e = .returned (.agg #[.int .i64 n, .int .i64 n, .slice (some ⟨b, 0, none⟩) (n * n) (n * n)]) ∧ w.heap.size ≤ b ∧ Mat w' b 0 n n oneF ∧ Kept w w' := by
  have hnn : n * n ≤ 256 := Nat.le_trans (Nat.mul_le_mul hn.2 hn.2) (by decide)
  have hpp : (n : Int) * (n : Int) = ((n * n : Nat) : Int) := by simp
  have HLT := Lib.hid (fun k (hk : k < n) => idx_lt (r := n) (c := n) hk hk)
  have hkn := fun k : Nat => mul_cast k n
  have HKN := Lib.hid hkn
  have hb := fun u : World => made_mat u n n
  generalize hmnn : n * n = m at *
  have hmk := make_bytes m (by omega)
  generalize madeCells #[.int .u8 0] m = Z at hmk hb
  have HBM := Lib.hid hb
  clear hb hkn
  go_enter Try.func52, Try.ntmps52
  go_wp2_with fail
  have hR := ((BlockAt.new w #[.int .i64 0, .int .i64 0, .slice none 0 0] 33).kept ((Kept.refl _).alloc (.cells Z 5))).kept ((Kept.refl _).alloc (.cells #[.int .i64 n, .int .i64 n, .slice (some ⟨w.heap.size + 1, 0, none⟩) m m] 33))
  have hY := BlockAt.new2 w #[.int .i64 n, .int .i64 n, .slice (some ⟨w.heap.size + 1, 0, none⟩) m m] 33 (.cells #[.int .i64 0, .int .i64 0, .slice none 0 0] 33) (.cells Z 5)
  have hQ := (HBM.out (w.alloc (.cells #[.int .i64 0, .int .i64 0, .slice none 0 0] 33))).kept ((Kept.refl _).alloc (.cells #[.int .i64 n, .int .i64 n, .slice (some ⟨w.heap.size + 1, 0, none⟩) m m] 33))
  simp only [World.size_alloc] at hQ
  have k4 := (((Kept.refl w).alloc (.cells #[.int .i64 0, .int .i64 0, .slice none 0 0] 33)).alloc (.cells Z 5)).alloc (.cells #[.int .i64 n, .int .i64 n, .slice (some ⟨w.heap.size + 1, 0, none⟩) m m] 33)
  have HR := Lib.hid hR
  have HY := Lib.hid hY
  have HQ := Lib.hid hQ
  have HK := Lib.hid k4
  clear hR hY hQ k4 hmk HBM
  generalize ((w.alloc _).alloc _).alloc _ = w4 at *
  have hsz := HK.out.size
  go_loopw [4] (fun i wr => ∃ k : Nat, k ≤ n ∧ i = .int .i64 k ∧ Mat wr (w.heap.size + 1) 0 n n (oneTo k) ∧ w4.grownBy wr (some (w.heap.size + 1))) (fun i _ => n - (intOf i).toNat)
  case atStart => exact ⟨0, by omega, rfl, by rw [oneTo_zero]; exact HQ.out, grown_refl _ _⟩
  case round =>
    obtain ⟨k, hk, rfl, hmr, hg⟩ := hrel
    have HMR := Lib.hid hmr
    have HG := Lib.hid hg
    obtain ⟨y0, y1, y2⟩ := box3 (HY.out.grown hg (by simp))
    by_cases hlt : k < n
    · have hcell := hmr.cell k k hlt hlt
      have hset := hmr.set hlt hlt 1
      rw [oneTo_succ] at hset
      rw [Nat.zero_add] at hcell hset
      have hfree := hmr.free (k * n + k)
      have hl2 := HLT.out k hlt
      have hk2 := HKN.out k
      have hsum : ((k * n : Nat) : Int) + (k : Int) = ((k * n + k : Nat) : Int) := by simp
      generalize oneTo k k k = x at hcell
      have HSET := Lib.hid hset
      clear hmr hg hset
      generalize hq : k * n = kn at *
      generalize hq2 : kn + k = kk at *
      have HQ1 := Lib.hid hq
      have HQ2 := Lib.hid hq2
      clear hq hq2
      go_wp2_with fail
      go_roundw
      case rel => exact ⟨k + 1, by omega, by go_num, HSET.out, grown_trans HG.out (grown_set _ _ _ _)⟩
      case measure => simp [intOf]; omega
    · obtain rfl : k = n := by omega
      have HR2 := Lib.hid (HR.out.grown hg (by simp))
      have hfin := hmr.congr (G := oneF) (fun i j hi _ => oneTo_all k i j hi)
      have HF := Lib.hid hfin
      clear hmr hg hfin HMR
      go_wp2_with (refine wpList_store_block rfl 33 (.tmp 2) (.tmp 25) rfl _ #[.int .i64 k, .int .i64 k, .slice (some ⟨w.heap.size + 1, 0, none⟩) m m] #[.int .i64 0, .int .i64 0, .slice none 0 0] 33 rfl rfl HR2.out Try.infoMat rfl (one3 _ _ _ _ _) ?_)
      have g2 := grown_row wr w.heap.size #[.int .i64 k, .int .i64 k, .slice (some ⟨w.heap.size + 1, 0, none⟩) m m]
      refine bodyPost_ret (v := .agg #[.int .i64 k, .int .i64 k, .slice (some ⟨w.heap.size + 1, 0, none⟩) m m]) ?_ rfl ⟨_, rfl, by omega, HF.out.grown g2 (by simp), (Kept.grown HK.out HG.out (fun q e => by cases e; omega)).grown g2 (fun q e => by cases e; omega)⟩
      exact results_cell_row rfl _ _ w.heap.size 33 #[.int .i64 k, .int .i64 k, .slice (some ⟨w.heap.size + 1, 0, none⟩) m m] (0, 0) _ rfl (HR2.out.setRow _) Try.underlying33 rfl Try.infoMat

open Go.RowKit

/-- what the operations that are done have left, in whatever order -/
structure PJ (W : World) (P : Nat → World → Value → Prop) (L : Nat → Prop) (V : Nat → Value) (w : World) : Prop where
  kp : Kept W w
  h : ∀ j, L j → P j w (V j)
theorem PJ.more {W : World} {P : Nat → World → Value → Prop} {L L' : Nat → Prop} {V : Nat → Value} {w w' : World} {i : Nat} (h : PJ W P L V w) (hP : ∀ j w w' v, P j w v → Kept w w' → P j w' v) (hL : ∀ j, L' j ↔ (j = i ∨ L j)) (hk : Kept w w') {x : Value} (hx : P i w' x) : PJ W P L' (vset V i x) w' :=
  ⟨h.kp.trans hk, fun j hj => by
    by_cases e : j = i
    · subst e; rw [vset_same]; exact hx
    · rw [vset_other _ _ e]; exact hP j w w' _ (h.h j (((hL j).1 hj).resolve_left e)) hk⟩
theorem PJ.store {W : World} {P : Nat → World → Value → Prop} {L L' : Nat → Prop} {V : Nat → Value} {w w' : World} {i b : Nat} (h : PJ W P L V w) (hL : ∀ j, L' j ↔ (j = i ∨ L j)) (hb : W.heap.size ≤ b) (hg : w.grownBy w' (some b)) (hP : ∀ j v, P j w v → P j w' v) {x : Value} (hx : P i w' x) : PJ W P L' (vset V i x) w' :=
  ⟨Kept.grown h.kp hg (fun q e => by cases e; exact hb), fun j hj => by
    by_cases e : j = i
    · subst e; rw [vset_same]; exact hx
    · rw [vset_other _ _ e]; exact hP j _ (h.h j (((hL j).1 hj).resolve_left e))⟩
theorem ne_of_types {w : World} {b b' : Nat} {C C' : Array Value} {t t' : TypeId} (h : BlockAt w b C t) (h' : BlockAt w b' C' t') (hne : t ≠ t') : b ≠ b' := fun e => by
  subst e
  have h1 : w.heap[b]? = some (.cells C t (0, 0)) := h
  have h2 : w.heap[b]? = some (.cells C' t' (0, 0)) := h'
  rw [h1] at h2
  cases h2
  exact hne rfl
theorem Mat.grownT {w w' : World} {b off r c b' : Nat} {F : Nat → Nat → Nat} {C : Array Value} {t : TypeId} (h : Mat w b off r c F) (g : w.grownBy w' (some b')) (hb : BlockAt w b' C t) (hne : 5 ≠ t) : Mat w' b off r c F := by
  obtain ⟨cs, hc⟩ := h.blk
  exact h.grown g (fun e => ne_of_types hc hb hne (Option.some.inj e))
theorem rswept_g (r c b o cap : Nat) (F : Nat → Nat → Nat) (hr : 1 ≤ r ∧ r ≤ 16) (hc : 1 ≤ c ∧ c ≤ 16) (hF : Bt F) (R : Nat) (hR : rankF r c F = R) (G : Nat → Nat → Nat) (hG : sh c (redTo r (beside c F oneF) c).2 = G) (b' : Nat) (W : World) (hm : MatR W b o r c F) (ho : MatR W b' 0 r r oneF) :
    Calls Try.prog 51 #[.agg #[.int .i64 r, .int .i64 c, .slice (some ⟨b, o, none⟩) (r * c) cap], .agg #[.int .i64 r, .int .i64 r, .slice (some ⟨b', 0, none⟩) (r * r) (r * r)]] W
      fun e w' => ∃ g k, e = .returned (.tuple #[.int .i64 R, .agg #[.int .i64 r, .int .i64 r, .slice (some ⟨g, 0, none⟩) (r * r) k]]) ∧ r * r ≤ k ∧ W.heap.size ≤ g ∧ Mat w' g 0 r r G ∧ Kept W w' := by
  subst hR hG
  exact rswept r c b o cap b' 0 (r * r) F hr hc hF W hm ho
/-- a copy swept: its rank, and what One beside it became -/
def SwV (r : Nat) (G : Nat → Nat → Nat) (W w : World) (g k : Nat) : Prop := r * r ≤ k ∧ W.heap.size ≤ g ∧ Mat w g 0 r r G
def SwP (q r c R : Nat) (vm : Value) (G : Nat → Nat → Nat) (W : World) : Nat → World → Value → Prop
  | 0, _, v => v = .agg #[.int .i64 r, .int .i64 c, vm]
  | 1, _, v => v = .pointer (some ⟨q, 0, none⟩)
  | 2, _, v => v = .int .i64 r
  | 3, w, v => ∃ b, v = .agg #[.int .i64 r, .int .i64 r, .slice (some ⟨b, 0, none⟩) (r * r) (r * r)] ∧ Mat w b 0 r r oneF
  | 4, w, v => ∃ g k, v = .tuple #[.int .i64 R, .agg #[.int .i64 r, .int .i64 r, .slice (some ⟨g, 0, none⟩) (r * r) k]] ∧ SwV r G W w g k
  | 5, w, v => ∃ g k, v = .tuple #[.int .i64 R, .agg #[.int .i64 r, .int .i64 r, .slice (some ⟨g, 0, none⟩) (r * r) k]] ∧ SwV r G W w g k
  | 6, _, v => v = .int .i64 R
  | 7, w, v => ∃ g k, v = .agg #[.int .i64 r, .int .i64 r, .slice (some ⟨g, 0, none⟩) (r * r) k] ∧ SwV r G W w g k
  | 8, w, v => ∃ b x y z, v = .pointer (some ⟨b, 0, none⟩) ∧ W.heap.size ≤ b ∧ BlockAt w b #[x, y, z] 33
  | 9, _, v => v = .int .i64 R
  | 10, w, v => ∃ b g k, v = .pointer (some ⟨b, 0, none⟩) ∧ W.heap.size ≤ b ∧ BlockAt w b #[.int .i64 r, .int .i64 r, .slice (some ⟨g, 0, none⟩) (r * r) k] 33 ∧ SwV r G W w g k
  | _, _, _ => True
theorem SwV.kept {r : Nat} {G : Nat → Nat → Nat} {W w w' : World} {g k : Nat} (h : SwV r G W w g k) (hk : Kept w w') : SwV r G W w' g k := ⟨h.1, h.2.1, h.2.2.kept hk⟩
theorem swP_kept {q r c R : Nat} {vm : Value} {G : Nat → Nat → Nat} {W : World} : ∀ j w w' v, SwP q r c R vm G W j w v → Kept w w' → SwP q r c R vm G W j w' v := fun j w w' v h hk => by
  match j with
  | 0 => exact h
  | 1 => exact h
  | 2 => exact h
  | 3 => obtain ⟨b, e, m⟩ := h; exact ⟨b, e, m.kept hk⟩
  | 4 => obtain ⟨g, k, e, m⟩ := h; exact ⟨g, k, e, m.kept hk⟩
  | 5 => obtain ⟨g, k, e, m⟩ := h; exact ⟨g, k, e, m.kept hk⟩
  | 6 => exact h
  | 7 => obtain ⟨g, k, e, m⟩ := h; exact ⟨g, k, e, m.kept hk⟩
  | 8 => obtain ⟨b, x, y, z, e, hs, m⟩ := h; exact ⟨b, x, y, z, e, hs, m.kept hk⟩
  | 9 => exact h
  | 10 => obtain ⟨b, g, k, e, hs, m, n⟩ := h; exact ⟨b, g, k, e, hs, m.kept hk, n.kept hk⟩
  | _ + 11 => exact trivial
theorem SwV.stored {r : Nat} {G : Nat → Nat → Nat} {W w w' : World} {g k b : Nat} {C : Array Value} (h : SwV r G W w g k) (hg : w.grownBy w' (some b)) (hb : BlockAt w b C 33) : SwV r G W w' g k := ⟨h.1, h.2.1, h.2.2.grownT hg hb (by decide)⟩
/-- a store into a variable of a matrix' type leaves what the others left -/
theorem swP_store {q r c R : Nat} {vm : Value} {G : Nat → Nat → Nat} {W w w' : World} {b : Nat} {x y z x' y' z' : Value} (hb : BlockAt w b #[x, y, z] 33) (hg : w.grownBy w' (some b)) (hb' : BlockAt w' b #[x', y', z'] 33) (v : Value) (j : Nat) (hj : j ≠ 10) (h : SwP q r c R vm G W j w v) : SwP q r c R vm G W j w' v := by
  match j, hj with
  | 0, _ => exact h
  | 1, _ => exact h
  | 2, _ => exact h
  | 3, _ => obtain ⟨b, e, m⟩ := h; exact ⟨b, e, m.grownT hg hb (by decide)⟩
  | 4, _ => obtain ⟨g, k, e, m⟩ := h; exact ⟨g, k, e, m.stored hg hb⟩
  | 5, _ => obtain ⟨g, k, e, m⟩ := h; exact ⟨g, k, e, m.stored hg hb⟩
  | 6, _ => exact h
  | 7, _ => obtain ⟨g, k, e, m⟩ := h; exact ⟨g, k, e, m.stored hg hb⟩
  | 8, _ =>
    obtain ⟨b2, x2, y2, z2, e, hs, m⟩ := h
    by_cases hh : b2 = b
    · subst hh; exact ⟨b2, x', y', z', e, hs, hb'⟩
    · exact ⟨b2, x2, y2, z2, e, hs, m.grown hg (fun e => hh (Option.some.inj e))⟩
  | 9, _ => exact h
  | _ + 11, _ => exact trivial
set_option maxRecDepth 100000 in
set_option maxHeartbeats 1000000 in
theorem rinvert (r b o cap : Nat) (F : Nat → Nat → Nat) (hr : 1 ≤ r ∧ r ≤ 16) (hF : Bt F) (W : World) (hm : MatR W b o r r F) :
    Calls Try.prog 38 #[.agg #[.int .i64 r, .int .i64 r, .slice (some ⟨b, o, none⟩) (r * r) cap]] W fun e w' => ∃ g k, e = .returned (.tuple #[.agg #[.int .i64 r, .int .i64 r, .slice (some ⟨g, 0, none⟩) (r * r) k], .bool (((rankF r r F : Nat) : Int) == (r : Int))]) ∧ r * r ≤ k ∧ W.heap.size ≤ g ∧ Mat w' g 0 r r (invF r F) ∧ Kept W w' := by
  have hsw := fun R hR G hG => rswept_g r r b o cap F hr hr hF R hR G hG
  generalize hR : rankF r r F = R at hsw ⊢
  have hsw := hsw R rfl
  generalize hG : invF r F = G at hsw ⊢
  have HSW := Lib.hid (hsw G hG)
  clear hsw hR hG
  have k1 : Kept W ((W.alloc (.cells #[.int .i64 r, .int .i64 r, .slice (some ⟨b, o, none⟩) (r * r) cap] 33)).alloc (.cells #[.int .i64 0, .int .i64 0, .slice none 0 0] 33)) := ((Kept.refl W).alloc _).alloc _
  have HM := Lib.hid (hm.kept k1)
  have HB := Lib.hid ((BlockAt.new W #[.int .i64 r, .int .i64 r, .slice (some ⟨b, o, none⟩) (r * r) cap] 33).kept ((Kept.refl _).alloc (.cells #[.int .i64 0, .int .i64 0, .slice none 0 0] 33)))
  have HR := Lib.hid (BlockAt.new1 W #[.int .i64 0, .int .i64 0, .slice none 0 0] 33 (.cells #[.int .i64 r, .int .i64 r, .slice (some ⟨b, o, none⟩) (r * r) cap] 33))
  have HK1 := Lib.hid k1
  have hz : W.heap.size + 1 < ((W.alloc (.cells #[.int .i64 r, .int .i64 r, .slice (some ⟨b, o, none⟩) (r * r) cap] 33)).alloc (.cells #[.int .i64 0, .int .i64 0, .slice none 0 0] 33)).heap.size := by simp
  clear hm k1
  go_enter Try.func38, Try.ntmps38
  go_wp2_with fail
  generalize (W.alloc _).alloc _ = w0 at *
  refine wp_region_inv1 (fun a0 L a w => ∃ V : Nat → Value, a = ((((((((((a0.put (some 7) (V 0)).put (some 8) (V 1)).put (some 9) (V 2)).put (some 10) (V 3)).put (some 11) (V 4)).put (some 6) (V 5)).put (some 12) (V 6)).put (some 13) (V 7)).put (some 5) (V 8)).put (some 4) (V 9)) ∧ PJ w0 (SwP W.heap.size r r R (.slice (some ⟨b, o, none⟩) (r * r) cap) G w0) L V w ∧ (L 10 → L 8 ∧ V 10 = V 8)) (by kernel_rfl) (by kernel_rfl) ?rh0 ?rhs ?rhe
  case rh0 =>
    intro L hL
    exact ⟨fun _ => undef, by simp only [Act.put, List.setIfInBounds_toArray, List.set_cons_zero, List.set_cons_succ], ⟨(Kept.refl _).drew, fun j hj => by
      by_cases h : j < 11
      · exact absurd hj (hL j h)
      · obtain ⟨m, rfl⟩ : ∃ m, j = m + 11 := ⟨j - 11, by omega⟩
        exact trivial⟩, fun h => absurd h (hL 10 (by decide))⟩
  case rhs =>
    rintro L L' a w i op K ⟨V, rfl, hJ, hT⟩ ho hopen hdep hL hK
    obtain ⟨x0, x1, x2⟩ := box3 (HB.out.kept hJ.kp)
    have tie : ∀ x, i ≠ 8 → i ≠ 10 → (L' 10 → L' 8 ∧ vset V i x 10 = vset V i x 8) := fun x h8 h10 h => by
      obtain ⟨t1, t2⟩ := hT (((hL 10).1 h).resolve_left (fun e => h10 e.symm))
      exact ⟨(hL 8).2 (.inr t1), by rw [vset_other _ _ (fun e => h10 e.symm), vset_other _ _ (fun e => h8 e.symm)]; exact t2⟩
    match i, ho with
    | 0, ho =>
      simp only [List.getElem?_toArray, List.getElem?_cons_zero, Option.some.injEq] at ho
      subst ho
      rw [if_pos (wanted_free rfl _)]
      simp only [Act.put, List.setIfInBounds_toArray, List.set_cons_zero, List.set_cons_succ]
      go_simp
      exact hK _ _ ⟨vset V 0 (.agg #[.int .i64 r, .int .i64 r, .slice (some ⟨b, o, none⟩) (r * r) cap]), by simp only [Act.put, List.setIfInBounds_toArray, List.set_cons_zero, List.set_cons_succ, vset, Nat.reduceEqDiff, if_true, if_false], hJ.more swP_kept hL (Kept.refl _) (rfl), tie _ (by decide) (by decide)⟩
    | 1, ho =>
      simp only [List.getElem?_toArray, List.getElem?_cons_zero, List.getElem?_cons_succ, Option.some.injEq] at ho
      subst ho
      rw [if_pos (wanted_free rfl _)]
      simp only [Act.put, List.setIfInBounds_toArray, List.set_cons_zero, List.set_cons_succ]
      go_simp
      exact hK _ _ ⟨vset V 1 (.pointer (some ⟨W.heap.size, 0, none⟩)), by simp only [Act.put, List.setIfInBounds_toArray, List.set_cons_zero, List.set_cons_succ, vset, Nat.reduceEqDiff, if_true, if_false], hJ.more swP_kept hL (Kept.refl _) (rfl), tie _ (by decide) (by decide)⟩
    | 2, ho =>
      simp only [List.getElem?_toArray, List.getElem?_cons_zero, List.getElem?_cons_succ, Option.some.injEq] at ho
      have e1 : V 1 = .pointer (some ⟨W.heap.size, 0, none⟩) := hJ.h 1 (hdep 1 (by rw [← ho]; kernel_rfl))
      subst ho
      rw [if_pos (wanted_free rfl _)]
      simp only [Act.put, List.setIfInBounds_toArray, List.set_cons_zero, List.set_cons_succ, e1]
      go_simp
      exact hK _ _ ⟨vset V 2 (.int .i64 r), by simp only [Act.put, List.setIfInBounds_toArray, List.set_cons_zero, List.set_cons_succ, vset, Nat.reduceEqDiff, if_true, if_false, e1], hJ.more swP_kept hL (Kept.refl _) (rfl), tie _ (by decide) (by decide)⟩
    | 3, ho =>
      simp only [List.getElem?_toArray, List.getElem?_cons_zero, List.getElem?_cons_succ, Option.some.injEq] at ho
      have e2 : V 2 = .int .i64 r := hJ.h 2 (hdep 2 (by rw [← ho]; kernel_rfl))
      subst ho
      rw [if_pos (wanted_free rfl _)]
      simp only [Act.put, List.setIfInBounds_toArray, List.set_cons_zero, List.set_cons_succ, e2]
      have hkb := hJ.kp.size
      go_simp
      refine (rone r hr w).mono ?_
      rintro e w' ⟨nb, rfl, _, hm, hk⟩
      exact hK _ _ ⟨vset V 3 (.agg #[.int .i64 r, .int .i64 r, .slice (some ⟨nb, 0, none⟩) (r * r) (r * r)]), by simp only [Act.put, List.setIfInBounds_toArray, List.set_cons_zero, List.set_cons_succ, vset, Nat.reduceEqDiff, if_true, if_false, e2], hJ.more swP_kept hL hk (⟨nb, rfl, hm⟩), tie _ (by decide) (by decide)⟩
    | 4, ho =>
      simp only [List.getElem?_toArray, List.getElem?_cons_zero, List.getElem?_cons_succ, Option.some.injEq] at ho
      have e0 : V 0 = .agg #[.int .i64 r, .int .i64 r, .slice (some ⟨b, o, none⟩) (r * r) cap] := hJ.h 0 (hdep 0 (by rw [← ho]; kernel_rfl))
      obtain ⟨b3, e3, m3⟩ := hJ.h 3 (hdep 3 (by rw [← ho]; kernel_rfl))
      subst ho
      rw [if_pos (wanted_free rfl _)]
      simp only [Act.put, List.setIfInBounds_toArray, List.set_cons_zero, List.set_cons_succ, e0, e3]
      have hkb := hJ.kp.size
      go_simp
      refine (HSW.out b3 w (HM.out.kept hJ.kp) m3.cell).mono ?_
      rintro e w' ⟨g, k, rfl, h1, h2, h3, hk⟩
      exact hK _ _ ⟨vset V 4 (.tuple #[.int .i64 R, .agg #[.int .i64 r, .int .i64 r, .slice (some ⟨g, 0, none⟩) (r * r) k]]), by simp only [Act.put, List.setIfInBounds_toArray, List.set_cons_zero, List.set_cons_succ, vset, Nat.reduceEqDiff, if_true, if_false, e0, e3], hJ.more swP_kept hL hk (⟨g, k, rfl, h1, by omega, h3⟩), tie _ (by decide) (by decide)⟩
    | 5, ho =>
      simp only [List.getElem?_toArray, List.getElem?_cons_zero, List.getElem?_cons_succ, Option.some.injEq] at ho
      obtain ⟨g, k, e4, hv⟩ := hJ.h 4 (hdep 4 (by rw [← ho]; kernel_rfl))
      subst ho
      rw [if_pos (wanted_free rfl _)]
      simp only [Act.put, List.setIfInBounds_toArray, List.set_cons_zero, List.set_cons_succ, e4]
      go_simp
      exact hK _ _ ⟨vset V 5 (.tuple #[.int .i64 R, .agg #[.int .i64 r, .int .i64 r, .slice (some ⟨g, 0, none⟩) (r * r) k]]), by simp only [Act.put, List.setIfInBounds_toArray, List.set_cons_zero, List.set_cons_succ, vset, Nat.reduceEqDiff, if_true, if_false, e4], hJ.more swP_kept hL (Kept.refl _) (⟨g, k, rfl, hv⟩), tie _ (by decide) (by decide)⟩
    | 6, ho =>
      simp only [List.getElem?_toArray, List.getElem?_cons_zero, List.getElem?_cons_succ, Option.some.injEq] at ho
      obtain ⟨g, k, e5, hv⟩ := hJ.h 5 (hdep 5 (by rw [← ho]; kernel_rfl))
      subst ho
      rw [if_pos (wanted_free rfl _)]
      simp only [Act.put, List.setIfInBounds_toArray, List.set_cons_zero, List.set_cons_succ, e5]
      go_simp
      exact hK _ _ ⟨vset V 6 (.int .i64 R), by simp only [Act.put, List.setIfInBounds_toArray, List.set_cons_zero, List.set_cons_succ, vset, Nat.reduceEqDiff, if_true, if_false, e5], hJ.more swP_kept hL (Kept.refl _) (rfl), tie _ (by decide) (by decide)⟩
    | 7, ho =>
      simp only [List.getElem?_toArray, List.getElem?_cons_zero, List.getElem?_cons_succ, Option.some.injEq] at ho
      obtain ⟨g, k, e5, hv⟩ := hJ.h 5 (hdep 5 (by rw [← ho]; kernel_rfl))
      subst ho
      rw [if_pos (wanted_free rfl _)]
      simp only [Act.put, List.setIfInBounds_toArray, List.set_cons_zero, List.set_cons_succ, e5]
      go_simp
      exact hK _ _ ⟨vset V 7 (.agg #[.int .i64 r, .int .i64 r, .slice (some ⟨g, 0, none⟩) (r * r) k]), by simp only [Act.put, List.setIfInBounds_toArray, List.set_cons_zero, List.set_cons_succ, vset, Nat.reduceEqDiff, if_true, if_false, e5], hJ.more swP_kept hL (Kept.refl _) (⟨g, k, rfl, hv⟩), tie _ (by decide) (by decide)⟩
    | 8, ho =>
      simp only [List.getElem?_toArray, List.getElem?_cons_zero, List.getElem?_cons_succ, Option.some.injEq] at ho
      subst ho
      rw [if_pos (wanted_free rfl _)]
      simp only [Act.put, List.setIfInBounds_toArray, List.set_cons_zero, List.set_cons_succ]
      have n10 : ¬ L 10 := fun h => hopen (hT h).1
      have hkb := hJ.kp.size
      go_simp
      exact hK _ _ ⟨vset V 8 (.pointer (some ⟨w.heap.size, 0, none⟩)), by simp only [Act.put, List.setIfInBounds_toArray, List.set_cons_zero, List.set_cons_succ, vset, Nat.reduceEqDiff, if_true, if_false], hJ.more swP_kept hL ((Kept.refl _).alloc _) ⟨_, _, _, _, rfl, hkb, BlockAt.new _ _ _⟩, fun h => absurd (((hL 10).1 h).resolve_left (by decide)) n10⟩
    | 9, ho =>
      simp only [List.getElem?_toArray, List.getElem?_cons_zero, List.getElem?_cons_succ, Option.some.injEq] at ho
      have e6 : V 6 = .int .i64 R := hJ.h 6 (hdep 6 (by rw [← ho]; kernel_rfl))
      subst ho
      rw [if_pos (wanted_free rfl _)]
      simp only [Act.put, List.setIfInBounds_toArray, List.set_cons_zero, List.set_cons_succ, e6]
      go_simp
      exact hK _ _ ⟨vset V 9 (.int .i64 R), by simp only [Act.put, List.setIfInBounds_toArray, List.set_cons_zero, List.set_cons_succ, vset, Nat.reduceEqDiff, if_true, if_false, e6], hJ.more swP_kept hL (Kept.refl _) (rfl), tie _ (by decide) (by decide)⟩
    | 10, ho =>
      simp only [List.getElem?_toArray, List.getElem?_cons_zero, List.getElem?_cons_succ, Option.some.injEq] at ho
      obtain ⟨b8, y0, y1, y2, e8, hs8, hb8⟩ := hJ.h 8 (hdep 8 (by rw [← ho]; kernel_rfl))
      obtain ⟨g, k, e7, hv⟩ := hJ.h 7 (hdep 7 (by rw [← ho]; kernel_rfl))
      have l8 := hdep 8 (by rw [← ho]; kernel_rfl)
      obtain ⟨c0, c1, c2⟩ := box3 hb8
      subst ho
      rw [if_pos (wanted_free rfl _)]
      simp only [Act.put, List.setIfInBounds_toArray, List.set_cons_zero, List.set_cons_succ, e8, e7]
      have f0 := hb8.free 0
      have f1 := hb8.free 1
      have f2 := hb8.free 2
      have hg8 := grown3b w b8 (.int .i64 r) (.int .i64 r) (.slice (some ⟨g, 0, none⟩) (r * r) k)
      have hs3 := set3b hb8 (.int .i64 r) (.int .i64 r) (.slice (some ⟨g, 0, none⟩) (r * r) k)
      have hn : PJ w0 (SwP W.heap.size r r R (.slice (some ⟨b, o, none⟩) (r * r) cap) G w0) L' (vset V 10 (.pointer (some ⟨b8, 0, none⟩))) _ :=
        ⟨Kept.grown hJ.kp hg8 (fun q e => by cases e; exact hs8), fun j hj => by
          by_cases e : j = 10
          · subst e; rw [vset_same]; exact ⟨b8, g, k, rfl, hs8, hs3, hv.stored hg8 hb8⟩
          · rw [vset_other _ _ e]; exact swP_store hb8 hg8 hs3 _ j e (hJ.h j (((hL j).1 hj).resolve_left e))⟩
      have HN := Lib.hid hn
      clear hn hg8 hs3
      go_simp
      exact hK _ _ ⟨vset V 10 (.pointer (some ⟨b8, 0, none⟩)), by simp only [Act.put, List.setIfInBounds_toArray, List.set_cons_zero, List.set_cons_succ, vset, Nat.reduceEqDiff, if_false, e8, e7], HN.out, fun _ => ⟨(hL 8).2 (.inr l8), by rw [vset_same, vset_other _ _ (by decide)]; exact e8.symm⟩⟩
    | n + 11, ho => simp at ho
  case rhe =>
    rintro L a w ⟨V, rfl, hJ, hT⟩ hall
    have e4 : V 9 = .int .i64 R := hJ.h 9 (hall 9 (by decide))
    obtain ⟨bo, g, k, e10, hs, hbo, hgk, hgs, hmg⟩ := hJ.h 10 (hall 10 (by decide))
    have e8 : V 8 = .pointer (some ⟨bo, 0, none⟩) := (hT (hall 10 (by decide))).2.symm.trans e10
    have hkp := HK1.out.trans hJ.kp
    have HK := Lib.hid hkp
    have HBw := Lib.hid (HB.out.kept hJ.kp)
    have HRw := Lib.hid (HR.out.kept hJ.kp)
    have HBO := Lib.hid hbo
    have HMG := Lib.hid hmg
    have hzw := hJ.kp.size
    clear hJ hall hT hkp hbo hmg
    simp only [Act.put, List.setIfInBounds_toArray, List.set_cons_zero, List.set_cons_succ, e4, e8]
    clear e4 e8 e10
    go_wp2_with fail
    let val : Nat → Value := fun j => ([.agg #[.int .i64 r, .int .i64 r, .slice (some ⟨g, 0, none⟩) (r * r) k], .int .i64 R, .pointer (some ⟨W.heap.size, 0, none⟩), .int .i64 r, .bool ((R : Int) == (r : Int)), undef, .bool ((R : Int) == (r : Int))] : List Value).getD j undef
    have k0 := (Kept.refl w).drew
    have HB0 := Lib.hid (HBw.out.kept k0)
    have HR0 := Lib.hid (HRw.out.kept k0)
    have HO0 := Lib.hid (HBO.out.kept k0)
    have HM0 := Lib.hid (HMG.out.kept k0)
    have HK0 := Lib.hid (HK.out.trans k0)
    have hz0 := k0.size
    clear k0 HBw HRw HBO HMG HK
    have hneo := ne_of_types HO0.out HR0.out
    refine wp_region_inv1 (fun a0 L a w' => ∃ V : Nat → Value, a = ((((((a0.put (some 14) (V 0)).put (some 15) (V 1)).put (some 16) (V 2)).put (some 17) (V 3)).put (some 18) (V 4)).put (some 3) (V 6)) ∧ (∀ j, L j → j ≠ 5 → V j = val j) ∧ (L 5 → L 0) ∧ (¬ L 5 → w' = w.drew) ∧ (L 5 → w' = ((w.drew.setCell ⟨W.heap.size + 1, 0, none⟩ (.int .i64 r)).setCell ⟨W.heap.size + 1, 1, none⟩ (.int .i64 r)).setCell ⟨W.heap.size + 1, 2, none⟩ (.slice (some ⟨g, 0, none⟩) (r * r) k))) (by kernel_rfl) (by kernel_rfl) ?eh0 ?ehs ?ehe
    case eh0 =>
      intro L hL
      exact ⟨fun j => if j = 6 then .bool false else undef, by simp only [Act.put, List.setIfInBounds_toArray, List.set_cons_zero, List.set_cons_succ, Nat.reduceEqDiff, if_true, if_false], fun j hj _ => by
        by_cases h : j < 7
        · exact absurd hj (hL j h)
        · simp [val, show ¬ j < 7 by omega, show j ≠ 6 by omega], fun h => absurd h (hL 5 (by decide)), fun _ => rfl, fun h => absurd h (hL 5 (by decide))⟩
    case ehs =>
      rintro L L' a w' i op K ⟨V, rfl, hV, hd, hw0, hw5⟩ ho hopen hdep hL hK
      have vok : i ≠ 5 → ∀ j, L' j → j ≠ 5 → vset V i (val i) j = val j := fun h5 j hj hj5 => by
        by_cases e : j = i
        · subst e; exact vset_same _ _ _
        · rw [vset_other _ _ e]; exact hV j (((hL j).1 hj).resolve_left e) hj5
      have hd' : i ≠ 5 → L' 5 → L' 0 := fun h5 h => (hL 0).2 (.inr (hd (((hL 5).1 h).resolve_left (fun e => h5 e.symm))))
      have hw0' : i ≠ 5 → ¬ L' 5 → w' = w.drew := fun h5 h => hw0 (fun x => h ((hL 5).2 (.inr x)))
      have hw5' : i ≠ 5 → L' 5 → w' = ((w.drew.setCell ⟨W.heap.size + 1, 0, none⟩ (.int .i64 r)).setCell ⟨W.heap.size + 1, 1, none⟩ (.int .i64 r)).setCell ⟨W.heap.size + 1, 2, none⟩ (.slice (some ⟨g, 0, none⟩) (r * r) k) := fun h5 h => hw5 (((hL 5).1 h).resolve_left (fun e => h5 e.symm))
      have hq : BlockAt w' W.heap.size #[.int .i64 r, .int .i64 r, .slice (some ⟨b, o, none⟩) (r * r) cap] 33 := by
        by_cases h : L 5
        · rw [hw5 h]; exact HB0.out.grown (grown3b w.drew (W.heap.size + 1) _ _ _) (by simp)
        · rw [hw0 h]; exact HB0.out
      obtain ⟨x0, x1, x2⟩ := box3 hq
      have HV := Lib.hid hV
      have HH := Lib.hid (And.intro hd' (And.intro hw0' hw5'))
      clear hd' hw0' hw5' hq
      match i, ho with
      | 0, ho =>
        simp only [List.getElem?_toArray, List.getElem?_cons_zero, Option.some.injEq] at ho
        clear hV
        have hw := hw0 (fun h => hopen (hd h))
        have hob : BlockAt w' bo #[.int .i64 r, .int .i64 r, .slice (some ⟨g, 0, none⟩) (r * r) k] 33 := by rw [hw]; exact HO0.out
        obtain ⟨c0, c1, c2⟩ := box3 hob
        clear hw hob hw0 hw5
        subst ho
        rw [if_pos (wanted_free rfl _)]
        simp only [Act.put, List.setIfInBounds_toArray, List.set_cons_zero, List.set_cons_succ]
        go_simp
        exact hK _ _ ⟨vset V 0 (val 0), by simp only [Act.put, List.setIfInBounds_toArray, List.set_cons_zero, List.set_cons_succ, vset, Nat.reduceEqDiff, if_true, if_false]; rfl, vok (by decide), HH.out.1 (by decide), HH.out.2.1 (by decide), HH.out.2.2 (by decide)⟩
      | 1, ho =>
        simp only [List.getElem?_toArray, List.getElem?_cons_zero, List.getElem?_cons_succ, Option.some.injEq] at ho
        clear hV
        clear hw0 hw5
        subst ho
        rw [if_pos (wanted_free rfl _)]
        simp only [Act.put, List.setIfInBounds_toArray, List.set_cons_zero, List.set_cons_succ]
        go_simp
        exact hK _ _ ⟨vset V 1 (val 1), by simp only [Act.put, List.setIfInBounds_toArray, List.set_cons_zero, List.set_cons_succ, vset, Nat.reduceEqDiff, if_true, if_false]; rfl, vok (by decide), HH.out.1 (by decide), HH.out.2.1 (by decide), HH.out.2.2 (by decide)⟩
      | 2, ho =>
        simp only [List.getElem?_toArray, List.getElem?_cons_zero, List.getElem?_cons_succ, Option.some.injEq] at ho
        clear hV
        clear hw0 hw5
        subst ho
        rw [if_pos (wanted_free rfl _)]
        simp only [Act.put, List.setIfInBounds_toArray, List.set_cons_zero, List.set_cons_succ]
        go_simp
        exact hK _ _ ⟨vset V 2 (val 2), by simp only [Act.put, List.setIfInBounds_toArray, List.set_cons_zero, List.set_cons_succ, vset, Nat.reduceEqDiff, if_true, if_false]; rfl, vok (by decide), HH.out.1 (by decide), HH.out.2.1 (by decide), HH.out.2.2 (by decide)⟩
      | 3, ho =>
        simp only [List.getElem?_toArray, List.getElem?_cons_zero, List.getElem?_cons_succ, Option.some.injEq] at ho
        have e2 : V 2 = .pointer (some ⟨W.heap.size, 0, none⟩) := hV 2 (hdep 2 (by rw [← ho]; kernel_rfl)) (by decide)
        clear hV
        clear hw0 hw5
        subst ho
        rw [if_pos (wanted_free rfl _)]
        simp only [Act.put, List.setIfInBounds_toArray, List.set_cons_zero, List.set_cons_succ, e2]
        go_simp
        exact hK _ _ ⟨vset V 3 (val 3), by simp only [Act.put, List.setIfInBounds_toArray, List.set_cons_zero, List.set_cons_succ, vset, Nat.reduceEqDiff, if_true, if_false, e2]; rfl, vok (by decide), HH.out.1 (by decide), HH.out.2.1 (by decide), HH.out.2.2 (by decide)⟩
      | 4, ho =>
        simp only [List.getElem?_toArray, List.getElem?_cons_zero, List.getElem?_cons_succ, Option.some.injEq] at ho
        have e1 : V 1 = .int .i64 R := hV 1 (hdep 1 (by rw [← ho]; kernel_rfl)) (by decide)
        have e3 : V 3 = .int .i64 r := hV 3 (hdep 3 (by rw [← ho]; kernel_rfl)) (by decide)
        clear hV
        clear hw0 hw5
        subst ho
        rw [if_pos (wanted_free rfl _)]
        simp only [Act.put, List.setIfInBounds_toArray, List.set_cons_zero, List.set_cons_succ, e1, e3]
        go_simp
        exact hK _ _ ⟨vset V 4 (val 4), by simp only [Act.put, List.setIfInBounds_toArray, List.set_cons_zero, List.set_cons_succ, vset, Nat.reduceEqDiff, if_true, if_false, e1, e3]; rfl, vok (by decide), HH.out.1 (by decide), HH.out.2.1 (by decide), HH.out.2.2 (by decide)⟩
      | 5, ho =>
        simp only [List.getElem?_toArray, List.getElem?_cons_zero, List.getElem?_cons_succ, Option.some.injEq] at ho
        have e0 : V 0 = .agg #[.int .i64 r, .int .i64 r, .slice (some ⟨g, 0, none⟩) (r * r) k] := hV 0 (hdep 0 (by rw [← ho]; kernel_rfl)) (by decide)
        clear hV
        have hw := hw0 hopen
        have l0 := hdep 0 (by rw [← ho]; kernel_rfl)
        have hrb : BlockAt w' (W.heap.size + 1) #[.int .i64 0, .int .i64 0, .slice none 0 0] 33 := by rw [hw]; exact HR0.out
        obtain ⟨c0, c1, c2⟩ := box3 hrb
        have f0 := hrb.free 0
        have f1 := hrb.free 1
        have f2 := hrb.free 2
        have HW := Lib.hid hw
        clear hw hrb hw0 hw5
        subst ho
        rw [if_pos (wanted_free rfl _)]
        simp only [Act.put, List.setIfInBounds_toArray, List.set_cons_zero, List.set_cons_succ, e0]
        go_simp
        exact hK _ _ ⟨vset V 5 undef, by simp only [Act.put, List.setIfInBounds_toArray, List.set_cons_zero, List.set_cons_succ, vset, Nat.reduceEqDiff, if_false, e0], fun j hj h5 => by rw [vset_other _ _ h5]; exact HV.out j (((hL j).1 hj).resolve_left h5) h5, fun _ => (hL 0).2 (.inr l0), fun h => absurd ((hL 5).2 (.inl rfl)) h, fun _ => by rw [HW.out]⟩
      | 6, ho =>
        simp only [List.getElem?_toArray, List.getElem?_cons_zero, List.getElem?_cons_succ, Option.some.injEq] at ho
        have e4 : V 4 = .bool ((R : Int) == (r : Int)) := hV 4 (hdep 4 (by rw [← ho]; kernel_rfl)) (by decide)
        clear hV
        clear hw0 hw5
        subst ho
        rw [if_pos (wanted_free rfl _)]
        simp only [Act.put, List.setIfInBounds_toArray, List.set_cons_zero, List.set_cons_succ, e4]
        go_simp
        exact hK _ _ ⟨vset V 6 (val 6), by simp only [Act.put, List.setIfInBounds_toArray, List.set_cons_zero, List.set_cons_succ, vset, Nat.reduceEqDiff, if_true, if_false, e4]; rfl, vok (by decide), HH.out.1 (by decide), HH.out.2.1 (by decide), HH.out.2.2 (by decide)⟩
      | n + 7, ho => simp at ho
    case ehe =>
      rintro L a w' ⟨V, rfl, hV, hd, hw0, hw5⟩ hall
      have e6 : V 6 = .bool ((R : Int) == (r : Int)) := hV 6 (hall 6 (by decide)) (by decide)
      have hw := hw5 (hall 5 (by decide))
      subst hw
      have gz := grown3b w.drew (W.heap.size + 1) (.int .i64 r) (.int .i64 r) (.slice (some ⟨g, 0, none⟩) (r * r) k)
      have HG := Lib.hid gz
      clear hV hd hw0 hw5 hall gz
      simp only [Act.put, List.setIfInBounds_toArray, List.set_cons_zero, List.set_cons_succ, e6]
      go_wp2
      refine bodyPost_ret (v := .tuple #[.agg #[.int .i64 r, .int .i64 r, .slice (some ⟨g, 0, none⟩) (r * r) k], .bool ((R : Int) == (r : Int))]) ?_ rfl ⟨g, k, rfl, hgk, by omega, HM0.out.grown HG.out (by simp; omega), Kept.grown HK0.out HG.out (fun q e => by cases e; omega)⟩
      exact results_row_tmp rfl _ _ (W.heap.size + 1) 33 #[.int .i64 r, .int .i64 r, .slice (some ⟨g, 0, none⟩) (r * r) k] _ rfl (set3b HR0.out _ _ _) Try.underlying33 rfl Try.infoMat _ rfl
end Go.Proofs.Ytoonpnpooljmlaa

namespace Go.Proofs.Ytoonpnpooljmlaa
open Go.RowKit

/-- a product as far as row i and column j -/
def tmTo (k : Nat) (A B : Nat → Nat → Nat) (i j : Nat) : Nat → Nat → Nat := fun a b => if a < i ∨ (a = i ∧ b < j) then mulM k A B a b else 0
theorem tmTo_zero (k : Nat) (A B : Nat → Nat → Nat) : tmTo k A B 0 0 = zeroF := by
  funext a b
  simp [tmTo, zeroF]
theorem tmTo_succ (k : Nat) (A B : Nat → Nat → Nat) (i j : Nat) : upd (tmTo k A B i j) i j (mulM k A B i j) = tmTo k A B i (j + 1) := by
  funext a b
  unfold upd tmTo
  by_cases h : a = i
  · subst h
    by_cases e : b = j
    · subst e; simp
    · have hb : b < j + 1 ↔ b < j := by omega
      simp [e, hb]
  · simp [h]
theorem tmTo_row (k : Nat) (A B : Nat → Nat → Nat) (i c a b : Nat) (hb : b < c) : tmTo k A B i c a b = tmTo k A B (i + 1) 0 a b := by
  unfold tmTo
  have h : (a < i ∨ a = i ∧ b < c) ↔ (a < i + 1 ∨ a = i + 1 ∧ b < 0) := by omega
  simp only [h]
theorem tmTo_all (k : Nat) (A B : Nat → Nat → Nat) (r a b : Nat) (ha : a < r) : tmTo k A B r 0 a b = mulM k A B a b := if_pos (.inl ha)

/-- what the making of the product's variable has left, operation by operation -/
def TmP (q r c rc : Nat) (W : World) : Nat → World → Value → Prop
  | 0, _, v => v = .pointer (some ⟨q, 0, none⟩)
  | 1, _, v => v = .int .i64 r
  | 2, _, v => v = .pointer (some ⟨q + 1, 1, none⟩)
  | 3, _, v => v = .int .i64 c
  | 4, _, v => v = .pointer (some ⟨q, 0, none⟩)
  | 5, _, v => v = .int .i64 r
  | 6, _, v => v = .pointer (some ⟨q + 1, 1, none⟩)
  | 7, _, v => v = .int .i64 c
  | 8, _, v => v = .int .i64 rc
  | 9, w, v => ∃ g, v = .slice (some ⟨g, 0, none⟩) rc rc ∧ W.heap.size ≤ g ∧ Mat w g 0 r c zeroF
  | 10, w, v => ∃ g, v = .agg #[.int .i64 r, .int .i64 c, .slice (some ⟨g, 0, none⟩) rc rc] ∧ W.heap.size ≤ g ∧ Mat w g 0 r c zeroF
  | 11, w, v => ∃ b x y z, v = .pointer (some ⟨b, 0, none⟩) ∧ W.heap.size ≤ b ∧ BlockAt w b #[x, y, z] 33
  | 12, w, v => ∃ b g, v = .pointer (some ⟨b, 0, none⟩) ∧ W.heap.size ≤ b ∧ BlockAt w b #[.int .i64 r, .int .i64 c, .slice (some ⟨g, 0, none⟩) rc rc] 33 ∧ W.heap.size ≤ g ∧ Mat w g 0 r c zeroF
  | _, _, _ => True
theorem tmP_kept {q r c rc : Nat} {W : World} : ∀ j w w' v, TmP q r c rc W j w v → Kept w w' → TmP q r c rc W j w' v := fun j w w' v h hk => by
  match j with
  | 0 => exact h
  | 1 => exact h
  | 2 => exact h
  | 3 => exact h
  | 4 => exact h
  | 5 => exact h
  | 6 => exact h
  | 7 => exact h
  | 8 => exact h
  | 9 => obtain ⟨g, e, hs, m⟩ := h; exact ⟨g, e, hs, m.kept hk⟩
  | 10 => obtain ⟨g, e, hs, m⟩ := h; exact ⟨g, e, hs, m.kept hk⟩
  | 11 => obtain ⟨b, x, y, z, e, hs, m⟩ := h; exact ⟨b, x, y, z, e, hs, m.kept hk⟩
  | 12 => obtain ⟨b, g, e, hs, m, hg, n⟩ := h; exact ⟨b, g, e, hs, m.kept hk, hg, n.kept hk⟩
  | _ + 13 => exact trivial
theorem tmP_store {q r c rc : Nat} {W w w' : World} {b : Nat} {x y z x' y' z' : Value} (hb : BlockAt w b #[x, y, z] 33) (hg : w.grownBy w' (some b)) (hb' : BlockAt w' b #[x', y', z'] 33) (v : Value) (j : Nat) (hj : j ≠ 12) (h : TmP q r c rc W j w v) : TmP q r c rc W j w' v := by
  match j, hj with
  | 0, _ => exact h
  | 1, _ => exact h
  | 2, _ => exact h
  | 3, _ => exact h
  | 4, _ => exact h
  | 5, _ => exact h
  | 6, _ => exact h
  | 7, _ => exact h
  | 8, _ => exact h
  | 9, _ => obtain ⟨g, e, hs, m⟩ := h; exact ⟨g, e, hs, m.grownT hg hb (by decide)⟩
  | 10, _ => obtain ⟨g, e, hs, m⟩ := h; exact ⟨g, e, hs, m.grownT hg hb (by decide)⟩
  | 11, _ =>
    obtain ⟨b2, x2, y2, z2, e, hs, m⟩ := h
    by_cases hh : b2 = b
    · subst hh; exact ⟨b2, x', y', z', e, hs, hb'⟩
    · exact ⟨b2, x2, y2, z2, e, hs, m.grown hg (fun e => hh (Option.some.inj e))⟩
  | _ + 13, _ => exact trivial
/-- what the loops know -/
structure TmSt (W : World) (r k c ba oa ca bb ob cb b5 g : Nat) (A B G : Nat → Nat → Nat) (w : World) : Prop where
  pa : BlockAt w W.heap.size #[.int .i64 r, .int .i64 k, .slice (some ⟨ba, oa, none⟩) (r * k) ca] 33
  pb : BlockAt w (W.heap.size + 1) #[.int .i64 k, .int .i64 c, .slice (some ⟨bb, ob, none⟩) (k * c) cb] 33
  z : BlockAt w (W.heap.size + 1 + 1) #[.int .i64 0, .int .i64 0, .slice none 0 0] 33
  p5 : BlockAt w b5 #[.int .i64 r, .int .i64 c, .slice (some ⟨g, 0, none⟩) (r * c) (r * c)] 33
  ma : MatR w ba oa r k A
  mb : MatR w bb ob k c B
  m : Mat w g 0 r c G
  kp : Kept W w
theorem TmSt.kept {W : World} {r k c ba oa ca bb ob cb b5 g : Nat} {A B G : Nat → Nat → Nat} {w w' : World} (h : TmSt W r k c ba oa ca bb ob cb b5 g A B G w) (kk : Kept w w') : TmSt W r k c ba oa ca bb ob cb b5 g A B G w' :=
  ⟨h.pa.kept kk, h.pb.kept kk, h.z.kept kk, h.p5.kept kk, h.ma.kept kk, h.mb.kept kk, h.m.kept kk, h.kp.trans kk⟩
theorem TmSt.as {W : World} {r k c ba oa ca bb ob cb b5 g : Nat} {A B G G' : Nat → Nat → Nat} {w : World} (h : TmSt W r k c ba oa ca bb ob cb b5 g A B G w) (e : ∀ i j, i < r → j < c → G i j = G' i j) : TmSt W r k c ba oa ca bb ob cb b5 g A B G' w :=
  ⟨h.pa, h.pb, h.z, h.p5, h.ma, h.mb, h.m.congr e, h.kp⟩
theorem TmSt.on {W : World} {r k c ba oa ca bb ob cb b5 g : Nat} {A B G G' : Nat → Nat → Nat} {w w' : World} (h : TmSt W r k c ba oa ca bb ob cb b5 g A B G w) (ha : ba < W.heap.size) (hb : bb < W.heap.size) (hg : W.heap.size + 1 + 1 < g) (gr : w.grownBy w' (some g)) (m : Mat w' g 0 r c G') : TmSt W r k c ba oa ca bb ob cb b5 g A B G' w' := by
  obtain ⟨cs, hc⟩ := h.m.blk
  have hne := ne_of_types h.p5 hc (by decide)
  exact ⟨h.pa.grown gr (by simp; omega), h.pb.grown gr (by simp; omega), h.z.grown gr (by simp; omega), h.p5.grown gr (by simp; omega), h.ma.grown gr (by simp; omega), h.mb.grown gr (by simp; omega), m, Kept.grown h.kp gr (fun q e => by cases e; omega)⟩
set_option maxRecDepth 100000 in
set_option maxHeartbeats 2000000 in
theorem rtimes (r k c ba oa ca bb ob cb : Nat) (A B : Nat → Nat → Nat) (hr : 1 ≤ r ∧ r ≤ 16) (hk : 1 ≤ k ∧ k ≤ 16) (hc : 1 ≤ c ∧ c ≤ 16) (hA : Bt A) (hB : Bt B) (W : World) (hma : MatR W ba oa r k A) (hmb : MatR W bb ob k c B) :
    Calls Try.prog 40 #[.agg #[.int .i64 r, .int .i64 k, .slice (some ⟨ba, oa, none⟩) (r * k) ca], .agg #[.int .i64 k, .int .i64 c, .slice (some ⟨bb, ob, none⟩) (k * c) cb]] W
      fun e w' => ∃ g, e = .returned (.agg #[.int .i64 r, .int .i64 c, .slice (some ⟨g, 0, none⟩) (r * c) (r * c)]) ∧ W.heap.size ≤ g ∧ Mat w' g 0 r c (mulM k A B) ∧ Kept W w' := by
  have hba : ba < W.heap.size := cell_lt (hma 0 0 (by omega) (by omega))
  have hbb : bb < W.heap.size := cell_lt (hmb 0 0 (by omega) (by omega))
  have k3 := (((Kept.refl W).alloc (.cells #[.int .i64 r, .int .i64 k, .slice (some ⟨ba, oa, none⟩) (r * k) ca] 33)).alloc (.cells #[.int .i64 k, .int .i64 c, .slice (some ⟨bb, ob, none⟩) (k * c) cb] 33)).alloc (.cells #[.int .i64 0, .int .i64 0, .slice none 0 0] 33)
  have hpa := ((BlockAt.new W #[.int .i64 r, .int .i64 k, .slice (some ⟨ba, oa, none⟩) (r * k) ca] 33).kept ((Kept.refl _).alloc (.cells #[.int .i64 k, .int .i64 c, .slice (some ⟨bb, ob, none⟩) (k * c) cb] 33))).kept ((Kept.refl _).alloc (.cells #[.int .i64 0, .int .i64 0, .slice none 0 0] 33))
  have hpb := (BlockAt.new1 W #[.int .i64 k, .int .i64 c, .slice (some ⟨bb, ob, none⟩) (k * c) cb] 33 (.cells #[.int .i64 r, .int .i64 k, .slice (some ⟨ba, oa, none⟩) (r * k) ca] 33)).kept ((Kept.refl _).alloc (.cells #[.int .i64 0, .int .i64 0, .slice none 0 0] 33))
  have hpz := BlockAt.new2 W #[.int .i64 0, .int .i64 0, .slice none 0 0] 33 (.cells #[.int .i64 r, .int .i64 k, .slice (some ⟨ba, oa, none⟩) (r * k) ca] 33) (.cells #[.int .i64 k, .int .i64 c, .slice (some ⟨bb, ob, none⟩) (k * c) cb] 33)
  have hz3 : W.heap.size + 3 ≤ (((W.alloc (.cells #[.int .i64 r, .int .i64 k, .slice (some ⟨ba, oa, none⟩) (r * k) ca] 33)).alloc (.cells #[.int .i64 k, .int .i64 c, .slice (some ⟨bb, ob, none⟩) (k * c) cb] 33)).alloc (.cells #[.int .i64 0, .int .i64 0, .slice none 0 0] 33)).heap.size := by simp
  have hrc : r * c ≤ 256 := Nat.le_trans (Nat.mul_le_mul hr.2 hc.2) (by decide)
  have hmrc := mul_cast r c
  have hmk := make_bytes (r * c) (by omega)
  have hbz := fun u : World => made_mat u r c
  generalize hLL : r * c = rc at *
  have HLL := Lib.hid hLL
  have wrc := wrap_i64_nat rc (by omega)
  generalize hZZ : madeCells #[.int .u8 0] (r * c) = Z at hmk hbz
  have HMK := Lib.hid hmk
  have HBZ := Lib.hid hbz
  clear hZZ hmk hbz hLL
  go_enter Try.func40, Try.ntmps40
  go_wp2_with fail
  generalize ((W.alloc _).alloc _).alloc _ = w0 at *
  have HPA := Lib.hid hpa
  have HPB := Lib.hid hpb
  have HPZ := Lib.hid hpz
  have HK3 := Lib.hid k3
  have HMA := Lib.hid hma
  have HMB := Lib.hid hmb
  clear hpa hpb hpz k3 hma hmb
  refine wp_region_inv1 (fun a0 L a w => ∃ V : Nat → Value, a = ((((((((((((a0.put (some 10) (V 0)).put (some 11) (V 1)).put (some 12) (V 2)).put (some 13) (V 3)).put (some 14) (V 4)).put (some 15) (V 5)).put (some 16) (V 6)).put (some 17) (V 7)).put (some 18) (V 8)).put (some 19) (V 9)).put (some 20) (V 10)).put (some 5) (V 11)) ∧ PJ w0 (TmP W.heap.size r c rc w0) L V w ∧ (L 12 → L 11 ∧ V 12 = V 11)) (by kernel_rfl) (by kernel_rfl) ?rh0 ?rhs ?rhe
  case rh0 =>
    intro L hL
    exact ⟨fun _ => undef, by simp only [Act.put, List.setIfInBounds_toArray, List.set_cons_zero, List.set_cons_succ], ⟨(Kept.refl _).drew, fun j hj => by
      by_cases h : j < 13
      · exact absurd hj (hL j h)
      · obtain ⟨m, rfl⟩ : ∃ m, j = m + 13 := ⟨j - 13, by omega⟩
        exact trivial⟩, fun h => absurd h (hL 12 (by decide))⟩
  case rhs =>
    rintro L L' a w i op K ⟨V, rfl, hJ, hT⟩ ho hopen hdep hL hK
    have hkb := hJ.kp.size
    have tie : ∀ x, i ≠ 11 → i ≠ 12 → (L' 12 → L' 11 ∧ vset V i x 12 = vset V i x 11) := fun x h8 h10 h => by
      obtain ⟨t1, t2⟩ := hT (((hL 12).1 h).resolve_left (fun e => h10 e.symm))
      exact ⟨(hL 11).2 (.inr t1), by rw [vset_other _ _ (fun e => h10 e.symm), vset_other _ _ (fun e => h8 e.symm)]; exact t2⟩
    match i, ho with
    | 0, ho =>
      simp only [List.getElem?_toArray, List.getElem?_cons_zero, Option.some.injEq] at ho
      subst ho
      rw [if_pos (wanted_free rfl _)]
      simp only [Act.put, List.setIfInBounds_toArray, List.set_cons_zero, List.set_cons_succ]
      go_simp
      exact hK _ _ ⟨vset V 0 (.pointer (some ⟨W.heap.size, 0, none⟩)), by simp only [Act.put, List.setIfInBounds_toArray, List.set_cons_zero, List.set_cons_succ, vset, Nat.reduceEqDiff, if_true, if_false], hJ.more tmP_kept hL (Kept.refl _) (rfl), tie _ (by decide) (by decide)⟩
    | 1, ho =>
      simp only [List.getElem?_toArray, List.getElem?_cons_zero, List.getElem?_cons_succ, Option.some.injEq] at ho
      have e0 : V 0 = .pointer (some ⟨W.heap.size, 0, none⟩) := hJ.h 0 (hdep 0 (by rw [← ho]; kernel_rfl))
      obtain ⟨x0, x1, x2⟩ := box3 (HPA.out.kept hJ.kp)
      subst ho
      rw [if_pos (wanted_free rfl _)]
      simp only [Act.put, List.setIfInBounds_toArray, List.set_cons_zero, List.set_cons_succ, e0]
      go_simp
      exact hK _ _ ⟨vset V 1 (.int .i64 r), by simp only [Act.put, List.setIfInBounds_toArray, List.set_cons_zero, List.set_cons_succ, vset, Nat.reduceEqDiff, if_true, if_false, e0], hJ.more tmP_kept hL (Kept.refl _) (rfl), tie _ (by decide) (by decide)⟩
    | 2, ho =>
      simp only [List.getElem?_toArray, List.getElem?_cons_zero, List.getElem?_cons_succ, Option.some.injEq] at ho
      subst ho
      rw [if_pos (wanted_free rfl _)]
      simp only [Act.put, List.setIfInBounds_toArray, List.set_cons_zero, List.set_cons_succ]
      go_simp
      exact hK _ _ ⟨vset V 2 (.pointer (some ⟨W.heap.size + 1, 1, none⟩)), by simp only [Act.put, List.setIfInBounds_toArray, List.set_cons_zero, List.set_cons_succ, vset, Nat.reduceEqDiff, if_true, if_false], hJ.more tmP_kept hL (Kept.refl _) (rfl), tie _ (by decide) (by decide)⟩
    | 3, ho =>
      simp only [List.getElem?_toArray, List.getElem?_cons_zero, List.getElem?_cons_succ, Option.some.injEq] at ho
      have e2 : V 2 = .pointer (some ⟨W.heap.size + 1, 1, none⟩) := hJ.h 2 (hdep 2 (by rw [← ho]; kernel_rfl))
      obtain ⟨x0, x1, x2⟩ := box3 (HPB.out.kept hJ.kp)
      subst ho
      rw [if_pos (wanted_free rfl _)]
      simp only [Act.put, List.setIfInBounds_toArray, List.set_cons_zero, List.set_cons_succ, e2]
      go_simp
      exact hK _ _ ⟨vset V 3 (.int .i64 c), by simp only [Act.put, List.setIfInBounds_toArray, List.set_cons_zero, List.set_cons_succ, vset, Nat.reduceEqDiff, if_true, if_false, e2], hJ.more tmP_kept hL (Kept.refl _) (rfl), tie _ (by decide) (by decide)⟩
    | 4, ho =>
      simp only [List.getElem?_toArray, List.getElem?_cons_zero, List.getElem?_cons_succ, Option.some.injEq] at ho
      subst ho
      rw [if_pos (wanted_free rfl _)]
      simp only [Act.put, List.setIfInBounds_toArray, List.set_cons_zero, List.set_cons_succ]
      go_simp
      exact hK _ _ ⟨vset V 4 (.pointer (some ⟨W.heap.size, 0, none⟩)), by simp only [Act.put, List.setIfInBounds_toArray, List.set_cons_zero, List.set_cons_succ, vset, Nat.reduceEqDiff, if_true, if_false], hJ.more tmP_kept hL (Kept.refl _) (rfl), tie _ (by decide) (by decide)⟩
    | 5, ho =>
      simp only [List.getElem?_toArray, List.getElem?_cons_zero, List.getElem?_cons_succ, Option.some.injEq] at ho
      have e4 : V 4 = .pointer (some ⟨W.heap.size, 0, none⟩) := hJ.h 4 (hdep 4 (by rw [← ho]; kernel_rfl))
      obtain ⟨x0, x1, x2⟩ := box3 (HPA.out.kept hJ.kp)
      subst ho
      rw [if_pos (wanted_free rfl _)]
      simp only [Act.put, List.setIfInBounds_toArray, List.set_cons_zero, List.set_cons_succ, e4]
      go_simp
      exact hK _ _ ⟨vset V 5 (.int .i64 r), by simp only [Act.put, List.setIfInBounds_toArray, List.set_cons_zero, List.set_cons_succ, vset, Nat.reduceEqDiff, if_true, if_false, e4], hJ.more tmP_kept hL (Kept.refl _) (rfl), tie _ (by decide) (by decide)⟩
    | 6, ho =>
      simp only [List.getElem?_toArray, List.getElem?_cons_zero, List.getElem?_cons_succ, Option.some.injEq] at ho
      subst ho
      rw [if_pos (wanted_free rfl _)]
      simp only [Act.put, List.setIfInBounds_toArray, List.set_cons_zero, List.set_cons_succ]
      go_simp
      exact hK _ _ ⟨vset V 6 (.pointer (some ⟨W.heap.size + 1, 1, none⟩)), by simp only [Act.put, List.setIfInBounds_toArray, List.set_cons_zero, List.set_cons_succ, vset, Nat.reduceEqDiff, if_true, if_false], hJ.more tmP_kept hL (Kept.refl _) (rfl), tie _ (by decide) (by decide)⟩
    | 7, ho =>
      simp only [List.getElem?_toArray, List.getElem?_cons_zero, List.getElem?_cons_succ, Option.some.injEq] at ho
      have e6 : V 6 = .pointer (some ⟨W.heap.size + 1, 1, none⟩) := hJ.h 6 (hdep 6 (by rw [← ho]; kernel_rfl))
      obtain ⟨x0, x1, x2⟩ := box3 (HPB.out.kept hJ.kp)
      subst ho
      rw [if_pos (wanted_free rfl _)]
      simp only [Act.put, List.setIfInBounds_toArray, List.set_cons_zero, List.set_cons_succ, e6]
      go_simp
      exact hK _ _ ⟨vset V 7 (.int .i64 c), by simp only [Act.put, List.setIfInBounds_toArray, List.set_cons_zero, List.set_cons_succ, vset, Nat.reduceEqDiff, if_true, if_false, e6], hJ.more tmP_kept hL (Kept.refl _) (rfl), tie _ (by decide) (by decide)⟩
    | 8, ho =>
      simp only [List.getElem?_toArray, List.getElem?_cons_zero, List.getElem?_cons_succ, Option.some.injEq] at ho
      have e5 : V 5 = .int .i64 r := hJ.h 5 (hdep 5 (by rw [← ho]; kernel_rfl))
      have e7 : V 7 = .int .i64 c := hJ.h 7 (hdep 7 (by rw [← ho]; kernel_rfl))
      subst ho
      rw [if_pos (wanted_free rfl _)]
      simp only [Act.put, List.setIfInBounds_toArray, List.set_cons_zero, List.set_cons_succ, e5, e7]
      go_simp
      exact hK _ _ ⟨vset V 8 (.int .i64 rc), by simp only [Act.put, List.setIfInBounds_toArray, List.set_cons_zero, List.set_cons_succ, vset, Nat.reduceEqDiff, if_true, if_false, e5, e7], hJ.more tmP_kept hL (Kept.refl _) (rfl), tie _ (by decide) (by decide)⟩
    | 9, ho =>
      simp only [List.getElem?_toArray, List.getElem?_cons_zero, List.getElem?_cons_succ, Option.some.injEq] at ho
      have e8 : V 8 = .int .i64 rc := hJ.h 8 (hdep 8 (by rw [← ho]; kernel_rfl))
      subst ho
      rw [if_pos (wanted_free rfl _)]
      simp only [Act.put, List.setIfInBounds_toArray, List.set_cons_zero, List.set_cons_succ, e8]
      have hmk := HMK.out
      go_simp
      exact hK _ _ ⟨vset V 9 (.slice (some ⟨w.heap.size, 0, none⟩) rc rc), by simp only [Act.put, List.setIfInBounds_toArray, List.set_cons_zero, List.set_cons_succ, vset, Nat.reduceEqDiff, if_true, if_false, e8], hJ.more tmP_kept hL ((Kept.refl _).alloc _) (⟨_, rfl, hkb, HBZ.out w⟩), tie _ (by decide) (by decide)⟩
    | 10, ho =>
      simp only [List.getElem?_toArray, List.getElem?_cons_zero, List.getElem?_cons_succ, Option.some.injEq] at ho
      have e1 : V 1 = .int .i64 r := hJ.h 1 (hdep 1 (by rw [← ho]; kernel_rfl))
      have e3 : V 3 = .int .i64 c := hJ.h 3 (hdep 3 (by rw [← ho]; kernel_rfl))
      obtain ⟨g, e9, hg, hm⟩ := hJ.h 9 (hdep 9 (by rw [← ho]; kernel_rfl))
      subst ho
      rw [if_pos (wanted_free rfl _)]
      simp only [Act.put, List.setIfInBounds_toArray, List.set_cons_zero, List.set_cons_succ, e1, e3, e9]
      go_simp
      exact hK _ _ ⟨vset V 10 (.agg #[.int .i64 r, .int .i64 c, .slice (some ⟨g, 0, none⟩) rc rc]), by simp only [Act.put, List.setIfInBounds_toArray, List.set_cons_zero, List.set_cons_succ, vset, Nat.reduceEqDiff, if_true, if_false, e1, e3, e9], hJ.more tmP_kept hL (Kept.refl _) (⟨g, rfl, hg, hm⟩), tie _ (by decide) (by decide)⟩
    | 11, ho =>
      simp only [List.getElem?_toArray, List.getElem?_cons_zero, List.getElem?_cons_succ, Option.some.injEq] at ho
      have nlast : ¬ L 12 := fun h => hopen (hT h).1
      subst ho
      rw [if_pos (wanted_free rfl _)]
      simp only [Act.put, List.setIfInBounds_toArray, List.set_cons_zero, List.set_cons_succ]
      go_simp
      exact hK _ _ ⟨vset V 11 (.pointer (some ⟨w.heap.size, 0, none⟩)), by simp only [Act.put, List.setIfInBounds_toArray, List.set_cons_zero, List.set_cons_succ, vset, Nat.reduceEqDiff, if_true, if_false], hJ.more tmP_kept hL ((Kept.refl _).alloc _) (⟨_, _, _, _, rfl, hkb, BlockAt.new _ _ _⟩), fun h => absurd (((hL 12).1 h).resolve_left (by decide)) nlast⟩
    | 12, ho =>
      simp only [List.getElem?_toArray, List.getElem?_cons_zero, List.getElem?_cons_succ, Option.some.injEq] at ho
      obtain ⟨b8, y0, y1, y2, e11, hs8, hb8⟩ := hJ.h 11 (hdep 11 (by rw [← ho]; kernel_rfl))
      obtain ⟨g, e10, hg, hm⟩ := hJ.h 10 (hdep 10 (by rw [← ho]; kernel_rfl))
      have lal := hdep 11 (by rw [← ho]; kernel_rfl)
      obtain ⟨c0, c1, c2⟩ := box3 hb8
      have f0 := hb8.free 0
      have f1 := hb8.free 1
      have f2 := hb8.free 2
      have hg8 := grown3b w b8 (.int .i64 r) (.int .i64 c) (.slice (some ⟨g, 0, none⟩) rc rc)
      have hs3 := set3b hb8 (.int .i64 r) (.int .i64 c) (.slice (some ⟨g, 0, none⟩) rc rc)
      have hn : PJ w0 (TmP W.heap.size r c rc w0) L' (vset V 12 (.pointer (some ⟨b8, 0, none⟩))) _ :=
        ⟨Kept.grown hJ.kp hg8 (fun q e => by cases e; exact hs8), fun j hj => by
          by_cases e : j = 12
          · subst e; rw [vset_same]; exact ⟨b8, g, rfl, hs8, hs3, hg, hm.grownT hg8 hb8 (by decide)⟩
          · rw [vset_other _ _ e]; exact tmP_store hb8 hg8 hs3 _ j e (hJ.h j (((hL j).1 hj).resolve_left e))⟩
      have HN := Lib.hid hn
      clear hn hg8 hs3
      subst ho
      rw [if_pos (wanted_free rfl _)]
      simp only [Act.put, List.setIfInBounds_toArray, List.set_cons_zero, List.set_cons_succ, e11, e10]
      go_simp
      exact hK _ _ ⟨vset V 12 (.pointer (some ⟨b8, 0, none⟩)), by simp only [Act.put, List.setIfInBounds_toArray, List.set_cons_zero, List.set_cons_succ, vset, Nat.reduceEqDiff, if_false, e11, e10], HN.out, fun _ => ⟨(hL 11).2 (.inr lal), by rw [vset_same, vset_other _ _ (by decide)]; exact e11.symm⟩⟩
    | n + 13, ho => simp at ho
  case rhe =>
    rintro L a w1 ⟨V, rfl, hJ, hT⟩ hall
    obtain ⟨b5, g, e10, hs, hb5, hgs, hmg⟩ := hJ.h 12 (hall 12 (by decide))
    have hLL := HLL.out
    clear wrc hmrc
    subst hLL
    have e8 : V 11 = .pointer (some ⟨b5, 0, none⟩) := (hT (hall 12 (by decide))).2.symm.trans e10
    have HS := Lib.hid (TmSt.mk (W := W) (HPA.out.kept hJ.kp) (HPB.out.kept hJ.kp) (HPZ.out.kept hJ.kp) hb5 (HMA.out.kept (HK3.out.trans hJ.kp)) (HMB.out.kept (HK3.out.trans hJ.kp)) hmg (HK3.out.trans hJ.kp))
    have hg : W.heap.size + 1 + 1 < g := by omega
    clear hJ hT hall e10 hb5 hmg HPA HPB HPZ HMA HMB HK3 HMK HBZ
    simp only [Act.put, List.setIfInBounds_toArray, List.set_cons_zero, List.set_cons_succ, e8]
    clear e8
    go_wp2_with fail
    go_loopw [6] (fun i wr => ∃ n : Nat, n ≤ r ∧ i = .int .i64 n ∧ TmSt W r k c ba oa ca bb ob cb b5 g A B (tmTo k A B n 0) wr) (fun i _ => r - (intOf i).toNat)
    case atStart => exact ⟨0, by omega, rfl, by rw [tmTo_zero]; exact HS.out⟩
    case round =>
      obtain ⟨n, hn, rfl, hS1⟩ := hrel
      obtain ⟨a0, a1, a2⟩ := box3 hS1.pa
      have HS1 := Lib.hid hS1
      clear hS1
      by_cases hnr : n < r
      · go_wp2_with fail
        go_loopw [7] (fun i wy => ∃ m : Nat, m ≤ c ∧ i = .int .i64 m ∧ TmSt W r k c ba oa ca bb ob cb b5 g A B (tmTo k A B n m) wy) (fun i _ => c - (intOf i).toNat)
        case atStart => exact ⟨0, by omega, rfl, HS1.out⟩
        case round =>
          obtain ⟨m, hm, rfl, hS2⟩ := hrel
          obtain ⟨c0, c1, c2⟩ := box3 hS2.pb
          have HS2 := Lib.hid hS2
          clear hS2 a0 a1 a2
          by_cases hmc : m < c
          · go_wp2_with fail
            go_loopw [8, 9] (fun x i wz => ∃ q : Nat, q ≤ k ∧ i = .int .i64 q ∧ x = .int .u8 (xs (fun t => Gf.mul (A n t) (B t m)) q : Nat) ∧ TmSt W r k c ba oa ca bb ob cb b5 g A B (tmTo k A B n m) wz) (fun _ i _ => k - (intOf i).toNat)
            case atStart => exact ⟨0, by omega, rfl, rfl, HS2.out⟩
            case round =>
              obtain ⟨q, hq, rfl, rfl, hS3⟩ := hrel
              obtain ⟨a0, a1, a2⟩ := box3 hS3.pa
              obtain ⟨d0, d1, d2⟩ := box3 hS3.pb
              have hxs : xs (fun t => Gf.mul (A n t) (B t m)) q < 256 := xs_lt (fun j => Gf.mul_lt (hA n j) _) q
              have HS3 := Lib.hid hS3
              clear c0 c1 c2
              by_cases hqk : q < k
              · have hca := hS3.ma n q hnr hqk
                have hcb := hS3.mb q m hqk hmc
                have hla := idx_lt hnr hqk
                have hlb := idx_lt hqk hmc
                have hqa := mul_cast n k
                have hqb := mul_cast q c
                have hsa : ((n * k : Nat) : Int) + (q : Int) = ((n * k + q : Nat) : Int) := by simp
                have hsb : ((q * c : Nat) : Int) + (m : Int) = ((q * c + m : Nat) : Int) := by simp
                have hrk : r * k ≤ 256 := Nat.le_trans (Nat.mul_le_mul hr.2 hk.2) (by decide)
                have hkc : k * c ≤ 256 := Nat.le_trans (Nat.mul_le_mul hk.2 hc.2) (by decide)
                rw [Nat.add_assoc] at hca hcb
                have hxa := hA n q
                have hxb := hB q m
                have hnext : xs (fun t => Gf.mul (A n t) (B t m)) (q + 1) = xs (fun t => Gf.mul (A n t) (B t m)) q ^^^ Gf.mul (A n q) (B q m) := rfl
                have HNX := Lib.hid hnext
                clear hnext hS3
                generalize xs (fun t => Gf.mul (A n t) (B t m)) q = X at *
                generalize A n q = ya at *
                generalize B q m = yb at *
                have hxy := xor_u8 X (Gf.mul ya yb) hxs (Gf.mul_lt hxa yb)
                have hmy := Gf.mul_lt hxa yb
                generalize hnk : n * k = nk at *
                generalize hnq : nk + q = nq' at *
                generalize hqc : q * c = qc at *
                generalize hqm : qc + m = qm at *
                have HQ1 := Lib.hid hnk
                have HQ2 := Lib.hid hnq
                have HQ3 := Lib.hid hqc
                have HQ4 := Lib.hid hqm
                clear hnk hnq hqc hqm
                go_wp2_with fail
                go_quiet ((go_at_call 31; exact quietly (refmul_any ya yb hxa hxb _)))
                go_wp2
                go_roundw
                case rel => exact ⟨q + 1, by omega, by go_num, by rw [HNX.out], HS3.out.kept ((Kept.refl _).drewN nq)⟩
                case measure => simp [intOf]; omega
              · obtain rfl : q = k := by omega
                have hcell := hS3.m.cell n m hnr hmc
                have hset := hS3.m.set hnr hmc (mulM q A B n m)
                rw [tmTo_succ, Nat.zero_add, show mulM q A B n m = xs (fun t => Gf.mul (A n t) (B t m)) q from rfl] at hset
                rw [Nat.zero_add] at hcell
                have hfree := hS3.m.free (n * c + m)
                obtain ⟨e0, e1, e2⟩ := box3 hS3.p5
                have hla := idx_lt hnr hmc
                have hqa := mul_cast n c
                have hsa : ((n * c : Nat) : Int) + (m : Int) = ((n * c + m : Nat) : Int) := by simp
                have HSET := Lib.hid hset
                clear hS3 hset
                generalize tmTo q A B n m n m = xx at hcell
                generalize xs (fun t => Gf.mul (A n t) (B t m)) q = X at *
                generalize hnk : n * c = nk at *
                generalize hnq : nk + m = nq' at *
                have HQ1 := Lib.hid hnk
                have HQ2 := Lib.hid hnq
                clear hnk hnq
                go_wp2_with fail
                go_roundw
                case rel => exact ⟨m + 1, by omega, by go_num, HS3.out.on hba hbb hg (grown_set _ _ _ _) HSET.out⟩
                case measure => simp [intOf]; omega
          · obtain rfl : m = c := by omega
            go_wp2_with fail
            go_roundw
            case rel => exact ⟨n + 1, by omega, by go_num, HS2.out.as (fun i j _ hj => tmTo_row k A B n m i j hj)⟩
            case measure => simp [intOf]; omega
      · obtain rfl : n = r := by omega
        have hfin := HS1.out.m.congr (G := mulM k A B) (fun i j hi _ => tmTo_all k A B n i j hi)
        have HF := Lib.hid hfin
        clear hfin
        obtain ⟨c0, c1, c2⟩ := box3 HS1.out.p5
        go_wp2_with (refine wpList_store_block rfl 33 (.tmp 4) (.tmp 72) rfl _ #[.int .i64 n, .int .i64 c, .slice (some ⟨g, 0, none⟩) (n * c) (n * c)] #[.int .i64 0, .int .i64 0, .slice none 0 0] 33 rfl rfl HS1.out.z Try.infoMat rfl (one3 _ _ _ _ _) ?_)
        have g2 := grown_row wr (W.heap.size + 1 + 1) #[.int .i64 n, .int .i64 c, .slice (some ⟨g, 0, none⟩) (n * c) (n * c)]
        refine bodyPost_ret (v := .agg #[.int .i64 n, .int .i64 c, .slice (some ⟨g, 0, none⟩) (n * c) (n * c)]) ?_ rfl ⟨_, rfl, by omega, HF.out.grown g2 (by simp; omega), Kept.grown HS1.out.kp g2 (fun q e => by cases e; omega)⟩
        exact results_cell_row rfl _ _ (W.heap.size + 1 + 1) 33 #[.int .i64 n, .int .i64 c, .slice (some ⟨g, 0, none⟩) (n * c) (n * c)] (0, 0) _ rfl (HS1.out.z.setRow _) Try.underlying33 rfl Try.infoMat
end Go.Proofs.Ytoonpnpooljmlaa
