/- siloref1.swept, by what it answers (sides within bounds, numbers below 256). -/
import Derived.Test.YtlpjpeonejbpjaaRefSw
namespace Go.Proofs.Ytlpjpeonejbpjaa
open Go.RowKit

/-- the two matrices, shown by the blocks q and q + 1; a result's block behind them -/
structure SwSt (W : World) (r c g k g' k' : Nat) (S T : Nat → Nat → Nat) (w : World) : Prop where
  bm : BlockAt w W.heap.size #[.int .i64 r, .int .i64 c, .slice (some ⟨g, 0, none⟩) (r * c) k] 50
  bo : BlockAt w (W.heap.size + 1) #[.int .i64 r, .int .i64 r, .slice (some ⟨g', 0, none⟩) (r * r) k'] 50
  z : BlockAt w (W.heap.size + 1 + 1) #[.int .i64 0, .int .i64 0, .slice none 0 0] 50
  m : Mat w g 0 r c S
  o : Mat w g' 0 r r T
  kp : Kept W w
theorem SwSt.kept {W : World} {r c g k g' k' : Nat} {S T : Nat → Nat → Nat} {w w' : World} (h : SwSt W r c g k g' k' S T w) (kk : Kept w w') : SwSt W r c g k g' k' S T w' :=
  ⟨h.bm.kept kk, h.bo.kept kk, h.z.kept kk, h.m.kept kk, h.o.kept kk, h.kp.trans kk⟩
theorem SwSt.onM {W : World} {r c g k g' k' : Nat} {S S' T : Nat → Nat → Nat} {w w' : World} (h : SwSt W r c g k g' k' S T w) (hg : W.heap.size + 1 + 1 < g) (hne : g' ≠ g) (m : Mat w' g 0 r c S') (gr : w.grownBy w' (some g)) : SwSt W r c g k g' k' S' T w' :=
  ⟨h.bm.grown gr (by simp; omega), h.bo.grown gr (by simp; omega), h.z.grown gr (by simp; omega), m, h.o.grown gr (by simp; omega), Kept.grown h.kp gr (fun q e => by cases e; omega)⟩
theorem SwSt.onO {W : World} {r c g k g' k' : Nat} {S T T' : Nat → Nat → Nat} {w w' : World} (h : SwSt W r c g k g' k' S T w) (hg : W.heap.size + 1 + 1 < g') (hne : g' ≠ g) (o : Mat w' g' 0 r r T') (gr : w.grownBy w' (some g')) : SwSt W r c g k g' k' S T' w' :=
  ⟨h.bm.grown gr (by simp; omega), h.bo.grown gr (by simp; omega), h.z.grown gr (by simp; omega), h.m.grown gr (by simp; omega), o, Kept.grown h.kp gr (fun q e => by cases e; omega)⟩
/-- the first region: both matrices copied, whatever the order -/
structure SwCp (W : World) (r c : Nat) (F : Nat → Nat → Nat) (vm vo : Value) (L : Nat → Prop) (w : World) (v0 v1 v2 v3 : Value) (g k g' k' : Nat) : Prop where
  kp : Kept W w
  z : BlockAt w (W.heap.size + 1 + 1) #[.int .i64 0, .int .i64 0, .slice none 0 0] 50
  f0 : L 0 → v0 = .agg #[.int .i64 r, .int .i64 c, vm]
  f1 : L 1 → v1 = .agg #[.int .i64 r, .int .i64 c, .slice (some ⟨g, 0, none⟩) (r * c) k] ∧ r * c ≤ k ∧ W.heap.size + 1 + 1 < g ∧ Mat w g 0 r c F
  f2 : L 2 → v2 = .agg #[.int .i64 r, .int .i64 r, vo]
  f3 : L 3 → v3 = .agg #[.int .i64 r, .int .i64 r, .slice (some ⟨g', 0, none⟩) (r * r) k'] ∧ r * r ≤ k' ∧ W.heap.size + 1 + 1 < g' ∧ Mat w g' 0 r r oneF
  f13 : L 1 → L 3 → g' ≠ g
  m0 : ¬ L 4 → BlockAt w W.heap.size #[.int .i64 r, .int .i64 c, vm] 50
  m1 : L 4 → BlockAt w W.heap.size #[.int .i64 r, .int .i64 c, .slice (some ⟨g, 0, none⟩) (r * c) k] 50
  o0 : ¬ L 5 → BlockAt w (W.heap.size + 1) #[.int .i64 r, .int .i64 r, vo] 50
  o1 : L 5 → BlockAt w (W.heap.size + 1) #[.int .i64 r, .int .i64 r, .slice (some ⟨g', 0, none⟩) (r * r) k'] 50
  d1 : L 1 → L 0
  d3 : L 3 → L 2
  d4 : L 4 → L 1 ∧ L 3
  d5 : L 5 → L 1 ∧ L 3
/-- one more of the first four operations is done -/
theorem SwCp.more {W : World} {r c : Nat} {F : Nat → Nat → Nat} {vm vo : Value} {L L' : Nat → Prop} {w w' : World} {v0 v1 v2 v3 v0' v1' v2' v3' : Value} {g k g' k' ng nk ng' nk' : Nat} (h : SwCp W r c F vm vo L w v0 v1 v2 v3 g k g' k') (i : Nat) (hi : i < 4) (hL : ∀ j, L' j ↔ (j = i ∨ L j)) (hk : Kept w w')
    (n4 : ¬ L 4) (n5 : ¬ L 5)
    (e0 : i = 0 ∧ v0' = .agg #[.int .i64 r, .int .i64 c, vm] ∨ i ≠ 0 ∧ v0' = v0)
    (e1 : i = 1 ∧ L 0 ∧ v1' = .agg #[.int .i64 r, .int .i64 c, .slice (some ⟨ng, 0, none⟩) (r * c) nk] ∧ r * c ≤ nk ∧ W.heap.size + 1 + 1 < ng ∧ Mat w' ng 0 r c F ∧ (L 3 → g' ≠ ng) ∨ i ≠ 1 ∧ v1' = v1 ∧ ng = g ∧ nk = k)
    (e2 : i = 2 ∧ v2' = .agg #[.int .i64 r, .int .i64 r, vo] ∨ i ≠ 2 ∧ v2' = v2)
    (e3 : i = 3 ∧ L 2 ∧ v3' = .agg #[.int .i64 r, .int .i64 r, .slice (some ⟨ng', 0, none⟩) (r * r) nk'] ∧ r * r ≤ nk' ∧ W.heap.size + 1 + 1 < ng' ∧ Mat w' ng' 0 r r oneF ∧ (L 1 → ng' ≠ g) ∨ i ≠ 3 ∧ v3' = v3 ∧ ng' = g' ∧ nk' = k') :
    SwCp W r c F vm vo L' w' v0' v1' v2' v3' ng nk ng' nk' := by
  have old : ∀ {j}, L' j → i ≠ j → L j := fun {j} hj hne => ((hL j).1 hj).resolve_left (fun e => hne e.symm)
  have new : ∀ {j}, L j → L' j := fun {j} hj => (hL j).2 (.inr hj)
  have n4' : ¬ L' 4 := fun x => n4 (old x (by omega))
  have n5' : ¬ L' 5 := fun x => n5 (old x (by omega))
  refine ⟨h.kp.trans hk, h.z.kept hk, fun x => ?_, fun x => ?_, fun x => ?_, fun x => ?_, fun x y => ?_, fun _ => (h.m0 n4).kept hk, fun x => absurd x n4', fun _ => (h.o0 n5).kept hk, fun x => absurd x n5', fun x => ?_, fun x => ?_, fun x => absurd x n4', fun x => absurd x n5'⟩
  · rcases e0 with ⟨_, e⟩ | ⟨hne, rfl⟩
    · exact e
    · exact h.f0 (old x hne)
  · rcases e1 with ⟨_, _, e, a, b, m, _⟩ | ⟨hne, rfl, rfl, rfl⟩
    · exact ⟨e, a, b, m⟩
    · obtain ⟨e, a, b, m⟩ := h.f1 (old x hne)
      exact ⟨e, a, b, m.kept hk⟩
  · rcases e2 with ⟨_, e⟩ | ⟨hne, rfl⟩
    · exact e
    · exact h.f2 (old x hne)
  · rcases e3 with ⟨_, _, e, a, b, m, _⟩ | ⟨hne, rfl, rfl, rfl⟩
    · exact ⟨e, a, b, m⟩
    · obtain ⟨e, a, b, m⟩ := h.f3 (old x hne)
      exact ⟨e, a, b, m.kept hk⟩
  · rcases e1 with ⟨i1, _, _, _, _, _, n⟩ | ⟨h1, _, rfl, _⟩
    · rcases e3 with ⟨i3, _⟩ | ⟨h3, _, rfl, _⟩
      · omega
      · exact n (old y h3)
    · rcases e3 with ⟨i3, _, _, _, _, _, n⟩ | ⟨h3, _, rfl, _⟩
      · exact n (old x h1)
      · exact h.f13 (old x h1) (old y h3)
  · rcases e1 with ⟨_, l, _⟩ | ⟨hne, _⟩
    · exact new l
    · exact new (h.d1 (old x hne))
  · rcases e3 with ⟨_, l, _⟩ | ⟨hne, _⟩
    · exact new l
    · exact new (h.d3 (old x hne))
theorem grown3b (w : World) (b : Nat) (x y z : Value) : w.grownBy (((w.setCell ⟨b, 0, none⟩ x).setCell ⟨b, 1, none⟩ y).setCell ⟨b, 2, none⟩ z) (some b) := grown_trans (grown_trans (grown_set _ _ _ _) (grown_set _ _ _ _)) (grown_set _ _ _ _)
theorem set3b {w : World} {b : Nat} {x y z : Value} {t : TypeId} (h : BlockAt w b #[x, y, z] t) (x' y' z' : Value) : BlockAt (((w.setCell ⟨b, 0, none⟩ x').setCell ⟨b, 1, none⟩ y').setCell ⟨b, 2, none⟩ z') b #[x', y', z'] t := by
  have h0 : BlockAt (w.setCell ⟨b, 0, none⟩ x') b #[x', y, z] t := h.set (i := 0) x'
  have h1 : BlockAt ((w.setCell ⟨b, 0, none⟩ x').setCell ⟨b, 1, none⟩ y') b #[x', y', z] t := h0.set (i := 1) y'
  exact h1.set (i := 2) z'
/-- the first store -/
theorem SwCp.storeM {W : World} {r c : Nat} {F : Nat → Nat → Nat} {vm vo : Value} {L L' : Nat → Prop} {w : World} {v0 v1 v2 v3 : Value} {g k g' k' : Nat} (h : SwCp W r c F vm vo L w v0 v1 v2 v3 g k g' k') (h1 : L 1) (h3 : L 3) (n4 : ¬ L 4) (hL : ∀ j, L' j ↔ (j = 4 ∨ L j)) :
    SwCp W r c F vm vo L' (((w.setCell ⟨W.heap.size, 0, none⟩ (.int .i64 r)).setCell ⟨W.heap.size, 1, none⟩ (.int .i64 c)).setCell ⟨W.heap.size, 2, none⟩ (.slice (some ⟨g, 0, none⟩) (r * c) k)) v0 v1 v2 v3 g k g' k' := by
  have hg := grown3b w W.heap.size (.int .i64 r) (.int .i64 c) (.slice (some ⟨g, 0, none⟩) (r * c) k)
  have hs := set3b (h.m0 n4) (.int .i64 r) (.int .i64 c) (.slice (some ⟨g, 0, none⟩) (r * c) k)
  have old : ∀ {j}, L' j → j ≠ 4 → L j := fun {j} hj hne => ((hL j).1 hj).resolve_left hne
  have new : ∀ {j}, L j → L' j := fun {j} hj => (hL j).2 (.inr hj)
  obtain ⟨a1, b1, c1, m1⟩ := h.f1 h1
  obtain ⟨a3, b3, c3, m3⟩ := h.f3 h3
  exact ⟨Kept.grown h.kp hg (fun q e => by cases e; omega), h.z.grown hg (by simp; omega), fun x => h.f0 (old x (by decide)), fun _ => ⟨a1, b1, c1, m1.grown hg (by simp; omega)⟩, fun x => h.f2 (old x (by decide)), fun _ => ⟨a3, b3, c3, m3.grown hg (by simp; omega)⟩, fun _ _ => h.f13 h1 h3,
    fun x => absurd ((hL 4).2 (.inl rfl)) x, fun _ => hs, fun x => (h.o0 (fun y => x (new y))).grown hg (by simp), fun x => (h.o1 (old x (by decide))).grown hg (by simp), fun _ => new (h.d1 h1), fun _ => new (h.d3 h3), fun _ => ⟨new h1, new h3⟩, fun _ => ⟨new h1, new h3⟩⟩
/-- the second store -/
theorem SwCp.storeO {W : World} {r c : Nat} {F : Nat → Nat → Nat} {vm vo : Value} {L L' : Nat → Prop} {w : World} {v0 v1 v2 v3 : Value} {g k g' k' : Nat} (h : SwCp W r c F vm vo L w v0 v1 v2 v3 g k g' k') (h1 : L 1) (h3 : L 3) (n5 : ¬ L 5) (hL : ∀ j, L' j ↔ (j = 5 ∨ L j)) :
    SwCp W r c F vm vo L' (((w.setCell ⟨W.heap.size + 1, 0, none⟩ (.int .i64 r)).setCell ⟨W.heap.size + 1, 1, none⟩ (.int .i64 r)).setCell ⟨W.heap.size + 1, 2, none⟩ (.slice (some ⟨g', 0, none⟩) (r * r) k')) v0 v1 v2 v3 g k g' k' := by
  have hg := grown3b w (W.heap.size + 1) (.int .i64 r) (.int .i64 r) (.slice (some ⟨g', 0, none⟩) (r * r) k')
  have hs := set3b (h.o0 n5) (.int .i64 r) (.int .i64 r) (.slice (some ⟨g', 0, none⟩) (r * r) k')
  have old : ∀ {j}, L' j → j ≠ 5 → L j := fun {j} hj hne => ((hL j).1 hj).resolve_left hne
  have new : ∀ {j}, L j → L' j := fun {j} hj => (hL j).2 (.inr hj)
  obtain ⟨a1, b1, c1, m1⟩ := h.f1 h1
  obtain ⟨a3, b3, c3, m3⟩ := h.f3 h3
  exact ⟨Kept.grown h.kp hg (fun q e => by cases e; omega), h.z.grown hg (by simp), fun x => h.f0 (old x (by decide)), fun _ => ⟨a1, b1, c1, m1.grown hg (by simp; omega)⟩, fun x => h.f2 (old x (by decide)), fun _ => ⟨a3, b3, c3, m3.grown hg (by simp; omega)⟩, fun _ _ => h.f13 h1 h3,
    fun x => (h.m0 (fun y => x (new y))).grown hg (by simp), fun x => (h.m1 (old x (by decide))).grown hg (by simp), fun x => absurd ((hL 5).2 (.inl rfl)) x, fun _ => hs, fun _ => new (h.d1 h1), fun _ => new (h.d3 h3), fun _ => ⟨new h1, new h3⟩, fun _ => ⟨new h1, new h3⟩⟩
/-- a copy of a matrix, in a block of its own -/
theorem copy_mat (r c b o cap : Nat) (F : Nat → Nat → Nat) (hr : 1 ≤ r ∧ r ≤ 16) (hc : 1 ≤ c ∧ c ≤ 16) (w : World) (h : MatR w b o r c F) :
    Calls Try.prog 32 #[.agg #[.int .i64 r, .int .i64 c, .slice (some ⟨b, o, none⟩) (r * c) cap]] w fun e w' => ∃ g k, e = .returned (.agg #[.int .i64 r, .int .i64 c, .slice (some ⟨g, 0, none⟩) (r * c) k]) ∧ r * c ≤ k ∧ w.heap.size ≤ g ∧ Mat w' g 0 r c F ∧ Kept w w' := by
  have hrc := Nat.mul_le_mul hr.2 hc.2
  have hp : 0 < r * c := Nat.mul_pos hr.1 hc.1
  refine (copy_matrix r c (some ⟨b, o, none⟩) (r * c) cap (flat c F) (by omega) w h.flat).mono ?_
  rintro e w' ⟨a', k, rfl, hk, hb, hg, hkp⟩
  obtain ⟨g, cs, rfl, hg1, hg2⟩ := hg hp
  obtain ⟨b', off', ha, hcell⟩ := hb.cells
  cases ha hp
  refine ⟨g, k, rfl, hk, hg1, ⟨⟨cs, hg2⟩, fun i j hi hj => ?_⟩, hkp⟩
  have h1 := (hcell (i * c + j) (idx_lt hi hj)).2
  unfold flat at h1
  rw [(divmod hj).1, (divmod hj).2, ← Nat.add_assoc] at h1
  exact h1

open Go.RowKit

set_option maxRecDepth 100000 in
set_option maxHeartbeats 8000000 in
theorem rswept (r c b o cap b' o' cap' : Nat) (F : Nat → Nat → Nat) (hr : 1 ≤ r ∧ r ≤ 16) (hc : 1 ≤ c ∧ c ≤ 16) (hF : Bt F) (W : World) (hm : MatR W b o r c F) (ho : MatR W b' o' r r oneF) :
    Calls Try.prog 76 #[.agg #[.int .i64 r, .int .i64 c, .slice (some ⟨b, o, none⟩) (r * c) cap], .agg #[.int .i64 r, .int .i64 r, .slice (some ⟨b', o', none⟩) (r * r) cap']] W
      fun e w' => ∃ g k, e = .returned (.tuple #[.int .i64 (rankF r c F : Nat), .agg #[.int .i64 r, .int .i64 r, .slice (some ⟨g, 0, none⟩) (r * r) k]]) ∧ r * r ≤ k ∧ W.heap.size ≤ g ∧ Mat w' g 0 r r (sh c (redTo r (beside c F oneF) c).2) ∧ Kept W w' := by
  have HM := Lib.hid hm
  have HO := Lib.hid ho
  clear hm ho
  go_enter Try.func76, Try.ntmps76
  go_wp2_with fail
  have k3 := (((Kept.refl W).alloc (.cells #[.int .i64 r, .int .i64 c, .slice (some ⟨b, o, none⟩) (r * c) cap] 50)).alloc (.cells #[.int .i64 r, .int .i64 r, .slice (some ⟨b', o', none⟩) (r * r) cap'] 50)).alloc (.cells #[.int .i64 0, .int .i64 0, .slice none 0 0] 50)
  have hbm := ((BlockAt.new W #[.int .i64 r, .int .i64 c, .slice (some ⟨b, o, none⟩) (r * c) cap] 50).kept ((Kept.refl _).alloc (.cells #[.int .i64 r, .int .i64 r, .slice (some ⟨b', o', none⟩) (r * r) cap'] 50))).kept ((Kept.refl _).alloc (.cells #[.int .i64 0, .int .i64 0, .slice none 0 0] 50))
  have hbo := (BlockAt.new1 W #[.int .i64 r, .int .i64 r, .slice (some ⟨b', o', none⟩) (r * r) cap'] 50 (.cells #[.int .i64 r, .int .i64 c, .slice (some ⟨b, o, none⟩) (r * c) cap] 50)).kept ((Kept.refl _).alloc (.cells #[.int .i64 0, .int .i64 0, .slice none 0 0] 50))
  have hbz := BlockAt.new2 W #[.int .i64 0, .int .i64 0, .slice none 0 0] 50 (.cells #[.int .i64 r, .int .i64 c, .slice (some ⟨b, o, none⟩) (r * c) cap] 50) (.cells #[.int .i64 r, .int .i64 r, .slice (some ⟨b', o', none⟩) (r * r) cap'] 50)
  have hsz : W.heap.size + 3 ≤ (((W.alloc (.cells #[.int .i64 r, .int .i64 c, .slice (some ⟨b, o, none⟩) (r * c) cap] 50)).alloc (.cells #[.int .i64 r, .int .i64 r, .slice (some ⟨b', o', none⟩) (r * r) cap'] 50)).alloc (.cells #[.int .i64 0, .int .i64 0, .slice none 0 0] 50)).heap.size := by simp
  generalize ((W.alloc _).alloc _).alloc _ = w0 at *
  have HZ := Lib.hid hsz
  have hcp : ∀ L : Nat → Prop, (∀ j, j < 6 → ¬ L j) → SwCp W r c F (.slice (some ⟨b, o, none⟩) (r * c) cap) (.slice (some ⟨b', o', none⟩) (r * r) cap') L w0.drew undef undef undef undef 0 0 0 0 := fun L hL =>
    ⟨k3.trans (Kept.refl w0).drew, hbz.kept (Kept.refl w0).drew, fun h => absurd h (hL _ (by decide)), fun h => absurd h (hL _ (by decide)), fun h => absurd h (hL _ (by decide)), fun h => absurd h (hL _ (by decide)), fun h => absurd h (hL _ (by decide)),
      fun _ => hbm.kept (Kept.refl w0).drew, fun h => absurd h (hL _ (by decide)), fun _ => hbo.kept (Kept.refl w0).drew, fun h => absurd h (hL _ (by decide)), fun h => absurd h (hL _ (by decide)), fun h => absurd h (hL _ (by decide)), fun h => absurd h (hL _ (by decide)), fun h => absurd h (hL _ (by decide))⟩
  have HCP := Lib.hid hcp
  clear hbm hbo hbz k3 hsz hcp
  refine wp_region_inv (fun L a' w' => ∃ v0 v1 v2 v3 g k g' k', a' = { tmps := #[.agg #[.int .i64 r, .int .i64 c, .slice (some ⟨b, o, none⟩) (r * c) cap], .agg #[.int .i64 r, .int .i64 r, .slice (some ⟨b', o', none⟩) (r * r) cap'], .pointer (some ⟨W.heap.size, 0, none⟩), .pointer (some ⟨W.heap.size + 1, 0, none⟩), .int .i64 0, .pointer (some ⟨W.heap.size + 1 + 1, 0, none⟩), undef, undef, undef, undef, undef, undef, v0, v1, v2, v3, undef, undef, undef, undef, undef, undef, undef, undef, undef, undef, undef, undef, undef, undef, undef, undef, undef, undef, undef, undef, undef, undef, undef, undef, undef, undef, undef, undef, undef, undef, undef, undef, undef, undef, undef, undef, undef, undef, undef, undef, undef, undef, undef, undef, undef, undef, undef, undef, undef, undef, undef, undef, undef, undef, undef, undef, undef, undef, undef, undef, undef, undef, undef, undef, undef, undef, undef, undef, undef, undef, undef, undef, undef, undef, undef, undef, undef, undef, undef, undef, undef, undef, undef, undef, undef, undef, undef, undef, undef, undef, undef, undef, undef, undef, undef, undef], defers := [] } ∧ SwCp W r c F (.slice (some ⟨b, o, none⟩) (r * c) cap) (.slice (some ⟨b', o', none⟩) (r * r) cap') L w' v0 v1 v2 v3 g k g' k') (by kernel_rfl) (by kernel_rfl) ?hh0 ?hhs ?hhe
  case hh0 =>
    intro L hL
    exact ⟨undef, undef, undef, undef, 0, 0, 0, 0, rfl, HCP.out L (fun j hj => hL j hj)⟩
  case hhs =>
    rintro L L' a' w i op K ⟨v0, v1, v2, v3, g, k, g', k', rfl, hS⟩ ho hopen hdep hL hK
    match i, ho with
    | 0, ho =>
      simp only [List.getElem?_toArray, List.getElem?_cons_zero, Option.some.injEq] at ho
      subst ho
      rw [if_pos (wanted_free rfl _)]
      have n4 : ¬ L 4 := fun x => hopen (hS.d1 (hS.d4 x).1)
      have n5 : ¬ L 5 := fun x => hopen (hS.d1 (hS.d5 x).1)
      obtain ⟨x0, x1, x2⟩ := box3 (hS.m0 n4)
      go_simp
      exact hK _ _ ⟨.agg #[.int .i64 r, .int .i64 c, .slice (some ⟨b, o, none⟩) (r * c) cap], v1, v2, v3, g, k, g', k', rfl, hS.more 0 (by decide) hL (Kept.refl _) n4 n5 (.inl ⟨rfl, rfl⟩) (.inr ⟨by decide, rfl, rfl, rfl⟩) (.inr ⟨by decide, rfl⟩) (.inr ⟨by decide, rfl, rfl, rfl⟩)⟩
    | 1, ho =>
      simp only [List.getElem?_toArray, List.getElem?_cons_zero, List.getElem?_cons_succ, Option.some.injEq] at ho
      subst ho
      rw [if_pos (wanted_free rfl _)]
      have n4 : ¬ L 4 := fun x => hopen (hS.d4 x).1
      have n5 : ¬ L 5 := fun x => hopen (hS.d5 x).1
      have l0 := hdep 0 (by kernel_rfl)
      have e0 := hS.f0 l0
      have hlt := fun h3 : L 3 => (hS.f3 h3).2.2.2.lt
      have hkz := hS.kp.size
      have hz := hS.z.lt
      subst e0
      go_simp
      refine (copy_mat r c b o cap F hr hc w (HM.out.kept hS.kp)).mono ?_
      rintro e w' ⟨ng, nk, rfl, h1, h2, h3, hk⟩
      exact hK _ _ ⟨_, .agg #[.int .i64 r, .int .i64 c, .slice (some ⟨ng, 0, none⟩) (r * c) nk], v2, v3, ng, nk, g', k', rfl, hS.more 1 (by decide) hL hk n4 n5 (.inr ⟨by decide, rfl⟩) (.inl ⟨rfl, l0, rfl, h1, by omega, h3, fun h => by have := hlt h; omega⟩) (.inr ⟨by decide, rfl⟩) (.inr ⟨by decide, rfl, rfl, rfl⟩)⟩
    | 2, ho =>
      simp only [List.getElem?_toArray, List.getElem?_cons_zero, List.getElem?_cons_succ, Option.some.injEq] at ho
      subst ho
      rw [if_pos (wanted_free rfl _)]
      have n4 : ¬ L 4 := fun x => hopen (hS.d3 (hS.d4 x).2)
      have n5 : ¬ L 5 := fun x => hopen (hS.d3 (hS.d5 x).2)
      obtain ⟨x0, x1, x2⟩ := box3 (hS.o0 n5)
      go_simp
      exact hK _ _ ⟨v0, v1, .agg #[.int .i64 r, .int .i64 r, .slice (some ⟨b', o', none⟩) (r * r) cap'], v3, g, k, g', k', rfl, hS.more 2 (by decide) hL (Kept.refl _) n4 n5 (.inr ⟨by decide, rfl⟩) (.inr ⟨by decide, rfl, rfl, rfl⟩) (.inl ⟨rfl, rfl⟩) (.inr ⟨by decide, rfl, rfl, rfl⟩)⟩
    | 3, ho =>
      simp only [List.getElem?_toArray, List.getElem?_cons_zero, List.getElem?_cons_succ, Option.some.injEq] at ho
      subst ho
      rw [if_pos (wanted_free rfl _)]
      have n4 : ¬ L 4 := fun x => hopen (hS.d4 x).2
      have n5 : ¬ L 5 := fun x => hopen (hS.d5 x).2
      have l2 := hdep 2 (by kernel_rfl)
      have e2 := hS.f2 l2
      have hlt := fun h1 : L 1 => (hS.f1 h1).2.2.2.lt
      have hz := hS.z.lt
      subst e2
      go_simp
      refine (copy_mat r r b' o' cap' oneF hr hr w (HO.out.kept hS.kp)).mono ?_
      rintro e w' ⟨ng, nk, rfl, h1, h2, h3, hk⟩
      exact hK _ _ ⟨v0, v1, _, .agg #[.int .i64 r, .int .i64 r, .slice (some ⟨ng, 0, none⟩) (r * r) nk], g, k, ng, nk, rfl, hS.more 3 (by decide) hL hk n4 n5 (.inr ⟨by decide, rfl⟩) (.inr ⟨by decide, rfl, rfl, rfl⟩) (.inr ⟨by decide, rfl⟩) (.inl ⟨rfl, l2, rfl, h1, by omega, h3, fun h => by have := hlt h; omega⟩)⟩
    | 4, ho =>
      simp only [List.getElem?_toArray, List.getElem?_cons_zero, List.getElem?_cons_succ, Option.some.injEq] at ho
      subst ho
      rw [if_pos (wanted_free rfl _)]
      have l1 := hdep 1 (by kernel_rfl)
      have l3 := hdep 3 (by kernel_rfl)
      have hnew := hS.storeM l1 l3 hopen hL
      have e1 := (hS.f1 l1).1
      obtain ⟨x0, x1, x2⟩ := box3 (hS.m0 hopen)
      have f0 := (hS.m0 hopen).free 0
      have f1 := (hS.m0 hopen).free 1
      have f2 := (hS.m0 hopen).free 2
      have HN := Lib.hid hnew
      clear hnew hS
      subst e1
      go_simp
      exact hK _ _ ⟨_, _, _, _, _, _, _, _, rfl, HN.out⟩
    | 5, ho =>
      simp only [List.getElem?_toArray, List.getElem?_cons_zero, List.getElem?_cons_succ, Option.some.injEq] at ho
      subst ho
      rw [if_pos (wanted_free rfl _)]
      have l1 := hdep 1 (by kernel_rfl)
      have l3 := hdep 3 (by kernel_rfl)
      have hnew := hS.storeO l1 l3 hopen hL
      have e3 := (hS.f3 l3).1
      obtain ⟨x0, x1, x2⟩ := box3 (hS.o0 hopen)
      have f0 := (hS.o0 hopen).free 0
      have f1 := (hS.o0 hopen).free 1
      have f2 := (hS.o0 hopen).free 2
      have HN := Lib.hid hnew
      clear hnew hS
      subst e3
      go_simp
      exact hK _ _ ⟨_, _, _, _, _, _, _, _, rfl, HN.out⟩
    | n + 6, ho => simp at ho
  case hhe =>
    rintro L a' w1 ⟨v0, v1, v2, v3, g, k, g', k', rfl, hS⟩ hall
    obtain ⟨q1, hk1, hg, hmc⟩ := hS.f1 (hall 1 (by decide))
    obtain ⟨q2, hk2, hg', hoc⟩ := hS.f3 (hall 3 (by decide))
    have hne := hS.f13 (hall 1 (by decide)) (hall 3 (by decide))
    have hst0 : SwSt W r c g k g' k' (redTo r (beside c F oneF) 0).2 (sh c (redTo r (beside c F oneF) 0).2) w1 :=
      ⟨hS.m1 (hall 4 (by decide)), hS.o1 (hall 5 (by decide)), hS.z, hmc.congr (fun i j _ hj => (beside_left F oneF hj).symm), by
        rw [show sh c (redTo r (beside c F oneF) 0).2 = oneF from sh_beside c F]; exact hoc, hS.kp⟩
    have hBt := beside_bt hF oneF_bt c
    have hrk : rankF r c F = (redTo r (beside c F oneF) c).1 := rfl
    have HRK := Lib.hid hrk
    have HST0 := Lib.hid hst0
    clear hst0 hS hmc hoc hall hrk HCP HM HO HZ q1 q2
    generalize hB : beside c F oneF = B at *
    have HBE := Lib.hid hB
    clear hB
    have hrc : r * c ≤ 256 := Nat.le_trans (Nat.mul_le_mul hr.2 hc.2) (by decide)
    go_wp2_with fail
    go_loopw [6, 7] (fun v i wr => ∃ n : Nat, n ≤ c ∧ i = .int .i64 n ∧ v = .int .i64 ((redTo r B n).1 : Nat) ∧ SwSt W r c g k g' k' (redTo r B n).2 (sh c (redTo r B n).2) wr) (fun _ i _ => c - (intOf i).toNat)
    case atStart => exact ⟨0, by omega, rfl, rfl, HST0.out⟩
    case round =>
      obtain ⟨n, hn, rfl, rfl, hS⟩ := hrel
      obtain ⟨a0, a1, a2⟩ := box3 hS.bm
      have hbt := redTo_bt r B hBt n
      have hrk := redTo_le r B n
      by_cases hlt : n < c
      · by_cases hlr : (redTo r B n).1 < r
        · have hNo : pv (redTo r B n).2 n (redTo r B n).1 (r - (redTo r B n).1) = none → (redTo r B (n + 1)).1 = (redTo r B n).1 ∧ (redTo r B (n + 1)).2 = (redTo r B n).2 := fun h => by rw [redTo_none r B n h]; exact ⟨rfl, rfl⟩
          have hSo : ∀ a, pv (redTo r B n).2 n (redTo r B n).1 (r - (redTo r B n).1) = some a → (redTo r B (n + 1)).1 = (redTo r B n).1 + 1 ∧ (redTo r B (n + 1)).2 = sweepF r (redTo r B n).2 (redTo r B n).1 n a := fun a h => by rw [redTo_some r B n a h]; exact ⟨rfl, rfl⟩
          have HNO := Lib.hid hNo
          have HSO := Lib.hid hSo
          have HSR := Lib.hid hS
          clear hNo hSo hS
          generalize (redTo r B n).1 = rho at *
          generalize (redTo r B n).2 = S at *
          go_wp2_with fail
          go_loop [8] (fun v => ∃ m : Nat, v = .int .i64 m ∧ rho ≤ m ∧ m ≤ r ∧ ∀ i, rho ≤ i → i < m → S i n = 0) (fun v => r - (intOf v).toNat)
          case atStart => exact ⟨rho, rfl, Nat.le_refl _, by omega, fun i h1 h2 => by omega⟩
          case round =>
            obtain ⟨m, rfl, hm1, hm2, hm3⟩ := hrel
            have HM3 := Lib.hid hm3
            clear hm3
            by_cases hmr : m < r
            · have hcell := HSR.out.m.cell m n hmr hlt
              rw [Nat.zero_add] at hcell
              have hq := mul_cast m c
              have hlq := idx_lt hmr hlt
              have hsum : ((m * c : Nat) : Int) + (n : Int) = ((m * c + n : Nat) : Int) := by simp
              by_cases h0 : S m n = 0
              · have H0 := Lib.hid h0
                rw [h0] at hcell
                clear h0
                generalize hmc : m * c = mc at *
                generalize hmn : mc + n = mn at *
                have HQ1 := Lib.hid hmc
                have HQ2 := Lib.hid hmn
                clear hmc hmn
                go_wp2_with fail
                go_round
                case rel => exact ⟨m + 1, by go_num, by omega, by omega, fun i h1 h2 => by
                  by_cases e : i = m
                  · rw [e]; exact H0.out
                  · exact HM3.out i h1 (by omega)⟩
                case measure => simp [intOf]; omega
              · have hb0 : (((S m n : Nat) : Int) == 0) = false := by rw [beq_eq_false_iff_ne]; omega
                have hp := pv_first (f := S) (col := n) (n := rho) (a := m) (k := r - rho) hm1 (by omega) h0 (fun i h1 h2 => HM3.out i h1 h2)
                have HP := Lib.hid (HSO.out m hp)
                have hx := hbt m n
                have hne2 : ((m : Int) == (r : Int)) = false := by rw [beq_eq_false_iff_ne]; omega
                have HX0 := Lib.hid h0
                have HLQ := Lib.hid hlq
                clear h0 hp HNO HSO HM3
                generalize hmc : m * c = mc at hcell hq hlq hsum
                generalize hmn : mc + n = mn at hcell hlq hsum
                have HQ1 := Lib.hid hmc
                have HQ2 := Lib.hid hmn
                clear hmc hmn
                go_wp2_with fail
                refine (rswap r c g 0 k m rho S hbt hr.2 hc.2 hmr hlr _ HSR.out.m).mono ?_
                rintro e w2 ⟨⟨y2, rfl⟩, hm2', hg2⟩
                have hS2 := HSR.out.onM hg hne hm2' hg2
                rw [swapF_comm] at hS2
                have HS2 := Lib.hid hS2
                obtain ⟨c0, c1, c2⟩ := box3 hS2.bo
                clear hS2 hm2' hg2 hcell hb0 hq hlq hsum a0 a1 a2 HSR HST0
                go_wp2_with fail
                refine (rswap r r g' 0 k' m rho (sh c S) (sh_bt hbt c) hr.2 hr.2 hmr hlr _ HS2.out.o).mono ?_
                rintro e w3 ⟨⟨y3, rfl⟩, hm3', hg3⟩
                rw [sh_swap, swapF_comm] at hm3'
                have hS3 := HS2.out.onO hg' hne hm3' hg3
                obtain ⟨a0, a1, a2⟩ := box3 hS3.bm
                have hcell := hS3.m.cell rho n hlr hlt
                rw [Nat.zero_add, show swapF S rho m rho n = S m n from if_pos rfl] at hcell
                have HS3 := Lib.hid hS3
                have hq := mul_cast rho c
                have hlq := idx_lt hlr hlt
                have hsum : ((rho * c : Nat) : Int) + (n : Int) = ((rho * c + n : Nat) : Int) := by simp
                have htf : topF S rho n m = scaleF (swapF S rho m) rho (Gf.inv (S m n)) := rfl
                have HTF := Lib.hid htf
                clear hS3 hm3' hg3 c0 c1 c2 HS2 htf
                generalize S m n = x at *
                generalize hmc : rho * c = mc at *
                generalize hmn : mc + n = mn at *
                have HQ3 := Lib.hid hmc
                have HQ4 := Lib.hid hmn
                clear hmc hmn
                go_wp2_with fail
                refine (refinv_any x hx _).mono ?_
                rintro e w' ⟨rfl, rfl⟩
                clear hcell hq hlq hsum
                go_wp2_with fail
                refine (rscale r c g 0 k rho (Gf.inv x) (swapF S rho m) (hbt.swap _ _) hr.2 hc.2 hlr (Gf.inv_lt hx) _ HS3.out.m).mono ?_
                rintro e w4 ⟨⟨y4, rfl⟩, hm4, hg4⟩
                rw [← HTF.out] at hm4
                have hS4 := HS3.out.onM hg hne hm4 hg4
                obtain ⟨c0, c1, c2⟩ := box3 hS4.bo
                have HS4 := Lib.hid hS4
                clear hS4 hm4 hg4 a0 a1 a2 HS3
                go_wp2_with fail
                refine (rscale r r g' 0 k' rho (Gf.inv x) (sh c (swapF S rho m)) (sh_bt (hbt.swap _ _) c) hr.2 hr.2 hlr (Gf.inv_lt hx) _ HS4.out.o).mono ?_
                rintro e w5 ⟨⟨y5, rfl⟩, hm5, hg5⟩
                rw [sh_scale, ← HTF.out] at hm5
                have HS5 := Lib.hid (HS4.out.onO hg' hne hm5 hg5)
                have hbT : Bt (topF S rho n m) := hbt.top _ _ _
                have hP1 := HP.out.1
                have hP2 : (redTo r B (n + 1)).2 = elimTo (topF S rho n m) rho n r := HP.out.2
                have HP1 := Lib.hid hP1
                have HP2 := Lib.hid hP2
                clear hm5 hg5 c0 c1 c2 HS4 HP hP1 hP2 HTF
                generalize topF S rho n m = T at *
                go_wp2_with fail
                go_loopw [10] (fun i wx => ∃ q : Nat, q ≤ r ∧ i = .int .i64 q ∧ SwSt W r c g k g' k' (elimTo T rho n q) (sh c (elimTo T rho n q)) wx) (fun i _ => r - (intOf i).toNat)
                case atStart => exact ⟨0, by omega, rfl, by rw [elimTo_zero]; exact HS5.out⟩
                case round =>
                  obtain ⟨q, hq, rfl, hS6⟩ := hrel
                  obtain ⟨a0, a1, a2⟩ := box3 hS6.bm
                  have HS6 := Lib.hid hS6
                  by_cases hqr : q < r
                  · by_cases hqe : q = rho
                    · have hqb : ((q : Int) == (rho : Int)) = true := by rw [beq_iff_eq]; omega
                      have HQE := Lib.hid hqe
                      clear hqe hS6
                      go_wp2_with fail
                      go_roundw
                      case rel => exact ⟨q + 1, by omega, by go_num, by rw [← elim_top T rho n q HQE.out]; exact HS6.out⟩
                      case measure => simp [intOf]; omega
                    · have hqb : ((q : Int) == (rho : Int)) = false := by rw [beq_eq_false_iff_ne]; omega
                      have HQE := Lib.hid hqe
                      have HRW := Lib.hid (elim_row T rho n q hqe)
                      have hcell := hS6.m.cell q n hqr hlt
                      rw [Nat.zero_add] at hcell
                      have hq1 := mul_cast q c
                      have hlq := idx_lt hqr hlt
                      have hsum : ((q * c : Nat) : Int) + (n : Int) = ((q * c + n : Nat) : Int) := by simp
                      have hbe : Bt (elimTo T rho n q) := hbT.elim _ _ _
                      have hx6 := hbe q n
                      clear hS6 hqe
                      generalize elimTo T rho n q = E at *
                      generalize E q n = x6 at *
                      generalize hmc : q * c = mc at *
                      generalize hmn : mc + n = mn at *
                      have HQ5 := Lib.hid hmc
                      have HQ6 := Lib.hid hmn
                      clear hmc hmn
                      go_wp2_with fail
                      refine (radd r c g 0 k q rho x6 E hbe hr.2 hc.2 hqr hlr HQE.out hx6 _ HS6.out.m).mono ?_
                      rintro e w7 ⟨⟨y7, rfl⟩, hm7, hg7⟩
                      have hS7 := HS6.out.onM hg hne hm7 hg7
                      obtain ⟨c0, c1, c2⟩ := box3 hS7.bo
                      have HS7 := Lib.hid hS7
                      clear hS7 hm7 hg7 a0 a1 a2 HS6 hcell hq1 hlq hsum
                      go_wp2_with fail
                      refine (radd r r g' 0 k' q rho x6 (sh c E) (sh_bt hbe c) hr.2 hr.2 hqr hlr HQE.out hx6 _ HS7.out.o).mono ?_
                      rintro e w8 ⟨⟨y8, rfl⟩, hm8, hg8⟩
                      rw [sh_add] at hm8
                      have hS8 := HS7.out.onO hg' hne hm8 hg8
                      rw [HRW.out] at hS8
                      have HS8 := Lib.hid hS8
                      clear hS8 hm8 hg8 c0 c1 c2 HS7
                      go_wp2_with fail
                      go_roundw
                      case rel => exact ⟨q + 1, by omega, by go_num, HS8.out⟩
                      case measure => simp [intOf]; omega
                  · obtain rfl : q = r := by omega
                    clear hS6
                    go_wp2_with fail
                    go_roundw
                    case rel => exact ⟨n + 1, by omega, by go_num, by rw [HP1.out]; go_num, by rw [HP2.out]; exact HS6.out⟩
                    case measure => simp [intOf]; omega
            · obtain rfl : m = r := by omega
              have hp := pv_zeros (f := S) (col := n) (n := rho) (k := m - rho) (fun i h1 h2 => HM3.out i h1 (by omega))
              have HP := Lib.hid (HNO.out hp)
              clear hp HNO HSO
              go_wp2_with fail
              go_roundw
              case rel => exact ⟨n + 1, by omega, by go_num, by rw [HP.out.1], by rw [HP.out.2]; exact HSR.out⟩
              case measure => simp [intOf]; omega
        · have hfin : redTo r B c = redTo r B n := by
            have h := redTo_full r B n (by omega) (c - n)
            rw [show n + (c - n) = c by omega] at h
            exact h
          have HFI := Lib.hid hfin
          have HSE := Lib.hid (hS.kept (Kept.refl wr).drew)
          clear hfin hS hbt
          go_wp2_with fail
          clear a0 a1 a2 hrk
          refine wp_region_inv1 (fun a0 L a w => ∃ v4 v0 v1, a = (((a0.put (some 4) v4).put (some 110) v0).put (some 111) v1) ∧ (L 0 → v0 = .int .i64 ((redTo r B n).1 : Nat)) ∧ (L 1 → v1 = .agg #[.int .i64 r, .int .i64 r, .slice (some ⟨g', 0, none⟩) (r * r) k']) ∧ (L 2 → v4 = .int .i64 ((redTo r B n).1 : Nat)) ∧ (L 3 → L 1) ∧ (¬ L 3 → w = wr.drew) ∧
            (L 3 → w = ((wr.drew.setCell ⟨W.heap.size + 1 + 1, 0, none⟩ (.int .i64 r)).setCell ⟨W.heap.size + 1 + 1, 1, none⟩ (.int .i64 r)).setCell ⟨W.heap.size + 1 + 1, 2, none⟩ (.slice (some ⟨g', 0, none⟩) (r * r) k'))) (by kernel_rfl) (by kernel_rfl) ?eh0 ?ehs ?ehe
          case eh0 =>
            intro L hL
            exact ⟨.int .i64 0, undef, undef, by simp only [Act.put, List.setIfInBounds_toArray, List.set_cons_zero, List.set_cons_succ], fun h => absurd h (hL _ (by decide)), fun h => absurd h (hL _ (by decide)), fun h => absurd h (hL _ (by decide)), fun h => absurd h (hL _ (by decide)), fun _ => rfl, fun h => absurd h (hL _ (by decide))⟩
          case ehs =>
            rintro L L' a w i op K ⟨v4, v0, v1, rfl, h0, h1, h2, hd, hw0, hw3⟩ ho hopen hdep hL hK
            have old : ∀ {i j}, (∀ j, L' j ↔ (j = i ∨ L j)) → L' j → j ≠ i → L j := fun {i j} hL hj hne => ((hL j).1 hj).resolve_left hne
            match i, ho with
            | 0, ho =>
              simp only [List.getElem?_toArray, List.getElem?_cons_zero, Option.some.injEq] at ho
              subst ho
              rw [if_pos (wanted_free rfl _)]
              simp only [Act.put, List.setIfInBounds_toArray, List.set_cons_zero, List.set_cons_succ]
              go_simp
              exact hK _ _ ⟨v4, .int .i64 ((redTo r B n).1 : Nat), v1, by simp only [Act.put, List.setIfInBounds_toArray, List.set_cons_zero, List.set_cons_succ], fun _ => rfl, fun h => h1 (old hL h (by decide)), fun h => h2 (old hL h (by decide)), fun h => (hL _).2 (.inr (hd (old hL h (by decide)))), fun h => hw0 (fun x => h ((hL _).2 (.inr x))), fun h => hw3 (old hL h (by decide))⟩
            | 1, ho =>
              simp only [List.getElem?_toArray, List.getElem?_cons_zero, List.getElem?_cons_succ, Option.some.injEq] at ho
              subst ho
              rw [if_pos (wanted_free rfl _)]
              simp only [Act.put, List.setIfInBounds_toArray, List.set_cons_zero, List.set_cons_succ]
              obtain rfl := hw0 (fun x => hopen (hd x))
              obtain ⟨c0, c1, c2⟩ := box3 HSE.out.bo
              go_simp
              exact hK _ _ ⟨v4, v0, .agg #[.int .i64 r, .int .i64 r, .slice (some ⟨g', 0, none⟩) (r * r) k'], by simp only [Act.put, List.setIfInBounds_toArray, List.set_cons_zero, List.set_cons_succ], fun h => h0 (old hL h (by decide)), fun _ => rfl, fun h => h2 (old hL h (by decide)), fun _ => (hL _).2 (.inl rfl), fun h => hw0 (fun x => h ((hL _).2 (.inr x))), fun h => hw3 (old hL h (by decide))⟩
            | 2, ho =>
              simp only [List.getElem?_toArray, List.getElem?_cons_zero, List.getElem?_cons_succ, Option.some.injEq] at ho
              subst ho
              rw [if_pos (wanted_free rfl _)]
              have e0 := h0 (hdep 0 (by kernel_rfl))
              subst e0
              simp only [Act.put, List.setIfInBounds_toArray, List.set_cons_zero, List.set_cons_succ]
              go_simp
              exact hK _ _ ⟨.int .i64 ((redTo r B n).1 : Nat), _, v1, by simp only [Act.put, List.setIfInBounds_toArray, List.set_cons_zero, List.set_cons_succ], fun _ => rfl, fun h => h1 (old hL h (by decide)), fun _ => rfl, fun h => (hL _).2 (.inr (hd (old hL h (by decide)))), fun h => hw0 (fun x => h ((hL _).2 (.inr x))), fun h => hw3 (old hL h (by decide))⟩
            | 3, ho =>
              simp only [List.getElem?_toArray, List.getElem?_cons_zero, List.getElem?_cons_succ, Option.some.injEq] at ho
              subst ho
              rw [if_pos (wanted_free rfl _)]
              have l1 := hdep 1 (by kernel_rfl)
              have e1 := h1 l1
              subst e1
              simp only [Act.put, List.setIfInBounds_toArray, List.set_cons_zero, List.set_cons_succ]
              have hw := hw0 hopen
              have hS : SwSt W r c g k g' k' (redTo r B n).2 (sh c (redTo r B n).2) w := by rw [hw]; exact HSE.out
              obtain ⟨c0, c1, c2⟩ := box3 hS.z
              have z0 := hS.z.free 0
              have z1 := hS.z.free 1
              have z2 := hS.z.free 2
              have HW := Lib.hid hw
              clear hw hw0 hw3 hS
              go_simp
              exact hK _ _ ⟨v4, v0, _, by simp only [Act.put, List.setIfInBounds_toArray, List.set_cons_zero, List.set_cons_succ], fun h => h0 (old hL h (by decide)), fun _ => rfl, fun h => h2 (old hL h (by decide)), fun _ => (hL _).2 (.inr l1), fun h => absurd ((hL _).2 (.inl rfl)) h, fun _ => by rw [HW.out]⟩
            | n + 4, ho => simp at ho
          case ehe =>
            rintro L a w ⟨v4, v0, v1, rfl, h0, h1, h2, hd, hw0, hw3⟩ hall
            have e2 := h2 (hall 2 (by decide))
            subst e2
            obtain rfl := hw3 (hall 3 (by decide))
            simp only [Act.put, List.setIfInBounds_toArray, List.set_cons_zero, List.set_cons_succ]
            go_wp2
            have gz := grown3b wr.drew (W.heap.size + 1 + 1) (.int .i64 r) (.int .i64 r) (.slice (some ⟨g', 0, none⟩) (r * r) k')
            refine bodyPost_ret (v := .tuple #[.int .i64 ((redTo r B n).1 : Nat), .agg #[.int .i64 r, .int .i64 r, .slice (some ⟨g', 0, none⟩) (r * r) k']]) ?_ rfl ⟨g', k', by rw [HRK.out, HFI.out], hk2, by omega, by rw [HBE.out, HFI.out]; exact HSE.out.o.grown gz (by simp; omega), Kept.grown HSE.out.kp gz (fun q e => by cases e; omega)⟩
            exact results_tmp_row rfl _ _ (W.heap.size + 1 + 1) 50 #[.int .i64 r, .int .i64 r, .slice (some ⟨g', 0, none⟩) (r * r) k'] _ rfl (set3b HSE.out.z _ _ _) Try.underlying50 rfl Try.infoMat _ rfl
      · have hfin : redTo r B c = redTo r B n := by rw [show n = c by omega]
        have HFI := Lib.hid hfin
        have HSE := Lib.hid (hS.kept (Kept.refl wr).drew)
        clear hfin hS hbt
        go_wp2_with fail
        clear a0 a1 a2 hrk
        refine wp_region_inv1 (fun a0 L a w => ∃ v4 v0 v1, a = (((a0.put (some 4) v4).put (some 110) v0).put (some 111) v1) ∧ (L 0 → v0 = .int .i64 ((redTo r B n).1 : Nat)) ∧ (L 1 → v1 = .agg #[.int .i64 r, .int .i64 r, .slice (some ⟨g', 0, none⟩) (r * r) k']) ∧ (L 2 → v4 = .int .i64 ((redTo r B n).1 : Nat)) ∧ (L 3 → L 1) ∧ (¬ L 3 → w = wr.drew) ∧
          (L 3 → w = ((wr.drew.setCell ⟨W.heap.size + 1 + 1, 0, none⟩ (.int .i64 r)).setCell ⟨W.heap.size + 1 + 1, 1, none⟩ (.int .i64 r)).setCell ⟨W.heap.size + 1 + 1, 2, none⟩ (.slice (some ⟨g', 0, none⟩) (r * r) k'))) (by kernel_rfl) (by kernel_rfl) ?eh0 ?ehs ?ehe
        case eh0 =>
          intro L hL
          exact ⟨.int .i64 0, undef, undef, by simp only [Act.put, List.setIfInBounds_toArray, List.set_cons_zero, List.set_cons_succ], fun h => absurd h (hL _ (by decide)), fun h => absurd h (hL _ (by decide)), fun h => absurd h (hL _ (by decide)), fun h => absurd h (hL _ (by decide)), fun _ => rfl, fun h => absurd h (hL _ (by decide))⟩
        case ehs =>
          rintro L L' a w i op K ⟨v4, v0, v1, rfl, h0, h1, h2, hd, hw0, hw3⟩ ho hopen hdep hL hK
          have old : ∀ {i j}, (∀ j, L' j ↔ (j = i ∨ L j)) → L' j → j ≠ i → L j := fun {i j} hL hj hne => ((hL j).1 hj).resolve_left hne
          match i, ho with
          | 0, ho =>
            simp only [List.getElem?_toArray, List.getElem?_cons_zero, Option.some.injEq] at ho
            subst ho
            rw [if_pos (wanted_free rfl _)]
            simp only [Act.put, List.setIfInBounds_toArray, List.set_cons_zero, List.set_cons_succ]
            go_simp
            exact hK _ _ ⟨v4, .int .i64 ((redTo r B n).1 : Nat), v1, by simp only [Act.put, List.setIfInBounds_toArray, List.set_cons_zero, List.set_cons_succ], fun _ => rfl, fun h => h1 (old hL h (by decide)), fun h => h2 (old hL h (by decide)), fun h => (hL _).2 (.inr (hd (old hL h (by decide)))), fun h => hw0 (fun x => h ((hL _).2 (.inr x))), fun h => hw3 (old hL h (by decide))⟩
          | 1, ho =>
            simp only [List.getElem?_toArray, List.getElem?_cons_zero, List.getElem?_cons_succ, Option.some.injEq] at ho
            subst ho
            rw [if_pos (wanted_free rfl _)]
            simp only [Act.put, List.setIfInBounds_toArray, List.set_cons_zero, List.set_cons_succ]
            obtain rfl := hw0 (fun x => hopen (hd x))
            obtain ⟨c0, c1, c2⟩ := box3 HSE.out.bo
            go_simp
            exact hK _ _ ⟨v4, v0, .agg #[.int .i64 r, .int .i64 r, .slice (some ⟨g', 0, none⟩) (r * r) k'], by simp only [Act.put, List.setIfInBounds_toArray, List.set_cons_zero, List.set_cons_succ], fun h => h0 (old hL h (by decide)), fun _ => rfl, fun h => h2 (old hL h (by decide)), fun _ => (hL _).2 (.inl rfl), fun h => hw0 (fun x => h ((hL _).2 (.inr x))), fun h => hw3 (old hL h (by decide))⟩
          | 2, ho =>
            simp only [List.getElem?_toArray, List.getElem?_cons_zero, List.getElem?_cons_succ, Option.some.injEq] at ho
            subst ho
            rw [if_pos (wanted_free rfl _)]
            have e0 := h0 (hdep 0 (by kernel_rfl))
            subst e0
            simp only [Act.put, List.setIfInBounds_toArray, List.set_cons_zero, List.set_cons_succ]
            go_simp
            exact hK _ _ ⟨.int .i64 ((redTo r B n).1 : Nat), _, v1, by simp only [Act.put, List.setIfInBounds_toArray, List.set_cons_zero, List.set_cons_succ], fun _ => rfl, fun h => h1 (old hL h (by decide)), fun _ => rfl, fun h => (hL _).2 (.inr (hd (old hL h (by decide)))), fun h => hw0 (fun x => h ((hL _).2 (.inr x))), fun h => hw3 (old hL h (by decide))⟩
          | 3, ho =>
            simp only [List.getElem?_toArray, List.getElem?_cons_zero, List.getElem?_cons_succ, Option.some.injEq] at ho
            subst ho
            rw [if_pos (wanted_free rfl _)]
            have l1 := hdep 1 (by kernel_rfl)
            have e1 := h1 l1
            subst e1
            simp only [Act.put, List.setIfInBounds_toArray, List.set_cons_zero, List.set_cons_succ]
            have hw := hw0 hopen
            have hS : SwSt W r c g k g' k' (redTo r B n).2 (sh c (redTo r B n).2) w := by rw [hw]; exact HSE.out
            obtain ⟨c0, c1, c2⟩ := box3 hS.z
            have z0 := hS.z.free 0
            have z1 := hS.z.free 1
            have z2 := hS.z.free 2
            have HW := Lib.hid hw
            clear hw hw0 hw3 hS
            go_simp
            exact hK _ _ ⟨v4, v0, _, by simp only [Act.put, List.setIfInBounds_toArray, List.set_cons_zero, List.set_cons_succ], fun h => h0 (old hL h (by decide)), fun _ => rfl, fun h => h2 (old hL h (by decide)), fun _ => (hL _).2 (.inr l1), fun h => absurd ((hL _).2 (.inl rfl)) h, fun _ => by rw [HW.out]⟩
          | n + 4, ho => simp at ho
        case ehe =>
          rintro L a w ⟨v4, v0, v1, rfl, h0, h1, h2, hd, hw0, hw3⟩ hall
          have e2 := h2 (hall 2 (by decide))
          subst e2
          obtain rfl := hw3 (hall 3 (by decide))
          simp only [Act.put, List.setIfInBounds_toArray, List.set_cons_zero, List.set_cons_succ]
          go_wp2
          have gz := grown3b wr.drew (W.heap.size + 1 + 1) (.int .i64 r) (.int .i64 r) (.slice (some ⟨g', 0, none⟩) (r * r) k')
          refine bodyPost_ret (v := .tuple #[.int .i64 ((redTo r B n).1 : Nat), .agg #[.int .i64 r, .int .i64 r, .slice (some ⟨g', 0, none⟩) (r * r) k']]) ?_ rfl ⟨g', k', by rw [HRK.out, HFI.out], hk2, by omega, by rw [HBE.out, HFI.out]; exact HSE.out.o.grown gz (by simp; omega), Kept.grown HSE.out.kp gz (fun q e => by cases e; omega)⟩
          exact results_tmp_row rfl _ _ (W.heap.size + 1 + 1) 50 #[.int .i64 r, .int .i64 r, .slice (some ⟨g', 0, none⟩) (r * r) k'] _ rfl (set3b HSE.out.z _ _ _) Try.underlying50 rfl Try.infoMat _ rfl
end Go.Proofs.Ytlpjpeonejbpjaa
