/- What siloref1.swept knows at each point: two matrices in blocks of their own, each shown by a variable (no conditions). -/
import Derived.Test.YtlpjpeonejbpjaaRefSw
namespace Go.Proofs.Ytlpjpeonejbpjaa
open Go.RowKit

/-- the two matrices, shown by the blocks q and q + 1; a result's block behind them -/
structure SwSt (W : World) (r c g k g' k' : Nat) (S T : Nat → Nat → Nat) (w : World) : Prop where
  bm : BlockAt w W.heap.size #[.int .i64 r, .int .i64 c, .slice (some ⟨g, 0, none⟩) (r * c) k] 50
  bo : BlockAt w (W.heap.size + 1) #[.int .i64 r, .int .i64 r, .slice (some ⟨g', 0, none⟩) (r * r) k'] 50
  z : BlockAt w (W.heap.size + 1 + 1) #[.int .i64 0, .int .i64 0, .slice none 0 0] 50
  m : Mat w g 0 r c S
  o : Mat w g' 0 r r T
  kp : Kept W w
theorem SwSt.kept {W : World} {r c g k g' k' : Nat} {S T : Nat → Nat → Nat} {w w' : World} (h : SwSt W r c g k g' k' S T w) (kk : Kept w w') : SwSt W r c g k g' k' S T w' :=
  ⟨h.bm.kept kk, h.bo.kept kk, h.z.kept kk, h.m.kept kk, h.o.kept kk, h.kp.trans kk⟩
theorem SwSt.onM {W : World} {r c g k g' k' : Nat} {S S' T : Nat → Nat → Nat} {w w' : World} (h : SwSt W r c g k g' k' S T w) (hg : W.heap.size + 1 + 1 < g) (hne : g' ≠ g) (m : Mat w' g 0 r c S') (gr : w.grownBy w' (some g)) : SwSt W r c g k g' k' S' T w' :=
  ⟨h.bm.grown gr (by simp; omega), h.bo.grown gr (by simp; omega), h.z.grown gr (by simp; omega), m, h.o.grown gr (by simp; omega), Kept.grown h.kp gr (fun q e => by cases e; omega)⟩
theorem SwSt.onO {W : World} {r c g k g' k' : Nat} {S T T' : Nat → Nat → Nat} {w w' : World} (h : SwSt W r c g k g' k' S T w) (hg : W.heap.size + 1 + 1 < g') (hne : g' ≠ g) (o : Mat w' g' 0 r r T') (gr : w.grownBy w' (some g')) : SwSt W r c g k g' k' S T' w' :=
  ⟨h.bm.grown gr (by simp; omega), h.bo.grown gr (by simp; omega), h.z.grown gr (by simp; omega), h.m.grown gr (by simp; omega), o, Kept.grown h.kp gr (fun q e => by cases e; omega)⟩
/-- the first region: both matrices copied, whatever the order -/
structure SwCp (W : World) (r c : Nat) (F : Nat → Nat → Nat) (vm vo : Value) (L : Nat → Prop) (w : World) (v0 v1 v2 v3 : Value) (g k g' k' : Nat) : Prop where
  kp : Kept W w
  z : BlockAt w (W.heap.size + 1 + 1) #[.int .i64 0, .int .i64 0, .slice none 0 0] 50
  f0 : L 0 → v0 = .agg #[.int .i64 r, .int .i64 c, vm]
  f1 : L 1 → v1 = .agg #[.int .i64 r, .int .i64 c, .slice (some ⟨g, 0, none⟩) (r * c) k] ∧ r * c ≤ k ∧ W.heap.size + 1 + 1 < g ∧ Mat w g 0 r c F
  f2 : L 2 → v2 = .agg #[.int .i64 r, .int .i64 r, vo]
  f3 : L 3 → v3 = .agg #[.int .i64 r, .int .i64 r, .slice (some ⟨g', 0, none⟩) (r * r) k'] ∧ r * r ≤ k' ∧ W.heap.size + 1 + 1 < g' ∧ Mat w g' 0 r r oneF
  f13 : L 1 → L 3 → g' ≠ g
  m0 : ¬ L 4 → BlockAt w W.heap.size #[.int .i64 r, .int .i64 c, vm] 50
  m1 : L 4 → BlockAt w W.heap.size #[.int .i64 r, .int .i64 c, .slice (some ⟨g, 0, none⟩) (r * c) k] 50
  o0 : ¬ L 5 → BlockAt w (W.heap.size + 1) #[.int .i64 r, .int .i64 r, vo] 50
  o1 : L 5 → BlockAt w (W.heap.size + 1) #[.int .i64 r, .int .i64 r, .slice (some ⟨g', 0, none⟩) (r * r) k'] 50
  d1 : L 1 → L 0
  d3 : L 3 → L 2
  d4 : L 4 → L 1 ∧ L 3
  d5 : L 5 → L 1 ∧ L 3
/-- one more of the first four operations is done -/
theorem SwCp.more {W : World} {r c : Nat} {F : Nat → Nat → Nat} {vm vo : Value} {L L' : Nat → Prop} {w w' : World} {v0 v1 v2 v3 v0' v1' v2' v3' : Value} {g k g' k' ng nk ng' nk' : Nat} (h : SwCp W r c F vm vo L w v0 v1 v2 v3 g k g' k') (i : Nat) (hi : i < 4) (hL : ∀ j, L' j ↔ (j = i ∨ L j)) (hk : Kept w w')
    (n4 : ¬ L 4) (n5 : ¬ L 5)
    (e0 : i = 0 ∧ v0' = .agg #[.int .i64 r, .int .i64 c, vm] ∨ i ≠ 0 ∧ v0' = v0)
    (e1 : i = 1 ∧ L 0 ∧ v1' = .agg #[.int .i64 r, .int .i64 c, .slice (some ⟨ng, 0, none⟩) (r * c) nk] ∧ r * c ≤ nk ∧ W.heap.size + 1 + 1 < ng ∧ Mat w' ng 0 r c F ∧ (L 3 → g' ≠ ng) ∨ i ≠ 1 ∧ v1' = v1 ∧ ng = g ∧ nk = k)
    (e2 : i = 2 ∧ v2' = .agg #[.int .i64 r, .int .i64 r, vo] ∨ i ≠ 2 ∧ v2' = v2)
    (e3 : i = 3 ∧ L 2 ∧ v3' = .agg #[.int .i64 r, .int .i64 r, .slice (some ⟨ng', 0, none⟩) (r * r) nk'] ∧ r * r ≤ nk' ∧ W.heap.size + 1 + 1 < ng' ∧ Mat w' ng' 0 r r oneF ∧ (L 1 → ng' ≠ g) ∨ i ≠ 3 ∧ v3' = v3 ∧ ng' = g' ∧ nk' = k') :
    SwCp W r c F vm vo L' w' v0' v1' v2' v3' ng nk ng' nk' := by
  have old : ∀ {j}, L' j → i ≠ j → L j := fun {j} hj hne => ((hL j).1 hj).resolve_left (fun e => hne e.symm)
  have new : ∀ {j}, L j → L' j := fun {j} hj => (hL j).2 (.inr hj)
  have n4' : ¬ L' 4 := fun x => n4 (old x (by omega))
  have n5' : ¬ L' 5 := fun x => n5 (old x (by omega))
  refine ⟨h.kp.trans hk, h.z.kept hk, fun x => ?_, fun x => ?_, fun x => ?_, fun x => ?_, fun x y => ?_, fun _ => (h.m0 n4).kept hk, fun x => absurd x n4', fun _ => (h.o0 n5).kept hk, fun x => absurd x n5', fun x => ?_, fun x => ?_, fun x => absurd x n4', fun x => absurd x n5'⟩
  · rcases e0 with ⟨_, e⟩ | ⟨hne, rfl⟩
    · exact e
    · exact h.f0 (old x hne)
  · rcases e1 with ⟨_, _, e, a, b, m, _⟩ | ⟨hne, rfl, rfl, rfl⟩
    · exact ⟨e, a, b, m⟩
    · obtain ⟨e, a, b, m⟩ := h.f1 (old x hne)
      exact ⟨e, a, b, m.kept hk⟩
  · rcases e2 with ⟨_, e⟩ | ⟨hne, rfl⟩
    · exact e
    · exact h.f2 (old x hne)
  · rcases e3 with ⟨_, _, e, a, b, m, _⟩ | ⟨hne, rfl, rfl, rfl⟩
    · exact ⟨e, a, b, m⟩
    · obtain ⟨e, a, b, m⟩ := h.f3 (old x hne)
      exact ⟨e, a, b, m.kept hk⟩
  · rcases e1 with ⟨i1, _, _, _, _, _, n⟩ | ⟨h1, _, rfl, _⟩
    · rcases e3 with ⟨i3, _⟩ | ⟨h3, _, rfl, _⟩
      · omega
      · exact n (old y h3)
    · rcases e3 with ⟨i3, _, _, _, _, _, n⟩ | ⟨h3, _, rfl, _⟩
      · exact n (old x h1)
      · exact h.f13 (old x h1) (old y h3)
  · rcases e1 with ⟨_, l, _⟩ | ⟨hne, _⟩
    · exact new l
    · exact new (h.d1 (old x hne))
  · rcases e3 with ⟨_, l, _⟩ | ⟨hne, _⟩
    · exact new l
    · exact new (h.d3 (old x hne))
theorem grown3b (w : World) (b : Nat) (x y z : Value) : w.grownBy (((w.setCell ⟨b, 0, none⟩ x).setCell ⟨b, 1, none⟩ y).setCell ⟨b, 2, none⟩ z) (some b) := grown_trans (grown_trans (grown_set _ _ _ _) (grown_set _ _ _ _)) (grown_set _ _ _ _)
theorem set3b {w : World} {b : Nat} {x y z : Value} {t : TypeId} (h : BlockAt w b #[x, y, z] t) (x' y' z' : Value) : BlockAt (((w.setCell ⟨b, 0, none⟩ x').setCell ⟨b, 1, none⟩ y').setCell ⟨b, 2, none⟩ z') b #[x', y', z'] t := by
  have h0 : BlockAt (w.setCell ⟨b, 0, none⟩ x') b #[x', y, z] t := h.set (i := 0) x'
  have h1 : BlockAt ((w.setCell ⟨b, 0, none⟩ x').setCell ⟨b, 1, none⟩ y') b #[x', y', z] t := h0.set (i := 1) y'
  exact h1.set (i := 2) z'
/-- the first store -/
theorem SwCp.storeM {W : World} {r c : Nat} {F : Nat → Nat → Nat} {vm vo : Value} {L L' : Nat → Prop} {w : World} {v0 v1 v2 v3 : Value} {g k g' k' : Nat} (h : SwCp W r c F vm vo L w v0 v1 v2 v3 g k g' k') (h1 : L 1) (h3 : L 3) (n4 : ¬ L 4) (hL : ∀ j, L' j ↔ (j = 4 ∨ L j)) :
    SwCp W r c F vm vo L' (((w.setCell ⟨W.heap.size, 0, none⟩ (.int .i64 r)).setCell ⟨W.heap.size, 1, none⟩ (.int .i64 c)).setCell ⟨W.heap.size, 2, none⟩ (.slice (some ⟨g, 0, none⟩) (r * c) k)) v0 v1 v2 v3 g k g' k' := by
  have hg := grown3b w W.heap.size (.int .i64 r) (.int .i64 c) (.slice (some ⟨g, 0, none⟩) (r * c) k)
  have hs := set3b (h.m0 n4) (.int .i64 r) (.int .i64 c) (.slice (some ⟨g, 0, none⟩) (r * c) k)
  have old : ∀ {j}, L' j → j ≠ 4 → L j := fun {j} hj hne => ((hL j).1 hj).resolve_left hne
  have new : ∀ {j}, L j → L' j := fun {j} hj => (hL j).2 (.inr hj)
  obtain ⟨a1, b1, c1, m1⟩ := h.f1 h1
  obtain ⟨a3, b3, c3, m3⟩ := h.f3 h3
  exact ⟨Kept.grown h.kp hg (fun q e => by cases e; omega), h.z.grown hg (by simp; omega), fun x => h.f0 (old x (by decide)), fun _ => ⟨a1, b1, c1, m1.grown hg (by simp; omega)⟩, fun x => h.f2 (old x (by decide)), fun _ => ⟨a3, b3, c3, m3.grown hg (by simp; omega)⟩, fun _ _ => h.f13 h1 h3,
    fun x => absurd ((hL 4).2 (.inl rfl)) x, fun _ => hs, fun x => (h.o0 (fun y => x (new y))).grown hg (by simp), fun x => (h.o1 (old x (by decide))).grown hg (by simp), fun _ => new (h.d1 h1), fun _ => new (h.d3 h3), fun _ => ⟨new h1, new h3⟩, fun _ => ⟨new h1, new h3⟩⟩
/-- the second store -/
theorem SwCp.storeO {W : World} {r c : Nat} {F : Nat → Nat → Nat} {vm vo : Value} {L L' : Nat → Prop} {w : World} {v0 v1 v2 v3 : Value} {g k g' k' : Nat} (h : SwCp W r c F vm vo L w v0 v1 v2 v3 g k g' k') (h1 : L 1) (h3 : L 3) (n5 : ¬ L 5) (hL : ∀ j, L' j ↔ (j = 5 ∨ L j)) :
    SwCp W r c F vm vo L' (((w.setCell ⟨W.heap.size + 1, 0, none⟩ (.int .i64 r)).setCell ⟨W.heap.size + 1, 1, none⟩ (.int .i64 r)).setCell ⟨W.heap.size + 1, 2, none⟩ (.slice (some ⟨g', 0, none⟩) (r * r) k')) v0 v1 v2 v3 g k g' k' := by
  have hg := grown3b w (W.heap.size + 1) (.int .i64 r) (.int .i64 r) (.slice (some ⟨g', 0, none⟩) (r * r) k')
  have hs := set3b (h.o0 n5) (.int .i64 r) (.int .i64 r) (.slice (some ⟨g', 0, none⟩) (r * r) k')
  have old : ∀ {j}, L' j → j ≠ 5 → L j := fun {j} hj hne => ((hL j).1 hj).resolve_left hne
  have new : ∀ {j}, L j → L' j := fun {j} hj => (hL j).2 (.inr hj)
  obtain ⟨a1, b1, c1, m1⟩ := h.f1 h1
  obtain ⟨a3, b3, c3, m3⟩ := h.f3 h3
  exact ⟨Kept.grown h.kp hg (fun q e => by cases e; omega), h.z.grown hg (by simp), fun x => h.f0 (old x (by decide)), fun _ => ⟨a1, b1, c1, m1.grown hg (by simp; omega)⟩, fun x => h.f2 (old x (by decide)), fun _ => ⟨a3, b3, c3, m3.grown hg (by simp; omega)⟩, fun _ _ => h.f13 h1 h3,
    fun x => (h.m0 (fun y => x (new y))).grown hg (by simp), fun x => (h.m1 (old x (by decide))).grown hg (by simp), fun x => absurd ((hL 5).2 (.inl rfl)) x, fun _ => hs, fun _ => new (h.d1 h1), fun _ => new (h.d3 h3), fun _ => ⟨new h1, new h3⟩, fun _ => ⟨new h1, new h3⟩⟩
/-- a copy of a matrix, in a block of its own -/
theorem copy_mat (r c b o cap : Nat) (F : Nat → Nat → Nat) (hr : 1 ≤ r ∧ r ≤ 16) (hc : 1 ≤ c ∧ c ≤ 16) (w : World) (h : MatR w b o r c F) :
    Calls Try.prog 32 #[.agg #[.int .i64 r, .int .i64 c, .slice (some ⟨b, o, none⟩) (r * c) cap]] w fun e w' => ∃ g k, e = .returned (.agg #[.int .i64 r, .int .i64 c, .slice (some ⟨g, 0, none⟩) (r * c) k]) ∧ r * c ≤ k ∧ w.heap.size ≤ g ∧ Mat w' g 0 r c F ∧ Kept w w' := by
  have hrc := Nat.mul_le_mul hr.2 hc.2
  have hp : 0 < r * c := Nat.mul_pos hr.1 hc.1
  refine (copy_matrix r c (some ⟨b, o, none⟩) (r * c) cap (flat c F) (by omega) w h.flat).mono ?_
  rintro e w' ⟨a', k, rfl, hk, hb, hg, hkp⟩
  obtain ⟨g, cs, rfl, hg1, hg2⟩ := hg hp
  obtain ⟨b', off', ha, hcell⟩ := hb.cells
  cases ha hp
  refine ⟨g, k, rfl, hk, hg1, ⟨⟨cs, hg2⟩, fun i j hi hj => ?_⟩, hkp⟩
  have h1 := (hcell (i * c + j) (idx_lt hi hj)).2
  unfold flat at h1
  rw [(divmod hj).1, (divmod hj).2, ← Nat.add_assoc] at h1
  exact h1
end Go.Proofs.Ytlpjpeonejbpjaa
