/- Two square matrices made in whatever order, each in a variable: what the operations that are done leave (no conditions). -/
import Derived.Test.YtlpjpeonejbpjaaSquare3
import Derived.Test.YtlpjpeonejbpjaaInvAny
namespace Go.Proofs.Ytlpjpeonejbpjaa
open Go.RowKit

theorem ne_types {w : World} {b b' : Nat} {C C' : Array Value} {t t' : TypeId} (h : BlockAt w b C t) (h' : BlockAt w b' C' t') (hne : t ≠ t') : b ≠ b' := fun e => by
  subst e
  have h1 : w.heap[b]? = some (.cells C t (0, 0)) := h
  have h2 : w.heap[b]? = some (.cells C' t' (0, 0)) := h'
  rw [h1] at h2
  cases h2
  exact hne rfl
abbrev mt (k b o : Nat) : Value := .agg #[.int .i64 k, .int .i64 k, .slice (some ⟨b, o, none⟩) (k * k) (k * k)]
/-- a square matrix' block that is shown by a value -/
def Sq (k : Nat) (w : World) (v : Value) : Prop := ∃ b o A, v = mt k b o ∧ Bt A ∧ Mat w b o k k A
theorem Sq.kept {k : Nat} {w w' : World} {v : Value} : Sq k w v → Kept w w' → Sq k w' v := fun ⟨b, o, A, h1, h2, h3⟩ hk => ⟨b, o, A, h1, h2, h3.kept hk⟩
/-- a variable's block: as made, or with a square matrix stored -/
def Vr (k : Nat) (wr w : World) (done : Prop) (v : Value) : Prop := ∃ b, v = .pointer (some ⟨b, 0, none⟩) ∧ wr.heap.size ≤ b ∧ (¬ done → BlockAt w b #[.int .i64 0, .int .i64 0, .slice none 0 0] 50) ∧
  (done → ∃ ba oa A, BlockAt w b #[.int .i64 k, .int .i64 k, .slice (some ⟨ba, oa, none⟩) (k * k) (k * k)] 50 ∧ Bt A ∧ Mat w ba oa k k A)
theorem Vr.kept {k : Nat} {wr w w' : World} {d d' : Prop} {v : Value} (hd : d' ↔ d) : Vr k wr w d v → Kept w w' → Vr k wr w' d' v := fun ⟨b, h1, h2, h3, h4⟩ hk =>
  ⟨b, h1, h2, fun h => (h3 (fun e => h (hd.2 e))).kept hk, fun h => by
    obtain ⟨ba, oa, A, g1, g2, g3⟩ := h4 (hd.1 h)
    exact ⟨ba, oa, A, g1.kept hk, g2, g3.kept hk⟩⟩
structure LF (k : Nat) (bx : Value) (wr : World) (L : Nat → Prop) (w : World) (v4 v5 v22 v23 v24 v25 v26 v27 : Value) : Prop where
  kp : Kept wr w
  f0 : L 0 → v22 = bx
  f1 : L 1 → v23 = .int .i64 k
  f2 : L 2 → Sq k w v24
  f3 : L 3 → v25 = bx
  f4 : L 4 → v26 = .int .i64 k
  f5 : L 5 → Sq k w v27
  f6 : L 6 → Vr k wr w (L 8) v4
  f7 : L 7 → Vr k wr w (L 9) v5
  f67 : L 6 → L 7 → v4 ≠ v5
  f86 : L 8 → L 6
  f97 : L 9 → L 7
  f98 : L 9 → L 8
theorem Vr.lt {k : Nat} {wr w : World} {d : Prop} {v : Value} (h : Vr k wr w d v) : ∃ b, v = .pointer (some ⟨b, 0, none⟩) ∧ b < w.heap.size := by
  obtain ⟨b, h1, _, h3, h4⟩ := h
  refine ⟨b, h1, ?_⟩
  by_cases hd : d
  · obtain ⟨_, _, _, g, _⟩ := h4 hd
    exact g.lt
  · exact (h3 hd).lt
theorem grown3 (w : World) (b : Nat) (x y z : Value) : w.grownBy (((w.setCell ⟨b, 0, none⟩ x).setCell ⟨b, 1, none⟩ y).setCell ⟨b, 2, none⟩ z) (some b) := grown_trans (grown_trans (grown_set _ _ _ _) (grown_set _ _ _ _)) (grown_set _ _ _ _)
theorem set3 {w : World} {b : Nat} {x y z : Value} {t : TypeId} (h : BlockAt w b #[x, y, z] t) (x' y' z' : Value) : BlockAt (((w.setCell ⟨b, 0, none⟩ x').setCell ⟨b, 1, none⟩ y').setCell ⟨b, 2, none⟩ z') b #[x', y', z'] t := by
  have h0 : BlockAt (w.setCell ⟨b, 0, none⟩ x') b #[x', y, z] t := h.set (i := 0) x'
  have h1 : BlockAt ((w.setCell ⟨b, 0, none⟩ x').setCell ⟨b, 1, none⟩ y') b #[x', y', z] t := h0.set (i := 1) y'
  exact h1.set (i := 2) z'
theorem Sq.grown {k : Nat} {w w' : World} {v : Value} {b4 : Nat} {C : Array Value} (h : Sq k w v) (hz : BlockAt w b4 C 50) (hg : w.grownBy w' (some b4)) : Sq k w' v := by
  obtain ⟨b, o, A, h1, h2, h3⟩ := h
  obtain ⟨cs, hb⟩ := h3.blk
  have hne := ne_types hb hz (by decide)
  exact ⟨b, o, A, h1, h2, h3.grown hg (fun e => hne (Option.some.inj e))⟩
theorem Vr.grown {k : Nat} {wr w w' : World} {d d' : Prop} {v : Value} {b4 : Nat} {C : Array Value} (hd : d' ↔ d) (h : Vr k wr w d v) (hv : v ≠ .pointer (some ⟨b4, 0, none⟩)) (hz : BlockAt w b4 C 50) (hg : w.grownBy w' (some b4)) : Vr k wr w' d' v := by
  obtain ⟨b, h1, h2, h3, h4⟩ := h
  have hne : some b ≠ some b4 := fun e => hv (by rw [h1, Option.some.inj e])
  refine ⟨b, h1, h2, fun x => (h3 (fun y => x (hd.2 y))).grown hg hne, fun x => ?_⟩
  obtain ⟨ba, oa, A, g1, g2, g3⟩ := h4 (hd.1 x)
  obtain ⟨cs, hb⟩ := g3.blk
  have hne2 := ne_types hb hz (by decide)
  exact ⟨ba, oa, A, g1.grown hg hne, g2, g3.grown hg (fun e => hne2 (Option.some.inj e))⟩
theorem wanted_none {o : Oper} (h : o.guard = none) (y : Nat → Option Bool) : Region.wanted o y = true := by unfold Region.wanted; rw [h]
/-- one more operation is done: what it leaves alone stays -/
theorem LF.more {k : Nat} {bx : Value} {wr : World} {L L' : Nat → Prop} {w w' : World} {v4 v5 v22 v23 v24 v25 v26 v27 v4' v5' v22' v23' v24' v25' v26' v27' : Value} (h : LF k bx wr L w v4 v5 v22 v23 v24 v25 v26 v27) (i : Nat) (hi : i < 8) (hL : ∀ j, L' j ↔ (j = i ∨ L j)) (hk : Kept w w')
    (e0 : i = 0 ∧ v22' = bx ∨ i ≠ 0 ∧ v22' = v22) (e1 : i = 1 ∧ v23' = .int .i64 k ∨ i ≠ 1 ∧ v23' = v23) (e2 : i = 2 ∧ Sq k w' v24' ∨ i ≠ 2 ∧ v24' = v24) (e3 : i = 3 ∧ v25' = bx ∨ i ≠ 3 ∧ v25' = v25) (e4 : i = 4 ∧ v26' = .int .i64 k ∨ i ≠ 4 ∧ v26' = v26)
    (e5 : i = 5 ∧ Sq k w' v27' ∨ i ≠ 5 ∧ v27' = v27) (e6 : i = 6 ∧ Vr k wr w' (L' 8) v4' ∧ (L 7 → v4' ≠ v5) ∨ i ≠ 6 ∧ v4' = v4) (e7 : i = 7 ∧ Vr k wr w' (L' 9) v5' ∧ (L 6 → v4 ≠ v5') ∨ i ≠ 7 ∧ v5' = v5) :
    LF k bx wr L' w' v4' v5' v22' v23' v24' v25' v26' v27' := by
  have d8 : L' 8 ↔ L 8 := by rw [hL]; exact ⟨fun h => h.resolve_left (by omega), .inr⟩
  have d9 : L' 9 ↔ L 9 := by rw [hL]; exact ⟨fun h => h.resolve_left (by omega), .inr⟩
  have old : ∀ {j}, L' j → i ≠ j → L j := fun {j} hj hne => ((hL j).1 hj).resolve_left (fun e => hne e.symm)
  refine ⟨h.kp.trans hk, fun x => ?_, fun x => ?_, fun x => ?_, fun x => ?_, fun x => ?_, fun x => ?_, fun x => ?_, fun x => ?_, fun x y => ?_, fun x => (hL 6).2 (.inr (h.f86 (d8.1 x))), fun x => (hL 7).2 (.inr (h.f97 (d9.1 x))), fun x => d8.2 (h.f98 (d9.1 x))⟩
  · rcases e0 with ⟨_, e⟩ | ⟨hne, rfl⟩
    · exact e
    · exact h.f0 (old x hne)
  · rcases e1 with ⟨_, e⟩ | ⟨hne, rfl⟩
    · exact e
    · exact h.f1 (old x hne)
  · rcases e2 with ⟨_, e⟩ | ⟨hne, rfl⟩
    · exact e
    · exact (h.f2 (old x hne)).kept hk
  · rcases e3 with ⟨_, e⟩ | ⟨hne, rfl⟩
    · exact e
    · exact h.f3 (old x hne)
  · rcases e4 with ⟨_, e⟩ | ⟨hne, rfl⟩
    · exact e
    · exact h.f4 (old x hne)
  · rcases e5 with ⟨_, e⟩ | ⟨hne, rfl⟩
    · exact e
    · exact (h.f5 (old x hne)).kept hk
  · rcases e6 with ⟨_, e, _⟩ | ⟨hne, rfl⟩
    · exact e
    · exact (h.f6 (old x hne)).kept d8 hk
  · rcases e7 with ⟨_, e, _⟩ | ⟨hne, rfl⟩
    · exact e
    · exact (h.f7 (old x hne)).kept d9 hk
  · rcases e6 with ⟨i6, _, e⟩ | ⟨h6, rfl⟩
    · rcases e7 with ⟨i7, _⟩ | ⟨h7, rfl⟩
      · omega
      · exact e (old y h7)
    · rcases e7 with ⟨i7, _, e⟩ | ⟨h7, rfl⟩
      · exact e (old x h6)
      · exact h.f67 (old x h6) (old y h7)
theorem square_z (am an al : Option Addr) (lm cm ln cn ll cl n : Nat) (z : Int) (hn : 1 ≤ n ∧ n ≤ 8) (hz : 0 ≤ z ∧ z ≤ 9) (w : World) (hm : MsIn w am lm) :
    Calls Try.prog 53 #[.agg #[.slice am lm cm, .slice an ln cn, .slice al ll cl], .int .i64 n, .int .i64 z] w
      fun e w' => ∃ b off F, e = .returned (.agg #[.int .i64 n, .int .i64 n, .slice (some ⟨b, off, none⟩) (n * n) (n * n)]) ∧ w.heap.size ≤ b ∧ Bt F ∧ Mat w' b off n n F ∧ Kept w w' := by
  obtain ⟨y, rfl⟩ : ∃ y : Nat, z = y := ⟨z.toNat, by omega⟩
  exact square_any am an al lm cm ln cn ll cl n y hn (by omega) w hm
end Go.Proofs.Ytlpjpeonejbpjaa
