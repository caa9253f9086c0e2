
/- Rows of a call's own: what else stays while they are written (blocks of another element type, and all that was there ahead); bytes (no conditions). -/
import Derived.Test.YtkfomaoillnehaaStd
namespace Go.Proofs.Ytkfomaoillnehaa
open Go.RowKit

/-- All that lay in w lies in w' as it did, but for blocks from base on whose elements are e's. -/
structure Spare (base : Nat) (e : TypeId) (w w' : World) : Prop where
  os : w'.os = w.os
  tape : w'.tape = w.tape
  output : w'.output = w.output
  size : w.heap.size ≤ w'.heap.size
  block : ∀ k, k < w.heap.size → (k < base ∨ ∀ cs : Array Value, w.heap[k]? ≠ some (.cells cs e (0, 0))) → w'.heap[k]? = w.heap[k]?
theorem Spare.refl (base : Nat) (e : TypeId) (w : World) : Spare base e w w := ⟨rfl, rfl, rfl, Nat.le_refl _, fun _ _ _ => rfl⟩
theorem Spare.trans {base : Nat} {e : TypeId} {a b c : World} (h : Spare base e a b) (k : Spare base e b c) : Spare base e a c :=
  ⟨k.os.trans h.os, k.tape.trans h.tape, k.output.trans h.output, Nat.le_trans h.size k.size, fun g hg hb => by
    have h1 := h.block g hg hb
    rw [← h1]
    refine k.block g (Nat.lt_of_lt_of_le hg h.size) ?_
    rcases hb with hb | hb
    · exact .inl hb
    · exact .inr (by rw [h1]; exact hb)⟩
theorem Spare.of_kept {base : Nat} {e : TypeId} {a b : World} (h : Kept a b) : Spare base e a b :=
  ⟨Below.os h, Below.tape h, Below.output h, Below.size h, fun k hk _ => Below.block h k hk⟩
theorem Spare.alloc {base : Nat} {e : TypeId} {a b : World} (h : Spare base e a b) (o : Obj) : Spare base e a (b.alloc o) := h.trans (.of_kept ((Kept.refl b).alloc o))
theorem Spare.drew {base : Nat} {e : TypeId} {a b : World} (h : Spare base e a b) : Spare base e a b.drew := h.trans (.of_kept (Kept.refl b).drew)
theorem Spare.of_grown {base : Nat} {e : TypeId} {s n : Nat} {v : Value} {xs : List Value} {a b : World} (ho : a.ownsRow base e s v n xs) (hg : a.grownBy b v.ownBlock) : Spare base e a b := by
  refine ⟨hg.os, hg.tape, hg.output, hg.size, fun k hk hb => hg.block k hk fun hkv => ?_⟩
  obtain ⟨_, ⟨rfl, _⟩ | ⟨g, cap, cur, rfl, hgb, hc, _⟩⟩ := ho
  · cases hkv
  · have hkg : k = g := by simpa [Value.ownBlock] using hkv
    subst hkg
    rcases hb with hb | hb
    · omega
    · exact hb cur hc
theorem Spare.at {base : Nat} {e : TypeId} {a b : World} (h : Spare base e a b) {g : Nat} {C : Array Value} {t : TypeId} (hb : BlockAt a g C t) (hne : t ≠ e) : BlockAt b g C t := by
  refine (h.block g hb.lt (.inr fun cs hc => ?_)).trans hb
  have h1 : a.heap[g]? = some (.cells C t (0, 0)) := hb
  rw [hc] at h1
  simp only [Option.some.injEq, Obj.cells.injEq] at h1
  exact hne h1.2.1.symm
theorem Spare.below {e : TypeId} {a b : World} {base : Nat} (h : Spare base e a b) (hb : base ≤ a.heap.size) : Below base a b :=
  ⟨h.os, h.tape, h.output, h.size, fun k hk => h.block k (Nat.lt_of_lt_of_le hk hb) (.inl hk)⟩
/-- from the call's begin on: all that was there stays -/
theorem Spare.kept {e : TypeId} {w a : World} (h : Spare w.heap.size e w a) : Kept w a := h.below (Nat.le_refl _)
/-- a block whose elements are not e's is written -/
theorem Spare.putObj_other {base : Nat} {e : TypeId} {a b : World} (h : Spare base e a b) {g : Nat} (hg : a.heap.size ≤ g) (v : Value) (i : Nat) : Spare base e a (b.setCell ⟨g, i, none⟩ v) :=
  ⟨h.os, h.tape, h.output, by simpa using h.size, fun k hk hb => by
    rw [← h.block k hk hb]
    exact Below.heap_setCell b ⟨g, i, none⟩ v k (by show k ≠ g; omega)⟩
/-- a row of one's own that lies elsewhere, of other elements -/
theorem Spare.own {base base' : Nat} {e e' : TypeId} {a b : World} (h : Spare base e a b) (hne : e' ≠ e) {s n : Nat} {v : Value} {xs : List Value} (ho : a.ownsRow base' e' s v n xs) : b.ownsRow base' e' s v n xs := by
  obtain ⟨h1, h2 | ⟨g, cap, cur, hv, hb, hg, h3⟩⟩ := ho
  · exact ⟨h1, .inl h2⟩
  · have hb' : BlockAt b g cur e' := h.at (show BlockAt a g cur e' from hg) hne
    exact ⟨h1, .inr ⟨g, cap, cur, hv, hb, hb', h3⟩⟩
theorem own_kept {A B : World} {base : Nat} {e : TypeId} {s n : Nat} {v : Value} {xs : List Value} (h : A.ownsRow base e s v n xs) (k : Kept A B) : B.ownsRow base e s v n xs := by
  obtain ⟨h1, h2 | ⟨g, cap, cur, hv, hb, hg, h3⟩⟩ := h
  · exact ⟨h1, .inl h2⟩
  · have hb' : BlockAt B g cur e := (show BlockAt A g cur e from hg).kept k
    exact ⟨h1, .inr ⟨g, cap, cur, hv, hb, hb', h3⟩⟩
theorem own_base {w : World} {base base' : Nat} {e : TypeId} {s n : Nat} {v : Value} {xs : List Value} (h : w.ownsRow base e s v n xs) (hb : base' ≤ base) : w.ownsRow base' e s v n xs := by
  obtain ⟨h1, h2 | ⟨g, cap, cur, hv, hg, h3⟩⟩ := h
  · exact ⟨h1, .inl h2⟩
  · exact ⟨h1, .inr ⟨g, cap, cur, hv, Nat.le_trans hb hg, h3⟩⟩
theorem own_len {w : World} {base : Nat} {e : TypeId} {s n : Nat} {v : Value} {xs : List Value} (h : w.ownsRow base e s v n xs) : ∃ a cap, v = .slice a n cap ∧ n ≤ cap := by
  obtain ⟨h1, ⟨rfl, rfl⟩ | ⟨g, cap, cur, rfl, hg, _, h3, _⟩⟩ := h
  · exact ⟨none, 0, rfl, Nat.le_refl _⟩
  · exact ⟨_, cap, rfl, h3⟩
theorem slice_of_own {w : World} {base : Nat} {e : TypeId} {s n : Nat} {v : Value} {xs : List Value} (h : w.ownsRow base e s v n xs) : ∃ a cap, v = .slice a n cap := by
  obtain ⟨a, cap, h1, _⟩ := own_len h
  exact ⟨a, cap, h1⟩
/-- bytes, as cells -/
def bv (l : List UInt8) : List Value := l.map fun x => Value.int .u8 (x.toNat : Int)
theorem bv_append (a b : List UInt8) : bv (a ++ b) = bv a ++ bv b := List.map_append
theorem bv_length (a : List UInt8) : (bv a).length = a.length := List.length_map _
theorem Try.infoU8 : (Try.prog.info? 5).map (fun i => (i.zero, i.size, i.bytes)) = some (some (.int .u8 0), 1, 1) := by kernel_rfl
theorem Try.infoI : (Try.prog.info? 3).map (fun i => (i.zero, i.size, i.bytes)) = some (some (.int .i64 0), 1, 8) := by kernel_rfl
set_option maxRecDepth 100000 in
/-- 'string(b)' of an own row of bytes -/
theorem own_string {w : World} {base n : Nat} {v : Value} {l : List UInt8} (h : w.ownsRow base 5 1 v n (bv l)) (hn : l.length = n) :
    (convert 74 9 v).run Try.prog w = .ok (.string ⟨l.toArray⟩) w := by
  rcases h.2 with ⟨rfl, h0⟩ | ⟨g, cap, cur, rfl, hb, hg, hn', hm, hc, ht⟩
  · subst h0
    obtain rfl : l = [] := List.length_eq_zero_iff.1 hn
    rfl
  · subst hn
    refine run_convert_bytes_back w 74 9 5 ⟨g, 0, none⟩ cap l Try.underlying74 Try.underlying5 Try.underlying9 (fun j hj => ?_)
    have e : (⟨g, 0, none⟩ : Addr).add j = ⟨g, j, none⟩ := by unfold Addr.add; split <;> simp_all
    rw [e, h.cellAt j (by omega)]
    simp [bv, hj]
/-! ### a world and a later one in which one block may have been written -/
theorem gr_refl (w : World) (row : Option Nat) : w.grownBy w row := ⟨rfl, rfl, rfl, Nat.le_refl _, fun _ _ _ => rfl⟩
theorem gr_trans {a b c : World} {row : Option Nat} (h : a.grownBy b row) (k : b.grownBy c row) : a.grownBy c row :=
  ⟨k.os.trans h.os, k.tape.trans h.tape, k.output.trans h.output, Nat.le_trans h.size k.size, fun g hg hne => (k.block g (Nat.lt_of_lt_of_le hg h.size) hne).trans (h.block g hg hne)⟩
/-- what the second writes is new, or written already -/
theorem gr_then {a b c : World} {row r2 : Option Nat} (h : a.grownBy b row) (k : b.grownBy c r2) (hr : ∀ g, r2 = some g → a.heap.size ≤ g) : a.grownBy c row :=
  ⟨k.os.trans h.os, k.tape.trans h.tape, k.output.trans h.output, Nat.le_trans h.size k.size, fun g hg hne => (k.block g (Nat.lt_of_lt_of_le hg h.size) (fun e => by have := hr g e.symm; omega)).trans (h.block g hg hne)⟩
theorem gr_kept {a b : World} (h : Kept a b) (row : Option Nat) : a.grownBy b row := ⟨Below.os h, Below.tape h, Below.output h, Below.size h, fun k hk _ => Below.block h k hk⟩
theorem gr_set (w : World) (b i : Nat) (v : Value) : w.grownBy (w.setCell ⟨b, i, none⟩ v) (some b) :=
  ⟨rfl, rfl, rfl, by simp, fun k _ hne => Below.heap_setCell w ⟨b, i, none⟩ v k (fun e => hne (by rw [e]))⟩
theorem BlockAt.gr {w w' : World} {b : Nat} {C : Array Value} {t : TypeId} {row : Option Nat} (h : BlockAt w b C t) (g : w.grownBy w' row) (hne : some b ≠ row) : BlockAt w' b C t := (g.block b h.lt hne).trans h
theorem kept_gr {W a b : World} {row : Option Nat} (h : Kept W a) (g : a.grownBy b row) (hr : ∀ k, row = some k → W.heap.size ≤ k) : Kept W b := Below.grown h g (Below.size h) hr
theorem own_gr {w w' : World} {base : Nat} {e : TypeId} {s n : Nat} {v : Value} {xs : List Value} {row : Option Nat} (h : w.ownsRow base e s v n xs) (g : w.grownBy w' row) (hr : ∀ k, row = some k → k < base) : w'.ownsRow base e s v n xs :=
  h.kept g (by
    cases hv : v.ownBlock with
    | none => exact .inl rfl
    | some k =>
      refine .inr fun e => ?_
      have := (h.lt k hv).1
      have := hr k e.symm
      omega)
end Go.Proofs.Ytkfomaoillnehaa
