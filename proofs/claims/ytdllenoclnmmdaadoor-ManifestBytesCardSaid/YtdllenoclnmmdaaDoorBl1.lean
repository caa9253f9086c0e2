/- BLAKE2s's numbers as they lie in a block of cells, and the turning of one number (no conditions). -/
import Derived.Test.YtdllenoclnmmdaaDoorRows
import Derived.Test.YtdllenoclnmmdaaDoorBl0
import Derived.Test.YtdllenoclnmmdaaDoorHp
import Derived.Test.YtdllenoclnmmdaaDoorTail
import Derived.Laws.BitsAllLaws
import Derived.IntWalk
import Derived.Outline
namespace Go.Proofs.YtdllenoclnmmdaaDoor
open Go.RowKit Go.Shelf
attribute [local go_sem] Oper.semAt_some

/-- the cells of some numbers -/
def cw (v : List Nat) : Array Value := (v.map fun (n : Nat) => Value.int .u32 (n : Int)).toArray
theorem cw_size (v : List Nat) : (cw v).size = v.length := by simp [cw]
theorem cw_set (v : List Nat) (i x : Nat) : (cw v).setIfInBounds i (.int .u32 (x : Int)) = cw (v.set i x) := by simp [cw]
theorem cw_at (v : List Nat) (i : Nat) (h : i < v.length) : (cw v)[i]? = some (.int .u32 (v.getD i 0 : Nat)) := by
  simp [cw, h]
theorem cw_one (v : List Nat) : (cw v).all (·.oneCell') = true := by
  rw [Array.all_eq_true]
  intro i h
  simp [cw, Value.oneCell']
theorem x32 (a b : Nat) (ha : a < 4294967296) (hb : b < 4294967296) : bits .xor .u32 (a : Int) (b : Int) = ((a ^^^ b : Nat) : Int) := u32_xor_nat a b ha hb
theorem o32 (a b : Nat) (ha : a < 4294967296) (hb : b < 4294967296) : bits .or .u32 (a : Int) (b : Int) = ((a ||| b : Nat) : Int) := u32_or_nat a b ha hb
theorem a32 (a b : Nat) : ((a : Int) + b) % 4294967296 = ((Bl.add a b : Nat) : Int) := by unfold Bl.add; omega
theorem s32 (x n : Nat) (hx : x < 4294967296) : bits .or .u32 ((x : Int) / 2 ^ n) ((x : Int) * 2 ^ (32 - n) % 4294967296) = ((Bl.rot x n : Nat) : Int) := by
  have h := o32 (x / 2 ^ n) (x * 2 ^ (32 - n) % 4294967296) (Nat.lt_of_le_of_lt (Nat.div_le_self _ _) hx) (Nat.mod_lt _ (by decide))
  unfold Bl.rot
  rw [← h]
  congr 1
set_option maxRecDepth 100000 in
theorem turned_any (x n : Nat) (hx : x < 4294967296) (hn : n < 32) (w : World) :
    Calls Tryd.prog 44 #[.int .u32 x, .int .i64 n] w fun e w' => e = .returned (.int .u32 (Bl.rot x n : Nat)) ∧ ∃ k, w' = w.drewN k := by
  have hs := s32 x n hx
  go_enter Tryd.func44, Tryd.ntmps44
  go_wp2
  go_region
  go_wp2
  go_ret
  exact ⟨rfl, 1, rfl⟩
theorem s32' (x n : Nat) (hx : x < 4294967296) : bits .or .u32 ((x : Int) * 2 ^ (32 - n) % 4294967296) ((x : Int) / 2 ^ n) = ((Bl.rot x n : Nat) : Int) := by
  have h := o32 (x * 2 ^ (32 - n) % 4294967296) (x / 2 ^ n) (Nat.mod_lt _ (by decide)) (Nat.lt_of_le_of_lt (Nat.div_le_self _ _) hx)
  unfold Bl.rot
  rw [Nat.or_comm, ← h]
  congr 1
set_option maxRecDepth 100000 in
theorem rotate16 (x : Nat) (hx : x < 4294967296) (w : World) :
    Calls Tryd.prog 45 #[.int .u32 x, .int .i64 (-16)] w fun e w' => e = .returned (.int .u32 (Bl.rot x 16 : Nat)) ∧ w' = w := by
  have hs : bits .or .u32 ((x : Int) * 65536 % 4294967296) ((x : Int) / 65536) = ((Bl.rot x 16 : Nat) : Int) := s32' x 16 hx
  have ha : bits .and .u64 (IntKind.u64.wrap (-16)) 31 = 16 := by decide +kernel
  go_enter Tryd.func45, Tryd.ntmps45
  go_wp2
  go_ret
  exact ⟨rfl, rfl⟩
set_option maxRecDepth 100000 in
theorem rotate12 (x : Nat) (hx : x < 4294967296) (w : World) :
    Calls Tryd.prog 45 #[.int .u32 x, .int .i64 (-12)] w fun e w' => e = .returned (.int .u32 (Bl.rot x 12 : Nat)) ∧ w' = w := by
  have hs : bits .or .u32 ((x : Int) * 1048576 % 4294967296) ((x : Int) / 4096) = ((Bl.rot x 12 : Nat) : Int) := s32' x 12 hx
  have ha : bits .and .u64 (IntKind.u64.wrap (-12)) 31 = 20 := by decide +kernel
  go_enter Tryd.func45, Tryd.ntmps45
  go_wp2
  go_ret
  exact ⟨rfl, rfl⟩
set_option maxRecDepth 100000 in
theorem rotate8 (x : Nat) (hx : x < 4294967296) (w : World) :
    Calls Tryd.prog 45 #[.int .u32 x, .int .i64 (-8)] w fun e w' => e = .returned (.int .u32 (Bl.rot x 8 : Nat)) ∧ w' = w := by
  have hs : bits .or .u32 ((x : Int) * 16777216 % 4294967296) ((x : Int) / 256) = ((Bl.rot x 8 : Nat) : Int) := s32' x 8 hx
  have ha : bits .and .u64 (IntKind.u64.wrap (-8)) 31 = 24 := by decide +kernel
  go_enter Tryd.func45, Tryd.ntmps45
  go_wp2
  go_ret
  exact ⟨rfl, rfl⟩
set_option maxRecDepth 100000 in
theorem rotate7 (x : Nat) (hx : x < 4294967296) (w : World) :
    Calls Tryd.prog 45 #[.int .u32 x, .int .i64 (-7)] w fun e w' => e = .returned (.int .u32 (Bl.rot x 7 : Nat)) ∧ w' = w := by
  have hs : bits .or .u32 ((x : Int) * 33554432 % 4294967296) ((x : Int) / 128) = ((Bl.rot x 7 : Nat) : Int) := s32' x 7 hx
  have ha : bits .and .u64 (IntKind.u64.wrap (-7)) 31 = 25 := by decide +kernel
  go_enter Tryd.func45, Tryd.ntmps45
  go_wp2
  go_ret
  exact ⟨rfl, rfl⟩
end Go.Proofs.YtdllenoclnmmdaaDoor
