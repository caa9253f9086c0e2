/- The chain whose salt is "x": what is reached from each of it, its order (nothing of the program). -/
import Derived.Test.YtdllenoclnmmdaaChlx
import Derived.Test.YtdllenoclnmmdaaGx
namespace Go.Proofs.Ytdllenoclnmmdaa
open Go.RowKit Go.Shelf
theorem ns_x2 : (List.range 2).map (chN ⟨#[120]⟩) = [xN0, xN1] := by
  show [chN ⟨#[120]⟩ 0, chN ⟨#[120]⟩ 1] = _
  rw [chN_x0, chN_x1]
set_option maxRecDepth 1000000 in
theorem fr_x2 : frB xL2 [[], [], [0], [1, 2]] [xN0, xN1] 2 = true := by decide +kernel
set_option maxRecDepth 1000000 in
theorem or_x2 : orB xL2 [[], [], [0], [1, 2]] [xN0, xN1] 2 = true := by decide +kernel
theorem ok_x2 : ChOk ⟨#[120]⟩ 2 := chOk_of _ _ _ _ _ chL_x2 ns_x2 ths_x2 lk_x2 fr_x2 or_x2
theorem ns_x3 : (List.range 3).map (chN ⟨#[120]⟩) = [xN0, xN1, xN2] := by
  show [chN ⟨#[120]⟩ 0, chN ⟨#[120]⟩ 1, chN ⟨#[120]⟩ 2] = _
  rw [chN_x0, chN_x1, chN_x2]
set_option maxRecDepth 1000000 in
theorem fr_x3 : frB xL3 [[], [], [], [0], [2, 5], [1, 3]] [xN0, xN1, xN2] 3 = true := by decide +kernel
set_option maxRecDepth 1000000 in
theorem or_x3 : orB xL3 [[], [], [], [0], [2, 5], [1, 3]] [xN0, xN1, xN2] 3 = true := by decide +kernel
theorem ok_x3 : ChOk ⟨#[120]⟩ 3 := chOk_of _ _ _ _ _ chL_x3 ns_x3 ths_x3 lk_x3 fr_x3 or_x3
theorem ns_x4 : (List.range 4).map (chN ⟨#[120]⟩) = [xN0, xN1, xN2, xN3] := by
  show [chN ⟨#[120]⟩ 0, chN ⟨#[120]⟩ 1, chN ⟨#[120]⟩ 2, chN ⟨#[120]⟩ 3] = _
  rw [chN_x0, chN_x1, chN_x2, chN_x3]
set_option maxRecDepth 1000000 in
theorem fr_x4 : frB xL4 [[], [], [], [], [0], [1, 6], [3, 7], [2, 4]] [xN0, xN1, xN2, xN3] 4 = true := by decide +kernel
set_option maxRecDepth 1000000 in
theorem or_x4 : orB xL4 [[], [], [], [], [0], [1, 6], [3, 7], [2, 4]] [xN0, xN1, xN2, xN3] 4 = true := by decide +kernel
theorem ok_x4 : ChOk ⟨#[120]⟩ 4 := chOk_of _ _ _ _ _ chL_x4 ns_x4 ths_x4 lk_x4 fr_x4 or_x4
theorem ns_x5 : (List.range 5).map (chN ⟨#[120]⟩) = [xN0, xN1, xN2, xN3, xN4] := by
  show [chN ⟨#[120]⟩ 0, chN ⟨#[120]⟩ 1, chN ⟨#[120]⟩ 2, chN ⟨#[120]⟩ 3, chN ⟨#[120]⟩ 4] = _
  rw [chN_x0, chN_x1, chN_x2, chN_x3, chN_x4]
set_option maxRecDepth 1000000 in
theorem fr_x5 : frB xL5 [[], [], [], [], [0, 7], [], [1], [2, 8], [5, 9], [3, 6]] [xN0, xN1, xN2, xN3, xN4] 5 = true := by decide +kernel
set_option maxRecDepth 1000000 in
theorem or_x5 : orB xL5 [[], [], [], [], [0, 7], [], [1], [2, 8], [5, 9], [3, 6]] [xN0, xN1, xN2, xN3, xN4] 5 = true := by decide +kernel
theorem ok_x5 : ChOk ⟨#[120]⟩ 5 := chOk_of _ _ _ _ _ chL_x5 ns_x5 ths_x5 lk_x5 fr_x5 or_x5
theorem ns_x6 : (List.range 6).map (chN ⟨#[120]⟩) = [xN0, xN1, xN2, xN3, xN4, xN5] := by
  show [chN ⟨#[120]⟩ 0, chN ⟨#[120]⟩ 1, chN ⟨#[120]⟩ 2, chN ⟨#[120]⟩ 3, chN ⟨#[120]⟩ 4, chN ⟨#[120]⟩ 5] = _
  rw [chN_x0, chN_x1, chN_x2, chN_x3, chN_x4, chN_x5]
set_option maxRecDepth 1000000 in
theorem fr_x6 : frB xL6 [[], [8, 5], [], [], [], [0, 9], [], [2], [], [3, 10], [6, 11], [4, 7]] [xN0, xN1, xN2, xN3, xN4, xN5] 6 = true := by decide +kernel
set_option maxRecDepth 1000000 in
theorem or_x6 : orB xL6 [[], [8, 5], [], [], [], [0, 9], [], [2], [], [3, 10], [6, 11], [4, 7]] [xN0, xN1, xN2, xN3, xN4, xN5] 6 = true := by decide +kernel
theorem ok_x6 : ChOk ⟨#[120]⟩ 6 := chOk_of _ _ _ _ _ chL_x6 ns_x6 ths_x6 lk_x6 fr_x6 or_x6
theorem ns_x7 : (List.range 7).map (chN ⟨#[120]⟩) = [xN0, xN1, xN2, xN3, xN4, xN5, xN6] := by
  show [chN ⟨#[120]⟩ 0, chN ⟨#[120]⟩ 1, chN ⟨#[120]⟩ 2, chN ⟨#[120]⟩ 3, chN ⟨#[120]⟩ 4, chN ⟨#[120]⟩ 5, chN ⟨#[120]⟩ 6] = _
  rw [chN_x0, chN_x1, chN_x2, chN_x3, chN_x4, chN_x5, chN_x6]
set_option maxRecDepth 1000000 in
theorem fr_x7 : frB xL7 [[], [9, 6], [], [], [10, 1], [], [0, 11], [], [2], [], [], [3, 12], [7, 13], [5, 8]] [xN0, xN1, xN2, xN3, xN4, xN5, xN6] 7 = true := by decide +kernel
set_option maxRecDepth 1000000 in
theorem or_x7 : orB xL7 [[], [9, 6], [], [], [10, 1], [], [0, 11], [], [2], [], [], [3, 12], [7, 13], [5, 8]] [xN0, xN1, xN2, xN3, xN4, xN5, xN6] 7 = true := by decide +kernel
theorem ok_x7 : ChOk ⟨#[120]⟩ 7 := chOk_of _ _ _ _ _ chL_x7 ns_x7 ths_x7 lk_x7 fr_x7 or_x7
theorem ns_x8 : (List.range 8).map (chN ⟨#[120]⟩) = [xN0, xN1, xN2, xN3, xN4, xN5, xN6, xN7] := by
  show [chN ⟨#[120]⟩ 0, chN ⟨#[120]⟩ 1, chN ⟨#[120]⟩ 2, chN ⟨#[120]⟩ 3, chN ⟨#[120]⟩ 4, chN ⟨#[120]⟩ 5, chN ⟨#[120]⟩ 6, chN ⟨#[120]⟩ 7] = _
  rw [chN_x0, chN_x1, chN_x2, chN_x3, chN_x4, chN_x5, chN_x6, chN_x7]
set_option maxRecDepth 1000000 in
theorem fr_x8 : frB xL8 [[], [], [11, 8], [], [1, 6], [], [12, 2], [], [0, 13], [], [3], [], [], [5, 14], [9, 15], [7, 10]] [xN0, xN1, xN2, xN3, xN4, xN5, xN6, xN7] 8 = true := by decide +kernel
set_option maxRecDepth 1000000 in
theorem or_x8 : orB xL8 [[], [], [11, 8], [], [1, 6], [], [12, 2], [], [0, 13], [], [3], [], [], [5, 14], [9, 15], [7, 10]] [xN0, xN1, xN2, xN3, xN4, xN5, xN6, xN7] 8 = true := by decide +kernel
theorem ok_x8 : ChOk ⟨#[120]⟩ 8 := chOk_of _ _ _ _ _ chL_x8 ns_x8 ths_x8 lk_x8 fr_x8 or_x8
theorem ns_x9 : (List.range 9).map (chN ⟨#[120]⟩) = [xN0, xN1, xN2, xN3, xN4, xN5, xN6, xN7, xN8] := by
  show [chN ⟨#[120]⟩ 0, chN ⟨#[120]⟩ 1, chN ⟨#[120]⟩ 2, chN ⟨#[120]⟩ 3, chN ⟨#[120]⟩ 4, chN ⟨#[120]⟩ 5, chN ⟨#[120]⟩ 6, chN ⟨#[120]⟩ 7, chN ⟨#[120]⟩ 8] = _
  rw [chN_x0, chN_x1, chN_x2, chN_x3, chN_x4, chN_x5, chN_x6, chN_x7, chN_x8]
set_option maxRecDepth 1000000 in
theorem fr_x9 : frB xL9 [[], [], [12, 9], [], [1, 6], [], [14, 2], [], [], [0, 15], [], [3], [], [8, 4], [], [5, 16], [10, 17], [7, 11]] [xN0, xN1, xN2, xN3, xN4, xN5, xN6, xN7, xN8] 9 = true := by decide +kernel
set_option maxRecDepth 1000000 in
theorem or_x9 : orB xL9 [[], [], [12, 9], [], [1, 6], [], [14, 2], [], [], [0, 15], [], [3], [], [8, 4], [], [5, 16], [10, 17], [7, 11]] [xN0, xN1, xN2, xN3, xN4, xN5, xN6, xN7, xN8] 9 = true := by decide +kernel
theorem ok_x9 : ChOk ⟨#[120]⟩ 9 := chOk_of _ _ _ _ _ chL_x9 ns_x9 ths_x9 lk_x9 fr_x9 or_x9
theorem ok_x (n : Nat) (h2 : 2 ≤ n) (h9 : n ≤ 9) : ChOk ⟨#[120]⟩ n :=
  match n, h2, h9 with
  | 2, _, _ => ok_x2
  | 3, _, _ => ok_x3
  | 4, _, _ => ok_x4
  | 5, _, _ => ok_x5
  | 6, _, _ => ok_x6
  | 7, _, _ => ok_x7
  | 8, _, _ => ok_x8
  | 9, _, _ => ok_x9
  | n + 10, _, h => absurd h (by omega)
end Go.Proofs.Ytdllenoclnmmdaa
