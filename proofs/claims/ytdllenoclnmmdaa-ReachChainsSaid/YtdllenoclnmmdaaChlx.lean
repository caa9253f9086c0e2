/- The chain whose salt is "x" as literal lists: things that may be, what each names (nothing of the program). -/
import Derived.Test.YtdllenoclnmmdaaChx
namespace Go.Proofs.Ytdllenoclnmmdaa
open Go.RowKit Go.Shelf

def xL0 : List Th := []
def xL1 : List Th := [⟨xD0, chB ⟨#[120]⟩ 0, false⟩, ⟨xN0, mfT ⟨0, [xD0], []⟩, true⟩]
def xL2 : List Th := [⟨xD0, chB ⟨#[120]⟩ 0, false⟩, ⟨xD1, chB ⟨#[120]⟩ 1, false⟩, ⟨xN0, mfT ⟨0, [xD0], []⟩, true⟩, ⟨xN1, mfT ⟨1, [xD1], [xN0]⟩, true⟩]
def xL3 : List Th := [⟨xD0, chB ⟨#[120]⟩ 0, false⟩, ⟨xD1, chB ⟨#[120]⟩ 1, false⟩, ⟨xD2, chB ⟨#[120]⟩ 2, false⟩, ⟨xN0, mfT ⟨0, [xD0], []⟩, true⟩, ⟨xN2, mfT ⟨2, [xD2], [xN1]⟩, true⟩, ⟨xN1, mfT ⟨1, [xD1], [xN0]⟩, true⟩]
def xL4 : List Th := [⟨xD0, chB ⟨#[120]⟩ 0, false⟩, ⟨xD3, chB ⟨#[120]⟩ 3, false⟩, ⟨xD1, chB ⟨#[120]⟩ 1, false⟩, ⟨xD2, chB ⟨#[120]⟩ 2, false⟩, ⟨xN0, mfT ⟨0, [xD0], []⟩, true⟩, ⟨xN3, mfT ⟨3, [xD3], [xN2]⟩, true⟩, ⟨xN2, mfT ⟨2, [xD2], [xN1]⟩, true⟩, ⟨xN1, mfT ⟨1, [xD1], [xN0]⟩, true⟩]
def xL5 : List Th := [⟨xD4, chB ⟨#[120]⟩ 4, false⟩, ⟨xD0, chB ⟨#[120]⟩ 0, false⟩, ⟨xD3, chB ⟨#[120]⟩ 3, false⟩, ⟨xD1, chB ⟨#[120]⟩ 1, false⟩, ⟨xN4, mfT ⟨4, [xD4], [xN3]⟩, true⟩, ⟨xD2, chB ⟨#[120]⟩ 2, false⟩, ⟨xN0, mfT ⟨0, [xD0], []⟩, true⟩, ⟨xN3, mfT ⟨3, [xD3], [xN2]⟩, true⟩, ⟨xN2, mfT ⟨2, [xD2], [xN1]⟩, true⟩, ⟨xN1, mfT ⟨1, [xD1], [xN0]⟩, true⟩]
def xL6 : List Th := [⟨xD4, chB ⟨#[120]⟩ 4, false⟩, ⟨xN5, mfT ⟨5, [xD5], [xN4]⟩, true⟩, ⟨xD0, chB ⟨#[120]⟩ 0, false⟩, ⟨xD3, chB ⟨#[120]⟩ 3, false⟩, ⟨xD1, chB ⟨#[120]⟩ 1, false⟩, ⟨xN4, mfT ⟨4, [xD4], [xN3]⟩, true⟩, ⟨xD2, chB ⟨#[120]⟩ 2, false⟩, ⟨xN0, mfT ⟨0, [xD0], []⟩, true⟩, ⟨xD5, chB ⟨#[120]⟩ 5, false⟩, ⟨xN3, mfT ⟨3, [xD3], [xN2]⟩, true⟩, ⟨xN2, mfT ⟨2, [xD2], [xN1]⟩, true⟩, ⟨xN1, mfT ⟨1, [xD1], [xN0]⟩, true⟩]
def xL7 : List Th := [⟨xD4, chB ⟨#[120]⟩ 4, false⟩, ⟨xN5, mfT ⟨5, [xD5], [xN4]⟩, true⟩, ⟨xD0, chB ⟨#[120]⟩ 0, false⟩, ⟨xD3, chB ⟨#[120]⟩ 3, false⟩, ⟨xN6, mfT ⟨6, [xD6], [xN5]⟩, true⟩, ⟨xD1, chB ⟨#[120]⟩ 1, false⟩, ⟨xN4, mfT ⟨4, [xD4], [xN3]⟩, true⟩, ⟨xD2, chB ⟨#[120]⟩ 2, false⟩, ⟨xN0, mfT ⟨0, [xD0], []⟩, true⟩, ⟨xD5, chB ⟨#[120]⟩ 5, false⟩, ⟨xD6, chB ⟨#[120]⟩ 6, false⟩, ⟨xN3, mfT ⟨3, [xD3], [xN2]⟩, true⟩, ⟨xN2, mfT ⟨2, [xD2], [xN1]⟩, true⟩, ⟨xN1, mfT ⟨1, [xD1], [xN0]⟩, true⟩]
def xL8 : List Th := [⟨xD4, chB ⟨#[120]⟩ 4, false⟩, ⟨xD7, chB ⟨#[120]⟩ 7, false⟩, ⟨xN5, mfT ⟨5, [xD5], [xN4]⟩, true⟩, ⟨xD0, chB ⟨#[120]⟩ 0, false⟩, ⟨xN7, mfT ⟨7, [xD7], [xN6]⟩, true⟩, ⟨xD3, chB ⟨#[120]⟩ 3, false⟩, ⟨xN6, mfT ⟨6, [xD6], [xN5]⟩, true⟩, ⟨xD1, chB ⟨#[120]⟩ 1, false⟩, ⟨xN4, mfT ⟨4, [xD4], [xN3]⟩, true⟩, ⟨xD2, chB ⟨#[120]⟩ 2, false⟩, ⟨xN0, mfT ⟨0, [xD0], []⟩, true⟩, ⟨xD5, chB ⟨#[120]⟩ 5, false⟩, ⟨xD6, chB ⟨#[120]⟩ 6, false⟩, ⟨xN3, mfT ⟨3, [xD3], [xN2]⟩, true⟩, ⟨xN2, mfT ⟨2, [xD2], [xN1]⟩, true⟩, ⟨xN1, mfT ⟨1, [xD1], [xN0]⟩, true⟩]
def xL9 : List Th := [⟨xD4, chB ⟨#[120]⟩ 4, false⟩, ⟨xD7, chB ⟨#[120]⟩ 7, false⟩, ⟨xN5, mfT ⟨5, [xD5], [xN4]⟩, true⟩, ⟨xD0, chB ⟨#[120]⟩ 0, false⟩, ⟨xN7, mfT ⟨7, [xD7], [xN6]⟩, true⟩, ⟨xD3, chB ⟨#[120]⟩ 3, false⟩, ⟨xN6, mfT ⟨6, [xD6], [xN5]⟩, true⟩, ⟨xD1, chB ⟨#[120]⟩ 1, false⟩, ⟨xD8, chB ⟨#[120]⟩ 8, false⟩, ⟨xN4, mfT ⟨4, [xD4], [xN3]⟩, true⟩, ⟨xD2, chB ⟨#[120]⟩ 2, false⟩, ⟨xN0, mfT ⟨0, [xD0], []⟩, true⟩, ⟨xD5, chB ⟨#[120]⟩ 5, false⟩, ⟨xN8, mfT ⟨8, [xD8], [xN7]⟩, true⟩, ⟨xD6, chB ⟨#[120]⟩ 6, false⟩, ⟨xN3, mfT ⟨3, [xD3], [xN2]⟩, true⟩, ⟨xN2, mfT ⟨2, [xD2], [xN1]⟩, true⟩, ⟨xN1, mfT ⟨1, [xD1], [xN0]⟩, true⟩]
theorem put_x1 : putL (putL xL0 ⟨xD0, chB ⟨#[120]⟩ 0, false⟩) ⟨xN0, mfT ⟨0, [xD0], []⟩, true⟩ = xL1 := by kernel_rfl
theorem chMf_x0 : chMf ⟨#[120]⟩ 0 = ⟨0, [xD0], []⟩ := by
  show (⟨0, [chD ⟨#[120]⟩ 0], []⟩ : Mf) = _
  rw [chD_x0]
theorem chL_x1 : chL ⟨#[120]⟩ 1 = xL1 := by
  show putL (putL (chL ⟨#[120]⟩ 0) ⟨chD ⟨#[120]⟩ 0, chB ⟨#[120]⟩ 0, false⟩) ⟨chN ⟨#[120]⟩ 0, mfT (chMf ⟨#[120]⟩ 0), true⟩ = _
  rw [show chL ⟨#[120]⟩ 0 = xL0 from rfl, chD_x0, chN_x0, chMf_x0]
  exact put_x1
theorem put_x2 : putL (putL xL1 ⟨xD1, chB ⟨#[120]⟩ 1, false⟩) ⟨xN1, mfT ⟨1, [xD1], [xN0]⟩, true⟩ = xL2 := by kernel_rfl
theorem chMf_x1 : chMf ⟨#[120]⟩ 1 = ⟨1, [xD1], [xN0]⟩ := by
  show (⟨((0 + 1 : Nat) : Int), [chD ⟨#[120]⟩ 1], [chN ⟨#[120]⟩ 0]⟩ : Mf) = _
  rw [chD_x1, chN_x0]
  rfl
theorem chL_x2 : chL ⟨#[120]⟩ 2 = xL2 := by
  show putL (putL (chL ⟨#[120]⟩ 1) ⟨chD ⟨#[120]⟩ 1, chB ⟨#[120]⟩ 1, false⟩) ⟨chN ⟨#[120]⟩ 1, mfT (chMf ⟨#[120]⟩ 1), true⟩ = _
  rw [show chL ⟨#[120]⟩ 1 = xL1 from chL_x1, chD_x1, chN_x1, chMf_x1]
  exact put_x2
theorem put_x3 : putL (putL xL2 ⟨xD2, chB ⟨#[120]⟩ 2, false⟩) ⟨xN2, mfT ⟨2, [xD2], [xN1]⟩, true⟩ = xL3 := by kernel_rfl
theorem chMf_x2 : chMf ⟨#[120]⟩ 2 = ⟨2, [xD2], [xN1]⟩ := by
  show (⟨((1 + 1 : Nat) : Int), [chD ⟨#[120]⟩ 2], [chN ⟨#[120]⟩ 1]⟩ : Mf) = _
  rw [chD_x2, chN_x1]
  rfl
theorem chL_x3 : chL ⟨#[120]⟩ 3 = xL3 := by
  show putL (putL (chL ⟨#[120]⟩ 2) ⟨chD ⟨#[120]⟩ 2, chB ⟨#[120]⟩ 2, false⟩) ⟨chN ⟨#[120]⟩ 2, mfT (chMf ⟨#[120]⟩ 2), true⟩ = _
  rw [show chL ⟨#[120]⟩ 2 = xL2 from chL_x2, chD_x2, chN_x2, chMf_x2]
  exact put_x3
theorem put_x4 : putL (putL xL3 ⟨xD3, chB ⟨#[120]⟩ 3, false⟩) ⟨xN3, mfT ⟨3, [xD3], [xN2]⟩, true⟩ = xL4 := by kernel_rfl
theorem chMf_x3 : chMf ⟨#[120]⟩ 3 = ⟨3, [xD3], [xN2]⟩ := by
  show (⟨((2 + 1 : Nat) : Int), [chD ⟨#[120]⟩ 3], [chN ⟨#[120]⟩ 2]⟩ : Mf) = _
  rw [chD_x3, chN_x2]
  rfl
theorem chL_x4 : chL ⟨#[120]⟩ 4 = xL4 := by
  show putL (putL (chL ⟨#[120]⟩ 3) ⟨chD ⟨#[120]⟩ 3, chB ⟨#[120]⟩ 3, false⟩) ⟨chN ⟨#[120]⟩ 3, mfT (chMf ⟨#[120]⟩ 3), true⟩ = _
  rw [show chL ⟨#[120]⟩ 3 = xL3 from chL_x3, chD_x3, chN_x3, chMf_x3]
  exact put_x4
theorem put_x5 : putL (putL xL4 ⟨xD4, chB ⟨#[120]⟩ 4, false⟩) ⟨xN4, mfT ⟨4, [xD4], [xN3]⟩, true⟩ = xL5 := by kernel_rfl
theorem chMf_x4 : chMf ⟨#[120]⟩ 4 = ⟨4, [xD4], [xN3]⟩ := by
  show (⟨((3 + 1 : Nat) : Int), [chD ⟨#[120]⟩ 4], [chN ⟨#[120]⟩ 3]⟩ : Mf) = _
  rw [chD_x4, chN_x3]
  rfl
theorem chL_x5 : chL ⟨#[120]⟩ 5 = xL5 := by
  show putL (putL (chL ⟨#[120]⟩ 4) ⟨chD ⟨#[120]⟩ 4, chB ⟨#[120]⟩ 4, false⟩) ⟨chN ⟨#[120]⟩ 4, mfT (chMf ⟨#[120]⟩ 4), true⟩ = _
  rw [show chL ⟨#[120]⟩ 4 = xL4 from chL_x4, chD_x4, chN_x4, chMf_x4]
  exact put_x5
theorem put_x6 : putL (putL xL5 ⟨xD5, chB ⟨#[120]⟩ 5, false⟩) ⟨xN5, mfT ⟨5, [xD5], [xN4]⟩, true⟩ = xL6 := by kernel_rfl
theorem chMf_x5 : chMf ⟨#[120]⟩ 5 = ⟨5, [xD5], [xN4]⟩ := by
  show (⟨((4 + 1 : Nat) : Int), [chD ⟨#[120]⟩ 5], [chN ⟨#[120]⟩ 4]⟩ : Mf) = _
  rw [chD_x5, chN_x4]
  rfl
theorem chL_x6 : chL ⟨#[120]⟩ 6 = xL6 := by
  show putL (putL (chL ⟨#[120]⟩ 5) ⟨chD ⟨#[120]⟩ 5, chB ⟨#[120]⟩ 5, false⟩) ⟨chN ⟨#[120]⟩ 5, mfT (chMf ⟨#[120]⟩ 5), true⟩ = _
  rw [show chL ⟨#[120]⟩ 5 = xL5 from chL_x5, chD_x5, chN_x5, chMf_x5]
  exact put_x6
theorem put_x7 : putL (putL xL6 ⟨xD6, chB ⟨#[120]⟩ 6, false⟩) ⟨xN6, mfT ⟨6, [xD6], [xN5]⟩, true⟩ = xL7 := by kernel_rfl
theorem chMf_x6 : chMf ⟨#[120]⟩ 6 = ⟨6, [xD6], [xN5]⟩ := by
  show (⟨((5 + 1 : Nat) : Int), [chD ⟨#[120]⟩ 6], [chN ⟨#[120]⟩ 5]⟩ : Mf) = _
  rw [chD_x6, chN_x5]
  rfl
theorem chL_x7 : chL ⟨#[120]⟩ 7 = xL7 := by
  show putL (putL (chL ⟨#[120]⟩ 6) ⟨chD ⟨#[120]⟩ 6, chB ⟨#[120]⟩ 6, false⟩) ⟨chN ⟨#[120]⟩ 6, mfT (chMf ⟨#[120]⟩ 6), true⟩ = _
  rw [show chL ⟨#[120]⟩ 6 = xL6 from chL_x6, chD_x6, chN_x6, chMf_x6]
  exact put_x7
theorem put_x8 : putL (putL xL7 ⟨xD7, chB ⟨#[120]⟩ 7, false⟩) ⟨xN7, mfT ⟨7, [xD7], [xN6]⟩, true⟩ = xL8 := by kernel_rfl
theorem chMf_x7 : chMf ⟨#[120]⟩ 7 = ⟨7, [xD7], [xN6]⟩ := by
  show (⟨((6 + 1 : Nat) : Int), [chD ⟨#[120]⟩ 7], [chN ⟨#[120]⟩ 6]⟩ : Mf) = _
  rw [chD_x7, chN_x6]
  rfl
theorem chL_x8 : chL ⟨#[120]⟩ 8 = xL8 := by
  show putL (putL (chL ⟨#[120]⟩ 7) ⟨chD ⟨#[120]⟩ 7, chB ⟨#[120]⟩ 7, false⟩) ⟨chN ⟨#[120]⟩ 7, mfT (chMf ⟨#[120]⟩ 7), true⟩ = _
  rw [show chL ⟨#[120]⟩ 7 = xL7 from chL_x7, chD_x7, chN_x7, chMf_x7]
  exact put_x8
theorem put_x9 : putL (putL xL8 ⟨xD8, chB ⟨#[120]⟩ 8, false⟩) ⟨xN8, mfT ⟨8, [xD8], [xN7]⟩, true⟩ = xL9 := by kernel_rfl
theorem chMf_x8 : chMf ⟨#[120]⟩ 8 = ⟨8, [xD8], [xN7]⟩ := by
  show (⟨((7 + 1 : Nat) : Int), [chD ⟨#[120]⟩ 8], [chN ⟨#[120]⟩ 7]⟩ : Mf) = _
  rw [chD_x8, chN_x7]
  rfl
theorem chL_x9 : chL ⟨#[120]⟩ 9 = xL9 := by
  show putL (putL (chL ⟨#[120]⟩ 8) ⟨chD ⟨#[120]⟩ 8, chB ⟨#[120]⟩ 8, false⟩) ⟨chN ⟨#[120]⟩ 8, mfT (chMf ⟨#[120]⟩ 8), true⟩ = _
  rw [show chL ⟨#[120]⟩ 8 = xL8 from chL_x8, chD_x8, chN_x8, chMf_x8]
  exact put_x9
set_option maxRecDepth 1000000 in
theorem ths_x2 : thsB xL2 = true := by decide +kernel
set_option maxRecDepth 1000000 in
theorem lk_x2 : lkF xL2 = [[], [], [0], [1, 2]] := by decide +kernel
set_option maxRecDepth 1000000 in
theorem ths_x3 : thsB xL3 = true := by decide +kernel
set_option maxRecDepth 1000000 in
theorem lk_x3 : lkF xL3 = [[], [], [], [0], [2, 5], [1, 3]] := by decide +kernel
set_option maxRecDepth 1000000 in
theorem ths_x4 : thsB xL4 = true := by decide +kernel
set_option maxRecDepth 1000000 in
theorem lk_x4 : lkF xL4 = [[], [], [], [], [0], [1, 6], [3, 7], [2, 4]] := by decide +kernel
set_option maxRecDepth 1000000 in
theorem ths_x5 : thsB xL5 = true := by decide +kernel
set_option maxRecDepth 1000000 in
theorem lk_x5 : lkF xL5 = [[], [], [], [], [0, 7], [], [1], [2, 8], [5, 9], [3, 6]] := by decide +kernel
set_option maxRecDepth 1000000 in
theorem ths_x6 : thsB xL6 = true := by decide +kernel
set_option maxRecDepth 1000000 in
theorem lk_x6 : lkF xL6 = [[], [8, 5], [], [], [], [0, 9], [], [2], [], [3, 10], [6, 11], [4, 7]] := by decide +kernel
set_option maxRecDepth 1000000 in
theorem ths_x7 : thsB xL7 = true := by decide +kernel
set_option maxRecDepth 1000000 in
theorem lk_x7 : lkF xL7 = [[], [9, 6], [], [], [10, 1], [], [0, 11], [], [2], [], [], [3, 12], [7, 13], [5, 8]] := by decide +kernel
set_option maxRecDepth 1000000 in
theorem ths_x8 : thsB xL8 = true := by decide +kernel
set_option maxRecDepth 1000000 in
theorem lk_x8 : lkF xL8 = [[], [], [11, 8], [], [1, 6], [], [12, 2], [], [0, 13], [], [3], [], [], [5, 14], [9, 15], [7, 10]] := by decide +kernel
set_option maxRecDepth 1000000 in
theorem ths_x9 : thsB xL9 = true := by decide +kernel
set_option maxRecDepth 1000000 in
theorem lk_x9 : lkF xL9 = [[], [], [12, 9], [], [1, 6], [], [14, 2], [], [], [0, 15], [], [3], [], [8, 4], [], [5, 16], [10, 17], [7, 11]] := by decide +kernel
end Go.Proofs.Ytdllenoclnmmdaa
