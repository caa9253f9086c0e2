/- The chain whose salt is "y" as literal lists: things that may be, what each names (nothing of the program). -/
import Derived.Test.YtdllenoclnmmdaaChy
namespace Go.Proofs.Ytdllenoclnmmdaa
open Go.RowKit Go.Shelf

def yL0 : List Th := []
def yL1 : List Th := [⟨yD0, chB ⟨#[121]⟩ 0, false⟩, ⟨yN0, mfT ⟨0, [yD0], []⟩, true⟩]
def yL2 : List Th := [⟨yD0, chB ⟨#[121]⟩ 0, false⟩, ⟨yN0, mfT ⟨0, [yD0], []⟩, true⟩, ⟨yD1, chB ⟨#[121]⟩ 1, false⟩, ⟨yN1, mfT ⟨1, [yD1], [yN0]⟩, true⟩]
def yL3 : List Th := [⟨yD2, chB ⟨#[121]⟩ 2, false⟩, ⟨yD0, chB ⟨#[121]⟩ 0, false⟩, ⟨yN2, mfT ⟨2, [yD2], [yN1]⟩, true⟩, ⟨yN0, mfT ⟨0, [yD0], []⟩, true⟩, ⟨yD1, chB ⟨#[121]⟩ 1, false⟩, ⟨yN1, mfT ⟨1, [yD1], [yN0]⟩, true⟩]
def yL4 : List Th := [⟨yN3, mfT ⟨3, [yD3], [yN2]⟩, true⟩, ⟨yD2, chB ⟨#[121]⟩ 2, false⟩, ⟨yD3, chB ⟨#[121]⟩ 3, false⟩, ⟨yD0, chB ⟨#[121]⟩ 0, false⟩, ⟨yN2, mfT ⟨2, [yD2], [yN1]⟩, true⟩, ⟨yN0, mfT ⟨0, [yD0], []⟩, true⟩, ⟨yD1, chB ⟨#[121]⟩ 1, false⟩, ⟨yN1, mfT ⟨1, [yD1], [yN0]⟩, true⟩]
def yL5 : List Th := [⟨yN3, mfT ⟨3, [yD3], [yN2]⟩, true⟩, ⟨yD2, chB ⟨#[121]⟩ 2, false⟩, ⟨yD3, chB ⟨#[121]⟩ 3, false⟩, ⟨yD0, chB ⟨#[121]⟩ 0, false⟩, ⟨yN4, mfT ⟨4, [yD4], [yN3]⟩, true⟩, ⟨yN2, mfT ⟨2, [yD2], [yN1]⟩, true⟩, ⟨yN0, mfT ⟨0, [yD0], []⟩, true⟩, ⟨yD1, chB ⟨#[121]⟩ 1, false⟩, ⟨yN1, mfT ⟨1, [yD1], [yN0]⟩, true⟩, ⟨yD4, chB ⟨#[121]⟩ 4, false⟩]
def yL6 : List Th := [⟨yN3, mfT ⟨3, [yD3], [yN2]⟩, true⟩, ⟨yN5, mfT ⟨5, [yD5], [yN4]⟩, true⟩, ⟨yD2, chB ⟨#[121]⟩ 2, false⟩, ⟨yD3, chB ⟨#[121]⟩ 3, false⟩, ⟨yD0, chB ⟨#[121]⟩ 0, false⟩, ⟨yN4, mfT ⟨4, [yD4], [yN3]⟩, true⟩, ⟨yN2, mfT ⟨2, [yD2], [yN1]⟩, true⟩, ⟨yN0, mfT ⟨0, [yD0], []⟩, true⟩, ⟨yD1, chB ⟨#[121]⟩ 1, false⟩, ⟨yN1, mfT ⟨1, [yD1], [yN0]⟩, true⟩, ⟨yD4, chB ⟨#[121]⟩ 4, false⟩, ⟨yD5, chB ⟨#[121]⟩ 5, false⟩]
def yL7 : List Th := [⟨yD6, chB ⟨#[121]⟩ 6, false⟩, ⟨yN3, mfT ⟨3, [yD3], [yN2]⟩, true⟩, ⟨yN5, mfT ⟨5, [yD5], [yN4]⟩, true⟩, ⟨yD2, chB ⟨#[121]⟩ 2, false⟩, ⟨yD3, chB ⟨#[121]⟩ 3, false⟩, ⟨yD0, chB ⟨#[121]⟩ 0, false⟩, ⟨yN4, mfT ⟨4, [yD4], [yN3]⟩, true⟩, ⟨yN2, mfT ⟨2, [yD2], [yN1]⟩, true⟩, ⟨yN0, mfT ⟨0, [yD0], []⟩, true⟩, ⟨yN6, mfT ⟨6, [yD6], [yN5]⟩, true⟩, ⟨yD1, chB ⟨#[121]⟩ 1, false⟩, ⟨yN1, mfT ⟨1, [yD1], [yN0]⟩, true⟩, ⟨yD4, chB ⟨#[121]⟩ 4, false⟩, ⟨yD5, chB ⟨#[121]⟩ 5, false⟩]
def yL8 : List Th := [⟨yN7, mfT ⟨7, [yD7], [yN6]⟩, true⟩, ⟨yD6, chB ⟨#[121]⟩ 6, false⟩, ⟨yN3, mfT ⟨3, [yD3], [yN2]⟩, true⟩, ⟨yN5, mfT ⟨5, [yD5], [yN4]⟩, true⟩, ⟨yD2, chB ⟨#[121]⟩ 2, false⟩, ⟨yD3, chB ⟨#[121]⟩ 3, false⟩, ⟨yD0, chB ⟨#[121]⟩ 0, false⟩, ⟨yN4, mfT ⟨4, [yD4], [yN3]⟩, true⟩, ⟨yD7, chB ⟨#[121]⟩ 7, false⟩, ⟨yN2, mfT ⟨2, [yD2], [yN1]⟩, true⟩, ⟨yN0, mfT ⟨0, [yD0], []⟩, true⟩, ⟨yN6, mfT ⟨6, [yD6], [yN5]⟩, true⟩, ⟨yD1, chB ⟨#[121]⟩ 1, false⟩, ⟨yN1, mfT ⟨1, [yD1], [yN0]⟩, true⟩, ⟨yD4, chB ⟨#[121]⟩ 4, false⟩, ⟨yD5, chB ⟨#[121]⟩ 5, false⟩]
def yL9 : List Th := [⟨yN7, mfT ⟨7, [yD7], [yN6]⟩, true⟩, ⟨yD6, chB ⟨#[121]⟩ 6, false⟩, ⟨yN3, mfT ⟨3, [yD3], [yN2]⟩, true⟩, ⟨yN5, mfT ⟨5, [yD5], [yN4]⟩, true⟩, ⟨yD2, chB ⟨#[121]⟩ 2, false⟩, ⟨yD3, chB ⟨#[121]⟩ 3, false⟩, ⟨yD0, chB ⟨#[121]⟩ 0, false⟩, ⟨yD8, chB ⟨#[121]⟩ 8, false⟩, ⟨yN4, mfT ⟨4, [yD4], [yN3]⟩, true⟩, ⟨yD7, chB ⟨#[121]⟩ 7, false⟩, ⟨yN2, mfT ⟨2, [yD2], [yN1]⟩, true⟩, ⟨yN0, mfT ⟨0, [yD0], []⟩, true⟩, ⟨yN6, mfT ⟨6, [yD6], [yN5]⟩, true⟩, ⟨yD1, chB ⟨#[121]⟩ 1, false⟩, ⟨yN8, mfT ⟨8, [yD8], [yN7]⟩, true⟩, ⟨yN1, mfT ⟨1, [yD1], [yN0]⟩, true⟩, ⟨yD4, chB ⟨#[121]⟩ 4, false⟩, ⟨yD5, chB ⟨#[121]⟩ 5, false⟩]
theorem put_y1 : putL (putL yL0 ⟨yD0, chB ⟨#[121]⟩ 0, false⟩) ⟨yN0, mfT ⟨0, [yD0], []⟩, true⟩ = yL1 := by kernel_rfl
theorem chMf_y0 : chMf ⟨#[121]⟩ 0 = ⟨0, [yD0], []⟩ := by
  show (⟨0, [chD ⟨#[121]⟩ 0], []⟩ : Mf) = _
  rw [chD_y0]
theorem chL_y1 : chL ⟨#[121]⟩ 1 = yL1 := by
  show putL (putL (chL ⟨#[121]⟩ 0) ⟨chD ⟨#[121]⟩ 0, chB ⟨#[121]⟩ 0, false⟩) ⟨chN ⟨#[121]⟩ 0, mfT (chMf ⟨#[121]⟩ 0), true⟩ = _
  rw [show chL ⟨#[121]⟩ 0 = yL0 from rfl, chD_y0, chN_y0, chMf_y0]
  exact put_y1
theorem put_y2 : putL (putL yL1 ⟨yD1, chB ⟨#[121]⟩ 1, false⟩) ⟨yN1, mfT ⟨1, [yD1], [yN0]⟩, true⟩ = yL2 := by kernel_rfl
theorem chMf_y1 : chMf ⟨#[121]⟩ 1 = ⟨1, [yD1], [yN0]⟩ := by
  show (⟨((0 + 1 : Nat) : Int), [chD ⟨#[121]⟩ 1], [chN ⟨#[121]⟩ 0]⟩ : Mf) = _
  rw [chD_y1, chN_y0]
  rfl
theorem chL_y2 : chL ⟨#[121]⟩ 2 = yL2 := by
  show putL (putL (chL ⟨#[121]⟩ 1) ⟨chD ⟨#[121]⟩ 1, chB ⟨#[121]⟩ 1, false⟩) ⟨chN ⟨#[121]⟩ 1, mfT (chMf ⟨#[121]⟩ 1), true⟩ = _
  rw [show chL ⟨#[121]⟩ 1 = yL1 from chL_y1, chD_y1, chN_y1, chMf_y1]
  exact put_y2
theorem put_y3 : putL (putL yL2 ⟨yD2, chB ⟨#[121]⟩ 2, false⟩) ⟨yN2, mfT ⟨2, [yD2], [yN1]⟩, true⟩ = yL3 := by kernel_rfl
theorem chMf_y2 : chMf ⟨#[121]⟩ 2 = ⟨2, [yD2], [yN1]⟩ := by
  show (⟨((1 + 1 : Nat) : Int), [chD ⟨#[121]⟩ 2], [chN ⟨#[121]⟩ 1]⟩ : Mf) = _
  rw [chD_y2, chN_y1]
  rfl
theorem chL_y3 : chL ⟨#[121]⟩ 3 = yL3 := by
  show putL (putL (chL ⟨#[121]⟩ 2) ⟨chD ⟨#[121]⟩ 2, chB ⟨#[121]⟩ 2, false⟩) ⟨chN ⟨#[121]⟩ 2, mfT (chMf ⟨#[121]⟩ 2), true⟩ = _
  rw [show chL ⟨#[121]⟩ 2 = yL2 from chL_y2, chD_y2, chN_y2, chMf_y2]
  exact put_y3
theorem put_y4 : putL (putL yL3 ⟨yD3, chB ⟨#[121]⟩ 3, false⟩) ⟨yN3, mfT ⟨3, [yD3], [yN2]⟩, true⟩ = yL4 := by kernel_rfl
theorem chMf_y3 : chMf ⟨#[121]⟩ 3 = ⟨3, [yD3], [yN2]⟩ := by
  show (⟨((2 + 1 : Nat) : Int), [chD ⟨#[121]⟩ 3], [chN ⟨#[121]⟩ 2]⟩ : Mf) = _
  rw [chD_y3, chN_y2]
  rfl
theorem chL_y4 : chL ⟨#[121]⟩ 4 = yL4 := by
  show putL (putL (chL ⟨#[121]⟩ 3) ⟨chD ⟨#[121]⟩ 3, chB ⟨#[121]⟩ 3, false⟩) ⟨chN ⟨#[121]⟩ 3, mfT (chMf ⟨#[121]⟩ 3), true⟩ = _
  rw [show chL ⟨#[121]⟩ 3 = yL3 from chL_y3, chD_y3, chN_y3, chMf_y3]
  exact put_y4
theorem put_y5 : putL (putL yL4 ⟨yD4, chB ⟨#[121]⟩ 4, false⟩) ⟨yN4, mfT ⟨4, [yD4], [yN3]⟩, true⟩ = yL5 := by kernel_rfl
theorem chMf_y4 : chMf ⟨#[121]⟩ 4 = ⟨4, [yD4], [yN3]⟩ := by
  show (⟨((3 + 1 : Nat) : Int), [chD ⟨#[121]⟩ 4], [chN ⟨#[121]⟩ 3]⟩ : Mf) = _
  rw [chD_y4, chN_y3]
  rfl
theorem chL_y5 : chL ⟨#[121]⟩ 5 = yL5 := by
  show putL (putL (chL ⟨#[121]⟩ 4) ⟨chD ⟨#[121]⟩ 4, chB ⟨#[121]⟩ 4, false⟩) ⟨chN ⟨#[121]⟩ 4, mfT (chMf ⟨#[121]⟩ 4), true⟩ = _
  rw [show chL ⟨#[121]⟩ 4 = yL4 from chL_y4, chD_y4, chN_y4, chMf_y4]
  exact put_y5
theorem put_y6 : putL (putL yL5 ⟨yD5, chB ⟨#[121]⟩ 5, false⟩) ⟨yN5, mfT ⟨5, [yD5], [yN4]⟩, true⟩ = yL6 := by kernel_rfl
theorem chMf_y5 : chMf ⟨#[121]⟩ 5 = ⟨5, [yD5], [yN4]⟩ := by
  show (⟨((4 + 1 : Nat) : Int), [chD ⟨#[121]⟩ 5], [chN ⟨#[121]⟩ 4]⟩ : Mf) = _
  rw [chD_y5, chN_y4]
  rfl
theorem chL_y6 : chL ⟨#[121]⟩ 6 = yL6 := by
  show putL (putL (chL ⟨#[121]⟩ 5) ⟨chD ⟨#[121]⟩ 5, chB ⟨#[121]⟩ 5, false⟩) ⟨chN ⟨#[121]⟩ 5, mfT (chMf ⟨#[121]⟩ 5), true⟩ = _
  rw [show chL ⟨#[121]⟩ 5 = yL5 from chL_y5, chD_y5, chN_y5, chMf_y5]
  exact put_y6
theorem put_y7 : putL (putL yL6 ⟨yD6, chB ⟨#[121]⟩ 6, false⟩) ⟨yN6, mfT ⟨6, [yD6], [yN5]⟩, true⟩ = yL7 := by kernel_rfl
theorem chMf_y6 : chMf ⟨#[121]⟩ 6 = ⟨6, [yD6], [yN5]⟩ := by
  show (⟨((5 + 1 : Nat) : Int), [chD ⟨#[121]⟩ 6], [chN ⟨#[121]⟩ 5]⟩ : Mf) = _
  rw [chD_y6, chN_y5]
  rfl
theorem chL_y7 : chL ⟨#[121]⟩ 7 = yL7 := by
  show putL (putL (chL ⟨#[121]⟩ 6) ⟨chD ⟨#[121]⟩ 6, chB ⟨#[121]⟩ 6, false⟩) ⟨chN ⟨#[121]⟩ 6, mfT (chMf ⟨#[121]⟩ 6), true⟩ = _
  rw [show chL ⟨#[121]⟩ 6 = yL6 from chL_y6, chD_y6, chN_y6, chMf_y6]
  exact put_y7
theorem put_y8 : putL (putL yL7 ⟨yD7, chB ⟨#[121]⟩ 7, false⟩) ⟨yN7, mfT ⟨7, [yD7], [yN6]⟩, true⟩ = yL8 := by kernel_rfl
theorem chMf_y7 : chMf ⟨#[121]⟩ 7 = ⟨7, [yD7], [yN6]⟩ := by
  show (⟨((6 + 1 : Nat) : Int), [chD ⟨#[121]⟩ 7], [chN ⟨#[121]⟩ 6]⟩ : Mf) = _
  rw [chD_y7, chN_y6]
  rfl
theorem chL_y8 : chL ⟨#[121]⟩ 8 = yL8 := by
  show putL (putL (chL ⟨#[121]⟩ 7) ⟨chD ⟨#[121]⟩ 7, chB ⟨#[121]⟩ 7, false⟩) ⟨chN ⟨#[121]⟩ 7, mfT (chMf ⟨#[121]⟩ 7), true⟩ = _
  rw [show chL ⟨#[121]⟩ 7 = yL7 from chL_y7, chD_y7, chN_y7, chMf_y7]
  exact put_y8
theorem put_y9 : putL (putL yL8 ⟨yD8, chB ⟨#[121]⟩ 8, false⟩) ⟨yN8, mfT ⟨8, [yD8], [yN7]⟩, true⟩ = yL9 := by kernel_rfl
theorem chMf_y8 : chMf ⟨#[121]⟩ 8 = ⟨8, [yD8], [yN7]⟩ := by
  show (⟨((7 + 1 : Nat) : Int), [chD ⟨#[121]⟩ 8], [chN ⟨#[121]⟩ 7]⟩ : Mf) = _
  rw [chD_y8, chN_y7]
  rfl
theorem chL_y9 : chL ⟨#[121]⟩ 9 = yL9 := by
  show putL (putL (chL ⟨#[121]⟩ 8) ⟨chD ⟨#[121]⟩ 8, chB ⟨#[121]⟩ 8, false⟩) ⟨chN ⟨#[121]⟩ 8, mfT (chMf ⟨#[121]⟩ 8), true⟩ = _
  rw [show chL ⟨#[121]⟩ 8 = yL8 from chL_y8, chD_y8, chN_y8, chMf_y8]
  exact put_y9
set_option maxRecDepth 1000000 in
theorem ths_y2 : thsB yL2 = true := by decide +kernel
set_option maxRecDepth 1000000 in
theorem lk_y2 : lkF yL2 = [[], [0], [], [2, 1]] := by decide +kernel
set_option maxRecDepth 1000000 in
theorem ths_y3 : thsB yL3 = true := by decide +kernel
set_option maxRecDepth 1000000 in
theorem lk_y3 : lkF yL3 = [[], [], [0, 5], [1], [], [4, 3]] := by decide +kernel
set_option maxRecDepth 1000000 in
theorem ths_y4 : thsB yL4 = true := by decide +kernel
set_option maxRecDepth 1000000 in
theorem lk_y4 : lkF yL4 = [[2, 4], [], [], [], [1, 7], [3], [], [6, 5]] := by decide +kernel
set_option maxRecDepth 1000000 in
theorem ths_y5 : thsB yL5 = true := by decide +kernel
set_option maxRecDepth 1000000 in
theorem lk_y5 : lkF yL5 = [[2, 5], [], [], [], [9, 0], [1, 8], [3], [], [7, 6], []] := by decide +kernel
set_option maxRecDepth 1000000 in
theorem ths_y6 : thsB yL6 = true := by decide +kernel
set_option maxRecDepth 1000000 in
theorem lk_y6 : lkF yL6 = [[3, 6], [11, 5], [], [], [], [10, 0], [2, 9], [4], [], [8, 7], [], []] := by decide +kernel
set_option maxRecDepth 1000000 in
theorem ths_y7 : thsB yL7 = true := by decide +kernel
set_option maxRecDepth 1000000 in
theorem lk_y7 : lkF yL7 = [[], [4, 7], [13, 6], [], [], [], [12, 1], [3, 11], [5], [0, 2], [], [10, 8], [], []] := by decide +kernel
set_option maxRecDepth 1000000 in
theorem ths_y8 : thsB yL8 = true := by decide +kernel
set_option maxRecDepth 1000000 in
theorem lk_y8 : lkF yL8 = [[8, 11], [], [5, 9], [15, 7], [], [], [], [14, 2], [], [4, 13], [6], [1, 3], [], [12, 10], [], []] := by decide +kernel
set_option maxRecDepth 1000000 in
theorem ths_y9 : thsB yL9 = true := by decide +kernel
set_option maxRecDepth 1000000 in
theorem lk_y9 : lkF yL9 = [[9, 12], [], [5, 10], [17, 8], [], [], [], [], [16, 2], [], [4, 15], [6], [1, 3], [], [7, 0], [13, 11], [], []] := by decide +kernel
end Go.Proofs.Ytdllenoclnmmdaa
