/- The digests of the chain whose salt is "y", reckoned (nothing of the program). -/
import Derived.Test.YtdllenoclnmmdaaGc
namespace Go.Proofs.Ytdllenoclnmmdaa
open Go.RowKit Go.Shelf

def yD0 : ByteArray := ⟨#[138, 186, 104, 159, 97, 119, 129, 185, 204, 165, 28, 125, 164, 114, 137, 163, 194, 188, 172, 162, 3, 151, 81, 156, 51, 74, 167, 103, 187, 186, 120, 45]⟩
def yN0 : ByteArray := ⟨#[172, 216, 73, 218, 44, 251, 19, 44, 22, 158, 26, 41, 16, 198, 30, 63, 78, 77, 179, 223, 158, 149, 11, 135, 64, 119, 155, 247, 3, 115, 237, 173]⟩
def yD1 : ByteArray := ⟨#[198, 61, 210, 41, 24, 51, 254, 219, 176, 194, 162, 171, 124, 249, 66, 194, 59, 224, 133, 10, 125, 246, 160, 73, 81, 20, 111, 127, 63, 134, 132, 48]⟩
def yN1 : ByteArray := ⟨#[246, 129, 111, 216, 182, 57, 236, 126, 101, 108, 37, 212, 63, 93, 83, 5, 81, 169, 199, 200, 133, 187, 171, 200, 81, 48, 135, 14, 157, 187, 171, 47]⟩
def yD2 : ByteArray := ⟨#[63, 192, 151, 95, 225, 214, 110, 192, 37, 134, 56, 162, 147, 182, 248, 201, 56, 172, 249, 23, 101, 95, 70, 192, 201, 132, 144, 141, 118, 56, 243, 174]⟩
def yN2 : ByteArray := ⟨#[162, 196, 207, 186, 9, 239, 83, 156, 124, 148, 249, 18, 124, 54, 159, 211, 238, 154, 239, 206, 143, 227, 195, 187, 188, 250, 248, 126, 64, 233, 118, 131]⟩
def yD3 : ByteArray := ⟨#[78, 36, 254, 54, 222, 149, 113, 167, 247, 3, 131, 142, 217, 94, 58, 91, 69, 117, 133, 3, 228, 29, 252, 12, 14, 199, 183, 100, 0, 252, 181, 120]⟩
def yN3 : ByteArray := ⟨#[25, 244, 203, 185, 118, 143, 254, 1, 219, 160, 113, 224, 222, 134, 232, 98, 106, 99, 58, 40, 152, 151, 92, 252, 136, 133, 180, 14, 201, 118, 51, 211]⟩
def yD4 : ByteArray := ⟨#[249, 117, 195, 153, 17, 79, 79, 3, 144, 71, 72, 238, 145, 35, 83, 165, 186, 88, 140, 114, 107, 120, 235, 27, 16, 19, 148, 212, 208, 195, 39, 151]⟩
def yN4 : ByteArray := ⟨#[160, 216, 83, 20, 12, 7, 59, 25, 100, 249, 212, 142, 187, 84, 90, 15, 198, 134, 40, 151, 145, 5, 2, 40, 39, 237, 111, 32, 204, 25, 216, 22]⟩
def yD5 : ByteArray := ⟨#[252, 109, 196, 216, 91, 194, 251, 147, 94, 26, 238, 115, 186, 100, 66, 3, 224, 212, 105, 171, 10, 130, 248, 90, 139, 189, 89, 188, 3, 35, 211, 99]⟩
def yN5 : ByteArray := ⟨#[37, 235, 43, 68, 45, 125, 250, 155, 21, 124, 149, 133, 162, 49, 241, 181, 226, 244, 69, 15, 195, 91, 173, 147, 220, 183, 162, 237, 97, 99, 81, 251]⟩
def yD6 : ByteArray := ⟨#[19, 25, 50, 28, 4, 5, 102, 166, 118, 200, 189, 170, 57, 4, 187, 233, 190, 249, 235, 68, 3, 46, 187, 193, 96, 237, 132, 26, 99, 128, 107, 105]⟩
def yN6 : ByteArray := ⟨#[176, 8, 73, 199, 22, 15, 86, 218, 177, 51, 132, 190, 62, 215, 78, 162, 78, 10, 120, 250, 232, 173, 12, 38, 46, 201, 205, 6, 99, 28, 128, 192]⟩
def yD7 : ByteArray := ⟨#[162, 11, 122, 223, 77, 143, 79, 148, 138, 25, 165, 11, 98, 175, 130, 230, 253, 116, 190, 0, 143, 115, 8, 156, 176, 57, 150, 14, 89, 119, 141, 116]⟩
def yN7 : ByteArray := ⟨#[8, 197, 129, 153, 100, 86, 179, 224, 21, 57, 243, 184, 211, 60, 89, 8, 232, 185, 16, 203, 160, 212, 27, 113, 231, 50, 20, 138, 75, 57, 137, 144]⟩
def yD8 : ByteArray := ⟨#[143, 22, 143, 91, 42, 103, 244, 187, 4, 107, 222, 108, 48, 26, 40, 74, 162, 220, 186, 68, 69, 222, 10, 92, 56, 147, 94, 244, 99, 192, 26, 197]⟩
def yN8 : ByteArray := ⟨#[229, 143, 15, 176, 184, 217, 106, 220, 140, 224, 31, 65, 247, 53, 150, 102, 194, 55, 149, 2, 104, 243, 96, 99, 255, 54, 155, 64, 33, 11, 94, 93]⟩
set_option maxRecDepth 1000000 in
theorem chD_y0 : chD ⟨#[121]⟩ 0 = yD0 := by decide +kernel
set_option maxRecDepth 1000000 in
theorem mfd_y0 : dg (mfT ⟨0, [yD0], []⟩).data.toList = yN0 := by decide +kernel
theorem chN_y0 : chN ⟨#[121]⟩ 0 = yN0 := by
  show dg (mfT ⟨0, [chD ⟨#[121]⟩ 0], []⟩).data.toList = _
  rw [chD_y0, mfd_y0]
set_option maxRecDepth 1000000 in
theorem chD_y1 : chD ⟨#[121]⟩ 1 = yD1 := by decide +kernel
set_option maxRecDepth 1000000 in
theorem mfd_y1 : dg (mfT ⟨1, [yD1], [yN0]⟩).data.toList = yN1 := by decide +kernel
theorem chN_y1 : chN ⟨#[121]⟩ 1 = yN1 := by
  show dg (mfT ⟨((0 + 1 : Nat) : Int), [chD ⟨#[121]⟩ 1], [chN ⟨#[121]⟩ 0]⟩).data.toList = _
  rw [chD_y1, chN_y0]
  exact mfd_y1
set_option maxRecDepth 1000000 in
theorem chD_y2 : chD ⟨#[121]⟩ 2 = yD2 := by decide +kernel
set_option maxRecDepth 1000000 in
theorem mfd_y2 : dg (mfT ⟨2, [yD2], [yN1]⟩).data.toList = yN2 := by decide +kernel
theorem chN_y2 : chN ⟨#[121]⟩ 2 = yN2 := by
  show dg (mfT ⟨((1 + 1 : Nat) : Int), [chD ⟨#[121]⟩ 2], [chN ⟨#[121]⟩ 1]⟩).data.toList = _
  rw [chD_y2, chN_y1]
  exact mfd_y2
set_option maxRecDepth 1000000 in
theorem chD_y3 : chD ⟨#[121]⟩ 3 = yD3 := by decide +kernel
set_option maxRecDepth 1000000 in
theorem mfd_y3 : dg (mfT ⟨3, [yD3], [yN2]⟩).data.toList = yN3 := by decide +kernel
theorem chN_y3 : chN ⟨#[121]⟩ 3 = yN3 := by
  show dg (mfT ⟨((2 + 1 : Nat) : Int), [chD ⟨#[121]⟩ 3], [chN ⟨#[121]⟩ 2]⟩).data.toList = _
  rw [chD_y3, chN_y2]
  exact mfd_y3
set_option maxRecDepth 1000000 in
theorem chD_y4 : chD ⟨#[121]⟩ 4 = yD4 := by decide +kernel
set_option maxRecDepth 1000000 in
theorem mfd_y4 : dg (mfT ⟨4, [yD4], [yN3]⟩).data.toList = yN4 := by decide +kernel
theorem chN_y4 : chN ⟨#[121]⟩ 4 = yN4 := by
  show dg (mfT ⟨((3 + 1 : Nat) : Int), [chD ⟨#[121]⟩ 4], [chN ⟨#[121]⟩ 3]⟩).data.toList = _
  rw [chD_y4, chN_y3]
  exact mfd_y4
set_option maxRecDepth 1000000 in
theorem chD_y5 : chD ⟨#[121]⟩ 5 = yD5 := by decide +kernel
set_option maxRecDepth 1000000 in
theorem mfd_y5 : dg (mfT ⟨5, [yD5], [yN4]⟩).data.toList = yN5 := by decide +kernel
theorem chN_y5 : chN ⟨#[121]⟩ 5 = yN5 := by
  show dg (mfT ⟨((4 + 1 : Nat) : Int), [chD ⟨#[121]⟩ 5], [chN ⟨#[121]⟩ 4]⟩).data.toList = _
  rw [chD_y5, chN_y4]
  exact mfd_y5
set_option maxRecDepth 1000000 in
theorem chD_y6 : chD ⟨#[121]⟩ 6 = yD6 := by decide +kernel
set_option maxRecDepth 1000000 in
theorem mfd_y6 : dg (mfT ⟨6, [yD6], [yN5]⟩).data.toList = yN6 := by decide +kernel
theorem chN_y6 : chN ⟨#[121]⟩ 6 = yN6 := by
  show dg (mfT ⟨((5 + 1 : Nat) : Int), [chD ⟨#[121]⟩ 6], [chN ⟨#[121]⟩ 5]⟩).data.toList = _
  rw [chD_y6, chN_y5]
  exact mfd_y6
set_option maxRecDepth 1000000 in
theorem chD_y7 : chD ⟨#[121]⟩ 7 = yD7 := by decide +kernel
set_option maxRecDepth 1000000 in
theorem mfd_y7 : dg (mfT ⟨7, [yD7], [yN6]⟩).data.toList = yN7 := by decide +kernel
theorem chN_y7 : chN ⟨#[121]⟩ 7 = yN7 := by
  show dg (mfT ⟨((6 + 1 : Nat) : Int), [chD ⟨#[121]⟩ 7], [chN ⟨#[121]⟩ 6]⟩).data.toList = _
  rw [chD_y7, chN_y6]
  exact mfd_y7
set_option maxRecDepth 1000000 in
theorem chD_y8 : chD ⟨#[121]⟩ 8 = yD8 := by decide +kernel
set_option maxRecDepth 1000000 in
theorem mfd_y8 : dg (mfT ⟨8, [yD8], [yN7]⟩).data.toList = yN8 := by decide +kernel
theorem chN_y8 : chN ⟨#[121]⟩ 8 = yN8 := by
  show dg (mfT ⟨((7 + 1 : Nat) : Int), [chD ⟨#[121]⟩ 8], [chN ⟨#[121]⟩ 7]⟩).data.toList = _
  rw [chD_y8, chN_y7]
  exact mfd_y8
end Go.Proofs.Ytdllenoclnmmdaa
