/- The digests of the chain whose salt is "x", reckoned (nothing of the program). -/
import Derived.Test.YtdllenoclnmmdaaGc
namespace Go.Proofs.Ytdllenoclnmmdaa
open Go.RowKit Go.Shelf

def xD0 : ByteArray := ⟨#[67, 11, 1, 166, 135, 248, 217, 225, 210, 244, 88, 16, 88, 179, 8, 140, 83, 146, 211, 158, 2, 221, 150, 168, 83, 94, 239, 129, 136, 6, 128, 252]⟩
def xN0 : ByteArray := ⟨#[139, 84, 176, 178, 2, 40, 208, 90, 39, 54, 87, 123, 82, 229, 193, 243, 98, 153, 130, 216, 79, 127, 246, 200, 131, 193, 15, 237, 235, 62, 241, 132]⟩
def xD1 : ByteArray := ⟨#[91, 113, 241, 122, 7, 190, 211, 6, 25, 133, 36, 51, 103, 100, 205, 103, 178, 163, 56, 245, 249, 51, 252, 139, 82, 73, 101, 222, 154, 92, 133, 33]⟩
def xN1 : ByteArray := ⟨#[246, 193, 151, 228, 46, 235, 133, 237, 231, 156, 143, 200, 241, 114, 147, 208, 199, 79, 69, 94, 190, 50, 95, 17, 227, 65, 241, 13, 179, 57, 17, 164]⟩
def xD2 : ByteArray := ⟨#[136, 254, 100, 149, 65, 94, 147, 30, 9, 132, 17, 5, 55, 71, 153, 220, 60, 106, 35, 223, 205, 204, 231, 143, 234, 96, 83, 115, 160, 63, 215, 171]⟩
def xN2 : ByteArray := ⟨#[244, 121, 116, 135, 233, 85, 175, 104, 188, 217, 81, 49, 60, 106, 57, 0, 173, 242, 192, 77, 233, 249, 236, 48, 180, 73, 239, 166, 128, 223, 207, 62]⟩
def xD3 : ByteArray := ⟨#[87, 13, 218, 116, 54, 50, 156, 130, 61, 89, 24, 19, 81, 37, 246, 125, 218, 129, 158, 171, 217, 111, 127, 159, 202, 250, 86, 40, 125, 195, 215, 53]⟩
def xN3 : ByteArray := ⟨#[238, 108, 148, 161, 104, 182, 211, 85, 198, 91, 112, 143, 109, 135, 234, 113, 126, 189, 135, 38, 59, 50, 181, 163, 249, 211, 150, 245, 142, 83, 187, 243]⟩
def xD4 : ByteArray := ⟨#[21, 126, 165, 36, 232, 54, 132, 181, 38, 237, 181, 67, 235, 75, 0, 47, 147, 187, 44, 202, 100, 173, 30, 133, 239, 85, 95, 156, 224, 1, 209, 245]⟩
def xN4 : ByteArray := ⟨#[119, 33, 108, 152, 117, 17, 38, 6, 85, 239, 27, 176, 146, 221, 226, 5, 27, 27, 58, 32, 116, 119, 156, 126, 227, 25, 228, 143, 111, 60, 123, 127]⟩
def xD5 : ByteArray := ⟨#[151, 195, 119, 170, 221, 234, 142, 152, 7, 117, 222, 20, 163, 84, 80, 33, 12, 10, 204, 26, 130, 30, 68, 71, 185, 58, 21, 168, 97, 50, 154, 8]⟩
def xN5 : ByteArray := ⟨#[37, 235, 227, 125, 208, 249, 241, 153, 241, 112, 164, 152, 82, 245, 63, 237, 46, 209, 80, 254, 225, 113, 130, 25, 230, 150, 29, 156, 255, 70, 62, 111]⟩
def xD6 : ByteArray := ⟨#[230, 23, 195, 176, 7, 240, 175, 155, 192, 238, 141, 191, 108, 190, 225, 143, 67, 167, 13, 48, 201, 160, 147, 22, 36, 195, 6, 166, 195, 246, 186, 132]⟩
def xN6 : ByteArray := ⟨#[89, 193, 85, 30, 35, 131, 22, 202, 65, 222, 160, 46, 24, 147, 91, 172, 159, 226, 147, 220, 214, 27, 229, 196, 116, 219, 213, 168, 29, 123, 0, 15]⟩
def xD7 : ByteArray := ⟨#[33, 253, 58, 132, 5, 56, 67, 163, 102, 226, 193, 85, 126, 221, 223, 121, 172, 199, 170, 231, 159, 241, 206, 19, 253, 84, 107, 237, 222, 206, 17, 163]⟩
def xN7 : ByteArray := ⟨#[77, 82, 129, 133, 127, 24, 212, 108, 148, 127, 78, 96, 250, 170, 142, 170, 76, 70, 190, 86, 22, 18, 248, 66, 103, 2, 160, 148, 229, 147, 59, 1]⟩
def xD8 : ByteArray := ⟨#[102, 98, 194, 106, 30, 225, 191, 141, 24, 49, 90, 213, 119, 87, 10, 169, 36, 68, 251, 218, 51, 206, 0, 101, 122, 199, 126, 40, 246, 104, 221, 28]⟩
def xN8 : ByteArray := ⟨#[179, 16, 145, 216, 222, 154, 129, 65, 189, 231, 243, 239, 143, 31, 67, 77, 118, 24, 46, 67, 102, 119, 93, 61, 96, 11, 101, 18, 213, 6, 234, 214]⟩
set_option maxRecDepth 1000000 in
theorem chD_x0 : chD ⟨#[120]⟩ 0 = xD0 := by decide +kernel
set_option maxRecDepth 1000000 in
theorem mfd_x0 : dg (mfT ⟨0, [xD0], []⟩).data.toList = xN0 := by decide +kernel
theorem chN_x0 : chN ⟨#[120]⟩ 0 = xN0 := by
  show dg (mfT ⟨0, [chD ⟨#[120]⟩ 0], []⟩).data.toList = _
  rw [chD_x0, mfd_x0]
set_option maxRecDepth 1000000 in
theorem chD_x1 : chD ⟨#[120]⟩ 1 = xD1 := by decide +kernel
set_option maxRecDepth 1000000 in
theorem mfd_x1 : dg (mfT ⟨1, [xD1], [xN0]⟩).data.toList = xN1 := by decide +kernel
theorem chN_x1 : chN ⟨#[120]⟩ 1 = xN1 := by
  show dg (mfT ⟨((0 + 1 : Nat) : Int), [chD ⟨#[120]⟩ 1], [chN ⟨#[120]⟩ 0]⟩).data.toList = _
  rw [chD_x1, chN_x0]
  exact mfd_x1
set_option maxRecDepth 1000000 in
theorem chD_x2 : chD ⟨#[120]⟩ 2 = xD2 := by decide +kernel
set_option maxRecDepth 1000000 in
theorem mfd_x2 : dg (mfT ⟨2, [xD2], [xN1]⟩).data.toList = xN2 := by decide +kernel
theorem chN_x2 : chN ⟨#[120]⟩ 2 = xN2 := by
  show dg (mfT ⟨((1 + 1 : Nat) : Int), [chD ⟨#[120]⟩ 2], [chN ⟨#[120]⟩ 1]⟩).data.toList = _
  rw [chD_x2, chN_x1]
  exact mfd_x2
set_option maxRecDepth 1000000 in
theorem chD_x3 : chD ⟨#[120]⟩ 3 = xD3 := by decide +kernel
set_option maxRecDepth 1000000 in
theorem mfd_x3 : dg (mfT ⟨3, [xD3], [xN2]⟩).data.toList = xN3 := by decide +kernel
theorem chN_x3 : chN ⟨#[120]⟩ 3 = xN3 := by
  show dg (mfT ⟨((2 + 1 : Nat) : Int), [chD ⟨#[120]⟩ 3], [chN ⟨#[120]⟩ 2]⟩).data.toList = _
  rw [chD_x3, chN_x2]
  exact mfd_x3
set_option maxRecDepth 1000000 in
theorem chD_x4 : chD ⟨#[120]⟩ 4 = xD4 := by decide +kernel
set_option maxRecDepth 1000000 in
theorem mfd_x4 : dg (mfT ⟨4, [xD4], [xN3]⟩).data.toList = xN4 := by decide +kernel
theorem chN_x4 : chN ⟨#[120]⟩ 4 = xN4 := by
  show dg (mfT ⟨((3 + 1 : Nat) : Int), [chD ⟨#[120]⟩ 4], [chN ⟨#[120]⟩ 3]⟩).data.toList = _
  rw [chD_x4, chN_x3]
  exact mfd_x4
set_option maxRecDepth 1000000 in
theorem chD_x5 : chD ⟨#[120]⟩ 5 = xD5 := by decide +kernel
set_option maxRecDepth 1000000 in
theorem mfd_x5 : dg (mfT ⟨5, [xD5], [xN4]⟩).data.toList = xN5 := by decide +kernel
theorem chN_x5 : chN ⟨#[120]⟩ 5 = xN5 := by
  show dg (mfT ⟨((4 + 1 : Nat) : Int), [chD ⟨#[120]⟩ 5], [chN ⟨#[120]⟩ 4]⟩).data.toList = _
  rw [chD_x5, chN_x4]
  exact mfd_x5
set_option maxRecDepth 1000000 in
theorem chD_x6 : chD ⟨#[120]⟩ 6 = xD6 := by decide +kernel
set_option maxRecDepth 1000000 in
theorem mfd_x6 : dg (mfT ⟨6, [xD6], [xN5]⟩).data.toList = xN6 := by decide +kernel
theorem chN_x6 : chN ⟨#[120]⟩ 6 = xN6 := by
  show dg (mfT ⟨((5 + 1 : Nat) : Int), [chD ⟨#[120]⟩ 6], [chN ⟨#[120]⟩ 5]⟩).data.toList = _
  rw [chD_x6, chN_x5]
  exact mfd_x6
set_option maxRecDepth 1000000 in
theorem chD_x7 : chD ⟨#[120]⟩ 7 = xD7 := by decide +kernel
set_option maxRecDepth 1000000 in
theorem mfd_x7 : dg (mfT ⟨7, [xD7], [xN6]⟩).data.toList = xN7 := by decide +kernel
theorem chN_x7 : chN ⟨#[120]⟩ 7 = xN7 := by
  show dg (mfT ⟨((6 + 1 : Nat) : Int), [chD ⟨#[120]⟩ 7], [chN ⟨#[120]⟩ 6]⟩).data.toList = _
  rw [chD_x7, chN_x6]
  exact mfd_x7
set_option maxRecDepth 1000000 in
theorem chD_x8 : chD ⟨#[120]⟩ 8 = xD8 := by decide +kernel
set_option maxRecDepth 1000000 in
theorem mfd_x8 : dg (mfT ⟨8, [xD8], [xN7]⟩).data.toList = xN8 := by decide +kernel
theorem chN_x8 : chN ⟨#[120]⟩ 8 = xN8 := by
  show dg (mfT ⟨((7 + 1 : Nat) : Int), [chD ⟨#[120]⟩ 8], [chN ⟨#[120]⟩ 7]⟩).data.toList = _
  rw [chD_x8, chN_x7]
  exact mfd_x8
end Go.Proofs.Ytdllenoclnmmdaa
