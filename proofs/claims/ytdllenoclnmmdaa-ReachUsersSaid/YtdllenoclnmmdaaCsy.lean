/- The chain whose salt is "y": who names which (nothing of the program). -/
import Derived.Test.YtdllenoclnmmdaaChly
import Derived.Test.YtdllenoclnmmdaaGx
namespace Go.Proofs.Ytdllenoclnmmdaa
open Go.RowKit Go.Shelf
set_option maxRecDepth 1000000 in
theorem nm_y0 : nmF ⟨yN0, mfT ⟨0, [yD0], []⟩, true⟩ = [yD0] := by decide +kernel
theorem nb_y0 : nmF ⟨yD0, chB ⟨#[121]⟩ 0, false⟩ = [] := rfl
set_option maxRecDepth 1000000 in
theorem nm_y1 : nmF ⟨yN1, mfT ⟨1, [yD1], [yN0]⟩, true⟩ = [yD1, yN0] := by decide +kernel
theorem nb_y1 : nmF ⟨yD1, chB ⟨#[121]⟩ 1, false⟩ = [] := rfl
set_option maxRecDepth 1000000 in
theorem nm_y2 : nmF ⟨yN2, mfT ⟨2, [yD2], [yN1]⟩, true⟩ = [yD2, yN1] := by decide +kernel
theorem nb_y2 : nmF ⟨yD2, chB ⟨#[121]⟩ 2, false⟩ = [] := rfl
set_option maxRecDepth 1000000 in
theorem nm_y3 : nmF ⟨yN3, mfT ⟨3, [yD3], [yN2]⟩, true⟩ = [yD3, yN2] := by decide +kernel
theorem nb_y3 : nmF ⟨yD3, chB ⟨#[121]⟩ 3, false⟩ = [] := rfl
set_option maxRecDepth 1000000 in
theorem nm_y4 : nmF ⟨yN4, mfT ⟨4, [yD4], [yN3]⟩, true⟩ = [yD4, yN3] := by decide +kernel
theorem nb_y4 : nmF ⟨yD4, chB ⟨#[121]⟩ 4, false⟩ = [] := rfl
set_option maxRecDepth 1000000 in
theorem nm_y5 : nmF ⟨yN5, mfT ⟨5, [yD5], [yN4]⟩, true⟩ = [yD5, yN4] := by decide +kernel
theorem nb_y5 : nmF ⟨yD5, chB ⟨#[121]⟩ 5, false⟩ = [] := rfl
set_option maxRecDepth 1000000 in
theorem nm_y6 : nmF ⟨yN6, mfT ⟨6, [yD6], [yN5]⟩, true⟩ = [yD6, yN5] := by decide +kernel
theorem nb_y6 : nmF ⟨yD6, chB ⟨#[121]⟩ 6, false⟩ = [] := rfl
set_option maxRecDepth 1000000 in
theorem nm_y7 : nmF ⟨yN7, mfT ⟨7, [yD7], [yN6]⟩, true⟩ = [yD7, yN6] := by decide +kernel
theorem nb_y7 : nmF ⟨yD7, chB ⟨#[121]⟩ 7, false⟩ = [] := rfl
set_option maxRecDepth 1000000 in
theorem nm_y8 : nmF ⟨yN8, mfT ⟨8, [yD8], [yN7]⟩, true⟩ = [yD8, yN7] := by decide +kernel
theorem nb_y8 : nmF ⟨yD8, chB ⟨#[121]⟩ 8, false⟩ = [] := rfl
theorem ns_y2 : (List.range 2).map (chN ⟨#[121]⟩) = [yN0, yN1] := by
  show [chN ⟨#[121]⟩ 0, chN ⟨#[121]⟩ 1] = _
  rw [chN_y0, chN_y1]
theorem ds_y2 : (List.range 2).map (chD ⟨#[121]⟩) = [yD0, yD1] := by
  show [chD ⟨#[121]⟩ 0, chD ⟨#[121]⟩ 1] = _
  rw [chD_y0, chD_y1]
theorem nms_y2 : (yL2.map fun x => (x.d, nmF x)) = [(yD0, []), (yN0, [yD0]), (yD1, []), (yN1, [yD1, yN0])] := by
  unfold yL2
  simp only [List.map_cons, List.map_nil, nm_y0, nb_y0, nm_y1, nb_y1]
set_option maxRecDepth 1000000 in
theorem us_y2 : usO [(yD0, []), (yN0, [yD0]), (yD1, []), (yN1, [yD1, yN0])] [yN0, yN1] [yD0, yD1] 2 = true := by decide +kernel
theorem ok_y2 : UsOk ⟨#[121]⟩ 2 := usOk_of _ _ _ _ _ _ chL_y2 ns_y2 ds_y2 ths_y2 nms_y2 us_y2
theorem ns_y3 : (List.range 3).map (chN ⟨#[121]⟩) = [yN0, yN1, yN2] := by
  show [chN ⟨#[121]⟩ 0, chN ⟨#[121]⟩ 1, chN ⟨#[121]⟩ 2] = _
  rw [chN_y0, chN_y1, chN_y2]
theorem ds_y3 : (List.range 3).map (chD ⟨#[121]⟩) = [yD0, yD1, yD2] := by
  show [chD ⟨#[121]⟩ 0, chD ⟨#[121]⟩ 1, chD ⟨#[121]⟩ 2] = _
  rw [chD_y0, chD_y1, chD_y2]
theorem nms_y3 : (yL3.map fun x => (x.d, nmF x)) = [(yD2, []), (yD0, []), (yN2, [yD2, yN1]), (yN0, [yD0]), (yD1, []), (yN1, [yD1, yN0])] := by
  unfold yL3
  simp only [List.map_cons, List.map_nil, nm_y0, nb_y0, nm_y1, nb_y1, nm_y2, nb_y2]
set_option maxRecDepth 1000000 in
theorem us_y3 : usO [(yD2, []), (yD0, []), (yN2, [yD2, yN1]), (yN0, [yD0]), (yD1, []), (yN1, [yD1, yN0])] [yN0, yN1, yN2] [yD0, yD1, yD2] 3 = true := by decide +kernel
theorem ok_y3 : UsOk ⟨#[121]⟩ 3 := usOk_of _ _ _ _ _ _ chL_y3 ns_y3 ds_y3 ths_y3 nms_y3 us_y3
theorem ns_y4 : (List.range 4).map (chN ⟨#[121]⟩) = [yN0, yN1, yN2, yN3] := by
  show [chN ⟨#[121]⟩ 0, chN ⟨#[121]⟩ 1, chN ⟨#[121]⟩ 2, chN ⟨#[121]⟩ 3] = _
  rw [chN_y0, chN_y1, chN_y2, chN_y3]
theorem ds_y4 : (List.range 4).map (chD ⟨#[121]⟩) = [yD0, yD1, yD2, yD3] := by
  show [chD ⟨#[121]⟩ 0, chD ⟨#[121]⟩ 1, chD ⟨#[121]⟩ 2, chD ⟨#[121]⟩ 3] = _
  rw [chD_y0, chD_y1, chD_y2, chD_y3]
theorem nms_y4 : (yL4.map fun x => (x.d, nmF x)) = [(yN3, [yD3, yN2]), (yD2, []), (yD3, []), (yD0, []), (yN2, [yD2, yN1]), (yN0, [yD0]), (yD1, []), (yN1, [yD1, yN0])] := by
  unfold yL4
  simp only [List.map_cons, List.map_nil, nm_y0, nb_y0, nm_y1, nb_y1, nm_y2, nb_y2, nm_y3, nb_y3]
set_option maxRecDepth 1000000 in
theorem us_y4 : usO [(yN3, [yD3, yN2]), (yD2, []), (yD3, []), (yD0, []), (yN2, [yD2, yN1]), (yN0, [yD0]), (yD1, []), (yN1, [yD1, yN0])] [yN0, yN1, yN2, yN3] [yD0, yD1, yD2, yD3] 4 = true := by decide +kernel
theorem ok_y4 : UsOk ⟨#[121]⟩ 4 := usOk_of _ _ _ _ _ _ chL_y4 ns_y4 ds_y4 ths_y4 nms_y4 us_y4
theorem ns_y5 : (List.range 5).map (chN ⟨#[121]⟩) = [yN0, yN1, yN2, yN3, yN4] := by
  show [chN ⟨#[121]⟩ 0, chN ⟨#[121]⟩ 1, chN ⟨#[121]⟩ 2, chN ⟨#[121]⟩ 3, chN ⟨#[121]⟩ 4] = _
  rw [chN_y0, chN_y1, chN_y2, chN_y3, chN_y4]
theorem ds_y5 : (List.range 5).map (chD ⟨#[121]⟩) = [yD0, yD1, yD2, yD3, yD4] := by
  show [chD ⟨#[121]⟩ 0, chD ⟨#[121]⟩ 1, chD ⟨#[121]⟩ 2, chD ⟨#[121]⟩ 3, chD ⟨#[121]⟩ 4] = _
  rw [chD_y0, chD_y1, chD_y2, chD_y3, chD_y4]
theorem nms_y5 : (yL5.map fun x => (x.d, nmF x)) = [(yN3, [yD3, yN2]), (yD2, []), (yD3, []), (yD0, []), (yN4, [yD4, yN3]), (yN2, [yD2, yN1]), (yN0, [yD0]), (yD1, []), (yN1, [yD1, yN0]), (yD4, [])] := by
  unfold yL5
  simp only [List.map_cons, List.map_nil, nm_y0, nb_y0, nm_y1, nb_y1, nm_y2, nb_y2, nm_y3, nb_y3, nm_y4, nb_y4]
set_option maxRecDepth 1000000 in
theorem us_y5 : usO [(yN3, [yD3, yN2]), (yD2, []), (yD3, []), (yD0, []), (yN4, [yD4, yN3]), (yN2, [yD2, yN1]), (yN0, [yD0]), (yD1, []), (yN1, [yD1, yN0]), (yD4, [])] [yN0, yN1, yN2, yN3, yN4] [yD0, yD1, yD2, yD3, yD4] 5 = true := by decide +kernel
theorem ok_y5 : UsOk ⟨#[121]⟩ 5 := usOk_of _ _ _ _ _ _ chL_y5 ns_y5 ds_y5 ths_y5 nms_y5 us_y5
theorem ns_y6 : (List.range 6).map (chN ⟨#[121]⟩) = [yN0, yN1, yN2, yN3, yN4, yN5] := by
  show [chN ⟨#[121]⟩ 0, chN ⟨#[121]⟩ 1, chN ⟨#[121]⟩ 2, chN ⟨#[121]⟩ 3, chN ⟨#[121]⟩ 4, chN ⟨#[121]⟩ 5] = _
  rw [chN_y0, chN_y1, chN_y2, chN_y3, chN_y4, chN_y5]
theorem ds_y6 : (List.range 6).map (chD ⟨#[121]⟩) = [yD0, yD1, yD2, yD3, yD4, yD5] := by
  show [chD ⟨#[121]⟩ 0, chD ⟨#[121]⟩ 1, chD ⟨#[121]⟩ 2, chD ⟨#[121]⟩ 3, chD ⟨#[121]⟩ 4, chD ⟨#[121]⟩ 5] = _
  rw [chD_y0, chD_y1, chD_y2, chD_y3, chD_y4, chD_y5]
theorem nms_y6 : (yL6.map fun x => (x.d, nmF x)) = [(yN3, [yD3, yN2]), (yN5, [yD5, yN4]), (yD2, []), (yD3, []), (yD0, []), (yN4, [yD4, yN3]), (yN2, [yD2, yN1]), (yN0, [yD0]), (yD1, []), (yN1, [yD1, yN0]), (yD4, []), (yD5, [])] := by
  unfold yL6
  simp only [List.map_cons, List.map_nil, nm_y0, nb_y0, nm_y1, nb_y1, nm_y2, nb_y2, nm_y3, nb_y3, nm_y4, nb_y4, nm_y5, nb_y5]
set_option maxRecDepth 1000000 in
theorem us_y6 : usO [(yN3, [yD3, yN2]), (yN5, [yD5, yN4]), (yD2, []), (yD3, []), (yD0, []), (yN4, [yD4, yN3]), (yN2, [yD2, yN1]), (yN0, [yD0]), (yD1, []), (yN1, [yD1, yN0]), (yD4, []), (yD5, [])] [yN0, yN1, yN2, yN3, yN4, yN5] [yD0, yD1, yD2, yD3, yD4, yD5] 6 = true := by decide +kernel
theorem ok_y6 : UsOk ⟨#[121]⟩ 6 := usOk_of _ _ _ _ _ _ chL_y6 ns_y6 ds_y6 ths_y6 nms_y6 us_y6
theorem ns_y7 : (List.range 7).map (chN ⟨#[121]⟩) = [yN0, yN1, yN2, yN3, yN4, yN5, yN6] := by
  show [chN ⟨#[121]⟩ 0, chN ⟨#[121]⟩ 1, chN ⟨#[121]⟩ 2, chN ⟨#[121]⟩ 3, chN ⟨#[121]⟩ 4, chN ⟨#[121]⟩ 5, chN ⟨#[121]⟩ 6] = _
  rw [chN_y0, chN_y1, chN_y2, chN_y3, chN_y4, chN_y5, chN_y6]
theorem ds_y7 : (List.range 7).map (chD ⟨#[121]⟩) = [yD0, yD1, yD2, yD3, yD4, yD5, yD6] := by
  show [chD ⟨#[121]⟩ 0, chD ⟨#[121]⟩ 1, chD ⟨#[121]⟩ 2, chD ⟨#[121]⟩ 3, chD ⟨#[121]⟩ 4, chD ⟨#[121]⟩ 5, chD ⟨#[121]⟩ 6] = _
  rw [chD_y0, chD_y1, chD_y2, chD_y3, chD_y4, chD_y5, chD_y6]
theorem nms_y7 : (yL7.map fun x => (x.d, nmF x)) = [(yD6, []), (yN3, [yD3, yN2]), (yN5, [yD5, yN4]), (yD2, []), (yD3, []), (yD0, []), (yN4, [yD4, yN3]), (yN2, [yD2, yN1]), (yN0, [yD0]), (yN6, [yD6, yN5]), (yD1, []), (yN1, [yD1, yN0]), (yD4, []), (yD5, [])] := by
  unfold yL7
  simp only [List.map_cons, List.map_nil, nm_y0, nb_y0, nm_y1, nb_y1, nm_y2, nb_y2, nm_y3, nb_y3, nm_y4, nb_y4, nm_y5, nb_y5, nm_y6, nb_y6]
set_option maxRecDepth 1000000 in
theorem us_y7 : usO [(yD6, []), (yN3, [yD3, yN2]), (yN5, [yD5, yN4]), (yD2, []), (yD3, []), (yD0, []), (yN4, [yD4, yN3]), (yN2, [yD2, yN1]), (yN0, [yD0]), (yN6, [yD6, yN5]), (yD1, []), (yN1, [yD1, yN0]), (yD4, []), (yD5, [])] [yN0, yN1, yN2, yN3, yN4, yN5, yN6] [yD0, yD1, yD2, yD3, yD4, yD5, yD6] 7 = true := by decide +kernel
theorem ok_y7 : UsOk ⟨#[121]⟩ 7 := usOk_of _ _ _ _ _ _ chL_y7 ns_y7 ds_y7 ths_y7 nms_y7 us_y7
theorem ns_y8 : (List.range 8).map (chN ⟨#[121]⟩) = [yN0, yN1, yN2, yN3, yN4, yN5, yN6, yN7] := by
  show [chN ⟨#[121]⟩ 0, chN ⟨#[121]⟩ 1, chN ⟨#[121]⟩ 2, chN ⟨#[121]⟩ 3, chN ⟨#[121]⟩ 4, chN ⟨#[121]⟩ 5, chN ⟨#[121]⟩ 6, chN ⟨#[121]⟩ 7] = _
  rw [chN_y0, chN_y1, chN_y2, chN_y3, chN_y4, chN_y5, chN_y6, chN_y7]
theorem ds_y8 : (List.range 8).map (chD ⟨#[121]⟩) = [yD0, yD1, yD2, yD3, yD4, yD5, yD6, yD7] := by
  show [chD ⟨#[121]⟩ 0, chD ⟨#[121]⟩ 1, chD ⟨#[121]⟩ 2, chD ⟨#[121]⟩ 3, chD ⟨#[121]⟩ 4, chD ⟨#[121]⟩ 5, chD ⟨#[121]⟩ 6, chD ⟨#[121]⟩ 7] = _
  rw [chD_y0, chD_y1, chD_y2, chD_y3, chD_y4, chD_y5, chD_y6, chD_y7]
theorem nms_y8 : (yL8.map fun x => (x.d, nmF x)) = [(yN7, [yD7, yN6]), (yD6, []), (yN3, [yD3, yN2]), (yN5, [yD5, yN4]), (yD2, []), (yD3, []), (yD0, []), (yN4, [yD4, yN3]), (yD7, []), (yN2, [yD2, yN1]), (yN0, [yD0]), (yN6, [yD6, yN5]), (yD1, []), (yN1, [yD1, yN0]), (yD4, []), (yD5, [])] := by
  unfold yL8
  simp only [List.map_cons, List.map_nil, nm_y0, nb_y0, nm_y1, nb_y1, nm_y2, nb_y2, nm_y3, nb_y3, nm_y4, nb_y4, nm_y5, nb_y5, nm_y6, nb_y6, nm_y7, nb_y7]
set_option maxRecDepth 1000000 in
theorem us_y8 : usO [(yN7, [yD7, yN6]), (yD6, []), (yN3, [yD3, yN2]), (yN5, [yD5, yN4]), (yD2, []), (yD3, []), (yD0, []), (yN4, [yD4, yN3]), (yD7, []), (yN2, [yD2, yN1]), (yN0, [yD0]), (yN6, [yD6, yN5]), (yD1, []), (yN1, [yD1, yN0]), (yD4, []), (yD5, [])] [yN0, yN1, yN2, yN3, yN4, yN5, yN6, yN7] [yD0, yD1, yD2, yD3, yD4, yD5, yD6, yD7] 8 = true := by decide +kernel
theorem ok_y8 : UsOk ⟨#[121]⟩ 8 := usOk_of _ _ _ _ _ _ chL_y8 ns_y8 ds_y8 ths_y8 nms_y8 us_y8
theorem ns_y9 : (List.range 9).map (chN ⟨#[121]⟩) = [yN0, yN1, yN2, yN3, yN4, yN5, yN6, yN7, yN8] := by
  show [chN ⟨#[121]⟩ 0, chN ⟨#[121]⟩ 1, chN ⟨#[121]⟩ 2, chN ⟨#[121]⟩ 3, chN ⟨#[121]⟩ 4, chN ⟨#[121]⟩ 5, chN ⟨#[121]⟩ 6, chN ⟨#[121]⟩ 7, chN ⟨#[121]⟩ 8] = _
  rw [chN_y0, chN_y1, chN_y2, chN_y3, chN_y4, chN_y5, chN_y6, chN_y7, chN_y8]
theorem ds_y9 : (List.range 9).map (chD ⟨#[121]⟩) = [yD0, yD1, yD2, yD3, yD4, yD5, yD6, yD7, yD8] := by
  show [chD ⟨#[121]⟩ 0, chD ⟨#[121]⟩ 1, chD ⟨#[121]⟩ 2, chD ⟨#[121]⟩ 3, chD ⟨#[121]⟩ 4, chD ⟨#[121]⟩ 5, chD ⟨#[121]⟩ 6, chD ⟨#[121]⟩ 7, chD ⟨#[121]⟩ 8] = _
  rw [chD_y0, chD_y1, chD_y2, chD_y3, chD_y4, chD_y5, chD_y6, chD_y7, chD_y8]
theorem nms_y9 : (yL9.map fun x => (x.d, nmF x)) = [(yN7, [yD7, yN6]), (yD6, []), (yN3, [yD3, yN2]), (yN5, [yD5, yN4]), (yD2, []), (yD3, []), (yD0, []), (yD8, []), (yN4, [yD4, yN3]), (yD7, []), (yN2, [yD2, yN1]), (yN0, [yD0]), (yN6, [yD6, yN5]), (yD1, []), (yN8, [yD8, yN7]), (yN1, [yD1, yN0]), (yD4, []), (yD5, [])] := by
  unfold yL9
  simp only [List.map_cons, List.map_nil, nm_y0, nb_y0, nm_y1, nb_y1, nm_y2, nb_y2, nm_y3, nb_y3, nm_y4, nb_y4, nm_y5, nb_y5, nm_y6, nb_y6, nm_y7, nb_y7, nm_y8, nb_y8]
set_option maxRecDepth 1000000 in
theorem us_y9 : usO [(yN7, [yD7, yN6]), (yD6, []), (yN3, [yD3, yN2]), (yN5, [yD5, yN4]), (yD2, []), (yD3, []), (yD0, []), (yD8, []), (yN4, [yD4, yN3]), (yD7, []), (yN2, [yD2, yN1]), (yN0, [yD0]), (yN6, [yD6, yN5]), (yD1, []), (yN8, [yD8, yN7]), (yN1, [yD1, yN0]), (yD4, []), (yD5, [])] [yN0, yN1, yN2, yN3, yN4, yN5, yN6, yN7, yN8] [yD0, yD1, yD2, yD3, yD4, yD5, yD6, yD7, yD8] 9 = true := by decide +kernel
theorem ok_y9 : UsOk ⟨#[121]⟩ 9 := usOk_of _ _ _ _ _ _ chL_y9 ns_y9 ds_y9 ths_y9 nms_y9 us_y9
theorem ok_y (n : Nat) (h2 : 2 ≤ n) (h9 : n ≤ 9) : UsOk ⟨#[121]⟩ n :=
  match n, h2, h9 with
  | 2, _, _ => ok_y2
  | 3, _, _ => ok_y3
  | 4, _, _ => ok_y4
  | 5, _, _ => ok_y5
  | 6, _, _ => ok_y6
  | 7, _, _ => ok_y7
  | 8, _, _ => ok_y8
  | 9, _, _ => ok_y9
  | n + 10, _, h => absurd h (by omega)
end Go.Proofs.Ytdllenoclnmmdaa
