/- The walk of the law LaneBytes: it answers true and changes nothing that was there (no conditions). -/
import Derived.Test.YtlpjpeonejbpjaaAsk2
import Derived.Test.YtlpjpeonejbpjaaLaneD
namespace Go.Proofs.Ytlpjpeonejbpjaa
open Go.ChangeShapes Go.WideShapes Go.ChangeAt Go.RowKit Go.Joins

theorem wake_scaled : scaledS (⟨#[2]⟩ : ByteArray) 128 = ⟨#[29]⟩ := by decide +kernel
set_option maxRecDepth 100000 in
theorem wakes2_any (w : World) : Calls Try.prog 23 #[] w fun e w' => e = .returned (.bool true) ∧ Below w.heap.size w w' := by
  go_enter Try.func23, Try.ntmps23
  go_wp2_with fail
  refine (scale_any ⟨#[2]⟩ 128 (by omega) (by decide) _).mono ?_
  rintro e w1 ⟨rfl, hB⟩
  rw [wake_scaled]
  have HB := Lib.hid hB
  clear hB
  go_wp2_with (go_at_call 18; refine (num2_any _ _).mono ?_; rintro e w' ⟨rfl, rfl⟩)
  go_ret
  exact ⟨rfl, HB.out⟩

/-- the lane of all bytes, and its products -/
def every (n : Nat) : List UInt8 := (List.replicate n (0 : UInt8)).mapIdx fun i _ => UInt8.ofNat i
def everyS : ByteArray := ⟨(every 256).toArray⟩
theorem byteAt_mk (l : List UInt8) (k : Nat) : byteAt ⟨l.toArray⟩ k = l.getD k 0 := rfl
theorem every_gen (n k : Nat) (hk : k < n) : (every n).getD k 0 = UInt8.ofNat k := by
  unfold every
  rw [List.getD_eq_getElem?_getD, List.getElem?_eq_getElem (by simpa using hk)]
  simp
theorem every_at (k : Nat) (hk : k < 256) : byteAt everyS k = UInt8.ofNat k := (byteAt_mk (every 256) k).trans (every_gen 256 k hk)
theorem every_size : everyS.size = 256 := by decide +kernel
theorem byteAt_scaled' (b : ByteArray) (c i : Nat) (hi : i < b.size) : byteAt (scaledS b c) i = gm (byteAt b i) c := by
  have hi' : i < b.data.toList.length := by simpa using hi
  have e : byteAt b i = b.data.toList[i] := by
    unfold byteAt; rw [List.getD_eq_getElem?_getD, List.getElem?_eq_getElem hi']; rfl
  rw [e]
  unfold byteAt scaledS scaled
  simp [List.getD_eq_getElem?_getD, hi]
theorem scaledS_size (b : ByteArray) (c : Nat) : (scaledS b c).size = b.size := by
  show (scaled b.data.toList c).toArray.size = b.data.size
  simp [scaled]
theorem every_scaled (c k : Nat) (hc : c < 256) (hk : k < 256) : (byteAt (scaledS everyS c) k).toNat = Gf.mul c k := by
  rw [byteAt_scaled' _ _ _ (by rw [every_size]; exact hk), every_at k hk, gm_toNat, UInt8.toNat_ofNat', Nat.mod_eq_of_lt hk, Gf.mul_comm _ _ hk hc]
theorem one_scaled (c k : Nat) (hc : c < 256) : (byteAt (scaledS ⟨#[UInt8.ofNat c]⟩ k) 0).toNat = Gf.mul c k := by
  rw [byteAt_scaled' _ _ _ (by show 0 < 1; omega)]
  show (gm (UInt8.ofNat c) k).toNat = _
  rw [gm_toNat, UInt8.toNat_ofNat', Nat.mod_eq_of_lt hc]
theorem one_buf (w : World) (c : Nat) (hc : c < 256) (t : TypeId) : Buf (w.alloc (.cells #[.int .u8 (c : Int)] t)) w.heap.size [UInt8.ofNat c] := by
  refine ⟨by simp, fun i hi => ?_, fun i hi => (BlockAt.new w _ t).free i⟩
  have : i = 0 := by simpa using hi
  subst this
  rw [cell_new]
  simp [Nat.mod_eq_of_lt hc]

set_option maxRecDepth 100000 in
set_option maxHeartbeats 1000000 in
theorem laneBytes_walk {W : World} {v : Value} {a : Option Addr} {l cap : Nat} {ss : List ByteArray} {c : Nat} {n : Int} (h : AskL W v a l cap ss c n) :
    Calls Try.prog 7 #[v] W fun e W' => e = .returned (.bool true) ∧ Below W.heap.size W W' := by
  obtain ⟨rfl, hS, hc, hn⟩ := h
  clear hS hn
  have hmk : ∀ u : World, (Instr.makeSlice 44 (.int .i64 256) (.int .i64 256)).run Try.prog u =
    .ok (.slice (some ⟨u.heap.size, 0, none⟩) 256 256) (u.alloc (.cells (madeCells #[.int .u8 0] 256) 5)) := make_bytes 256 (by omega)
  have hb : ∀ u : World, Buf (u.alloc (.cells (madeCells #[.int .u8 0] 256) 5)) u.heap.size (List.replicate 256 0) := fun u => made_buf u 256
  generalize madeCells #[.int .u8 0] 256 = Z at hmk hb
  have HB := Lib.hid hb
  clear hb
  go_enter Try.func7, Try.ntmps7
  go_wp2
  have hask : ∀ wr, Kept (W.alloc (.cells #[.slice a l cap, .int .u8 (c : Int), .int .i64 n] 24)) wr → wr.cell? ⟨W.heap.size, 1, none⟩ = some (.int .u8 (c : Int)) :=
    fun wr h => h.cell (by simp) (cell_new _ _ _ 1)
  have hend : ∀ wr, Kept (W.alloc (.cells #[.slice a l cap, .int .u8 (c : Int), .int .i64 n] 24)) wr → Below W.heap.size W wr := fun wr h => ((Kept.refl W).alloc _).trans h
  have hb := HB.out (W.alloc (.cells #[.slice a l cap, .int .u8 (c : Int), .int .i64 n] 24))
  have hK := (Kept.refl (W.alloc (.cells #[.slice a l cap, .int .u8 (c : Int), .int .i64 n] 24))).alloc (.cells Z 5)
  have hg : (W.alloc (.cells #[.slice a l cap, .int .u8 (c : Int), .int .i64 n] 24)).heap.size = W.heap.size + 1 := by simp
  rw [hg] at hb
  clear HB
  have HE := Lib.hid hend
  have HA := Lib.hid hask
  have HG := Lib.hid hg
  clear hend hask hmk hg
  have hl0 : (List.replicate 256 (0 : UInt8)).length = 256 := List.length_replicate
  have hev : every 256 = (List.replicate 256 (0 : UInt8)).mapIdx fun i _ => UInt8.ofNat i := rfl
  generalize List.replicate 256 (0 : UInt8) = zs at hb hl0 hev
  have HL0 := Lib.hid hl0
  have HEV := Lib.hid hev
  clear hl0 hev
  go_loopw [4] (fun i wr => ∃ k : Nat, k ≤ 256 ∧ i = .int .i64 k ∧ Buf wr (W.heap.size + 1) (upto (fun i _ => UInt8.ofNat i) zs k) ∧ Kept (W.alloc (.cells #[.slice a l cap, .int .u8 (c : Int), .int .i64 n] 24)) wr) (fun i _ => 256 - (intOf i).toNat)
  case atStart => exact ⟨0, by omega, rfl, by rw [upto_zero]; exact hb, hK⟩
  case round =>
    obtain ⟨k, hk, rfl, hbuf, hkept⟩ := hrel
    have HK := Lib.hid hkept
    by_cases hlt : k < 256
    · have hku : k < (upto (fun i _ => UInt8.ofNat i) zs k).length := by rw [upto_length, HL0.out]; exact hlt
      have hkl : k < zs.length := by rw [HL0.out]; exact hlt
      obtain ⟨x, hcell⟩ : ∃ x, wr.cell? ⟨W.heap.size + 1, k, none⟩ = some x := ⟨_, hbuf.cell k hku⟩
      have hfree := hbuf.free k hku
      have hst := hbuf.set k hku (UInt8.ofNat k)
      have hsu := upto_set (fun i _ => UInt8.ofNat i) zs k hkl
      rw [hsu, UInt8.toNat_ofNat', Nat.mod_eq_of_lt hlt] at hst
      have HST := Lib.hid hst
      have hw8 : IntKind.u8.wrap (k : Int) = (k : Int) := by
        show (k : Int) % 256 = k
        omega
      clear hbuf hkept hst hku hsu hkl
      go_wp2
      go_roundw
      case rel => exact ⟨k + 1, by omega, by go_num, HST.out, HK.out.setCell (by simp) _⟩
      case measure => simp [intOf]; omega
    · rw [upto_all _ _ _ (by rw [HL0.out]; omega), ← HEV.out] at hbuf
      have hconv := hbuf.string (P := Try.prog) 44 9 5 Try.underlying44 Try.underlying5 Try.underlying9 256
      rw [show (every 256).length = 256 by unfold every; rw [List.length_mapIdx, List.length_replicate]] at hconv
      have hconv' : (convert 44 9 (.slice (some ⟨W.heap.size + 1, 0, none⟩) 256 256)).run Try.prog wr = .ok (.string everyS) wr := hconv
      have hca := HA.out wr HK.out
      clear hbuf hkept hconv
      go_wp2_with fail
      refine (scale_any everyS c hc (by rw [every_size]; omega) _).mono ?_
      rintro e w1 ⟨rfl, hB1⟩
      have hK1 : Kept (W.alloc (.cells #[.slice a l cap, .int .u8 (c : Int), .int .i64 n] 24)) w1 := HK.out.trans hB1
      have hXs : (scaledS everyS c).size = 256 := by rw [scaledS_size, every_size]
      have hX : ∀ k, k < 256 → (byteAt (scaledS everyS c) k).toNat = Gf.mul c k := fun k hk => every_scaled c k hc hk
      generalize scaledS everyS c = X at hXs hX ⊢
      have HX := Lib.hid hX
      have HK1 := Lib.hid hK1
      clear hX hK1 hB1 hconv' hca
      go_wp2_with (go_at_call 18; refine (num2_any _ _).mono ?_; rintro e w' ⟨rfl, rfl⟩)
      clear hlt
      go_loopw [7] (fun i wr => ∃ k : Nat, k ≤ 256 ∧ i = .int .i64 k ∧ Kept w1 wr) (fun i _ => 256 - (intOf i).toNat)
      case atStart => exact ⟨0, by omega, rfl, Kept.refl _⟩
      case round =>
        obtain ⟨k, hk, rfl, hK2⟩ := hrel
        have hca := HA.out _ (HK1.out.trans hK2)
        have HK2 := Lib.hid hK2
        by_cases hlt : k < 256
        · have hob := one_buf wr c hc 5
          have hconv2 := hob.string (P := Try.prog) 44 9 5 Try.underlying44 Try.underlying5 Try.underlying9 1
          have hconv3 : (convert 44 9 (.slice (some ⟨wr.heap.size, 0, none⟩) 1 1)).run Try.prog (wr.alloc (.cells #[.int .u8 (c : Int)] 5)) = .ok (.string ⟨#[UInt8.ofNat c]⟩) (wr.alloc (.cells #[.int .u8 (c : Int)] 5)) := hconv2
          have hw8 : IntKind.u8.wrap (k : Int) = (k : Int) := by
            show (k : Int) % 256 = k
            omega
          clear hK2 hob hconv2
          go_wp2_with fail
          refine (scale_any ⟨#[UInt8.ofNat c]⟩ k hlt (by show 1 ≤ 8192; omega) _).mono ?_
          rintro e w2 ⟨rfl, hB2⟩
          have HK3 := Lib.hid ((HK2.out.alloc (.cells #[.int .u8 (c : Int)] 5)).trans hB2)
          have hYs : (scaledS ⟨#[UInt8.ofNat c]⟩ k).size = 1 := by rw [scaledS_size]; rfl
          have hY := one_scaled c k hc
          generalize scaledS ⟨#[UInt8.ofNat c]⟩ k = Y at hYs hY ⊢
          have hY0 := byteAt_get Y 0 (by rw [hYs]; exact Nat.zero_lt_one)
          have hXk := byteAt_get X k (by rw [hXs]; exact hlt)
          have hx := HX.out k hlt
          rw [← hXk] at hx
          rw [← hY0] at hY
          clear hconv3 hB2 hca hw8 hXk hY0
          go_wp2_with fail
          go_quiet (first | (go_at_call 18; exact quietly (num2_any _ _)))
          go_wp2
          go_roundw
          case rel => exact ⟨k + 1, by omega, by go_num, HK3.out.drewN nq⟩
          case measure => simp [intOf]; omega
        · clear hK2 hca
          go_wp2_with (go_at_call 23; refine (wakes2_any _).mono ?_; rintro e w' ⟨rfl, hB⟩)
          go_ret
          exact ⟨rfl, HE.out _ (HK1.out.trans (HK2.out.trans hB))⟩
end Go.Proofs.Ytlpjpeonejbpjaa
