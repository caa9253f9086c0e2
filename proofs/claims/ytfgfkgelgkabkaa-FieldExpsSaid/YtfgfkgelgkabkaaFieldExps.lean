/- The walk of the law FieldExps: it answers true and changes nothing that was there (no conditions). -/
import Derived.Test.YtfgfkgelgkabkaaFieldLog
import Derived.Test.YtfgfkgelgkabkaaAsk1
namespace Go.Proofs.Ytfgfkgelgkabkaa
open Go.ChangeShapes Go.WideShapes Go.ChangeAt Go.RowKit Go.Joins

theorem Try.infoBool : (Try.prog.info? 4).map (fun i => (i.zero, i.size, i.bytes)) = some (some (.bool false), 1, 1) := by kernel_rfl

/-- which bytes have come when n powers have -/
def seenB (n j : Nat) : Bool := decide (0 < j ∧ Gf.log j < n)
def seenCells (n : Nat) : Array Value := ((List.range 256).map fun j => Value.bool (seenB n j)).toArray
theorem seen_get (n j : Nat) (hj : j < 256) : (seenCells n)[j]? = some (.bool (seenB n j)) := by
  simp [seenCells, hj]
theorem seen_zero : seenCells 0 = madeCells #[.bool false] 256 := by
  apply Array.ext
  · simp [seenCells, madeCells]
  · intro i h1 h2
    simp [seenCells, madeCells, seenB, Nat.mod_one]
theorem seen_set (n : Nat) (hn : n < 255) : (seenCells n).setIfInBounds (Gf.dbls n) (.bool true) = seenCells (n + 1) := by
  apply Array.ext
  · simp [seenCells]
  · intro i h1 h2
    have hi : i < 256 := by simpa [seenCells] using h2
    obtain ⟨hp, hl⟩ := Gf.log_dbls n hn
    rw [Array.getElem_setIfInBounds (by simpa [seenCells] using hi)]
    by_cases he : Gf.dbls n = i
    · rw [if_pos he]
      have : seenB (n + 1) i = true := by unfold seenB; rw [← he, hl]; simp [hp]
      simp [seenCells, this]
    · rw [if_neg he]
      have : seenB (n + 1) i = seenB n i := by
        unfold seenB
        by_cases h0 : 0 < i
        · have hne : Gf.log i ≠ n := fun e => he (by rw [← e]; exact (Gf.log_lt i h0 hi).2)
          apply decide_eq_decide.2
          omega
        · simp [h0]
      simp [seenCells, this]
theorem not_seen (n : Nat) (hn : n < 255) : seenB n (Gf.dbls n) = false := by
  unfold seenB; rw [(Gf.log_dbls n hn).2]; simp

set_option maxRecDepth 100000 in
set_option maxHeartbeats 2000000 in
theorem fieldExps_walk {W : World} {v : Value} {a0 a1 : Option Addr} {l0 c0 l1 c1 : Nat} {B N : List Int} (h : AskIn W v a0 l0 c0 B a1 l1 c1 N) :
    Calls Try.prog 8 #[v] W fun e W' => e = .returned (.bool true) ∧ Below W.heap.size W W' := by
  obtain ⟨rfl, hB, hN⟩ := h
  have hle := hN.le
  clear hB hN
  obtain ⟨i0, hi, hz0, hz1, hz2⟩ := info_parts Try.infoBool
  have hmk : ∀ u : World, (Instr.makeSlice 41 (.int .i64 256) (.int .i64 256)).run Try.prog u = .ok (.slice (some ⟨u.heap.size, 0, none⟩) 256 256) (u.alloc (.cells (seenCells 0) 4)) := fun u => by
    have h := run_make (P := Try.prog) u 41 4 i0 (.bool false) Try.underlying41 hi hz0 .i64 .i64 256 256 (by omega) (Int.le_refl _) (by rw [hz2]; omega) (by omega)
    rw [seen_zero]
    simpa [hz1, Value.cells] using h
  have hend : ∀ wr, Kept (W.alloc (.cells #[.slice a0 l0 c0, .slice a1 l1 c1] 25)) wr → Below W.heap.size W wr := fun wr h => ((Kept.refl W).alloc _).trans h
  have hask : ∀ wr, Kept (W.alloc (.cells #[.slice a0 l0 c0, .slice a1 l1 c1] 25)) wr → wr.cell? ⟨W.heap.size, 1, none⟩ = some (.slice a1 l1 c1) := fun wr h => h.cell (by simp) (cell_new _ _ _ 1)
  have hkb : Kept (W.alloc (.cells #[.slice a0 l0 c0, .slice a1 l1 c1] 25)) ((W.alloc (.cells #[.slice a0 l0 c0, .slice a1 l1 c1] 25)).alloc (.cells (seenCells 0) 4)) := (Kept.refl _).alloc _
  have hbl := BlockAt.new (W.alloc (.cells #[.slice a0 l0 c0, .slice a1 l1 c1] 25)) (seenCells 0) 4
  rw [World.size_alloc] at hbl
  have HE := Lib.hid hend
  have HA := Lib.hid hask
  have HK := Lib.hid hkb
  have HB := Lib.hid hbl
  clear hend hask hkb hbl
  go_enter Try.func8, Try.ntmps8
  go_wp2
  clear hmk
  go_loopw [4] (fun i wr => ∃ n : Nat, n ≤ 255 ∧ i = .int .i64 n ∧ BlockAt wr (W.heap.size + 1) (seenCells n) 4 ∧ Kept (W.alloc (.cells #[.slice a0 l0 c0, .slice a1 l1 c1] 25)) wr) (fun i _ => 255 - (intOf i).toNat)
  case atStart => exact ⟨0, by omega, rfl, HB.out, HK.out⟩
  case round =>
    obtain ⟨n, hn, rfl, hbl, hK⟩ := hrel
    have hca := HA.out wr hK
    have HK := Lib.hid hK
    have HBL := Lib.hid hbl
    clear hbl hK
    by_cases hlt : n < 255
    · have hx := Gf.dbls_lt n
      obtain ⟨hp, hl⟩ := Gf.log_dbls n hlt
      have hper := Gf.dbls_period n
      have e255 : ((n : Int) + 255) = ((n + 255 : Nat) : Int) := by omega
      have E := Lib.hid e255
      have HP := Lib.hid hper
      have HL := Lib.hid hl
      have hpz : (((Gf.dbls n : Nat) : Int) == 0) = false := by rw [beq_eq_false_iff_ne]; omega
      clear e255 hper hl
      go_wp2_with fail
      refine (exp_any n (by omega) _).mono ?_
      rintro e w' ⟨rfl, rfl⟩
      go_wp2_with fail
      rw [E.out]
      refine (exp_any (n + 255) (by omega) _).mono ?_
      rintro e w' ⟨rfl, rfl⟩
      rw [HP.out]
      go_wp2_with fail
      refine (log_any (Gf.dbls n) hp hx _).mono ?_
      rintro e w1 ⟨rfl, hb⟩
      rw [HL.out]
      have hb' : Kept wr w1 := hb
      have hbl1 := HBL.out.kept hb'
      have hc1 := hbl1.cell (Gf.dbls n)
      rw [seen_get n _ hx, not_seen n hlt] at hc1
      have hf1 := hbl1.free (Gf.dbls n)
      have HB' := Lib.hid hb'
      have HBL1 := Lib.hid hbl1
      clear hb hb' hbl1
      go_wp2_with (go_at_call 17; refine (num_any _ _).mono ?_; rintro e w' ⟨rfl, rfl⟩)
      go_roundw
      case rel => exact ⟨n + 1, by omega, by go_num, by rw [← seen_set n hlt]; exact HBL1.out.set _, (HK.out.trans HB'.out).setCell (by simp) _⟩
      case measure => simp [intOf]; omega
    · go_wp2_with (go_at_call 13; refine (wakes_any _).mono ?_; rintro e w' ⟨rfl, rfl⟩)
      go_ret
      exact ⟨rfl, HE.out _ HK.out⟩
end Go.Proofs.Ytfgfkgelgkabkaa
