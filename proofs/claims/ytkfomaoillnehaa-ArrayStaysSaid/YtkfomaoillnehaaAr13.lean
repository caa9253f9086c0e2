
/- Package array: fresh: a new disk, in blocks of its own (no conditions but that a disk has no more than 2048 sectors). -/
import Derived.Test.YtkfomaoillnehaaAr7
import Derived.Test.YtkfomaoillnehaaRes
import Derived.Test.YtkfomaoillnehaaShelf
import Derived.Deep.RegionLaw
namespace Go.Proofs.Ytkfomaoillnehaa
open Go.RowKit Go.Shelf
attribute [local go_sem] Oper.semAt_some

theorem Try.infoStrA : (Try.prog.info? 9).map (fun i => (i.zero, i.size, i.bytes)) = some (some (.string ByteArray.empty), 1, 16) := by kernel_rfl
theorem mkStrs (n : Nat) (hn : n ≤ 1000000) : ∀ u : World, (Instr.makeSlice 59 (.int .i64 n) (.int .i64 n)).run Try.prog u =
    .ok (.slice (some ⟨u.heap.size, 0, none⟩) n n) (u.alloc (.cells (madeCells #[.string ByteArray.empty] n) 9)) := fun u => by
  obtain ⟨i0, hi, hz0, hz1, hz2⟩ := info_parts Try.infoStrA
  have h := run_make (P := Try.prog) u 59 9 i0 (.string ByteArray.empty) Try.underlying59 hi hz0 .i64 .i64 (n : Int) (n : Int) (by omega) (Int.le_refl _) (by rw [hz2]; omega) (by omega)
  simpa [hz1, Value.cells] using h
theorem zeroT_repeat : (⟨(Lib.repeatL (⟨#[0]⟩ : ByteArray).data.toList 64).toArray⟩ : ByteArray) = zeroT := by
  have h := Lib.repeatL_replicate 0 1 64
  rw [Nat.mul_one] at h
  unfold zeroT
  rw [← h]
  rfl
theorem zeroT_size : zeroT.size = 64 := rfl
/-- many empty texts, just made -/
theorem Txs.made (w : World) (n : Nat) : Txs (w.alloc (.cells (madeCells #[.string ByteArray.empty] n) 9)) w.heap.size n (fun _ => ByteArray.empty) :=
  ⟨⟨_, BlockAt.new w _ _⟩, fun i hi => by
    rw [cell_new]
    simp [madeCells, hi, Nat.mod_one]⟩
theorem Txs.of_made {w : World} {b n : Nat} (h : BlockAt w b (madeCells #[.string ByteArray.empty] n) 9) : Txs w b n (fun _ => ByteArray.empty) :=
  ⟨⟨_, h⟩, fun i hi => by
    rw [h.cell]
    simp [madeCells, hi, Nat.mod_one]⟩
/-- four blocks made, one behind the other -/
theorem blocks4 (w : World) (A B C D : Obj) : ((((w.alloc A).alloc B).alloc C).alloc D).drew.heap[w.heap.size]? = some A ∧ ((((w.alloc A).alloc B).alloc C).alloc D).drew.heap[w.heap.size + 1]? = some B ∧
    ((((w.alloc A).alloc B).alloc C).alloc D).drew.heap[w.heap.size + 1 + 1]? = some C ∧ ((((w.alloc A).alloc B).alloc C).alloc D).drew.heap[w.heap.size + 1 + 1 + 1]? = some D ∧ Kept w ((((w.alloc A).alloc B).alloc C).alloc D).drew := by
  refine ⟨?_, ?_, ?_, ?_, (((((Kept.refl w).alloc A).alloc B).alloc C).alloc D).drew⟩
  all_goals
    show (((((w.heap.push _).push _).push _).push _) : Array Obj)[_]? = _
    simp only [Array.getElem?_push, Array.size_push]
  · rw [if_neg (by omega), if_neg (by omega), if_neg (by omega), if_pos trivial]
  · rw [if_neg (by omega), if_neg (by omega), if_pos trivial]
  · rw [if_neg (by omega), if_pos trivial]
  · rw [if_pos trivial]
/-- a disk under way: its block x, the blocks of its sectors and of its cache; the block r of the result -/
structure FrI (w : World) (r x kb cb n : Nat) (w' : World) : Prop where
  kp : Kept w w'
  res : BlockAt w' r #[.bool false, .slice none 0 0, .slice none 0 0] 61
  dsk : BlockAt w' x #[.bool true, .slice (some ⟨kb, 0, none⟩) n n, .slice (some ⟨cb, 0, none⟩) n n] 61
  kk : BlockAt w' kb (madeCells #[.string ByteArray.empty] n) 9
  cc : BlockAt w' cb (madeCells #[.string ByteArray.empty] n) 9
  ne : w.heap.size ≤ r ∧ w.heap.size ≤ x ∧ w.heap.size ≤ kb ∧ w.heap.size ≤ cb ∧ kb ≠ cb ∧ r ≠ x
/-- the same, while its sectors are laid: the first k are -/
structure FrL (w : World) (r x kb cb n k : Nat) (w' : World) : Prop where
  kp : Kept w w'
  res : BlockAt w' r #[.bool false, .slice none 0 0, .slice none 0 0] 61
  dsk : BlockAt w' x #[.bool true, .slice (some ⟨kb, 0, none⟩) n n, .slice (some ⟨cb, 0, none⟩) n n] 61
  kk : Txs w' kb n (fun i => if i < k then zeroT else ByteArray.empty)
  cc : Txs w' cb n (fun _ => ByteArray.empty)
theorem FrL.step {w w' : World} {r x kb cb n k : Nat} (h : FrL w r x kb cb n k w') (hk : k < n) (hb : w.heap.size ≤ kb) (hne : kb ≠ cb) : FrL w r x kb cb n (k + 1) (w'.setCell ⟨kb, k, none⟩ (.string zeroT)) := by
  obtain ⟨c2, hc⟩ := h.kk.blk
  have kb2 := CellsBut.setCell (R := fun b => b = kb) w' (.string zeroT) (i := k) rfl
  refine ⟨h.kp.setCell hb _, h.res.but kb2 (block_ne h.res hc (by decide)), h.dsk.but kb2 (block_ne h.dsk hc (by decide)), (h.kk.set zeroT).ext (fun i hi => ?_), h.cc.but kb2 (fun e => hne e.symm)⟩
  by_cases e : i = k
  · subst e; rw [upF_same, if_pos (by omega)]
  · rw [upF_other _ _ e]
    by_cases e2 : i < k
    · rw [if_pos e2, if_pos (by omega)]
    · rw [if_neg e2, if_neg (by omega)]
set_option maxRecDepth 100000 in
set_option maxHeartbeats 4000000 in
theorem fresh_any (n : Nat) (hn : n ≤ 2048) (w : World) :
    Calls Try.prog 27 #[.int .i64 n] w fun e w' => ∃ kb cb, e = .returned (.agg #[.bool true, .slice (some ⟨kb, 0, none⟩) n n, .slice (some ⟨cb, 0, none⟩) n n]) ∧ Kept w w' ∧ w.heap.size ≤ kb ∧ w.heap.size ≤ cb ∧ kb ≠ cb ∧ Txs w' kb n (fun _ => zeroT) ∧ Txs w' cb n (fun _ => ByteArray.empty) := by
  have HMK := Lib.hid (mkStrs n (by omega))
  have hmk := HMK.out
  have HRP := Lib.hid (fun w => Try.strings_Repeat ⟨#[0]⟩ 64 w (by omega) (by decide))
  rw [zeroT_repeat] at HRP
  go_enter Try.func27, Try.ntmps27
  go_upto_region 1 with (fail)
  rename_i hgo
  go_cut [3] (fun s wx => ∃ x kb cb, s = .pointer (some ⟨x, 0, none⟩) ∧ FrI w w.heap.size x kb cb n wx)
  case first =>
    go_region_with (fail)
    all_goals
      go_wp2_with fail
      go_meet
      obtain ⟨h0, h1, h2, h3, hk⟩ := blocks4 w _ _ _ _
      first
        | exact ⟨_, _, _, rfl, hk, h0, h1, h2, h3, by omega⟩
        | exact ⟨_, _, _, rfl, hk, h0, h1, h3, h2, by omega⟩
        | exact ⟨_, _, _, rfl, hk, h0, h2, h1, h3, by omega⟩
        | exact ⟨_, _, _, rfl, hk, h0, h2, h3, h1, by omega⟩
        | exact ⟨_, _, _, rfl, hk, h0, h3, h1, h2, by omega⟩
        | exact ⟨_, _, _, rfl, hk, h0, h3, h2, h1, by omega⟩
  case rest =>
    rename_i hcut
    refine hgo _ _ ?_
    clear hgo
    obtain ⟨x, kb, cb, rfl, hf⟩ := hcut
    have HF := Lib.hid hf
    clear hf hcut
    go_wp2_with fail
    refine (HRP.out _).mono ?_
    rintro e w2 ⟨rfl, hk2⟩
    have HX := Lib.hid (HF.out.dsk.kept hk2)
    obtain ⟨x0, x1, x2⟩ := box3 HX.out
    have HRE := Lib.hid (HF.out.res.kept hk2)
    have HKK := Lib.hid (HF.out.kk.kept hk2)
    have HCC := Lib.hid (HF.out.cc.kept hk2)
    have HKP := Lib.hid (HF.out.kp.trans hk2)
    have HNE := Lib.hid HF.out.ne
    clear hk2 HF HRP
    go_wp2_with fail
    go_loopw [15] (fun i wr => ∃ k : Nat, k ≤ n ∧ i = .int .i64 k ∧ FrL w w.heap.size x kb cb n k wr) (fun i _ => n - (intOf i).toNat)
    case atStart => exact ⟨0, by omega, rfl, HKP.out, HRE.out, HX.out, (Txs.of_made HKK.out).ext (fun i hi => rfl), Txs.of_made HCC.out⟩
    case round =>
      obtain ⟨k, hk, rfl, hfr⟩ := hrel
      have HL := Lib.hid hfr
      clear hfr x0 x1 x2 HX HRE HKK HCC HKP
      by_cases hlt : k < n
      · have hd1 : decide ((k : Int) < n) = true := decide_eq_true (by omega)
        obtain ⟨x0, x1, x2⟩ := box3 HL.out.dsk
        have ck := HL.out.kk.cell k hlt
        have fk := HL.out.kk.free k
        have HS := Lib.hid (HL.out.step hlt HNE.out.2.2.1 HNE.out.2.2.2.2.1)
        go_wp2
        go_roundw
        case rel => exact ⟨k + 1, by omega, by go_num, HS.out⟩
        case measure => simp [intOf]; omega
      · obtain rfl : k = n := by omega
        have hd1 : decide ((k : Int) < k) = false := decide_eq_false (by omega)
        have hrow : wr.heap[x]? = some (.cells #[.bool true, .slice (some ⟨kb, 0, none⟩) k k, .slice (some ⟨cb, 0, none⟩) k k] 61 (0, 0)) := HL.out.dsk
        have HR2 := Lib.hid HL.out.res
        go_wp2_with (first
          | (refine wpList_load_row rfl 61 (.tmp 3) rfl x rfl 61 #[.bool true, .slice (some ⟨kb, 0, none⟩) k k, .slice (some ⟨cb, 0, none⟩) k k] (0, 0) _ hrow Try.underlying61 rfl Try.infoDisk ?_)
          | (refine wpList_store_block rfl 61 (.tmp 2) (.tmp 24) rfl w.heap.size #[.bool true, .slice (some ⟨kb, 0, none⟩) k k, .slice (some ⟨cb, 0, none⟩) k k] #[.bool false, .slice none 0 0, .slice none 0 0] 61 rfl rfl HR2.out Try.infoDisk rfl (by simp [Value.oneCell']) ?_))
        refine bodyPost_ret (v := .agg #[.bool true, .slice (some ⟨kb, 0, none⟩) k k, .slice (some ⟨cb, 0, none⟩) k k]) ?_ rfl ?_
        · exact results_cell_row rfl _ _ w.heap.size 61 #[.bool true, .slice (some ⟨kb, 0, none⟩) k k, .slice (some ⟨cb, 0, none⟩) k k] (0, 0) _ rfl (HR2.out.setRow _) Try.underlying61 rfl Try.infoDisk
        · have kr := CellsBut.of_grown (R := fun b => b = w.heap.size) (grown_row wr w.heap.size #[.bool true, .slice (some ⟨kb, 0, none⟩) k k, .slice (some ⟨cb, 0, none⟩) k k]) rfl
          have nt : ∀ b G, Txs wr b k G → ¬ b = w.heap.size := fun b G ht e => by
            obtain ⟨cs, hc⟩ := ht.blk
            exact block_ne hc HR2.out (by decide) e
          exact ⟨kb, cb, rfl, HL.out.kp.setRow (Nat.le_refl _) _, HNE.out.2.2.1, HNE.out.2.2.2.1, HNE.out.2.2.2.2.1, (HL.out.kk.but kr (nt _ _ HL.out.kk)).ext (fun i hi => if_pos hi), HL.out.cc.but kr (nt _ _ HL.out.cc)⟩
end Go.Proofs.Ytkfomaoillnehaa
