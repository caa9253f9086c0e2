/- The eight and sixteen numbers as rows of memory: a block's numbers, the begins, as both sides make them (no conditions but on lengths). -/
import Derived.Test.YtdllenoclnmmdaaDoorBl2
namespace Go.Proofs.YtdllenoclnmmdaaDoor
open Go.RowKit Go.Shelf
attribute [local go_sem] Oper.semAt_some

def z16 : Array Value := cw (List.replicate 16 0)
def z8 : Array Value := cw (List.replicate 8 0)
theorem Tryd.zero16 : (Tryd.prog.info? 71).map (·.zero) = some (some (.agg z16)) := by kernel_rfl
theorem Tryd.zero8 : (Tryd.prog.info? 54).map (·.zero) = some (some (.agg z8)) := by kernel_rfl
theorem Tryd.built16 : Tryd.prog.built 71 [] = some z16 := by kernel_rfl
theorem Tryd.info16 : (Tryd.prog.info? 71).map (·.size) = some 16 := by kernel_rfl
theorem Tryd.info8 : (Tryd.prog.info? 54).map (·.size) = some 8 := by kernel_rfl
theorem z16_one : z16.all (·.oneCell') = true := cw_one _
theorem z8_one : z8.all (·.oneCell') = true := cw_one _
theorem z16_size : z16.size = 16 := by simp [z16, cw]
theorem z8_size : z8.size = 8 := by simp [z8, cw]
theorem size16 {v : List Nat} (h : Bl.W 16 v) : (cw v).size = 16 := by rw [cw_size]; exact h.len
theorem size8 {v : List Nat} (h : Bl.W 8 v) : (cw v).size = 8 := by rw [cw_size]; exact h.len
/-- eight numbers in a block, the one that was written since -/
structure V8 (w : World) (g : Nat) (v : List Nat) (W : World) : Prop where
  row : BlockAt W g (cw v) 54
  grown : w.grownBy W (some g)
  ok : Bl.W 8 v
theorem V8.cell {w W : World} {g : Nat} {v : List Nat} (h : V8 w g v W) (i : Nat) (hi : i < 8) : W.cell? ⟨g, i, none⟩ = some (.int .u32 (v.getD i 0 : Nat)) := by
  rw [h.row.cell]
  exact cw_at v i (by rw [h.ok.len]; exact hi)
theorem V8.free {w W : World} {g : Nat} {v : List Nat} (h : V8 w g v W) (i : Nat) : W.frozen? ⟨g, i, none⟩ = false := h.row.free i
theorem V8.put {w W : World} {g : Nat} {v : List Nat} (h : V8 w g v W) (nq i : Nat) {x : Nat} (hx : x < 4294967296) : V8 w g (v.set i x) ((W.drewN nq).setCell ⟨g, i, none⟩ (.int .u32 (x : Int))) := by
  refine ⟨?_, grown_setCell h.grown nq i _, h.ok.set i hx⟩
  have hb : BlockAt (W.drewN nq) g (cw v) 54 := h.row
  rw [← cw_set]
  exact hb.set _
theorem V8.put0 {w W : World} {g : Nat} {v : List Nat} (h : V8 w g v W) (i : Nat) {x : Nat} (hx : x < 4294967296) : V8 w g (v.set i x) (W.setCell ⟨g, i, none⟩ (.int .u32 (x : Int))) := h.put 0 i hx
theorem V16.put0 {w W : World} {g : Nat} {v : List Nat} (h : V16 w g v W) (i : Nat) {x : Nat} (hx : x < 4294967296) : V16 w g (v.set i x) (W.setCell ⟨g, i, none⟩ (.int .u32 (x : Int))) := h.put 0 i hx
theorem V16.here {w : World} {g : Nat} {v : List Nat} (h : BlockAt w g (cw v) 71) (k : Bl.W 16 v) : V16 w g v w := ⟨h, gr_refl _ _, k⟩
theorem V8.here {w : World} {g : Nat} {v : List Nat} (h : BlockAt w g (cw v) 54) (k : Bl.W 8 v) : V8 w g v w := ⟨h, gr_refl _ _, k⟩
theorem V16.kept {wo w W : World} {g : Nat} {v : List Nat} (h : V16 w g v W) (k : Kept wo w) (hg : wo.heap.size ≤ g) : Kept wo W := k.gr h.grown (fun _ e => by cases e; exact hg)
theorem V8.kept {wo w W : World} {g : Nat} {v : List Nat} (h : V8 w g v W) (k : Kept wo w) (hg : wo.heap.size ≤ g) : Kept wo W := k.gr h.grown (fun _ e => by cases e; exact hg)
/-- another block stays -/
theorem other_row {w W : World} {g b : Nat} {C : Array Value} {t : TypeId} (h : BlockAt w b C t) (g' : w.grownBy W (some g)) (hne : b ≠ g) : BlockAt W b C t := block_grown h g' (fun e => hne (by cases e; rfl))
theorem sh32 (x r : Nat) : ((x : Int) * 2 ^ (8 * r)) % 4294967296 = ((x * 2 ^ (8 * r) % 4294967296 : Nat) : Int) := by
  rw [show (x : Int) * 2 ^ (8 * r) = ((x * 2 ^ (8 * r) : Nat) : Int) by simp]
  generalize x * 2 ^ (8 * r) = y
  omega
theorem sh32' (x r : Nat) : ((x : Int) * 2 ^ (r * 8)) % 4294967296 = ((x * 2 ^ (8 * r) % 4294967296 : Nat) : Int) := by
  rw [Nat.mul_comm r 8]
  exact sh32 x r
theorem words_at (s : ByteArray) (k : Nat) (h : k < s.size) : Bl.words s.data.toList (k + 1) = Bl.wd (Bl.words s.data.toList k) k s[k].toNat := by
  show Bl.wd _ _ _ = _
  congr 1
  have h' : k < s.data.toList.length := by simpa using h
  rw [List.getD_eq_getElem?_getD, List.getElem?_eq_getElem h']
  rfl
set_option maxRecDepth 100000 in
set_option maxHeartbeats 4000000 in
theorem words_any (s : ByteArray) (hs : s.size ≤ 64) (w : World) :
    Calls Tryd.prog 42 #[.string s] w fun e w' => e = .returned (.agg (cw (Bl.words s.data.toList s.size))) ∧ Kept w w' := by
  have HBK := Lib.hid (BlockAt.new (w.alloc (.cells z16 71)) z16 71)
  go_enter Tryd.func42, Tryd.ntmps42
  go_wp2_with (first
    | (with_reducible refine wpList_alloc_block rfl 71 rfl z16 Tryd.zero16 ?_)
    | (with_reducible refine wpList_build_zero rfl 71 rfl z16 Tryd.built16 ?_)
    | (refine wpList_store_block rfl 71 (.tmp 3) (.tmp 5) rfl (w.alloc (.cells z16 71)).heap.size z16 z16 71 rfl rfl HBK.out Tryd.info16 rfl z16_one ?_))
  refine wp_named (fun w1 hw1 => ?_)
  have hk : Kept w w1 := by rw [hw1]; exact (((Kept.refl w).alloc _).alloc _).setRow (by omega) _
  have hb2 : BlockAt w1 (w.heap.size + 1) z16 71 := by
    have h := HBK.out.setRow z16
    rw [World.size_alloc] at h
    rw [hw1]
    exact h
  have hb1 : BlockAt w1 w.heap.size z16 71 := by
    rw [hw1]
    exact ((BlockAt.new w z16 71).kept ((Kept.refl _).alloc _)).other _ (by omega)
  clear hw1
  obtain ⟨p, hp⟩ : ∃ p, p = w.heap.size + 1 := ⟨_, rfl⟩
  obtain ⟨p0, hp0⟩ : ∃ p0, p0 = w.heap.size := ⟨_, rfl⟩
  rw [← hp] at hb2 ⊢
  rw [← hp0] at hb1 ⊢
  have HP := Lib.hid hp
  have HP0 := Lib.hid hp0
  have hv1 : V16 w1 p (List.replicate 16 0) w1 := V16.here hb2 (Bl.W.zeros 16)
  have HB1 := Lib.hid hb1
  have HK := Lib.hid hk
  have HV1 := Lib.hid hv1
  have hpp : p0 ≠ p := by omega
  clear hp hp0 hb1 hb2 hk hv1
  go_wp2_with fail
  go_loopw [4, 8] (fun a i wr => ∃ k : Nat, k ≤ s.size ∧ i = .int .i64 k ∧ V16 w1 p (Bl.words s.data.toList k) wr) (fun _ i _ => s.size - (intOf i).toNat)
  case atStart => exact ⟨0, by omega, rfl, HV1.out⟩
  case round =>
    obtain ⟨k, hk, rfl, hv⟩ := hrel
    have HV := Lib.hid hv
    clear hv
    by_cases hlt : k < s.size
    · have HS := Lib.hid (words_at s k hlt)
      obtain ⟨q, hq⟩ : ∃ q, q = k / 4 := ⟨_, rfl⟩
      obtain ⟨r, hr⟩ : ∃ r, r = k % 4 := ⟨_, rfl⟩
      have hq16 : q < 16 := by omega
      have hr4 : r < 4 := by omega
      have c1 := HV.out.cell q hq16
      have f1 := HV.out.free q
      have hml : (Bl.words s.data.toList k).getD q 0 < 4294967296 := HV.out.ok.at q
      obtain ⟨u, hu⟩ : ∃ u, u = (Bl.words s.data.toList k).getD q 0 := ⟨_, rfl⟩
      rw [← hu] at c1 hml
      have hx := UInt8.toNat_lt s[k]
      have e1 := sh32' s[k].toNat r
      have e2 := o32 u (s[k].toNat * 2 ^ (8 * r) % 4294967296) hml (Nat.mod_lt _ (by decide))
      have hst : ∀ nq, V16 w1 p (Bl.wd (Bl.words s.data.toList k) k s[k].toNat) ((wr.drewN nq).setCell ⟨p, q, none⟩ (.int .u32 ((u ||| s[k].toNat * 2 ^ (8 * r) % 4294967296 : Nat) : Int))) := fun nq => by
        have h := HV.out.put nq q (Bl.or_lt hml (Nat.mod_lt (s[k].toNat * 2 ^ (8 * r)) (by decide)))
        unfold Bl.wd
        rw [← hq, ← hr, ← hu]
        exact h
      have HST := Lib.hid hst
      have hq2 : (k : Int) / 4 = (q : Int) := by omega
      have hr2 : (k : Int) % 4 = (r : Int) := by omega
      clear hst hq hr hu hml
      generalize u ||| s[k].toNat * 2 ^ (8 * r) % 4294967296 = z at *
      generalize s[k].toNat * 2 ^ (8 * r) % 4294967296 = y at *
      go_wp2_with fail
      refine (wpIn_wide (n := 0)).1 ?_
      refine wpIn_region_quiet_tail_lit 14 (by kernel_rfl) (by kernel_rfl) (by kernel_rfl) ?_
      simp only [List.take_succ_cons, List.take_zero, List.drop_succ_cons, List.drop_zero]
      repeat (gi_big_quiet_step (fail))
      refine wpQuietIn_nil ?_
      intro _ hw'
      obtain ⟨nq, hw''⟩ := hw'
      subst hw''
      gi_wp2
      go_wp2
      go_roundw
      case rel => exact ⟨k + 1, by omega, by go_num, by rw [HS.out]; exact HST.out nq⟩
      case measure => simp [intOf]; omega
    · obtain rfl : k = s.size := by omega
      have HKK := Lib.hid (HV.out.kept HK.out (by have := HP.out; omega))
      have hrow := other_row HB1.out HV.out.grown hpp
      have HR := Lib.hid hrow
      clear hrow
      go_wp2_with (first
        | (refine wpList_load_row rfl 71 (.tmp 3) rfl p rfl 71 (cw (Bl.words s.data.toList s.size)) (0, 0) _ HV.out.row Tryd.underlying71 rfl (by rw [size16 HV.out.ok]; exact Tryd.info16) ?_)
        | (refine wpList_store_block rfl 71 (.tmp 2) (.tmp 26) rfl p0 (cw (Bl.words s.data.toList s.size)) z16 71 rfl rfl HR.out (by rw [size16 HV.out.ok]; exact Tryd.info16) (by rw [size16 HV.out.ok]; exact z16_size) (cw_one _) ?_))
      refine bodyPost_ret (v := .agg (cw (Bl.words s.data.toList s.size))) ?_ rfl ⟨rfl, HKK.out.setRow (by have := HP0.out; omega) _⟩
      exact results_cell_row rfl _ _ p0 71 (cw (Bl.words s.data.toList s.size)) (0, 0) _ rfl (HR.out.setRow _) Tryd.underlying71 rfl (by rw [size16 HV.out.ok]; exact Tryd.info16)
end Go.Proofs.YtdllenoclnmmdaaDoor
