/- The walk of the law CheckRuns: it answers true and changes nothing that was there (no condition but that the table lies as it is laid). -/
import Derived.Test.YtboheogbllgfjaaDoorChkOf
import Derived.Test.YtboheogbllgfjaaDoorAsk6
import Derived.Test.YtboheogbllgfjaaDoorPj
namespace Go.Proofs.YtboheogbllgfjaaDoor
open Go.RowKit

theorem Tryd.infoU8 : (Tryd.prog.info? 5).map (fun i => (i.zero, i.size, i.bytes)) = some (some (.int .u8 0), 1, 1) := by kernel_rfl
/-- 'make([]byte, n)' -/
theorem make_bytes (n : Nat) (hn : n ≤ 281474976710656) : ∀ u : World, (Instr.makeSlice 32 (.int .i64 n) (.int .i64 n)).run Tryd.prog u =
    .ok (.slice (some ⟨u.heap.size, 0, none⟩) n n) (u.alloc (.cells (madeCells #[.int .u8 0] n) 5)) := fun u => by
  obtain ⟨i0, hi, hz0, hz1, hz2⟩ := info_parts Tryd.infoU8
  have h := run_make (P := Tryd.prog) u 32 5 i0 (.int .u8 0) Tryd.underlying32 hi hz0 .i64 .i64 (n : Int) (n : Int) (by omega) (Int.le_refl _) (by rw [hz2]; omega) (by omega)
  simpa [hz1, Value.cells] using h
theorem made_buf (u : World) (n : Nat) : Buf (u.alloc (.cells (madeCells #[.int .u8 0] n) 5)) u.heap.size (List.replicate n 0) := by
  refine ⟨by simp, fun i hi => ?_, fun i hi => ?_⟩
  · rw [cell_new]
    have hi' : i < n := by simpa using hi
    simp [madeCells, hi', Nat.mod_one]
  · exact (BlockAt.new u (madeCells #[.int .u8 0] n) 5).free i
theorem one_string (w : World) (b : Nat) (c : Int) (hc : 0 ≤ c ∧ c < 256) (hb : BlockAt w b #[.int .u8 c] 5) (y : ByteArray) (hy : y = ⟨#[UInt8.ofNat c.toNat]⟩) :
    (convert 32 9 (.slice (some ⟨b, 0, none⟩) 1 1)).run Tryd.prog w = .ok (.string y) w := by
  subst hy
  have hB : Buf w b [UInt8.ofNat c.toNat] := by
    refine ⟨hb.lt, fun i hi => ?_, fun i hi => hb.free i⟩
    obtain rfl : i = 0 := by simpa using hi
    rw [hb.cell 0]
    have : (UInt8.ofNat c.toNat).toNat = c.toNat := by rw [UInt8.toNat_ofNat']; omega
    simp [this, Int.toNat_of_nonneg hc.1]
  exact hB.string (P := Tryd.prog) 32 9 5 Tryd.underlying32 Tryd.underlying5 Tryd.underlying9 1
set_option maxRecDepth 100000 in
set_option maxHeartbeats 4000000 in
theorem checkRuns_walk {W : World} {v : Value} {a : Option Addr} {l cap : Nat} {ss : List ByteArray} (h : AskS W v a l cap ss) (hf : Fours W) :
    Calls Tryd.prog 6 #[v] W fun e W' => e = .returned (.bool true) ∧ Below W.heap.size W W' := by
  obtain ⟨rfl, hT⟩ := h
  have k1 : Kept W (W.alloc (.cells #[.slice a l cap] 24)) := (Kept.refl W).alloc _
  have HB := Lib.hid (BlockAt.new W #[.slice a l cap] 24)
  have HT := Lib.hid (hT.kept k1)
  have HF := Lib.hid (hf.kept k1)
  have HK1 := Lib.hid k1
  clear hT k1 hf
  go_enter Tryd.func6, Tryd.ntmps6
  go_wp2_with fail
  generalize W.alloc (.cells #[.slice a l cap] 24) = w0 at *
  go_loopw [3] (fun i wr => ∃ k : Nat, k ≤ 260 ∧ i = .int .i64 k ∧ Kept w0 wr) (fun i _ => 260 - (intOf i).toNat)
  case atStart => exact ⟨0, by omega, rfl, Kept.refl _⟩
  case round =>
    obtain ⟨k, hk, rfl, hK⟩ := hrel
    have HK := Lib.hid hK
    clear hK
    by_cases hlt : k < 260
    · have hd26 : decide ((k : Int) < 260) = true := decide_eq_true (by omega)
      have hmk := make_bytes k (by omega)
      have hcv := (made_buf wr k).string (P := Tryd.prog) 32 9 5 Tryd.underlying32 Tryd.underlying5 Tryd.underlying9 k
      rw [List.length_replicate] at hcv
      have hzs : (⟨(List.replicate k (0 : UInt8)).toArray⟩ : ByteArray).size ≤ 9223372036854775807 := by
        show (List.replicate k (0 : UInt8)).toArray.size ≤ _
        simp; omega
      generalize (⟨(List.replicate k (0 : UInt8)).toArray⟩ : ByteArray) = z at hcv hzs
      generalize madeCells #[.int .u8 0] k = Z at hmk hcv
      go_wp2_with fail
      clear hcv hmk
      have HK2 := Lib.hid (HK.out.alloc (.cells Z 5))
      generalize wr.alloc (.cells Z 5) = w2 at *
      have hof := fun w (kk : Kept w2 w) => of_any z hzs w (HF.out.kept (HK2.out.trans kk))
      have hsm := fun w : World => sum_ref 0 (by decide) z hzs w
      obtain ⟨c, hc⟩ : ∃ c : Int, IntKind.u8.wrap (k : Int) = c := ⟨_, rfl⟩
      have hc0 : 0 ≤ c ∧ c < 256 := by rw [← hc]; show 0 ≤ (k : Int) % 256 ∧ (k : Int) % 256 < 256; omega
      obtain ⟨y, hy⟩ : ∃ y : ByteArray, y = ⟨#[UInt8.ofNat c.toNat]⟩ := ⟨_, rfl⟩
      have hys : y.size ≤ 9223372036854775807 := by rw [hy]; exact (by decide : 1 ≤ 9223372036854775807)
      have hoy := fun w (kk : Kept w2 w) => of_any y hys w (HF.out.kept (HK2.out.trans kk))
      have hsy := fun w : World => sum_ref 0 (by decide) y hys w
      have HCY := Lib.hid (fun (b : Nat) (w : World) (hb : BlockAt w b #[.int .u8 c] 5) => one_string w b c hc0 hb y hy)
      generalize ((Crc.more 0 z.data.toList : Nat) : Int) = X at hof hsm
      generalize ((Crc.more 0 y.data.toList : Nat) : Int) = Y at hoy hsy
      have HOF := Lib.hid hof
      have HSM := Lib.hid hsm
      have HOY := Lib.hid hoy
      have HSY := Lib.hid hsy
      have hne : (X != X) = false := by simp
      have hny : (Y != Y) = false := by simp
      have HNE := Lib.hid hne
      have HNY := Lib.hid hny
      clear hne hny hy hys hzs hof hsm hoy hsy
      refine Pj.wp_region_step (fun a0 L a w => ∃ V : Nat → Value, a = Pj.puts [(12, 0), (13, 1), (14, 2), (15, 3), (16, 4), (17, 5), (18, 6), (19, 7), (20, 8), (21, 9), (22, 10), (23, 11), (24, 12), (25, 13), (26, 14), (27, 15), (28, 16), (29, 17)] V a0 ∧ Pj.J w2 [Pj.Is (.string z), Pj.Is (.int .u64 X), Pj.Is (.string z), Pj.Is (.int .u64 X), Pj.Is (.bool false), Pj.Is (.bool false), Pj.Is (.int .i64 k), Pj.Is (.int .u8 c), (fun w v => ∃ b, v = .slice (some ⟨b, 0, none⟩) 1 1 ∧ BlockAt w b #[.int .u8 c] 5), Pj.Is (.string y), Pj.Is (.int .u64 Y), Pj.Is (.int .i64 k), Pj.Is (.int .u8 c), (fun w v => ∃ b, v = .slice (some ⟨b, 0, none⟩) 1 1 ∧ BlockAt w b #[.int .u8 c] 5), Pj.Is (.string y), Pj.Is (.int .u64 Y), Pj.Is (.bool false), Pj.Is (.bool false)] L V w) (by as_aux_lemma => kernel_rfl) (by as_aux_lemma => kernel_rfl) ?eh0 ?ehs ?ehe
      case eh0 =>
        intro L hL
        exact ⟨_, Pj.puts_self _ (fun j => ([12, 13, 14, 15, 16, 17, 18, 19, 20, 21, 22, 23, 24, 25, 26, 27, 28, 29] : List Nat).getD j 0) [0, 1, 2, 3, 4, 5, 6, 7, 8, 9, 10, 11, 12, 13, 14, 15, 16, 17], Pj.J.none (n := 18) (Nat.le_refl _) hL ((Kept.refl _).drew)⟩
      case ehs =>
        rintro L L' a w i op K ⟨V, rfl, hJ⟩ ho hopen hdep hL hK
        have hP : Pj.AllStay [Pj.Is (.string z), Pj.Is (.int .u64 X), Pj.Is (.string z), Pj.Is (.int .u64 X), Pj.Is (.bool false), Pj.Is (.bool false), Pj.Is (.int .i64 k), Pj.Is (.int .u8 c), (fun w v => ∃ b, v = .slice (some ⟨b, 0, none⟩) 1 1 ∧ BlockAt w b #[.int .u8 c] 5), Pj.Is (.string y), Pj.Is (.int .u64 Y), Pj.Is (.int .i64 k), Pj.Is (.int .u8 c), (fun w v => ∃ b, v = .slice (some ⟨b, 0, none⟩) 1 1 ∧ BlockAt w b #[.int .u8 c] 5), Pj.Is (.string y), Pj.Is (.int .u64 Y), Pj.Is (.bool false), Pj.Is (.bool false)] := ⟨Pj.Is.stays _, Pj.Is.stays _, Pj.Is.stays _, Pj.Is.stays _, Pj.Is.stays _, Pj.Is.stays _, Pj.Is.stays _, Pj.Is.stays _, fun _ _ _ ⟨b, e, h⟩ k => ⟨b, e, h.kept k⟩, Pj.Is.stays _, Pj.Is.stays _, Pj.Is.stays _, Pj.Is.stays _, fun _ _ _ ⟨b, e, h⟩ k => ⟨b, e, h.kept k⟩, Pj.Is.stays _, Pj.Is.stays _, Pj.Is.stays _, Pj.Is.stays _, trivial⟩
        have HP := Lib.hid hP
        clear hP
        match i, ho with
        | 0, ho =>
          simp only [List.getElem?_toArray, List.getElem?_cons_zero, Option.some.injEq] at ho
          have HJ := Lib.hid hJ
          clear hJ
          subst ho
          refine Pj.Step.free rfl ?_
          simp only [Pj.puts, List.foldl_cons, List.foldl_nil, Act.put, List.setIfInBounds_toArray, List.set_cons_zero, List.set_cons_succ]
          go_simp
          exact hK _ _ ⟨Pj.vset V 0 (.string z), by simp only [Pj.puts, List.foldl_cons, List.foldl_nil, Act.put, List.setIfInBounds_toArray, List.set_cons_zero, List.set_cons_succ, Pj.vset, Nat.reduceEqDiff, if_true, if_false], HJ.out.more HP.out hL (Kept.refl _) (rfl)⟩
        | 1, ho =>
          simp only [List.getElem?_toArray, List.getElem?_cons_zero, List.getElem?_cons_succ, Option.some.injEq] at ho
          have e0 : V 0 = .string z := hJ.h 0 (hdep 0 (by rw [← ho]; kernel_rfl))
          have HJ := Lib.hid hJ
          clear hJ
          subst ho
          refine Pj.Step.free rfl ?_
          simp only [Pj.puts, List.foldl_cons, List.foldl_nil, Act.put, List.setIfInBounds_toArray, List.set_cons_zero, List.set_cons_succ, e0]
          go_simp
          refine (HOF.out w HJ.out.kp).mono ?_
          rintro e w' ⟨rfl, rfl⟩
          exact hK _ _ ⟨Pj.vset V 1 (.int .u64 X), by simp only [Pj.puts, List.foldl_cons, List.foldl_nil, Act.put, List.setIfInBounds_toArray, List.set_cons_zero, List.set_cons_succ, Pj.vset, Nat.reduceEqDiff, if_true, if_false, e0], HJ.out.more HP.out hL (Kept.refl _) (rfl)⟩
        | 2, ho =>
          simp only [List.getElem?_toArray, List.getElem?_cons_zero, List.getElem?_cons_succ, Option.some.injEq] at ho
          have HJ := Lib.hid hJ
          clear hJ
          subst ho
          refine Pj.Step.free rfl ?_
          simp only [Pj.puts, List.foldl_cons, List.foldl_nil, Act.put, List.setIfInBounds_toArray, List.set_cons_zero, List.set_cons_succ]
          go_simp
          exact hK _ _ ⟨Pj.vset V 2 (.string z), by simp only [Pj.puts, List.foldl_cons, List.foldl_nil, Act.put, List.setIfInBounds_toArray, List.set_cons_zero, List.set_cons_succ, Pj.vset, Nat.reduceEqDiff, if_true, if_false], HJ.out.more HP.out hL (Kept.refl _) (rfl)⟩
        | 3, ho =>
          simp only [List.getElem?_toArray, List.getElem?_cons_zero, List.getElem?_cons_succ, Option.some.injEq] at ho
          have e2 : V 2 = .string z := hJ.h 2 (hdep 2 (by rw [← ho]; kernel_rfl))
          have HJ := Lib.hid hJ
          clear hJ
          subst ho
          refine Pj.Step.free rfl ?_
          simp only [Pj.puts, List.foldl_cons, List.foldl_nil, Act.put, List.setIfInBounds_toArray, List.set_cons_zero, List.set_cons_succ, e2]
          go_simp
          refine (HSM.out w).mono ?_
          rintro e w' ⟨rfl, rfl⟩
          exact hK _ _ ⟨Pj.vset V 3 (.int .u64 X), by simp only [Pj.puts, List.foldl_cons, List.foldl_nil, Act.put, List.setIfInBounds_toArray, List.set_cons_zero, List.set_cons_succ, Pj.vset, Nat.reduceEqDiff, if_true, if_false, e2], HJ.out.more HP.out hL (Kept.refl _) (rfl)⟩
        | 4, ho =>
          simp only [List.getElem?_toArray, List.getElem?_cons_zero, List.getElem?_cons_succ, Option.some.injEq] at ho
          have e1 : V 1 = .int .u64 X := hJ.h 1 (hdep 1 (by rw [← ho]; kernel_rfl))
          have e3 : V 3 = .int .u64 X := hJ.h 3 (hdep 3 (by rw [← ho]; kernel_rfl))
          have hne := HNE.out
          have HJ := Lib.hid hJ
          clear hJ
          subst ho
          refine Pj.Step.free rfl ?_
          simp only [Pj.puts, List.foldl_cons, List.foldl_nil, Act.put, List.setIfInBounds_toArray, List.set_cons_zero, List.set_cons_succ, e1, e3]
          go_simp
          exact hK _ _ ⟨Pj.vset V 4 (.bool false), by simp only [Pj.puts, List.foldl_cons, List.foldl_nil, Act.put, List.setIfInBounds_toArray, List.set_cons_zero, List.set_cons_succ, Pj.vset, Nat.reduceEqDiff, if_true, if_false, e1, e3], HJ.out.more HP.out hL (Kept.refl _) (rfl)⟩
        | 5, ho =>
          simp only [List.getElem?_toArray, List.getElem?_cons_zero, List.getElem?_cons_succ, Option.some.injEq] at ho
          have e4 : V 4 = .bool false := hJ.h 4 (hdep 4 (by rw [← ho]; kernel_rfl))
          have HJ := Lib.hid hJ
          clear hJ
          subst ho
          refine Pj.Step.free rfl ?_
          simp only [Pj.puts, List.foldl_cons, List.foldl_nil, Act.put, List.setIfInBounds_toArray, List.set_cons_zero, List.set_cons_succ, e4]
          go_simp
          exact hK _ _ ⟨Pj.vset V 5 (.bool false), by simp only [Pj.puts, List.foldl_cons, List.foldl_nil, Act.put, List.setIfInBounds_toArray, List.set_cons_zero, List.set_cons_succ, Pj.vset, Nat.reduceEqDiff, if_true, if_false, e4], HJ.out.more HP.out hL (Kept.refl _) (rfl)⟩
        | 6, ho =>
          simp only [List.getElem?_toArray, List.getElem?_cons_zero, List.getElem?_cons_succ, Option.some.injEq] at ho
          have e5 : V 5 = .bool false := hJ.h 5 (hdep 5 (by rw [← ho]; kernel_rfl))
          have HJ := Lib.hid hJ
          clear hJ
          subst ho
          refine Pj.Step.at (g := 5) (b := false) rfl ?hy ?_
          case hy =>
            simp only [Pj.puts, List.foldl_cons, List.foldl_nil, Act.put, List.setIfInBounds_toArray, List.set_cons_zero, List.set_cons_succ, e5]
            rfl
          simp only [Pj.puts, List.foldl_cons, List.foldl_nil, Act.put, List.setIfInBounds_toArray, List.set_cons_zero, List.set_cons_succ, e5]
          go_simp
          exact hK _ _ ⟨Pj.vset V 6 (.int .i64 k), by simp only [Pj.puts, List.foldl_cons, List.foldl_nil, Act.put, List.setIfInBounds_toArray, List.set_cons_zero, List.set_cons_succ, Pj.vset, Nat.reduceEqDiff, if_true, if_false, e5], HJ.out.more HP.out hL (Kept.refl _) (rfl)⟩
        | 7, ho =>
          simp only [List.getElem?_toArray, List.getElem?_cons_zero, List.getElem?_cons_succ, Option.some.injEq] at ho
          have e6 : V 6 = .int .i64 k := hJ.h 6 (hdep 6 (by rw [← ho]; kernel_rfl))
          have e5 : V 5 = .bool false := hJ.h 5 (hdep 5 (by rw [← ho]; kernel_rfl))
          have HJ := Lib.hid hJ
          clear hJ
          subst ho
          refine Pj.Step.at (g := 5) (b := false) rfl ?hy ?_
          case hy =>
            simp only [Pj.puts, List.foldl_cons, List.foldl_nil, Act.put, List.setIfInBounds_toArray, List.set_cons_zero, List.set_cons_succ, e6, e5]
            rfl
          simp only [Pj.puts, List.foldl_cons, List.foldl_nil, Act.put, List.setIfInBounds_toArray, List.set_cons_zero, List.set_cons_succ, e6, e5]
          go_simp
          exact hK _ _ ⟨Pj.vset V 7 (.int .u8 c), by simp only [Pj.puts, List.foldl_cons, List.foldl_nil, Act.put, List.setIfInBounds_toArray, List.set_cons_zero, List.set_cons_succ, Pj.vset, Nat.reduceEqDiff, if_true, if_false, e6, e5], HJ.out.more HP.out hL (Kept.refl _) (rfl)⟩
        | 8, ho =>
          simp only [List.getElem?_toArray, List.getElem?_cons_zero, List.getElem?_cons_succ, Option.some.injEq] at ho
          have e7 : V 7 = .int .u8 c := hJ.h 7 (hdep 7 (by rw [← ho]; kernel_rfl))
          have e5 : V 5 = .bool false := hJ.h 5 (hdep 5 (by rw [← ho]; kernel_rfl))
          have HJ := Lib.hid hJ
          clear hJ
          subst ho
          refine Pj.Step.at (g := 5) (b := false) rfl ?hy ?_
          case hy =>
            simp only [Pj.puts, List.foldl_cons, List.foldl_nil, Act.put, List.setIfInBounds_toArray, List.set_cons_zero, List.set_cons_succ, e7, e5]
            rfl
          simp only [Pj.puts, List.foldl_cons, List.foldl_nil, Act.put, List.setIfInBounds_toArray, List.set_cons_zero, List.set_cons_succ, e7, e5]
          go_simp
          exact hK _ _ ⟨Pj.vset V 8 (.slice (some ⟨w.heap.size, 0, none⟩) 1 1), by simp only [Pj.puts, List.foldl_cons, List.foldl_nil, Act.put, List.setIfInBounds_toArray, List.set_cons_zero, List.set_cons_succ, Pj.vset, Nat.reduceEqDiff, if_true, if_false, e7, e5], HJ.out.more HP.out hL ((Kept.refl _).alloc _) (⟨_, rfl, BlockAt.new _ _ _⟩)⟩
        | 9, ho =>
          simp only [List.getElem?_toArray, List.getElem?_cons_zero, List.getElem?_cons_succ, Option.some.injEq] at ho
          obtain ⟨b, e8, hb⟩ := hJ.h 8 (hdep 8 (by rw [← ho]; kernel_rfl))
          have e5 : V 5 = .bool false := hJ.h 5 (hdep 5 (by rw [← ho]; kernel_rfl))
          have hcv := HCY.out b w hb
          have HJ := Lib.hid hJ
          clear hJ
          subst ho
          refine Pj.Step.at (g := 5) (b := false) rfl ?hy ?_
          case hy =>
            simp only [Pj.puts, List.foldl_cons, List.foldl_nil, Act.put, List.setIfInBounds_toArray, List.set_cons_zero, List.set_cons_succ, e8, e5]
            rfl
          simp only [Pj.puts, List.foldl_cons, List.foldl_nil, Act.put, List.setIfInBounds_toArray, List.set_cons_zero, List.set_cons_succ, e8, e5]
          go_simp
          exact hK _ _ ⟨Pj.vset V 9 (.string y), by simp only [Pj.puts, List.foldl_cons, List.foldl_nil, Act.put, List.setIfInBounds_toArray, List.set_cons_zero, List.set_cons_succ, Pj.vset, Nat.reduceEqDiff, if_true, if_false, e8, e5], HJ.out.more HP.out hL (Kept.refl _) (rfl)⟩
        | 10, ho =>
          simp only [List.getElem?_toArray, List.getElem?_cons_zero, List.getElem?_cons_succ, Option.some.injEq] at ho
          have e9 : V 9 = .string y := hJ.h 9 (hdep 9 (by rw [← ho]; kernel_rfl))
          have e5 : V 5 = .bool false := hJ.h 5 (hdep 5 (by rw [← ho]; kernel_rfl))
          have HJ := Lib.hid hJ
          clear hJ
          subst ho
          refine Pj.Step.at (g := 5) (b := false) rfl ?hy ?_
          case hy =>
            simp only [Pj.puts, List.foldl_cons, List.foldl_nil, Act.put, List.setIfInBounds_toArray, List.set_cons_zero, List.set_cons_succ, e9, e5]
            rfl
          simp only [Pj.puts, List.foldl_cons, List.foldl_nil, Act.put, List.setIfInBounds_toArray, List.set_cons_zero, List.set_cons_succ, e9, e5]
          go_simp
          refine (HOY.out w HJ.out.kp).mono ?_
          rintro e w' ⟨rfl, rfl⟩
          exact hK _ _ ⟨Pj.vset V 10 (.int .u64 Y), by simp only [Pj.puts, List.foldl_cons, List.foldl_nil, Act.put, List.setIfInBounds_toArray, List.set_cons_zero, List.set_cons_succ, Pj.vset, Nat.reduceEqDiff, if_true, if_false, e9, e5], HJ.out.more HP.out hL (Kept.refl _) (rfl)⟩
        | 11, ho =>
          simp only [List.getElem?_toArray, List.getElem?_cons_zero, List.getElem?_cons_succ, Option.some.injEq] at ho
          have e5 : V 5 = .bool false := hJ.h 5 (hdep 5 (by rw [← ho]; kernel_rfl))
          have HJ := Lib.hid hJ
          clear hJ
          subst ho
          refine Pj.Step.at (g := 5) (b := false) rfl ?hy ?_
          case hy =>
            simp only [Pj.puts, List.foldl_cons, List.foldl_nil, Act.put, List.setIfInBounds_toArray, List.set_cons_zero, List.set_cons_succ, e5]
            rfl
          simp only [Pj.puts, List.foldl_cons, List.foldl_nil, Act.put, List.setIfInBounds_toArray, List.set_cons_zero, List.set_cons_succ, e5]
          go_simp
          exact hK _ _ ⟨Pj.vset V 11 (.int .i64 k), by simp only [Pj.puts, List.foldl_cons, List.foldl_nil, Act.put, List.setIfInBounds_toArray, List.set_cons_zero, List.set_cons_succ, Pj.vset, Nat.reduceEqDiff, if_true, if_false, e5], HJ.out.more HP.out hL (Kept.refl _) (rfl)⟩
        | 12, ho =>
          simp only [List.getElem?_toArray, List.getElem?_cons_zero, List.getElem?_cons_succ, Option.some.injEq] at ho
          have e11 : V 11 = .int .i64 k := hJ.h 11 (hdep 11 (by rw [← ho]; kernel_rfl))
          have e5 : V 5 = .bool false := hJ.h 5 (hdep 5 (by rw [← ho]; kernel_rfl))
          have HJ := Lib.hid hJ
          clear hJ
          subst ho
          refine Pj.Step.at (g := 5) (b := false) rfl ?hy ?_
          case hy =>
            simp only [Pj.puts, List.foldl_cons, List.foldl_nil, Act.put, List.setIfInBounds_toArray, List.set_cons_zero, List.set_cons_succ, e11, e5]
            rfl
          simp only [Pj.puts, List.foldl_cons, List.foldl_nil, Act.put, List.setIfInBounds_toArray, List.set_cons_zero, List.set_cons_succ, e11, e5]
          go_simp
          exact hK _ _ ⟨Pj.vset V 12 (.int .u8 c), by simp only [Pj.puts, List.foldl_cons, List.foldl_nil, Act.put, List.setIfInBounds_toArray, List.set_cons_zero, List.set_cons_succ, Pj.vset, Nat.reduceEqDiff, if_true, if_false, e11, e5], HJ.out.more HP.out hL (Kept.refl _) (rfl)⟩
        | 13, ho =>
          simp only [List.getElem?_toArray, List.getElem?_cons_zero, List.getElem?_cons_succ, Option.some.injEq] at ho
          have e12 : V 12 = .int .u8 c := hJ.h 12 (hdep 12 (by rw [← ho]; kernel_rfl))
          have e5 : V 5 = .bool false := hJ.h 5 (hdep 5 (by rw [← ho]; kernel_rfl))
          have HJ := Lib.hid hJ
          clear hJ
          subst ho
          refine Pj.Step.at (g := 5) (b := false) rfl ?hy ?_
          case hy =>
            simp only [Pj.puts, List.foldl_cons, List.foldl_nil, Act.put, List.setIfInBounds_toArray, List.set_cons_zero, List.set_cons_succ, e12, e5]
            rfl
          simp only [Pj.puts, List.foldl_cons, List.foldl_nil, Act.put, List.setIfInBounds_toArray, List.set_cons_zero, List.set_cons_succ, e12, e5]
          go_simp
          exact hK _ _ ⟨Pj.vset V 13 (.slice (some ⟨w.heap.size, 0, none⟩) 1 1), by simp only [Pj.puts, List.foldl_cons, List.foldl_nil, Act.put, List.setIfInBounds_toArray, List.set_cons_zero, List.set_cons_succ, Pj.vset, Nat.reduceEqDiff, if_true, if_false, e12, e5], HJ.out.more HP.out hL ((Kept.refl _).alloc _) (⟨_, rfl, BlockAt.new _ _ _⟩)⟩
        | 14, ho =>
          simp only [List.getElem?_toArray, List.getElem?_cons_zero, List.getElem?_cons_succ, Option.some.injEq] at ho
          obtain ⟨b, e13, hb⟩ := hJ.h 13 (hdep 13 (by rw [← ho]; kernel_rfl))
          have e5 : V 5 = .bool false := hJ.h 5 (hdep 5 (by rw [← ho]; kernel_rfl))
          have hcv := HCY.out b w hb
          have HJ := Lib.hid hJ
          clear hJ
          subst ho
          refine Pj.Step.at (g := 5) (b := false) rfl ?hy ?_
          case hy =>
            simp only [Pj.puts, List.foldl_cons, List.foldl_nil, Act.put, List.setIfInBounds_toArray, List.set_cons_zero, List.set_cons_succ, e13, e5]
            rfl
          simp only [Pj.puts, List.foldl_cons, List.foldl_nil, Act.put, List.setIfInBounds_toArray, List.set_cons_zero, List.set_cons_succ, e13, e5]
          go_simp
          exact hK _ _ ⟨Pj.vset V 14 (.string y), by simp only [Pj.puts, List.foldl_cons, List.foldl_nil, Act.put, List.setIfInBounds_toArray, List.set_cons_zero, List.set_cons_succ, Pj.vset, Nat.reduceEqDiff, if_true, if_false, e13, e5], HJ.out.more HP.out hL (Kept.refl _) (rfl)⟩
        | 15, ho =>
          simp only [List.getElem?_toArray, List.getElem?_cons_zero, List.getElem?_cons_succ, Option.some.injEq] at ho
          have e14 : V 14 = .string y := hJ.h 14 (hdep 14 (by rw [← ho]; kernel_rfl))
          have e5 : V 5 = .bool false := hJ.h 5 (hdep 5 (by rw [← ho]; kernel_rfl))
          have HJ := Lib.hid hJ
          clear hJ
          subst ho
          refine Pj.Step.at (g := 5) (b := false) rfl ?hy ?_
          case hy =>
            simp only [Pj.puts, List.foldl_cons, List.foldl_nil, Act.put, List.setIfInBounds_toArray, List.set_cons_zero, List.set_cons_succ, e14, e5]
            rfl
          simp only [Pj.puts, List.foldl_cons, List.foldl_nil, Act.put, List.setIfInBounds_toArray, List.set_cons_zero, List.set_cons_succ, e14, e5]
          go_simp
          refine (HSY.out w).mono ?_
          rintro e w' ⟨rfl, rfl⟩
          exact hK _ _ ⟨Pj.vset V 15 (.int .u64 Y), by simp only [Pj.puts, List.foldl_cons, List.foldl_nil, Act.put, List.setIfInBounds_toArray, List.set_cons_zero, List.set_cons_succ, Pj.vset, Nat.reduceEqDiff, if_true, if_false, e14, e5], HJ.out.more HP.out hL (Kept.refl _) (rfl)⟩
        | 16, ho =>
          simp only [List.getElem?_toArray, List.getElem?_cons_zero, List.getElem?_cons_succ, Option.some.injEq] at ho
          have e10 : V 10 = .int .u64 Y := hJ.h 10 (hdep 10 (by rw [← ho]; kernel_rfl))
          have e15 : V 15 = .int .u64 Y := hJ.h 15 (hdep 15 (by rw [← ho]; kernel_rfl))
          have e5 : V 5 = .bool false := hJ.h 5 (hdep 5 (by rw [← ho]; kernel_rfl))
          have hne := HNY.out
          have HJ := Lib.hid hJ
          clear hJ
          subst ho
          refine Pj.Step.at (g := 5) (b := false) rfl ?hy ?_
          case hy =>
            simp only [Pj.puts, List.foldl_cons, List.foldl_nil, Act.put, List.setIfInBounds_toArray, List.set_cons_zero, List.set_cons_succ, e10, e15, e5]
            rfl
          simp only [Pj.puts, List.foldl_cons, List.foldl_nil, Act.put, List.setIfInBounds_toArray, List.set_cons_zero, List.set_cons_succ, e10, e15, e5]
          go_simp
          exact hK _ _ ⟨Pj.vset V 16 (.bool false), by simp only [Pj.puts, List.foldl_cons, List.foldl_nil, Act.put, List.setIfInBounds_toArray, List.set_cons_zero, List.set_cons_succ, Pj.vset, Nat.reduceEqDiff, if_true, if_false, e10, e15, e5], HJ.out.more HP.out hL (Kept.refl _) (rfl)⟩
        | 17, ho =>
          simp only [List.getElem?_toArray, List.getElem?_cons_zero, List.getElem?_cons_succ, Option.some.injEq] at ho
          have e5 : V 5 = .bool false := hJ.h 5 (hdep 5 (by rw [← ho]; kernel_rfl))
          have e16 : V 16 = .bool false := hJ.h 16 (hdep 16 (by rw [← ho]; kernel_rfl))
          have HJ := Lib.hid hJ
          clear hJ
          subst ho
          refine Pj.Step.free rfl ?_
          simp only [Pj.puts, List.foldl_cons, List.foldl_nil, Act.put, List.setIfInBounds_toArray, List.set_cons_zero, List.set_cons_succ, e5, e16]
          go_simp
          exact hK _ _ ⟨Pj.vset V 17 (.bool false), by simp only [Pj.puts, List.foldl_cons, List.foldl_nil, Act.put, List.setIfInBounds_toArray, List.set_cons_zero, List.set_cons_succ, Pj.vset, Nat.reduceEqDiff, if_true, if_false, e5, e16], HJ.out.more HP.out hL (Kept.refl _) (rfl)⟩
        | n + 18, ho => simp at ho
      case ehe =>
        rintro L a w ⟨V, rfl, hJ⟩ hall
        have e17 : V 17 = .bool false := hJ.h 17 (hall 17 (by decide))
        have HKj := Lib.hid hJ.kp
        clear hJ hall
        simp only [Pj.puts, List.foldl_cons, List.foldl_nil, Act.put, List.setIfInBounds_toArray, List.set_cons_zero, List.set_cons_succ, e17]
        clear e17
        go_wp2_with fail
        go_roundw
        case rel => exact ⟨k + 1, by omega, by go_num, (HK2.out.trans HKj.out)⟩
        case measure => simp [intOf]; omega
    · have ht := HT.out.kept HK.out
      obtain a0 := box1 (HB.out.kept HK.out)
      go_wp2_with fail
      refine (texts_sum _ _ _ ss _ ht).mono ?_
      rintro e w1 ⟨⟨n, rfl, hn⟩, rfl⟩
      have hn0 := hn.nonneg
      have hd : decide (0 ≤ n) = true := decide_eq_true hn0
      clear hn ht a0
      go_wp2_with fail
      refine (wakes9_any _ (HF.out.kept HK.out)).mono ?_
      rintro e w2 ⟨rfl, rfl⟩
      go_wp2
      go_ret
      exact ⟨rfl, HK1.out.trans HK.out⟩
end Go.Proofs.YtboheogbllgfjaaDoor
