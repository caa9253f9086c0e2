/- names.passes, star, letter: rows of truths of one's own (texts of no great length). -/
import Derived.Test.YtjiefcjjgadjiaaDoorNm7
namespace Go.Proofs.YtjiefcjjgadjiaaDoor
open Go.RowKit Go.Shelf

theorem Tryd.infoBoolN : (Tryd.prog.info? 4).map (fun i => (i.zero, i.size, i.bytes)) = some (some (.bool false), 1, 1) := by kernel_rfl
theorem mkBs (n : Nat) (hn : n ≤ 281474976710656) : ∀ u : World, (Instr.makeSlice 51 (.int .i64 n) (.int .i64 n)).run Tryd.prog u =
    .ok (.slice (some ⟨u.heap.size, 0, none⟩) n n) (u.alloc (.cells (madeCells #[.bool false] n) 4)) := fun u => by
  obtain ⟨i0, hi, hz0, hz1, hz2⟩ := info_parts Tryd.infoBoolN
  have h := run_make (P := Tryd.prog) u 51 4 i0 (.bool false) Tryd.underlying51 hi hz0 .i64 .i64 (n : Int) (n : Int) (by omega) (Int.le_refl _) (by rw [hz2]; omega) (by omega)
  simpa [hz1, Value.cells] using h
/-- a row of n truths, alone in its block -/
structure Bs (w : World) (g n : Nat) (F : Nat → Bool) : Prop where
  block : ∃ cs, BlockAt w g cs 4
  cell : ∀ i, i < n → w.cell? ⟨g, i, none⟩ = some (.bool (F i))
theorem Bs.lt {w : World} {g n : Nat} {F : Nat → Bool} (h : Bs w g n F) : g < w.heap.size := by obtain ⟨cs, hb⟩ := h.block; exact hb.lt
theorem Bs.kept {w w' : World} {g n : Nat} {F : Nat → Bool} (h : Bs w g n F) (k : Kept w w') : Bs w' g n F :=
  ⟨by obtain ⟨cs, hb⟩ := h.block; exact ⟨cs, hb.kept k⟩, fun i hi => k.cell h.lt (h.cell i hi)⟩
theorem Bs.free {w : World} {g n : Nat} {F : Nat → Bool} (h : Bs w g n F) (i : Nat) : w.frozen? ⟨g, i, none⟩ = false := by obtain ⟨cs, hb⟩ := h.block; exact hb.free i
theorem Bs.set {w : World} {g n : Nat} {F : Nat → Bool} (h : Bs w g n F) (k : Nat) (hk : k < n) (b : Bool) (G : Nat → Bool) (hG : ∀ i, i < n → G i = if i = k then b else F i) : Bs (w.setCell ⟨g, k, none⟩ (.bool b)) g n G :=
  ⟨by obtain ⟨cs, hb⟩ := h.block; exact ⟨_, hb.set _⟩, fun i hi => by
    rw [hG i hi]
    by_cases e : i = k
    · subst e
      rw [if_pos rfl]
      exact World.cell?_setCell_same _ _ _ (h.cell i hi)
    · rw [if_neg e, World.cell?_setCell_other (h := fun e2 => e (Addr.mk.inj e2).2.1.symm)]
      exact h.cell i hi⟩
theorem Bs.congr {w : World} {g n : Nat} {F G : Nat → Bool} (h : Bs w g n F) (hG : ∀ i, i < n → G i = F i) : Bs w g n G := ⟨h.block, fun i hi => by rw [hG i hi]; exact h.cell i hi⟩
theorem Bs.new (u : World) (n : Nat) : Bs (u.alloc (.cells (madeCells #[.bool false] n) 4)) u.heap.size n (fun _ => false) :=
  ⟨⟨_, BlockAt.new _ _ _⟩, fun i hi => by
    rw [cell_new]
    simp [madeCells, hi, Nat.mod_one]⟩
/-- does a star stand for this byte? -/
def passB (c : UInt8) (two : Bool) : Bool := two || (!(c == 47) && !(c == 58))
def starF (s : ByteArray) (two : Bool) (F : Nat → Bool) : Nat → Bool
  | 0 => F 0
  | m + 1 => F (m + 1) || (starF s two F m && passB (s.data.toList.getD m 0) two)
def letF (s : ByteArray) (c : UInt8) (F : Nat → Bool) : Nat → Bool
  | 0 => false
  | m + 1 => F m && (s.data.toList.getD m 0 == c)
theorem passes_any (c : UInt8) (two : Bool) (w : World) : Calls Tryd.prog 35 #[.int .u8 (c.toNat : Int), .bool two] w fun e w' => e = .returned (.bool (passB c two)) ∧ w = w' := by
  have q1 : (c == (47 : UInt8)) = decide (c.toNat = 47) := byte_eq c 47 (by omega)
  have q2 : (c == (58 : UInt8)) = decide (c.toNat = 58) := byte_eq c 58 (by omega)
  unfold passB
  rw [q1, q2]
  clear q1 q2
  cases two with
  | true =>
    rw [Bool.true_or]
    go_enter Tryd.func35, Tryd.ntmps35
    go_wp2
    go_ret
    exact ⟨rfl, rfl⟩
  | false =>
    rw [Bool.false_or]
    by_cases h1 : c.toNat = 47
    · have e1 : ((c.toNat : Int) != 47) = false := by simp [h1]
      rw [decide_eq_true h1]
      clear h1
      go_enter Tryd.func35, Tryd.ntmps35
      go_wp2
      go_ret
      exact ⟨rfl, rfl⟩
    · have e1 : ((c.toNat : Int) != 47) = true := bne_iff_ne.2 (by omega)
      rw [decide_eq_false h1]
      by_cases h2 : c.toNat = 58
      · have e2 : ((c.toNat : Int) != 58) = false := by simp [h2]
        rw [decide_eq_true h2]
        clear h1 h2
        go_enter Tryd.func35, Tryd.ntmps35
        go_wp2
        go_ret
        exact ⟨rfl, rfl⟩
      · have e2 : ((c.toNat : Int) != 58) = true := bne_iff_ne.2 (by omega)
        rw [decide_eq_false h2]
        clear h1 h2
        go_enter Tryd.func35, Tryd.ntmps35
        go_wp2
        go_ret
        exact ⟨rfl, rfl⟩
set_option maxRecDepth 100000 in
set_option maxHeartbeats 4000000 in
theorem star_nm (s : ByteArray) (two : Bool) (g0 n c0 : Nat) (F : Nat → Bool) (w : World) (hn : n = s.size + 1) (hs : s.size ≤ 40) (hb : Bs w g0 n F) :
    Calls Tryd.prog 27 #[.slice (some ⟨g0, 0, none⟩) n c0, .string s, .bool two] w fun e w' => (∃ g, e = .returned (.slice (some ⟨g, 0, none⟩) n n) ∧ Bs w' g n (starF s two F)) ∧ Kept w w' := by
  have hn41 : n ≤ 41 := by omega
  have hn1 : s.size + 1 ≤ n := by omega
  have hn2 : n ≤ s.size + 1 := by omega
  clear hn
  have hmk := mkBs n (by omega)
  have HB0 := Lib.hid hb
  clear hb
  go_enter Tryd.func27, Tryd.ntmps27
  go_upto_region 2 with (fail)
  have HB1 := Lib.hid (Bs.new w n)
  have HK1 := Lib.hid ((Kept.refl w).alloc (.cells (madeCells #[.bool false] n) 4))
  generalize w.alloc (.cells (madeCells #[.bool false] n) 4) = w1 at *
  obtain ⟨g, hg⟩ : ∃ g, w.heap.size = g := ⟨_, rfl⟩
  have HG := Lib.hid (show w.heap.size ≤ g by omega)
  rw [hg] at HB1 ⊢
  clear hmk hg
  go_wp2_with fail
  go_loopw [14] (fun i wr => ∃ k : Nat, k ≤ n ∧ i = .int .i64 k ∧ Bs wr g n (fun j => if j < k then starF s two F j else false) ∧ Kept w wr) (fun i _ => n - (intOf i).toNat)
  case atStart => exact ⟨0, by omega, rfl, HB1.out.congr (fun i hi => by simp), HK1.out⟩
  case round =>
    obtain ⟨k, hk, rfl, hbr, hkr⟩ := hrel
    have HK := Lib.hid hkr
    have HB := Lib.hid hbr
    clear hkr hbr
    by_cases hlt : k < n
    · have hd1 : decide ((k : Int) < n) = true := decide_eq_true (by omega)
      have hf := HB.out.free k
      have ck := HB.out.cell k hlt
      have c2 := (HB0.out.kept HK.out).cell k hlt
      have HNX := Lib.hid (fun (b : Bool) (hv : starF s two F k = b) => HB.out.set k hlt b (fun j => if j < k + 1 then starF s two F j else false) (fun i hi => by
        by_cases e : i = k
        · rw [if_pos (by omega), if_pos e, e, hv]
        · rw [if_neg e]
          by_cases e2 : i < k
          · rw [if_pos (by omega), if_pos e2]
          · rw [if_neg (by omega), if_neg e2]))
      have HKX := Lib.hid (fun (b : Bool) => HK.out.setCell (p := ⟨g, k, none⟩) (HG.out) (.bool b))
      rw [if_neg (Nat.lt_irrefl k)] at ck
      obtain ⟨f, hfk⟩ : ∃ f, F k = f := ⟨_, rfl⟩
      rw [hfk] at c2
      have HFK := Lib.hid hfk
      clear hfk
      cases f with
      | true =>
        have HV := Lib.hid (show starF s two F k = true by
          cases k with
          | zero => exact HFK.out
          | succ m => unfold starF; rw [HFK.out]; rfl)
        go_wp2
        go_roundw
        case rel => exact ⟨k + 1, by omega, by go_num, HNX.out (true) HV.out, HKX.out (true)⟩
        case measure => simp [intOf]; omega
      | false =>
        by_cases hk0 : k = 0
        · have HV := Lib.hid (show starF s two F k = false by subst hk0; exact HFK.out)
          have hd2 : decide ((0 : Int) < k) = false := decide_eq_false (by omega)
          have hd2n : ¬ 0 < k := by omega
          clear hk0
          go_wp2
          go_roundw
          case rel => exact ⟨k + 1, by omega, by go_num, HNX.out (false) HV.out, HKX.out (false)⟩
          case measure => simp [intOf]; omega
        · obtain ⟨m, hm⟩ : ∃ m, m = k - 1 := ⟨_, rfl⟩
          have hmi : (k : Int) - 1 = (m : Int) := by omega
          have hmn : m < n := by omega
          have hms : m < s.size := by omega
          have hd2 : decide ((0 : Int) < k) = true := decide_eq_true (by omega)
          have hd2n : 0 < k := by omega
          have cm := HB.out.cell m hmn
          rw [if_pos (show m < k by omega)] at cm
          have HSF := Lib.hid (show starF s two F k = (starF s two F m && passB s[m] two) by
            obtain rfl : k = m + 1 := by omega
            rw [byte_of s m hms]
            show (F (m + 1) || _) = _
            rw [HFK.out, Bool.false_or])
          clear hk0 hm
          generalize starF s two F m = q at cm HSF
          cases q with
          | false =>
            have HV := Lib.hid (show starF s two F k = false by rw [HSF.out]; rfl)
            go_wp2
            go_roundw
            case rel => exact ⟨k + 1, by omega, by go_num, HNX.out (false) HV.out, HKX.out (false)⟩
            case measure => simp [intOf]; omega
          | true =>
            have HV := Lib.hid (show starF s two F k = passB s[m] two by rw [HSF.out]; rfl)
            go_wp2_with fail
            refine (passes_any _ _ _).mono ?_
            rintro e w' ⟨rfl, rfl⟩
            go_wp2
            go_roundw
            case rel => exact ⟨k + 1, by omega, by go_num, HNX.out (passB s[m] two) HV.out, HKX.out (passB s[m] two)⟩
            case measure => simp [intOf]; omega
    · obtain rfl : k = n := by omega
      have hd1 : decide ((k : Int) < k) = false := decide_eq_false (by omega)
      go_wp2
      go_ret
      exact ⟨⟨g, rfl, HB.out.congr (fun i hi => by rw [if_pos hi])⟩, HK.out⟩
set_option maxRecDepth 100000 in
set_option maxHeartbeats 4000000 in
theorem letter_nm (s : ByteArray) (c : UInt8) (g0 n c0 : Nat) (F : Nat → Bool) (w : World) (hn : n = s.size + 1) (hs : s.size ≤ 40) (hb : Bs w g0 n F) :
    Calls Tryd.prog 28 #[.slice (some ⟨g0, 0, none⟩) n c0, .string s, .int .u8 (c.toNat : Int)] w fun e w' => (∃ g, e = .returned (.slice (some ⟨g, 0, none⟩) n n) ∧ Bs w' g n (letF s c F)) ∧ Kept w w' := by
  have hn41 : n ≤ 41 := by omega
  have hn1 : s.size + 1 ≤ n := by omega
  have hn2 : n ≤ s.size + 1 := by omega
  clear hn
  have hmk := mkBs n (by omega)
  have HB0 := Lib.hid hb
  clear hb
  go_enter Tryd.func28, Tryd.ntmps28
  go_upto_region 2 with (fail)
  have HB1 := Lib.hid (Bs.new w n)
  have HK1 := Lib.hid ((Kept.refl w).alloc (.cells (madeCells #[.bool false] n) 4))
  generalize w.alloc (.cells (madeCells #[.bool false] n) 4) = w1 at *
  obtain ⟨g, hg⟩ : ∃ g, w.heap.size = g := ⟨_, rfl⟩
  have HG := Lib.hid (show w.heap.size ≤ g by omega)
  rw [hg] at HB1 ⊢
  clear hmk hg
  go_wp2_with fail
  go_loopw [14] (fun i wr => ∃ k : Nat, k ≤ s.size ∧ i = .int .i64 k ∧ Bs wr g n (fun j => if j < k + 1 then letF s c F j else false) ∧ Kept w wr) (fun i _ => s.size - (intOf i).toNat)
  case atStart => exact ⟨0, by omega, rfl, HB1.out.congr (fun i hi => by
    by_cases e : i < 0 + 1
    · obtain rfl : i = 0 := by omega
      rw [if_pos e]; rfl
    · rw [if_neg e]), HK1.out⟩
  case round =>
    obtain ⟨k, hk, rfl, hbr, hkr⟩ := hrel
    have HK := Lib.hid hkr
    have HB := Lib.hid hbr
    clear hkr hbr
    by_cases hlt : k < s.size
    · have hd1 : decide ((k : Int) < s.size) = true := decide_eq_true (by omega)
      have hk1 : k + 1 < n := by omega
      have hk2 : k < n := by omega
      have hf := HB.out.free (k + 1)
      have ck := HB.out.cell (k + 1) hk1
      have c2 := (HB0.out.kept HK.out).cell k hk2
      have HNX := Lib.hid (fun (b : Bool) (hv : letF s c F (k + 1) = b) => HB.out.set (k + 1) hk1 b (fun j => if j < k + 1 + 1 then letF s c F j else false) (fun i hi => by
        by_cases e : i = k + 1
        · rw [if_pos (by omega), if_pos e, e, hv]
        · rw [if_neg e]
          by_cases e2 : i < k + 1
          · rw [if_pos (by omega), if_pos e2]
          · rw [if_neg (by omega), if_neg e2]))
      have HKX := Lib.hid (fun (b : Bool) => HK.out.setCell (p := ⟨g, k + 1, none⟩) (HG.out) (.bool b))
      rw [if_neg (Nat.lt_irrefl (k + 1))] at ck
      have HLF := Lib.hid (show letF s c F (k + 1) = (F k && (s[k] == c)) by rw [byte_of s k hlt]; rfl)
      generalize F k = f at c2 HLF
      cases f with
      | false =>
        have HV := Lib.hid (show letF s c F (k + 1) = false by rw [HLF.out]; rfl)
        go_wp2
        go_roundw
        case rel => exact ⟨k + 1, by omega, by go_num, HNX.out (false) HV.out, HKX.out (false)⟩
        case measure => simp [intOf]; omega
      | true =>
        by_cases hc : s[k] = c
        · have HV := Lib.hid (show letF s c F (k + 1) = true by rw [HLF.out, hc]; simp)
          have e1 : ((s[k].toNat : Int) == (c.toNat : Int)) = true := by rw [hc]; simp
          have HC := Lib.hid hc
          clear hc
          go_wp2
          go_roundw
          case rel => exact ⟨k + 1, by omega, by go_num, HNX.out (true) HV.out, HKX.out (true)⟩
          case measure => simp [intOf]; omega
        · have HV := Lib.hid (show letF s c F (k + 1) = false by rw [HLF.out, beq_eq_false_iff_ne.2 hc]; rfl)
          have e0 : ¬ s[k].toNat = c.toNat := fun e => hc (UInt8.toNat_inj.1 e)
          have e1 : ((s[k].toNat : Int) == (c.toNat : Int)) = false := beq_eq_false_iff_ne.2 (by omega)
          have e2 : (s[k].toNat == c.toNat) = false := beq_eq_false_iff_ne.2 e0
          clear hc
          go_wp2
          go_roundw
          case rel => exact ⟨k + 1, by omega, by go_num, HNX.out (false) HV.out, HKX.out (false)⟩
          case measure => simp [intOf]; omega
    · obtain rfl : k = s.size := by omega
      have hd1 : decide ((s.size : Int) < s.size) = false := decide_eq_false (by omega)
      go_wp2
      go_ret
      exact ⟨⟨g, rfl, HB.out.congr (fun i hi => by rw [if_pos (by omega)])⟩, HK.out⟩
end Go.Proofs.YtjiefcjjgadjiaaDoor
