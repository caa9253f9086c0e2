/- Contracts laid together: what each says stands at its head (no conditions). -/
import Derived.Test.YtdllenoclnmmdaaRows
import Derived.Test.YtdllenoclnmmdaaText
import Derived.Test.YtdllenoclnmmdaaRes
import Derived.Test.YtdllenoclnmmdaaAskT
import Derived.Test.YtdllenoclnmmdaaGq
namespace Go.Proofs.Ytdllenoclnmmdaa
open Go.RowKit
theorem Try.infoB8 : (Try.prog.info? 5).map (fun i => (i.zero, i.size, i.bytes)) = some (some (.int .u8 0), 1, 1) := by kernel_rfl
theorem makeB (n : Nat) (hn : n ≤ 281474976710656) : ∀ u : World, (Instr.makeSlice 70 (.int .i64 n) (.int .i64 n)).run Try.prog u =
    .ok (.slice (some ⟨u.heap.size, 0, none⟩) n n) (u.alloc (.cells (madeCells #[.int .u8 0] n) 5)) := fun u => by
  obtain ⟨i0, hi, hz0, hz1, hz2⟩ := info_parts Try.infoB8
  have h := run_make (P := Try.prog) u 70 5 i0 (.int .u8 0) Try.underlying70 hi hz0 .i64 .i64 (n : Int) (n : Int) (by omega) (Int.le_refl _) (by rw [hz2]; omega) (by omega)
  simpa [hz1, Value.cells] using h
theorem madeB (u : World) (n : Nat) : Buf (u.alloc (.cells (madeCells #[.int .u8 0] n) 5)) u.heap.size (List.replicate n 0) := by
  refine ⟨by simp, fun i hi => ?_, fun i hi => ?_⟩
  · rw [cell_new]
    have hi' : i < n := by simpa using hi
    simp [madeCells, hi', Nat.mod_one]
  · exact (BlockAt.new u (madeCells #[.int .u8 0] n) 5).free i
end Go.Proofs.Ytdllenoclnmmdaa

namespace Go.Proofs.Ytdllenoclnmmdaa
open Go.RowKit Go.Shelf
attribute [local go_sem] Oper.semAt_some

theorem num21_any (n : Int) (w : World) : Calls Try.prog 25 #[.int .i64 n] w fun e w' => e = .returned (.int .i64 n) ∧ w = w' := by
  go_enter Try.func25, Try.ntmps25
  go_wp2
  go_ret
  exact ⟨rfl, rfl⟩
/-- some of the digests -/
def rtF (ts : List Th) (q : Nat) : Nat → List ByteArray
  | 0 => []
  | k + 1 => if (k + q) % 3 = 0 then rtF ts q k ++ [(ts.getD k th00).d] else rtF ts q k
theorem rtF_len (ts : List Th) (q : Nat) : ∀ k, (rtF ts q k).length ≤ k
  | 0 => Nat.le_refl _
  | k + 1 => by
    have ih := rtF_len ts q k
    unfold rtF
    split
    · rw [List.length_append]; simp; omega
    · omega
def rootsL (ts : List Th) (ss : List ByteArray) (q : Nat) : List ByteArray := ss ++ rtF ts q ts.length
def RootsP (w : World) (ss : List ByteArray) (e : Ending) (w' : World) : Prop := ∃ a' c', e = .returned (.slice a' ss.length c') ∧ w'.ownsRow w.heap.size 9 1 (.slice a' ss.length c') ss.length (ss.map Value.string) ∧ Kept w w'
set_option maxRecDepth 100000 in
set_option maxHeartbeats 4000000 in
theorem roots_any (ax : Option Addr) (l cap : Nat) (ts : List Th) (ar : Option Addr) (lr cr : Nat) (rs : List ByteArray) (q : Nat) (w : World) (h : ThsIn w ax l ts) (hr : StrsIn w ar lr rs) (hl : l ≤ 1000000) (hlr : lr ≤ 1000000) (hq : q ≤ 1000000) :
    Calls Try.prog 28 #[.slice ax l cap, .slice ar lr cr, .int .i64 q] w (RootsP w (rootsL ts rs q)) := by
  obtain ⟨i0, hi, hz0, hz1, hz2⟩ := info_parts Try.infoSt
  have HI := Lib.hid (And.intro hi (And.intro hz0 (And.intro hz1 hz2)))
  have HS := Lib.hid h
  have HL := Lib.hid h.len_eq
  have hrl := hr.len_eq
  have HRL := Lib.hid hrl
  have HCP := Lib.hid (copy_strings_own ar lr cr rs w hr (by omega))
  clear hi hz0 hz1 hz2 h hr
  go_enter Try.func28, Try.ntmps28
  go_wp2_with fail
  refine HCP.out.mono ?_
  rintro e w1 ⟨a1, c1, rfl, ho, hk⟩
  have HO1 := Lib.hid ho
  have HK1 := Lib.hid hk
  clear HCP ho hk
  go_wp2_with fail
  go_loopw [7, 8] (fun v i wr => ∃ k : Nat, k ≤ l ∧ i = .int .i64 k ∧ wr.ownsRow w.heap.size 9 1 v (rs ++ rtF ts q k).length ((rs ++ rtF ts q k).map Value.string) ∧ Kept w wr) (fun _ i _ => l - (intOf i).toNat)
  case atStart => exact ⟨0, by omega, rfl, by simp only [rtF, List.append_nil]; rw [hrl]; exact HO1.out, HK1.out⟩
  case round =>
    rename Value => v7
    obtain ⟨k, hk, rfl, ho, hkr⟩ := hrel
    have HK := Lib.hid hkr
    have HO := Lib.hid ho
    have hlen : (rs ++ rtF ts q k).length ≤ lr + k := by
      rw [List.length_append, hrl]
      have := rtF_len ts q k
      omega
    clear hkr
    obtain ⟨A, hA⟩ : ∃ A, A = rs ++ rtF ts q k := ⟨_, rfl⟩
    rw [← hA] at ho HO hlen
    have HA := Lib.hid hA
    clear hA
    by_cases hlt : k < l
    · have hd1 : decide (k < l) = true := decide_eq_true hlt
      have HSN := Lib.hid (show rtF ts q (k + 1) = if (k + q) % 3 = 0 then rtF ts q k ++ [(ts.getD k th00).d] else rtF ts q k from rfl)
      obtain ⟨av, cv, rfl⟩ := slice_of_own1 ho
      obtain ⟨b, off, rfl, hc⟩ := HS.out.at (by omega)
      obtain ⟨c0, c1, c2⟩ := hc k hlt _ HK.out
      obtain ⟨x, hx⟩ : ∃ x, x = ts.getD k th00 := ⟨_, rfl⟩
      rw [← hx] at c0 c1 c2 HSN
      obtain ⟨xd, xt, xm⟩ := x
      dsimp only at c0 c1 c2 HSN
      have hsz : w.heap.size ≤ wr.heap.size := HK.out.size
      have hkq : (IntKind.i64.wrap ((k : Int) + (q : Int))) = ((k + q : Nat) : Int) := by
        rw [IntWalk.i64_in _ (by omega)]; omega
      obtain ⟨s, hs⟩ : ∃ s, s = k + q := ⟨_, rfl⟩
      have hsm : s ≤ 2000000 := by omega
      rw [← hs] at hkq HSN
      obtain ⟨p, hp⟩ : ∃ p, p = s % 3 := ⟨_, rfl⟩
      have e1t : (s : Int).tmod 3 = (p : Int) := by rw [Int.tmod_eq_emod_of_nonneg (by omega)]; omega
      have hp3 : p < 3 := by omega
      have hpw : IntKind.i64.wrap (p : Int) = (p : Int) := IntWalk.i64_in _ (by omega)
      rw [← hp] at HSN
      clear hc hx ho hs hp
      cases p with
      | zero =>
        have HSN2 := Lib.hid (show rs ++ rtF ts q (k + 1) = A ++ [xd] by rw [HSN.out, HA.out, List.append_assoc]; rfl)
        have hpz : (((0 : Nat) : Int) == 0) = true := rfl
        clear HSN
        go_wp2_with (at_builtin; refine wpList_append_held rfl _ _ 23 rfl w.heap.size 9 i0 (.string ByteArray.empty) 16 Try.underlying23 HI.out.1 HI.out.2.1 HI.out.2.2.1 HI.out.2.2.2 rfl _ _ _ rfl (own_kept HO.out ((Kept.refl wr).alloc _)) (some ⟨wr.heap.size, 0, none⟩) 1 1 [.string xd] rfl (held_one wr _ _ rfl) ?c1 ?c2 ?c3 ?_)
        case c1 => unfold maxLen; omega
        case c2 => omega
        case c3 => rw [World.size_alloc]; omega
        intro v' w6 hown hgr _
        have HK6 := Lib.hid (kept_gr (HK.out.alloc _) hgr (fun r e => (HO.out.lt r e).1))
        have HD6 := Lib.hid (show w6.ownsRow w.heap.size 9 1 v' (rs ++ rtF ts q (k + 1)).length ((rs ++ rtF ts q (k + 1)).map Value.string) by
          rw [HSN2.out, List.length_append, List.map_append]; exact hown)
        clear hown hgr
        go_wp2_with fail
        go_roundw
        case rel => exact ⟨k + 1, by omega, by go_num, HD6.out, HK6.out⟩
        case measure => simp [intOf]; omega
      | succ p =>
        have HSN2 := Lib.hid (show rs ++ rtF ts q (k + 1) = A by rw [HSN.out, HA.out]; rfl)
        have hpz : (((p + 1 : Nat) : Int) == 0) = false := by
          rw [beq_eq_false_iff_ne]; omega
        clear HSN
        go_wp2_with fail
        go_roundw
        case rel => exact ⟨k + 1, by omega, by go_num, by rw [HSN2.out]; exact HO.out, HK.out⟩
        case measure => simp [intOf]; omega
    · obtain rfl : l = k := by omega
      have hd1 : decide (l < l) = false := decide_eq_false (by omega)
      obtain ⟨av, cv, rfl⟩ := slice_of_own1 ho
      clear ho
      go_wp2_with fail
      go_ret
      have HE := Lib.hid (show A = rootsL ts rs q by unfold rootsL; rw [HL.out, HA.out])
      exact ⟨_, _, by rw [← HE.out]; rfl, by rw [← HE.out]; exact HO.out, HK.out⟩
/-- of one thing alone it is reached -/
theorem from_self (t : Th) (x : ByteArray) : fromL [t] [t.d, x] = [t.d] := by
  have e : lbF [t] t.d = 0 := lbF_of [t] 0 (by simp) (fun i hi => absurd hi (Nat.not_lt_zero i)) (fun _ => ltB_irrefl _)
  have hf : fdF [t] t.d = true := by
    unfold fdF
    rw [e]
    exact decide_eq_true ⟨Nat.zero_lt_one, rfl⟩
  have h0 : rchB [t] [t.d, x] 0 = true := (rchB_iff _ _ _).2 (.root (lkD_mem.2 ⟨t.d, List.mem_cons_self, hf, e⟩))
  unfold fromL
  rw [show List.range ([t] : List Th).length = [0] from rfl, List.filter_cons, h0]
  rfl
theorem zeros_made (n : Nat) (u : World) : ∀ j, (hj : j < (List.replicate n (0 : UInt8)).length) → (u.alloc (.cells (madeCells #[.int .u8 0] n) 5)).cell? ⟨u.heap.size, j, none⟩ = some (.int .u8 (((List.replicate n (0 : UInt8))[j]).toNat : Int)) := fun j hj => by
  rw [cell_new]
  have hj' : j < n := by simpa using hj
  simp [madeCells, hj', Nat.mod_one]
set_option maxRecDepth 100000 in
set_option maxHeartbeats 4000000 in
theorem wakes21_any (w : World) : Calls Try.prog 34 #[] w fun e w' => e = .returned (.bool true) ∧ Kept w w' := by
  obtain ⟨z, hz⟩ : ∃ z : ByteArray, z = ⟨⟨List.replicate 32 0⟩⟩ := ⟨_, rfl⟩
  have hzl : z.size = 32 := by rw [hz]; rfl
  have HB := Lib.hid (show thsB [⟨z, ByteArray.empty, false⟩] = true by
    unfold thsB thB riB
    rw [hz]
    rfl)
  have HF := Lib.hid (from_self ⟨z, ByteArray.empty, false⟩ ⟨#[120]⟩)
  have hmk : ∀ u : World, (Instr.makeSlice 70 (.int .i64 32) (.int .i64 32)).run Try.prog u = .ok (.slice (some ⟨u.heap.size, 0, none⟩) 32 32) (u.alloc (.cells (madeCells #[.int .u8 0] 32) 5)) := makeB 32 (by omega)
  go_enter Try.func34, Try.ntmps34
  have hcv : (convert 70 9 (.slice (some ⟨w.heap.size, 0, none⟩) 32 32)).run Try.prog (w.alloc (.cells (madeCells #[.int .u8 0] 32) 5)) = .ok (.string z) (w.alloc (.cells (madeCells #[.int .u8 0] 32) 5)) := by
    rw [hz]
    refine run_convert_bytes_back (P := Try.prog) _ 70 9 5 ⟨w.heap.size, 0, none⟩ 32 (List.replicate 32 0) Try.underlying70 Try.underlying5 Try.underlying9 (fun j hj => ?_)
    rw [addr_add]
    simpa using zeros_made 32 w j (by simpa using hj)
  clear hz
  go_upto_region 2 with (fail)
  clear hcv hmk
  have HK0 := Lib.hid ((Kept.refl w).alloc (.cells (madeCells #[.int .u8 0] 32) 5))
  generalize w.alloc (.cells (madeCells #[.int .u8 0] 32) 5) = w0 at *
  have hxx : (⟨#[]⟩ : ByteArray) = ByteArray.empty := rfl
  have HBT := Lib.hid (BlockAt.new w0 #[.string z, .string ByteArray.empty, .bool false] 65)
  have HKT := Lib.hid ((Kept.refl w0).alloc (.cells #[.string z, .string ByteArray.empty, .bool false] 65))
  go_wp2_with fail
  obtain ⟨w1, hw1⟩ : ∃ w1, w1 = w0.alloc (.cells #[.string z, .string ByteArray.empty, .bool false] 65) := ⟨_, rfl⟩
  rw [← hw1] at HBT HKT ⊢
  have hz1 : w1.heap.size = w0.heap.size + 1 := by rw [hw1]; simp
  clear hw1
  have HBR := Lib.hid (BlockAt.new w1 #[.string z, .string ⟨#[120]⟩] 9)
  have HKR := Lib.hid ((Kept.refl w1).alloc (.cells #[.string z, .string ⟨#[120]⟩] 9))
  rw [hz1] at HBR
  obtain ⟨w2, hw2⟩ : ∃ w2, w2 = w1.alloc (.cells #[.string z, .string ⟨#[120]⟩] 9) := ⟨_, rfl⟩
  rw [← hw2] at HBR HKR ⊢
  clear hw2
  have HT := Lib.hid (show ThsIn w2 (some ⟨w0.heap.size, 0, none⟩) 1 [⟨z, ByteArray.empty, false⟩] from ⟨rfl, by omega, (fun x hx => by rw [List.mem_singleton] at hx; subst hx; exact ⟨by show z.size ≤ _; omega, Nat.zero_le _⟩), w0.heap.size, 0, fun _ => rfl, fun i hi => by
    obtain rfl : i = 0 := by omega
    exact ⟨(HBT.out.kept HKR.out).lt, (HBT.out.kept HKR.out).cell 0, (HBT.out.kept HKR.out).cell 1, (HBT.out.kept HKR.out).cell 2⟩⟩)
  have HR := Lib.hid (show StrsIn w2 (some ⟨w0.heap.size + 1, 0, none⟩) 2 [z, ⟨#[120]⟩] from ⟨rfl, by omega, (fun x hx => by rcases List.mem_cons.1 hx with rfl | hx; (· omega); rw [List.mem_singleton] at hx; subst hx; decide), w0.heap.size + 1, 0, fun _ => rfl, fun i hi => by
    match i, hi with
    | 0, _ => exact ⟨HBR.out.lt, HBR.out.cell 0⟩
    | 1, _ => exact ⟨HBR.out.lt, HBR.out.cell 1⟩⟩)
  have HK2 := Lib.hid (HK0.out.trans (HKT.out.trans HKR.out))
  clear HBT HBR HKT HKR HK0 hxx
  refine (from_good _ 1 1 _ _ 2 2 _ w2 HT.out HR.out (by omega) HB.out).mono ?_
  rintro e w3 ⟨g, c, rfl, hs, hk, _, _⟩
  rw [HF.out] at hs ⊢
  have HK3 := Lib.hid (HK2.out.trans hk)
  have HS3 := Lib.hid hs
  clear hs hk HT HR HK2 HB HF
  go_wp2_with fail
  refine (num21_any _ _).mono ?_
  rintro e w4 ⟨rfl, rfl⟩
  go_wp2_with fail
  have HBN := Lib.hid (BlockAt.new w3 #[.string z] 9)
  have HKN := Lib.hid ((Kept.refl w3).alloc (.cells #[.string z] 9))
  generalize w3.alloc (.cells #[.string z] 9) = w5 at *
  refine (eq_strings2 _ _ 1 1 c 1 [z] [z] w5 (HS3.out.kept HKN.out) ⟨rfl, by omega, (fun x hx => by rw [List.mem_singleton] at hx; subst hx; omega), w3.heap.size, 0, fun _ => rfl, fun i hi => by
    obtain rfl : i = 0 := by omega
    exact ⟨HBN.out.lt, HBN.out.cell 0⟩⟩).mono ?_
  rintro e w6 ⟨rfl, hk6⟩
  have HK6 := Lib.hid (HK3.out.trans (HKN.out.trans hk6))
  have hde : decide ([z] = [z]) = true := decide_eq_true rfl
  rw [hde]
  clear hk6 hde HS3
  go_wp2
  go_ret
  exact ⟨rfl, HK6.out⟩
/-- what is said by 'not heavy' -/
def LightT (lm : Nat) (tt : List (List Th)) : Prop := ∀ i, i < lm → wtA (tt.getD i []) ≤ 9000
def HeavyTP (w : World) (lm ls : Nat) (tt : List (List Th)) (e : Ending) (w' : World) : Prop := Kept w w' ∧ (e = .returned (.bool true) ∨ e = .returned (.bool false) ∧ LightT lm tt ∧ ls ≤ 9000)
set_option maxRecDepth 100000 in
set_option maxHeartbeats 4000000 in
theorem heavy21_any (am : Option Addr) (lm cm : Nat) (tt : List (List Th)) (aa : Option Addr) (ls cs : Nat) (ss : List ByteArray) (wo : World) (hm : TtsIn wo am lm tt) (hs : TextsIn wo aa ls cs ss) :
    Calls Try.prog 20 #[.agg #[.slice am lm cm, .slice aa ls cs]] wo (HeavyTP wo lm ls tt) := by
  have HMS := Lib.hid hm
  have HSS := Lib.hid hs
  have hlm := hm.few
  have HB0 := Lib.hid (BlockAt.new wo #[.slice am lm cm, .slice aa ls cs] 44)
  have HK0 := Lib.hid ((Kept.refl wo).alloc (.cells #[.slice am lm cm, .slice aa ls cs] 44))
  have hbs := hs.sum_bd
  clear hm hs
  go_enter Try.func20, Try.ntmps20
  go_upto_region 1 with (fail)
  generalize wo.alloc (.cells #[.slice am lm cm, .slice aa ls cs] 44) = w1 at *
  have HBX0 := Lib.hid (show ∀ w, Kept w1 w → w.cell? ⟨wo.heap.size, 0, none⟩ = some (.slice am lm cm) ∧ w.cell? ⟨wo.heap.size, 1, none⟩ = some (.slice aa ls cs) from fun w k => ⟨(HB0.out.kept k).cell 0, (HB0.out.kept k).cell 1⟩)
  obtain ⟨a0, a1⟩ := HBX0.out _ (Kept.refl _)
  go_wp2_with fail
  refine (texts_eq aa ls cs ss _ ((HSS.out.kept HK0.out))).mono ?_
  rintro e w2 ⟨rfl, rfl⟩
  obtain ⟨N, hN⟩ : ∃ N, N = sumA ss := ⟨_, rfl⟩
  rw [← hN] at hbs ⊢
  clear hN a0 a1
  go_wp2_with fail
  go_loopw [3, 4] (fun nv kv wr => ∃ (k : Nat) (n : Int), k ≤ lm ∧ kv = .int .i64 k ∧ nv = .int .i64 n ∧ (ls : Int) ≤ n ∧ 0 ≤ n ∧ n ≤ 1125899906842624 ∧ Hid (∀ i, i < k → wtA (tt.getD i []) ≤ n) ∧ Kept w1 wr) (fun _ kv _ => lm - (intOf kv).toNat)
  case atStart => exact ⟨0, N, by omega, rfl, rfl, by omega, by omega, by omega, Lib.hid (fun i hi => absurd hi (Nat.not_lt_zero i)), Kept.refl _⟩
  case round =>
    obtain ⟨k, n, hk, rfl, rfl, hn1, hn0, hn2, HA, hkr⟩ := hrel
    have HKR := Lib.hid hkr
    obtain ⟨a0, a1⟩ := HBX0.out _ hkr
    have HBX := Lib.hid (show ∀ w, Kept wr w → w.cell? ⟨wo.heap.size, 0, none⟩ = some (.slice am lm cm) ∧ w.cell? ⟨wo.heap.size, 1, none⟩ = some (.slice aa ls cs) from fun w k => HBX0.out _ (HKR.out.trans k))
    clear hkr
    by_cases hend : k < lm ∧ n < 1048576
    · obtain ⟨hlt, hnn⟩ := hend
      have hd1 : decide (k < lm) = true := decide_eq_true hlt
      have hd2 : decide (n < 1048576) = true := decide_eq_true hnn
      obtain ⟨bm, om, rfl, hc⟩ := HMS.out.row (by omega)
      obtain ⟨ax, cx, hcell, hT⟩ := hc k hlt
      have HASN := Lib.hid (show ∀ z : Int, n ≤ z → wtA (tt.getD k []) ≤ z → ∀ i, i < k + 1 → wtA (tt.getD i []) ≤ z from fun z h0 h1 i hi => by
        by_cases e : i = k
        · subst e; exact h1
        · have := HA.out i (by omega); omega)
      generalize tt.getD k [] = ts at *
      have hwt := hT.wt
      obtain ⟨la, hla⟩ : ∃ la, la = ts.length := ⟨_, rfl⟩
      rw [← hla] at hcell hT
      have hkw : Kept wo wr := HK0.out.trans HKR.out
      have HC1 := Lib.hid (show ∀ w, Kept wr w → w.cell? ⟨bm, om + k, none⟩ = some (.slice ax la cx) from fun w q => hcell w (hkw.trans q))
      have HTb := Lib.hid (show ∀ w, Kept wr w → Calls Try.prog 47 #[.slice ax la cx] w fun e w' => e = .returned (.int .i64 (wtA ts)) ∧ Kept w w' from fun w q => things_wt ax la cx ts w (hT.kept (hkw.trans q)))
      obtain ⟨n1, hn1'⟩ : ∃ n1, n + wtA ts = n1 := ⟨_, rfl⟩
      have HS1 := Lib.hid hn1'
      have HW1 := Lib.hid (show IntKind.i64.wrap n1 = n1 from IntWalk.i64_in _ (by omega))
      have hbd2 : n1 ≤ 1125899906842624 ∧ 0 ≤ n1 ∧ (ls : Int) ≤ n1 ∧ n ≤ n1 ∧ wtA ts ≤ n1 := by omega
      obtain ⟨q1, q2, q3, q4, q5⟩ := hbd2
      have HAN := Lib.hid (HASN.out n1 q4 q5)
      have c1 := HC1.out _ (Kept.refl _)
      clear hT hcell hc hla hn1' hkw q4 q5 hwt HASN
      go_wp2_with fail
      refine (HTb.out _ (Kept.refl _)).mono ?_
      rintro e w2 ⟨rfl, hkt⟩
      have HKj := Lib.hid hkt
      have hs1 := HS1.out
      have hw1 := HW1.out
      clear hkt
      go_wp2
      go_roundw
      case rel => exact ⟨k + 1, n1, by omega, by go_num, rfl, q3, q2, q1, HAN, HKR.out.trans HKj.out⟩
      case measure => simp [intOf]; omega
    · by_cases h6 : n ≤ 9000
      · have hkl : lm = k := by omega
        have HLI := Lib.hid (show LightT lm tt from fun i hi => by have := HA.out i (by omega); omega)
        have hd3 : decide (9000 < n) = false := decide_eq_false (by omega)
        subst hkl
        have hd1 : decide (lm < lm) = false := decide_eq_false (by omega)
        have HKE := Lib.hid (HK0.out.trans HKR.out)
        clear hend
        go_wp2
        go_ret
        exact ⟨HKE.out, .inr ⟨rfl, HLI.out, by omega⟩⟩
      · have hd3 : decide (9000 < n) = true := decide_eq_true (by omega)
        have HKE := Lib.hid (HK0.out.trans HKR.out)
        by_cases hlt : k < lm
        · have hd1 : decide (k < lm) = true := decide_eq_true hlt
          have hd2 : decide (n < 1048576) = false := decide_eq_false (by omega)
          clear hend
          go_wp2
          go_ret
          exact ⟨HKE.out, .inl rfl⟩
        · have hd1 : decide (k < lm) = false := decide_eq_false hlt
          clear hend
          go_wp2
          go_ret
          exact ⟨HKE.out, .inl rfl⟩
end Go.Proofs.Ytdllenoclnmmdaa

namespace Go.Proofs.Ytdllenoclnmmdaa
open Go.RowKit Go.Shelf
attribute [local go_sem] Oper.semAt_some

/-- the error of things that may not be -/
def cE (ts : List Th) : Int := if thsB ts = true then 0 else 1
def fF (ts : List Th) (rs : List ByteArray) : List ByteArray := if thsB ts = true then fromL ts rs else []
def uF (ts : List Th) (d : ByteArray) : List ByteArray := if thsB ts = true then usersL ts d else []
/-- texts, and if there are any: in a block of their own; an error -/
def TextsQ (w : World) (ss : List ByteArray) (E : Int) (e : Ending) (w' : World) : Prop := ∃ a c, e = .returned (.tuple #[.slice a ss.length c, .int .i64 E]) ∧ StrsIn w' a ss.length ss ∧ Kept w w' ∧
  (0 < ss.length → ∃ g, a = some ⟨g, 0, none⟩ ∧ w.heap.size ≤ g ∧ ∃ cs, BlockAt w' g cs 9)
theorem from_any (ax : Option Addr) (l cap : Nat) (ts : List Th) (ar : Option Addr) (lr cr : Nat) (rs : List ByteArray) (wo : World) (h : ThsIn wo ax l ts) (hr : StrsIn wo ar lr rs) (hlr : lr ≤ 1000000) :
    Calls Try.prog 29 #[.slice ax l cap, .slice ar lr cr] wo (TextsQ wo (fF ts rs) (cE ts)) := by
  unfold fF cE
  cases hB : thsB ts with
  | true =>
    refine (from_good ax l cap ts ar lr cr rs wo h hr hlr hB).mono ?_
    rintro e w' ⟨g, c, h1, h2, h3, h4, h5⟩
    exact ⟨_, c, h1, h2, h3, fun _ => ⟨g, rfl, h4, h5⟩⟩
  | false =>
    refine (from_bad ax l cap ts ar lr cr wo h hB).mono ?_
    rintro e w' ⟨a, c, h1, h2, h3⟩
    exact ⟨a, c, h1, h2, h3, fun q => absurd q (Nat.lt_irrefl 0)⟩
theorem users_any (ax : Option Addr) (l cap : Nat) (ts : List Th) (d : ByteArray) (wo : World) (h : ThsIn wo ax l ts) :
    Calls Try.prog 32 #[.slice ax l cap, .string d] wo (TextsE wo (uF ts d) (cE ts)) := by
  unfold uF cE
  cases hB : thsB ts with
  | true => exact users_good ax l cap ts d wo h hB
  | false => exact users_bad ax l cap ts d wo h hB
theorem cE_zero (ts : List Th) : (cE ts == 0) = thsB ts := by
  unfold cE
  cases thsB ts <;> rfl
theorem fF_len (ts : List Th) (rs : List ByteArray) : (fF ts rs).length ≤ 60 := by
  unfold fF
  cases h : thsB ts with
  | false => exact Nat.zero_le _
  | true =>
    have h60 := thsB_few h
    have := List.length_filter_le (rchB ts rs) (List.range ts.length)
    rw [List.length_range] at this
    unfold fromL
    rw [if_pos rfl, List.length_map]
    omega
theorem spoil_zero (a : Option Addr) (cap : Nat) (w : World) : Calls Try.prog 18 #[.slice a 0 cap] w fun e w' => (∃ u, e = .returned u) ∧ w = w' := by
  go_enter Try.func18, Try.ntmps18
  go_wp2_with fail
  go_loopw [2] (fun i wr => i = .int .i64 0 ∧ w = wr) (fun _ _ => 0)
  case atStart => exact ⟨rfl, rfl⟩
  case round =>
    obtain ⟨rfl, rfl⟩ := hrel
    go_wp2
    go_end0
    exact ⟨⟨_, rfl⟩, rfl⟩
/-- what is told lies behind a world that was: spoiling it keeps that world -/
def OwnQ (w0 w : World) (a : Option Addr) (ss : List ByteArray) : Prop := 0 < ss.length → ∃ g, a = some ⟨g, 0, none⟩ ∧ w0.heap.size ≤ g ∧ ∃ cs, BlockAt w g cs 9
theorem OwnQ.kept {w0 w w' : World} {a : Option Addr} {ss : List ByteArray} (h : OwnQ w0 w a ss) (k : Kept w w') : OwnQ w0 w' a ss := fun q => by
  obtain ⟨g, h1, h2, cs, h3⟩ := h q
  exact ⟨g, h1, h2, cs, BlockAt.kept h3 k⟩
theorem spoil_q (w0 w : World) (a : Option Addr) (cap : Nat) (ss : List ByteArray) (hs : StrsIn w a ss.length ss) (ho : OwnQ w0 w a ss) (hl : ss.length ≤ 2000000) (hk : Kept w0 w) :
    Calls Try.prog 18 #[.slice a ss.length cap] w fun e w' => (∃ u, e = .returned u) ∧ Kept w0 w' := by
  by_cases h0 : ss.length = 0
  · rw [h0]
    exact (spoil_zero a cap w).mono fun e w' ⟨h1, h2⟩ => ⟨h1, h2 ▸ hk⟩
  · obtain ⟨g, rfl, hg, hb⟩ := ho (by omega)
    refine (spoil_nm g ss.length cap (fun j => ss.getD j ByteArray.empty) hl w hb (fun j hj => by have := hs.cell_of j hj; rwa [Nat.zero_add] at this)).mono ?_
    rintro e w' ⟨h1, hgr⟩
    exact ⟨h1, kept_gr hk hgr (fun r e => by cases e; exact hg)⟩
end Go.Proofs.Ytdllenoclnmmdaa

namespace Go.Proofs.Ytdllenoclnmmdaa
open Go.RowKit Go.Shelf

theorem mem_fromL {ts : List Th} {rs : List ByteArray} {d : ByteArray} : d ∈ fromL ts rs ↔ ∃ i, i < ts.length ∧ Rch (lkF ts) (lkD ts rs) i ∧ dOf ts i = d := by
  unfold fromL
  rw [List.mem_map]
  constructor
  · rintro ⟨i, hi, rfl⟩
    rw [List.mem_filter, List.mem_range] at hi
    exact ⟨i, hi.1, (rchB_iff ts rs i).1 hi.2, rfl⟩
  · rintro ⟨i, hi, hr, rfl⟩
    exact ⟨i, by rw [List.mem_filter, List.mem_range]; exact ⟨hi, (rchB_iff ts rs i).2 hr⟩, rfl⟩
theorem Rch.mono {ll : List (List Nat)} {rs qs : List Nat} (h : ∀ r ∈ rs, Rch ll qs r) {i : Nat} (hr : Rch ll rs i) : Rch ll qs i := by
  induction hr with
  | root hr => exact h _ hr
  | step _ hm ih => exact .step ih hm
theorem fd_dOf {ts : List Th} (hr : riB (digs ts) = true) {i : Nat} (hi : i < ts.length) : fdF ts (dOf ts i) = true ∧ lbF ts (dOf ts i) = i := by
  have e : lbF ts (dOf ts i) = i := lbF_of ts i (by omega) (fun j hj => th_lt hr hj hi) (fun _ => ltB_irrefl _)
  refine ⟨?_, e⟩
  unfold fdF
  rw [e]
  exact decide_eq_true ⟨hi, rfl⟩
theorem fd_lt {ts : List Th} {d : ByteArray} (h : fdF ts d = true) : lbF ts d < ts.length ∧ dOf ts (lbF ts d) = d := by
  unfold fdF at h
  exact of_decide_eq_true h
/-- from more roots no less -/
theorem from_mono {ts : List Th} {rs qs : List ByteArray} (h : ∀ r ∈ rs, r ∈ qs) {d : ByteArray} (hd : d ∈ fromL ts rs) : d ∈ fromL ts qs := by
  obtain ⟨i, hi, hr, rfl⟩ := mem_fromL.1 hd
  refine mem_fromL.2 ⟨i, hi, hr.mono (fun r hr => .root ?_), rfl⟩
  obtain ⟨x, hx, h1, h2⟩ := lkD_mem.1 hr
  exact lkD_mem.2 ⟨x, h x hx, h1, h2⟩
/-- from what is reached nothing more -/
theorem from_again {ts : List Th} (hB : thsB ts = true) (rs : List ByteArray) : fromL ts (fromL ts rs) = fromL ts rs := by
  have hri := thsB_ri hB
  have key : ∀ i, i < ts.length → rchB ts (fromL ts rs) i = rchB ts rs i := fun i hi => by
    rw [Bool.eq_iff_iff, rchB_iff, rchB_iff]
    constructor
    · intro h
      refine h.mono (fun r hr => ?_)
      obtain ⟨x, hx, h1, h2⟩ := lkD_mem.1 hr
      obtain ⟨j, hj, hrj, rfl⟩ := mem_fromL.1 hx
      rw [(fd_dOf hri hj).2] at h2
      exact h2 ▸ hrj
    · intro h
      exact .root (lkD_mem.2 ⟨dOf ts i, mem_fromL.2 ⟨i, hi, h, rfl⟩, (fd_dOf hri hi).1, (fd_dOf hri hi).2⟩)
  show ((List.range ts.length).filter (rchB ts (fromL ts rs))).map (dOf ts) = ((List.range ts.length).filter (rchB ts rs)).map (dOf ts)
  rw [List.filter_congr (fun i hi => key i (List.mem_range.1 hi))]
theorem at_dOf {ts : List Th} (hr : riB (digs ts) = true) {i : Nat} (hi : i < ts.length) : atZ ts (dOf ts i) = (i : Int) := by
  obtain ⟨h1, h2⟩ := at_lb hr (dOf ts i)
  obtain ⟨h3, h4⟩ := fd_dOf hr hi
  have h5 : atF ts (dOf ts i) < ts.length := of_decide_eq_true (by rw [← h1]; exact h3)
  unfold atZ
  rw [if_pos h5, ← h2 h5, h4]
/-- who is reached reaches all that it names -/
theorem from_names {ts : List Th} (hB : thsB ts = true) {rs : List ByteArray} {i : Nat} (hi : i < ts.length) (hd : dOf ts i ∈ fromL ts rs) {x : ByteArray} (hx : x ∈ nmF (ts.getD i th00)) (h0 : ¬ atZ ts x < 0) : x ∈ fromL ts rs := by
  have hri := thsB_ri hB
  obtain ⟨j, hj, hr, e⟩ := mem_fromL.1 hd
  obtain rfl := dOf_inj hri hj hi e
  have hf : fdF ts x = true := by
    obtain ⟨h1, _⟩ := at_lb hri x
    rw [h1]
    have := atZ_neg ts x
    rw [decide_eq_false h0] at this
    simpa using this.symm
  refine mem_fromL.2 ⟨lbF ts x, (fd_lt hf).1, .step hr ?_, (fd_lt hf).2⟩
  rw [lkF_at ts j hi]
  exact lkD_mem.2 ⟨x, hx, hf, rfl⟩
theorem pw_getD {L : List ByteArray} (hp : L.Pairwise (fun x y => ltB x y = true)) (k : Nat) (hk : k + 1 < L.length) : ltB (L.getD k ByteArray.empty) (L.getD (k + 1) ByteArray.empty) = true := by
  have := List.pairwise_iff_getElem.1 hp k (k + 1) (by omega) hk (by omega)
  simpa [List.getD, show k < L.length by omega, hk] using this
/-- what is told rises -/
theorem from_rise {ts : List Th} (hB : thsB ts = true) (rs : List ByteArray) (k : Nat) (hk : k + 1 < (fromL ts rs).length) : ltB ((fromL ts rs).getD k ByteArray.empty) ((fromL ts rs).getD (k + 1) ByteArray.empty) = true := by
  have hri := thsB_ri hB
  have hp : (((List.range ts.length).filter (rchB ts rs)).map (dOf ts)).Pairwise (fun x y => ltB x y = true) := by
    rw [List.pairwise_map]
    have h1 : ((List.range ts.length).filter (rchB ts rs)).Pairwise (· < ·) := List.Pairwise.filter _ List.pairwise_lt_range
    refine List.Pairwise.imp_of_mem ?_ h1
    intro a b _ hb hab
    rw [List.mem_filter, List.mem_range] at hb
    exact th_lt hri hab hb.1
  exact pw_getD (L := fromL ts rs) hp k hk
theorem from_at {ts : List Th} {rs : List ByteArray} {k : Nat} (hk : k < (fromL ts rs).length) : ∃ i, i < ts.length ∧ (fromL ts rs).getD k ByteArray.empty = dOf ts i ∧ dOf ts i ∈ fromL ts rs := by
  have hm : (fromL ts rs).getD k ByteArray.empty ∈ fromL ts rs := by
    simp [List.getD, hk]
  obtain ⟨i, hi, _, e⟩ := mem_fromL.1 hm
  exact ⟨i, hi, e.symm, e ▸ hm⟩
end Go.Proofs.Ytdllenoclnmmdaa

