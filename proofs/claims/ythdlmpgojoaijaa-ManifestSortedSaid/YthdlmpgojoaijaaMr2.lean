/- The reference's Take of a manifest, of any text. -/
import Derived.Test.YthdlmpgojoaijaaMr1
namespace Go.Proofs.Ythdlmpgojoaijaa
open Go.RowKit Go.Shelf
attribute [local go_sem] Oper.semAt_some

/-- what the reference's Take tells -/
def TakeRP (w : World) (o : Option Mf) (e : Ending) (w' : World) : Prop :=
  (o = none → e = .returned (.tuple #[.agg #[.int .i64 0, .slice none 0 0, .slice none 0 0], .bool false])) ∧
  (∀ m, o = some m → ∃ ab cb au cu, e = .returned (.tuple #[.agg #[.int .i64 m.k, .slice ab m.bs.length cb, .slice au m.us.length cu], .bool true]) ∧ m.bs.length ≤ cb ∧ StrsIn w' ab m.bs.length m.bs ∧ StrsIn w' au m.us.length m.us) ∧ Kept w w'
theorem neq_list {a : ByteArray} (h : ¬ a = manf) : (a.toList != [77, 65, 78, 70]) = true ∧ (a.toList == [77, 65, 78, 70]) = false ∧ ¬ a.toList = [77, 65, 78, 70] := by
  have h1 : ¬ a.toList = [77, 65, 78, 70] := fun e => h (toList_inj (e.trans (by decide +kernel)))
  exact ⟨by simpa using h1, by simpa using h1, h1⟩
theorem eq_list {a : ByteArray} (h : a = manf) : (a.toList != [77, 65, 78, 70]) = false ∧ (a.toList == [77, 65, 78, 70]) = true ∧ a.toList = [77, 65, 78, 70] := by
  have h1 : a.toList = [77, 65, 78, 70] := by rw [h]; decide +kernel
  exact ⟨by simpa using h1, by simpa using h1, h1⟩
set_option maxRecDepth 100000 in
set_option maxHeartbeats 2000000 in
theorem rtake_none (s : ByteArray) (w : World) (h : ¬ (7 ≤ s.size ∧ s.extract 0 4 = manf ∧ s.size = 7 + 32 * ((byt s 5).toNat + (byt s 6).toNat))) : Calls Try.prog 48 #[.string s] w (TakeRP w none) := by
  have HK0 := Lib.hid ((Kept.refl w).alloc (.cells #[.int .i64 0, .slice none 0 0, .slice none 0 0] 28))
  have HR := Lib.hid (BlockAt.new w #[.int .i64 0, .slice none 0 0, .slice none 0 0] 28)
  generalize hw1 : w.alloc (.cells #[.int .i64 0, .slice none 0 0, .slice none 0 0] 28) = w1 at *
  have HW1 := Lib.hid hw1
  clear hw1
  have hend : ∀ (nq : Nat) (tmps : Array Value), tmps.getD 2 undef = .pointer (some ⟨w.heap.size, 0, none⟩) → tmps.getD 3 undef = .bool false → True := fun _ _ _ _ => trivial
  clear hend
  by_cases h7 : 7 ≤ s.size
  · have hd1 : decide ((s.size : Int) < 7) = false := decide_eq_false (by omega)
    by_cases hx : s.extract 0 4 = manf
    · obtain ⟨g1, g2, g3⟩ := eq_list hx
      have hn : ¬ s.size = 7 + 32 * ((byt s 5).toNat + (byt s 6).toNat) := fun e => h ⟨h7, hx, e⟩
      have hi5 : 5 < s.size := by omega
      have hi6 : 6 < s.size := by omega
      have e5 := byt_get s 5 hi5
      have e6 := byt_get s 6 hi6
      have hb5 : (byt s 5).toNat < 256 := UInt8.toNat_lt _
      have hb6 : (byt s 6).toNat < 256 := UInt8.toNat_lt _
      have h5i : ((s[5]).toNat : Int) = (((byt s 5).toNat : Nat) : Int) := by rw [e5]
      have h6i : ((s[6]).toNat : Int) = (((byt s 6).toNat : Nat) : Int) := by rw [e6]
      clear e5 e6
      generalize (byt s 5).toNat = b5 at *
      generalize (byt s 6).toNat = b6 at *
      obtain ⟨n, hn1⟩ : ∃ n, n = b5 + b6 := ⟨_, rfl⟩
      obtain ⟨m, hm1⟩ : ∃ m, m = 32 * n := ⟨_, rfl⟩
      obtain ⟨q, hq1⟩ : ∃ q, q = 7 + m := ⟨_, rfl⟩
      have s1 : (b5 : Int) + (b6 : Int) = (n : Int) := by omega
      have s2 : 32 * (n : Int) = (m : Int) := by omega
      have s3 : 7 + (m : Int) = (q : Int) := by omega
      have s4 : ((s.size : Int) != (q : Int)) = true := by rw [bne_iff_ne]; omega
      have w1' : IntKind.i64.wrap (n : Int) = (n : Int) := IntWalk.i64_in _ (by omega)
      have w2' : IntKind.i64.wrap (m : Int) = (m : Int) := IntWalk.i64_in _ (by omega)
      have w3' : IntKind.i64.wrap (q : Int) = (q : Int) := IntWalk.i64_in _ (by omega)
      clear hn1 hm1 hq1 hn hx h
      go_enter Try.func48, Try.ntmps48
      go_upto_region 1 with (fail)
      rw [HW1.out]
      go_quiet (fail)
      have HR9 := Lib.hid (HR.out.kept ((Kept.refl w1).drewN nq))
      have HK9 := Lib.hid (HK0.out.drewN nq)
      generalize w1.drewN nq = w9 at *
      go_wp2_with (refine wpList_store_block rfl 28 (.tmp 2) (.tmp 29) rfl _ #[.int .i64 0, .slice none 0 0, .slice none 0 0] #[.int .i64 0, .slice none 0 0, .slice none 0 0] 28 rfl rfl HR9.out Try.infoMf rfl (one3m _ _ _ _ _ _ _) ?_)
      refine bodyPost_ret (v := .tuple #[.agg #[.int .i64 0, .slice none 0 0, .slice none 0 0], .bool false]) ?_ rfl ⟨fun _ => rfl, (fun m e => by cases e), HK9.out.setRow (by omega) _⟩
      exact results_row_tmp rfl _ _ w.heap.size 28 #[.int .i64 0, .slice none 0 0, .slice none 0 0] _ rfl (HR9.out.setRow _) Try.underlying28 rfl Try.infoMf _ rfl
    · obtain ⟨g1, g2, g3⟩ := neq_list hx
      clear hx h
      go_enter Try.func48, Try.ntmps48
      go_upto_region 1 with (fail)
      rw [HW1.out]
      go_quiet (fail)
      have HR9 := Lib.hid (HR.out.kept ((Kept.refl w1).drewN nq))
      have HK9 := Lib.hid (HK0.out.drewN nq)
      generalize w1.drewN nq = w9 at *
      go_wp2_with (refine wpList_store_block rfl 28 (.tmp 2) (.tmp 29) rfl _ #[.int .i64 0, .slice none 0 0, .slice none 0 0] #[.int .i64 0, .slice none 0 0, .slice none 0 0] 28 rfl rfl HR9.out Try.infoMf rfl (one3m _ _ _ _ _ _ _) ?_)
      refine bodyPost_ret (v := .tuple #[.agg #[.int .i64 0, .slice none 0 0, .slice none 0 0], .bool false]) ?_ rfl ⟨fun _ => rfl, (fun m e => by cases e), HK9.out.setRow (by omega) _⟩
      exact results_row_tmp rfl _ _ w.heap.size 28 #[.int .i64 0, .slice none 0 0, .slice none 0 0] _ rfl (HR9.out.setRow _) Try.underlying28 rfl Try.infoMf _ rfl
  · have hd1 : decide ((s.size : Int) < 7) = true := decide_eq_true (by omega)
    clear h
    go_enter Try.func48, Try.ntmps48
    go_upto_region 1 with (fail)
    rw [HW1.out]
    go_quiet (fail)
    have HR9 := Lib.hid (HR.out.kept ((Kept.refl w1).drewN nq))
    have HK9 := Lib.hid (HK0.out.drewN nq)
    generalize w1.drewN nq = w9 at *
    go_wp2_with (refine wpList_store_block rfl 28 (.tmp 2) (.tmp 29) rfl _ #[.int .i64 0, .slice none 0 0, .slice none 0 0] #[.int .i64 0, .slice none 0 0, .slice none 0 0] 28 rfl rfl HR9.out Try.infoMf rfl (one3m _ _ _ _ _ _ _) ?_)
    refine bodyPost_ret (v := .tuple #[.agg #[.int .i64 0, .slice none 0 0, .slice none 0 0], .bool false]) ?_ rfl ⟨fun _ => rfl, (fun m e => by cases e), HK9.out.setRow (by omega) _⟩
    exact results_row_tmp rfl _ _ w.heap.size 28 #[.int .i64 0, .slice none 0 0, .slice none 0 0] _ rfl (HR9.out.setRow _) Try.underlying28 rfl Try.infoMf _ rfl
end Go.Proofs.Ythdlmpgojoaijaa
