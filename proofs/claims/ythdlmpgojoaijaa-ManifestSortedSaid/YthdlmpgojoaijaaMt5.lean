/- manifest.Take, of a text that is too short or too long; as data (no conditions). -/
import Derived.Test.YthdlmpgojoaijaaMt4
namespace Go.Proofs.Ythdlmpgojoaijaa
open Go.RowKit Go.Shelf
attribute [local go_sem] Oper.semAt_some

def byt (s : ByteArray) (i : Nat) : UInt8 := s.data.toList.getD i 0
theorem byt_get (s : ByteArray) (i : Nat) (h : i < s.size) : s[i] = byt s i := by
  unfold byt
  rw [List.getD_eq_getElem?_getD, List.getElem?_eq_getElem (by simpa using h)]
  rfl
/-- what lies behind a manifest's first seven bytes -/
def tlM (s : ByteArray) : ByteArray := s.extract 7 s.size
def dgL (t : ByteArray) : List ByteArray := (List.range (nDg t)).map (dgAt t)
theorem dgL_length (t : ByteArray) : (dgL t).length = nDg t := by simp [dgL]
/-- what manifest.Take reads, ahead of its looking whether it is so -/
def rawM (s : ByteArray) : Mf := ⟨((byt s 4).toNat : Int), (dgL (tlM s)).take (byt s 5).toNat, (dgL (tlM s)).drop (byt s 5).toNat⟩
def takeM (s : ByteArray) : Option Mf := if 7 ≤ s.size ∧ s.size ≤ 647 ∧ mfB (rawM s) = true ∧ mfT (rawM s) = s then some (rawM s) else none
/-- what manifest.Take tells: the manifest in new memory, or nothing -/
def TakeMP (w : World) (o : Option Mf) (e : Ending) (w' : World) : Prop :=
  (o = none → e = .returned (.tuple #[.agg #[.int .i64 0, .slice none 0 0, .slice none 0 0], .int .i64 7])) ∧
  (∀ m, o = some m → ∃ ab cb au cu, e = .returned (.tuple #[.agg #[.int .i64 m.k, .slice ab m.bs.length cb, .slice au m.us.length cu], .int .i64 0]) ∧ m.bs.length ≤ cb ∧ StrsIn w' ab m.bs.length m.bs ∧ StrsIn w' au m.us.length m.us) ∧ Kept w w'
theorem Try.infoMf : (Try.prog.info? 28).map (·.size) = some 3 := by kernel_rfl
theorem one3m (r : Int) (a : Option Addr) (l cap : Nat) (b : Option Addr) (m cap' : Nat) : (#[Value.int .i64 r, .slice a l cap, .slice b m cap'] : Array Value).all (·.oneCell') = true := by simp [Value.oneCell']
def mf0 : Array Value := #[.int .i64 0, .slice none 0 0, .slice none 0 0]
set_option maxRecDepth 100000 in
set_option maxHeartbeats 1000000 in
theorem take_wide (s : ByteArray) (w : World) (h : s.size < 7 ∨ 647 < s.size) : Calls Try.prog 17 #[.string s] w (TakeMP w none) := by
  have HK0 := Lib.hid ((Kept.refl w).alloc (.cells #[.int .i64 0, .slice none 0 0, .slice none 0 0] 28))
  have HR := Lib.hid (BlockAt.new w #[.int .i64 0, .slice none 0 0, .slice none 0 0] 28)
  rcases h with h | h
  · have hd : decide (s.size < 7) = true := decide_eq_true h
    go_enter Try.func17, Try.ntmps17
    go_wp2_with (refine wpList_store_block rfl 28 (.tmp 2) (.tmp 17) rfl _ #[.int .i64 0, .slice none 0 0, .slice none 0 0] #[.int .i64 0, .slice none 0 0, .slice none 0 0] 28 rfl rfl HR.out Try.infoMf rfl (one3m _ _ _ _ _ _ _) ?_)
    refine bodyPost_ret (v := .tuple #[.agg #[.int .i64 0, .slice none 0 0, .slice none 0 0], .int .i64 7]) ?_ rfl ⟨fun _ => rfl, (fun m e => by cases e), HK0.out.setRow (by omega) _⟩
    exact results_row_tmp rfl _ _ w.heap.size 28 #[.int .i64 0, .slice none 0 0, .slice none 0 0] _ rfl (HR.out.setRow _) Try.underlying28 rfl Try.infoMf _ rfl
  · have hd : decide (s.size < 7) = false := decide_eq_false (by omega)
    have hd2 : decide (647 < (s.size : Int)) = true := decide_eq_true (by omega)
    have hd3 : decide (647 < s.size) = true := decide_eq_true (by omega)
    go_enter Try.func17, Try.ntmps17
    go_wp2_with (refine wpList_store_block rfl 28 (.tmp 2) (.tmp 17) rfl _ #[.int .i64 0, .slice none 0 0, .slice none 0 0] #[.int .i64 0, .slice none 0 0, .slice none 0 0] 28 rfl rfl HR.out Try.infoMf rfl (one3m _ _ _ _ _ _ _) ?_)
    refine bodyPost_ret (v := .tuple #[.agg #[.int .i64 0, .slice none 0 0, .slice none 0 0], .int .i64 7]) ?_ rfl ⟨fun _ => rfl, (fun m e => by cases e), HK0.out.setRow (by omega) _⟩
    exact results_row_tmp rfl _ _ w.heap.size 28 #[.int .i64 0, .slice none 0 0, .slice none 0 0] _ rfl (HR.out.setRow _) Try.underlying28 rfl Try.infoMf _ rfl
end Go.Proofs.Ythdlmpgojoaijaa
