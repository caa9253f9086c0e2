/- What the argument of a law of layers 6, 9 and 19 reads as: a list of texts, each within the form's reach (no conditions). -/
import Derived.Test.YtldfamccobcpjaaDoorTextsIn
namespace Go.Proofs.YtldfamccobcpjaaDoor
open Go.ChangeShapes Go.WideShapes Go.ChangeAt Go.RowKit Go.Joins Go.Deep

theorem Tryd.cellsAsk6 : Tryd.prog.cellsOf 24 = 1 := by kernel_rfl
/-- The argument: texts. -/
structure AskS (W : World) (v : Value) (a : Option Addr) (l cap : Nat) (ss : List ByteArray) : Prop where
  val : v = .agg #[.slice a l cap]
  texts : TextsIn W a l cap ss
set_option maxRecDepth 100000 in
theorem askS_in {H : Type} {enc : TypeId × Value → H} {W : World} {base : Nat} {v : Value} {d : DataW H} {p : List MemPlace} (hv : Value.okWide Tryd.prog W .any base 24 v)
    (h : DataW.Trod enc Tryd.prog W 0 (fun _ => true) true 24 v d p) (hz : ∀ n ∈ d.weights Tryd.prog 24, n ≤ reachBytes) : ∃ a l cap ss, AskS W v a l cap ss := by
  obtain ⟨v0, y0, m, rfl, rfl, rfl, hy0⟩ := open_agg1 Tryd.underlying24 (by kernel_rfl) Tryd.cellsAsk6 hv h
  obtain ⟨a0, l0, k0, ss, rfl, h0⟩ := texts_in Tryd.underlying22 Tryd.underlying9 Tryd.cellsStr Tryd.bytesStr hy0 (fun n hn => hz n (by
    simp only [DataW.weights, Tryd.underlying24]
    exact DataW.weights_mem_each (j := 0) (t := 22) (d := y0.1) (by rfl) (by rfl) n hn))
  exact ⟨a0, l0, k0, ss, rfl, h0⟩
set_option maxRecDepth 100000 in
theorem heavy6_any (a : Option Addr) (l cap : Nat) (ss : List ByteArray) (w : World) (h : TextsIn w a l cap ss) :
    Calls Tryd.prog 8 #[.agg #[.slice a l cap]] w fun e w' => (e = .returned (.bool true) ∨ (e = .returned (.bool false) ∧ l ≤ 6000 ∧ ∀ i, i < l → (ss.getD i ByteArray.empty).size ≤ 6000)) ∧ Kept w w' := by
  have hs := h.kept ((Kept.refl w).alloc (.cells #[.slice a l cap] 24))
  have HS := Lib.hid hs
  clear h hs
  go_enter Tryd.func8, Tryd.ntmps8
  go_wp2_with fail
  refine (texts_sum _ _ _ ss _ HS.out).mono ?_
  rintro e w1 ⟨⟨n, rfl, hn⟩, rfl⟩
  have HN := Lib.hid hn
  have h0 := hn.nonneg
  clear hn
  by_cases h6 : n ≤ 6000
  · have hd : decide ((6000 : Int) < n) = false := decide_eq_false (by omega)
    go_wp2
    go_ret
    exact ⟨.inr ⟨rfl, by have := HN.out.many (by omega); omega, fun i hi => by have := HN.out.each (by omega) i hi; omega⟩, (Kept.refl w).alloc _⟩
  · have hd : decide ((6000 : Int) < n) = true := decide_eq_true (by omega)
    go_wp2
    go_ret
    exact ⟨.inl rfl, (Kept.refl w).alloc _⟩
end Go.Proofs.YtldfamccobcpjaaDoor
