/- What the argument of a law of layer 2 reads as: its lanes, its byte and its number (no conditions). -/
import Derived.Test.YtlpjpeonejbpjaaRows
import Derived.WalkKit
import Derived.Test.YtlpjpeonejbpjaaStrs
import Derived.Test.YtlpjpeonejbpjaaKit
namespace Go.Proofs.Ytlpjpeonejbpjaa
open Go.ChangeShapes Go.WideShapes Go.ChangeAt Go.RowKit Go.Joins

theorem trod_int {H : Type} {enc : TypeId × Value → H} {P : Program} {t : TypeId} {k : IntKind} (ht : P.underlying t = some (.int k)) {W : World} {fuel : Nat} {v : Value} {y : DataW H × List MemPlace}
    (h0 : DataW.trod enc P W 0 (fun _ => true) true fuel t [v] = some y) : ∃ n, v = .int k n ∧ (Lit.int k n).wf = true := by
  obtain ⟨n, h, hx, hw⟩ := DataW.trod_int ht h0
  simp only [List.cons.injEq, and_true] at h
  exact ⟨n, h, hw⟩
theorem Try.cellsStr : Try.prog.cellsOf 9 = 1 := by kernel_rfl
theorem Try.cellsAsk2 : Try.prog.cellsOf 24 = 3 := by kernel_rfl

/-- The argument: lanes, a byte, a number. -/
structure AskL (W : World) (v : Value) (a : Option Addr) (l cap : Nat) (ss : List ByteArray) (c : Nat) (n : Int) : Prop where
  val : v = .agg #[.slice a l cap, .int .u8 (c : Int), .int .i64 n]
  strs : StrsIn W a l ss
  byte : c < 256
  num : -9223372036854775808 ≤ n ∧ n ≤ 9223372036854775807
set_option maxRecDepth 100000 in
theorem askL_in {H : Type} {enc : TypeId × Value → H} {W : World} {base : Nat} {v : Value} {d : DataW H} {p : List MemPlace} (hv : Value.okWide Try.prog W .any base 24 v)
    (h : DataW.Trod enc Try.prog W 0 (fun _ => true) true 24 v d p) : ∃ a l cap ss c n, AskL W v a l cap ss c n := by
  obtain ⟨v0, v1, v2, y0, y1, y2, m, rfl, rfl, rfl, hy0, hy1, hy2⟩ := open_agg3 Try.underlying24 (by kernel_rfl) Try.cellsAsk2 hv h
  obtain ⟨a0, l0, k0, ss, rfl, h0⟩ := strs_in Try.underlying22 Try.underlying9 Try.cellsStr hy0
  obtain ⟨c, rfl, hc⟩ := trod_int Try.underlying5 hy1
  obtain ⟨n, rfl, hn⟩ := trod_int Try.underlying3 hy2
  have hb := bounds_u8 hc
  exact ⟨a0, l0, k0, ss, c.toNat, n, by rw [Int.toNat_of_nonneg hb.1], h0, by omega, bounds_i64 hn⟩

theorem num2_any (n : Int) (w : World) : Calls Try.prog 18 #[.int .i64 n] w fun e w' => e = .returned (.int .i64 n) ∧ w = w' := by
  go_enter Try.func18, Try.ntmps18
  go_wp2
  go_ret
  exact ⟨rfl, rfl⟩
/-- a slice of texts, its capacity too -/
theorem strs_in_cap {H : Type} {enc : TypeId × Value → H} {P : Program} {t e : TypeId} (ht : P.underlying t = some (.slice e)) (he : P.underlying e = some .string) (hc : P.cellsOf e = 1) {W : World} {fuel : Nat} {v : Value} {y : DataW H × List MemPlace}
    (h0 : DataW.trod enc P W 0 (fun _ => true) true fuel t [v] = some y) :
    ∃ a len cap ss, v = .slice a len cap ∧ len ≤ cap ∧ StrsIn W a len ss := by
  obtain ⟨a, len, cap, ss, rfl, hS⟩ := strs_in ht he hc h0
  rcases open_strings ht he hc h0 with ⟨hcs, _⟩ | ⟨a', len', cap', ss', hcs, _, hl, _⟩
  · simp only [List.cons.injEq, and_true, Value.slice.injEq] at hcs
    obtain ⟨rfl, rfl, rfl⟩ := hcs
    exact ⟨_, _, _, ss, rfl, Nat.le_refl _, hS⟩
  · simp only [List.cons.injEq, and_true, Value.slice.injEq] at hcs
    obtain ⟨rfl, rfl, rfl⟩ := hcs
    exact ⟨_, _, _, ss, rfl, hl, hS⟩
end Go.Proofs.Ytlpjpeonejbpjaa
