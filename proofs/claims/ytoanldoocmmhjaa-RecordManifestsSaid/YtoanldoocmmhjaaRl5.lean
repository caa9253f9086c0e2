/- silolaw13.Heavy, wakes, by what they answer (no conditions). -/
import Derived.Test.YtoanldoocmmhjaaRl4
import Derived.Test.YtoanldoocmmhjaaRc10
namespace Go.Proofs.Ytoanldoocmmhjaa
open Go.RowKit
/-- an ask, in cells -/
def askCells (ar : Option Addr) (nr cr : Nat) (aa : Option Addr) (ns cs : Nat) (an : Option Addr) (nn cn : Nat) : Array Value := #[.slice ar nr cr, .slice aa ns cs, .slice an nn cn]
/-- what is light -/
structure Light (nr : Nat) (rs : List Rec) (ns : Nat) (ss : List ByteArray) : Prop where
  few : nr ≤ 3000
  each : ∀ i, i < nr → recLen (rs.getD i Rec.zero) ≤ 3000
  texts : ns ≤ 4000
  short : ∀ i, i < ns → (ss.getD i ByteArray.empty).size ≤ 4000
theorem light_of {nr : Nat} {rs : List Rec} {ns : Nat} {ss : List ByteArray} {n m : Int} (h : RecSum nr rs n) (k : TxtSum ns ss m) (hn : n ≤ 3000) (hm : m ≤ 4000) : Light nr rs ns ss :=
  ⟨by have := h.many (by omega); omega, fun i hi => by have := h.each (by omega) i hi; omega, by have := k.many (by omega); omega, fun i hi => by have := k.each (by omega) i hi; omega⟩
def HeavyP (w : World) (nr : Nat) (rs : List Rec) (ns : Nat) (ss : List ByteArray) (e : Ending) (w' : World) : Prop := ∃ b : Bool, e = .returned (.bool b) ∧ (b = false → Light nr rs ns ss) ∧ Kept w w'
set_option maxRecDepth 100000 in
set_option maxHeartbeats 2000000 in
theorem heavy_any (ar : Option Addr) (nr cr : Nat) (aa : Option Addr) (ns cs : Nat) (an : Option Addr) (nn cn : Nat) (rs : List Rec) (ss : List ByteArray) (w : World) (h : RecsIn w ar nr cr rs) (h2 : TextsIn w aa ns cs ss) :
    Calls Try.prog 12 #[.agg (askCells ar nr cr aa ns cs an nn cn)] w (HeavyP w nr rs ns ss) := by
  unfold askCells
  have k0 := (Kept.refl w).alloc (.cells #[.slice ar nr cr, .slice aa ns cs, .slice an nn cn] 26)
  have hb := BlockAt.new w #[.slice ar nr cr, .slice aa ns cs, .slice an nn cn] 26
  have HR := Lib.hid (h.kept k0)
  have HT := Lib.hid (h2.kept k0)
  clear h h2
  go_enter Try.func12, Try.ntmps12
  go_upto_region 1 with (fail)
  generalize w.alloc (.cells #[.slice ar nr cr, .slice aa ns cs, .slice an nn cn] 26) = wa at *
  obtain ⟨a0, a1, a2⟩ := box3 hb
  go_wp2_with fail
  refine (records_weight ar nr cr rs _ HR.out).mono ?_
  rintro e w1 ⟨⟨n, rfl, hS⟩, k1⟩
  have hb1 := hb.kept k1
  have HS := Lib.hid hS
  have k01 := k0.trans k1
  replace HT := Lib.hid (HT.out.kept k1)
  clear hb k1 k0 hS a0 a1 a2
  obtain ⟨a0, a1, a2⟩ := box3 hb1
  by_cases hn : n ≤ 3000
  · have hd : decide (3000 < n) = false := decide_eq_false (by omega)
    go_wp2_with fail
    refine (texts_sum aa ns cs ss _ HT.out).mono ?_
    rintro e w2 ⟨⟨m, rfl, hS2⟩, rfl⟩
    have HS2 := Lib.hid hS2
    clear hS2
    by_cases hm : m ≤ 4000
    · have hd2 : decide (4000 < m) = false := decide_eq_false (by omega)
      go_wp2
      go_ret
      exact ⟨_, rfl, fun _ => light_of HS.out HS2.out hn hm, k01⟩
    · have hd2 : decide (4000 < m) = true := decide_eq_true (by omega)
      go_wp2
      go_ret
      exact ⟨_, rfl, (fun h => by cases h), k01⟩
  · have hd : decide (3000 < n) = true := decide_eq_true (by omega)
    go_wp2
    go_ret
    exact ⟨_, rfl, (fun h => by cases h), k01⟩
end Go.Proofs.Ytoanldoocmmhjaa
