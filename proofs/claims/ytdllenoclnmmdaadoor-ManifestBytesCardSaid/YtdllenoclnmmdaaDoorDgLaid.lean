/- What the rows' lists give: both of the digest's tables lie as they are laid (no conditions). -/
import Derived.Test.YtdllenoclnmmdaaDoorBl6
import Derived.Test.YtdllenoclnmmdaaDoorRows
import Derived.Lib.LaidTab
namespace Go.Proofs.YtdllenoclnmmdaaDoor
open Go.RowKit
/-- an array of arrays of integers that reads as a table holds the table's numbers, row by row -/
theorem cells_of_tab2 {H : Type} {enc : TypeId × Value → H} {P : Program} {w : World} {base : Nat} {sp : Nat → Bool} {held : Bool} {fuel : Nat} {t e u : TypeId} {n m : Nat} {k : IntKind} {cs : List Value} {zss : List (List Int)} {p : List MemPlace}
    (ht : P.underlying t = some (.array n e)) (he : P.underlying e = some (.array m u)) (hu : P.underlying u = some (.int k)) (hcu : P.cellsOf u = 1) (hce : P.cellsOf e = m)
    (h : DataW.trod enc P w base sp held fuel t cs = some (.agg (zss.map (Lib.tabData k)), p)) : ∀ i, i < n → (cs.drop (i * m)).take m = (zss.getD i []).map fun z => Value.int k z := by
  cases fuel with
  | zero => simp [DataW.trod] at h
  | succ fuel =>
    simp only [DataW.trod, ht, hce] at h
    split at h
    · obtain ⟨xs, hm, hx⟩ := Option.map_eq_some_iff.1 h
      have hxs : xs.map (·.1) = zss.map (Lib.tabData (H := H) k) := by
        have := congrArg Prod.fst hx
        simpa using this
      intro i hi
      obtain ⟨b, hb, hf⟩ := Lib.mapM_at hm i i (by simp [hi])
      have h2 : (xs.map (·.1))[i]? = some b.1 := by simp [hb]
      rw [hxs, List.getElem?_map] at h2
      obtain ⟨zs, hz, hzb⟩ := Option.map_eq_some_iff.1 h2
      have hf2 : DataW.trod enc P w base sp held fuel e ((cs.drop (i * m)).take m) = some (Lib.tabData k zs, b.2) := by
        rw [hzb]
        exact hf
      rw [List.getD_eq_getElem?_getD, hz]
      exact Lib.cells_of_tab he hu hcu hce hf2
    · cases h
theorem Tryd.gBeg : Tryd.prog.globalNamed "silo/digest.begins" = some 0 := by kernel_rfl
theorem Tryd.gOrd : Tryd.prog.globalNamed "silo/digest.order" = some 1 := by kernel_rfl
theorem Tryd.gBegT : (Tryd.prog.globals[0]?).map (·.type) = some 54 := by kernel_rfl
theorem Tryd.gOrdT : (Tryd.prog.globals[1]?).map (·.type) = some 81 := by kernel_rfl
theorem Tryd.cU32 : Tryd.prog.cellsOf 53 = 1 := by kernel_rfl
theorem Tryd.cU8 : Tryd.prog.cellsOf 5 = 1 := by kernel_rfl
theorem Tryd.cBeg : Tryd.prog.cellsOf 54 = 8 := by kernel_rfl
theorem Tryd.cRow : Tryd.prog.cellsOf 80 = 16 := by kernel_rfl
theorem listed : ([("silo/digest.begins", Rows.laid_silo_digest_begins), ("silo/digest.order", Rows.laid_silo_digest_order)] : List (String × DataW Unit)) =
    [("silo/digest.begins", Lib.tabData .u32 (Bl.begins.map fun n : Nat => (n : Int))), ("silo/digest.order", .agg ((Bl.orders.map fun l => l.map fun n : Nat => (n : Int)).map (Lib.tabData .u8)))] := by kernel_rfl
theorem tables {W : World} (h : laidMetH Tryd.prog [("silo/digest.begins", Rows.laid_silo_digest_begins), ("silo/digest.order", Rows.laid_silo_digest_order)] W) : Begins W ∧ Orders W := by
  rw [listed] at h
  have h' : laidMet Tryd.prog [("silo/digest.begins", Lib.tabData .u32 (Bl.begins.map fun n : Nat => (n : Int))), ("silo/digest.order", .agg ((Bl.orders.map fun l => l.map fun n : Nat => (n : Int)).map (Lib.tabData .u8)))] W := h
  have hT := Lib.tabIs_of_head Tryd.gBeg Tryd.gBegT Tryd.underlying54 Tryd.underlying53 Tryd.cU32 Tryd.cBeg h'
  refine ⟨fun i hi => ?_, ?_⟩
  · have hl : (Bl.begins.map fun n : Nat => (n : Int)).length = 8 := by decide
    rw [hT.cell Tryd.gBeg i (by omega)]
    have hi' : i < Bl.begins.length := by simpa [Bl.begins] using hi
    simp [List.getD, hi']
  · obtain ⟨ps, ⟨_, _, _, _, _, _, _, _, _, _, hrest, _⟩, _⟩ := h'
    obtain ⟨g', t', cs, fuel, p, q, hg', ht', hvar, hd, _, _⟩ := hrest
    obtain rfl := Option.some.inj (Tryd.gOrd.symm.trans hg')
    obtain rfl := Option.some.inj (Tryd.gOrdT.symm.trans ht')
    have hrow := cells_of_tab2 Tryd.underlying81 Tryd.underlying80 Tryd.underlying5 Tryd.cU8 Tryd.cRow hd
    intro i hi
    have hc := World.var?_cell Tryd.gOrd hvar i
    rw [hc]
    have h1 := congrArg (·[i % 16]?) (hrow (i / 16) (by omega))
    simp only [List.getElem?_take, List.getElem?_drop, show i / 16 * 16 + i % 16 = i by omega, show i % 16 < 16 by omega, if_true] at h1
    rw [← Array.getElem?_toList, h1]
    have h2 : ∀ r, r < 10 → ∀ j, j < 16 → ((Bl.orders.map fun l => l.map fun n : Nat => (n : Int)).getD r [])[j]? = some ((Bl.orders.flatten.getD (r * 16 + j) 0 : Nat) : Int) := by decide +kernel
    rw [List.getElem?_map, h2 (i / 16) (by omega) (i % 16) (by omega), show i / 16 * 16 + i % 16 = i by omega]
    rfl
end Go.Proofs.YtdllenoclnmmdaaDoor
