/- siloref0.CopyStrings, silolaw13.num, by what they answer (no conditions but on lengths). -/
import Derived.Test.YtoanldoocmmhjaaRl1
import Derived.Test.YtoanldoocmmhjaaTextsIn
namespace Go.Proofs.Ytoanldoocmmhjaa
open Go.RowKit
theorem take_snocS (ss : List ByteArray) (k : Nat) (h : k < ss.length) : ss.take (k + 1) = ss.take k ++ [ss.getD k ByteArray.empty] := by
  rw [List.take_succ_eq_append_getElem h]; simp [List.getD, h]
theorem Try.infoStr : (Try.prog.info? 9).map (fun i => (i.zero, i.size, i.bytes)) = some (some (.string ByteArray.empty), 1, 16) := by kernel_rfl

theorem strs_of_own {w : World} {base l : Nat} {e : TypeId} {v : Value} {ss : List ByteArray} (ho : w.ownsRow base e 1 v l (ss.map Value.string)) (hl : ss.length = l) (hs : ∀ s ∈ ss, s.size ≤ 9223372036854775807) :
    ∃ a cap, v = .slice a l cap ∧ l ≤ cap ∧ StrsIn w a l ss := by
  rcases ho.2 with ⟨rfl, rfl⟩ | ⟨g, cap, cur, rfl, hb, hg, hn, hm, _⟩
  · exact ⟨none, 0, rfl, Nat.le_refl _, hl, by omega, hs, 0, 0, fun h => absurd h (Nat.lt_irrefl 0), fun i hi => absurd hi (Nat.not_lt_zero i)⟩
  · refine ⟨_, cap, rfl, hn, hl, by unfold maxLen at hm; omega, hs, g, 0, fun _ => rfl, fun i hi => ⟨(ho.lt g rfl).2, ?_⟩⟩
    rw [Nat.zero_add, ho.cellAt i (by omega)]
    have hi' : i < ss.length := by omega
    simp [List.getD, hi']

set_option maxRecDepth 100000 in
set_option maxHeartbeats 800000 in
theorem copy_strings (a : Option Addr) (l cap : Nat) (ss : List ByteArray) (w : World) (h : StrsIn w a l ss) (hl : l ≤ 8796093021952) :
    Calls Try.prog 13 #[.slice a l cap] w fun e w' => ∃ v, e = .returned v ∧ w'.ownsRow w.heap.size 9 1 v l (ss.map Value.string) ∧ Kept w w' := by
  obtain ⟨i0, hi, hz0, hz1, hz2⟩ := info_parts Try.infoStr
  have HL := Lib.hid h.len_eq
  have HSZ := Lib.hid h.sizes
  have HI := Lib.hid (And.intro hi (And.intro hz0 (And.intro hz1 hz2)))
  clear hi hz0 hz1 hz2
  go_enter Try.func13, Try.ntmps13
  go_wp2
  go_loopw [3, 4] (fun v i wr => ∃ k : Nat, k ≤ l ∧ i = .int .i64 k ∧ wr.ownsRow w.heap.size 9 1 v k ((ss.take k).map Value.string) ∧ Kept w wr) (fun _ i _ => l - (intOf i).toNat)
  case atStart => exact ⟨0, by omega, rfl, World.ownsRow_nil _ _ _ _, Kept.refl _⟩
  case round =>
    obtain ⟨k, hk, rfl, hown, hK⟩ := hrel
    have HK := Lib.hid hK
    have HO := Lib.hid hown
    by_cases hlt : k < l
    · obtain ⟨b, off, ha, hc⟩ := h.cells
      obtain rfl := ha (by omega)
      have hck := hK.cell (hc k hlt).1 (hc k hlt).2
      have htk := take_snocS ss k (by have := HL.out; omega)
      generalize ss.getD k ByteArray.empty = t at hck htk
      have HT := Lib.hid htk
      clear h hc ha hK htk hown
      go_wp2_with (at_builtin; refine wpList_append_own _ rfl _ _ 23 rfl w.heap.size 9 i0 (.string ByteArray.empty) 1 16 Try.underlying23 HI.out.1 HI.out.2.1 HI.out.2.2.1 HI.out.2.2.2 rfl (by decide) _ _ _ rfl (HO.out.alloc _) ⟨wr.heap.size, 0, none⟩ 1 1 [.string t] rfl rfl ?c1 ?c2 ?c3 ?c4 ?c5 ?_)
      case c1 =>
        intro j u hj
        match j, hj with
        | 0, hj => simp at hj; subst hj; simp [Addr.add]
      case c2 => intro u hu; simp at hu; subst hu; rfl
      case c3 => unfold maxLen; omega
      case c4 => omega
      case c5 => have := HK.out.size; simp; omega
      intro v' w1 hown' hgrow _
      have HO' := Lib.hid hown'
      have HK' := Lib.hid (kept_grown (HK.out.alloc _) (HO.out.alloc _) hgrow)
      clear hown' hgrow
      go_wp2
      go_roundw
      case rel => exact ⟨k + 1, by omega, by go_num, by rw [HT.out, List.map_append, List.map_take]; exact HO'.out, HK'.out⟩
      case measure => simp [intOf]; omega
    · obtain rfl : k = l := by omega
      rw [List.take_of_length_le (Nat.le_of_eq HL.out)] at hown
      have HF := Lib.hid hown
      clear h hK hown HO
      go_wp2
      go_ret
      exact ⟨_, rfl, HF.out, HK.out⟩
theorem num_law (n : Int) (w : World) : Calls Try.prog 18 #[.int .i64 n] w fun e w' => e = .returned (.int .i64 n) ∧ w = w' := by
  go_enter Try.func18, Try.ntmps18
  go_wp2
  go_ret
  exact ⟨rfl, rfl⟩
end Go.Proofs.Ytoanldoocmmhjaa
