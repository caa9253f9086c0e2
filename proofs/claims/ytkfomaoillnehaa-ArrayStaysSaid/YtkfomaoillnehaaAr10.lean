
/- The reference of package array: changes, Off, Lose, Write (no conditions but that the array lies as it should; not too many changes). -/
import Derived.Test.YtkfomaoillnehaaAr9
namespace Go.Proofs.Ytkfomaoillnehaa
open Go.RowKit
attribute [local go_sem] Oper.semAt_some

/-- what a call that changes the reference's array leaves -/
structure RfN (B : Nat) (w : World) (p A D E : Nat) (K C : Nat → Nat) (m : Nat) (w' : World) (K' C' : Nat → Nat) : Prop where
  low : Below B w w'
  but : CellsBut (RfF p A D E K C m) w w'
  new : ∀ d, d < m → (K' d = K d ∨ w.heap.size ≤ K' d) ∧ (C' d = C d ∨ w.heap.size ≤ C' d)
theorem RfN.of_kept {B : Nat} {w w' : World} {p A D E : Nat} {K C : Nat → Nat} {m : Nat} (k : Kept w w') (hB : B ≤ w.heap.size) : RfN B w p A D E K C m w' K C :=
  ⟨Below.mono k hB, CellsBut.of_kept k, fun _ _ => ⟨.inl rfl, .inl rfl⟩⟩
theorem RfN.of_one {B b : Nat} {w w' : World} {p A D E : Nat} {K C : Nat → Nat} {m : Nat} (l : Below B w w') (k : CellsBut (fun q => q = b) w w') (hb : RfF p A D E K C m b) : RfN B w p A D E K C m w' K C :=
  ⟨l, ⟨k.size, fun q cs t fr hr hq => k.block q cs t fr (fun e => hr (by rw [e]; exact hb)) hq⟩, fun _ _ => ⟨.inl rfl, .inl rfl⟩⟩
theorem RfN.trans {B : Nat} {w1 w2 w3 : World} {p A D E : Nat} {K1 C1 K2 C2 K3 C3 : Nat → Nat} {m : Nat} (h : RfN B w1 p A D E K1 C1 m w2 K2 C2) (k : RfN B w2 p A D E K2 C2 m w3 K3 C3) : RfN B w1 p A D E K1 C1 m w3 K3 C3 := by
  have hsz := h.but.size
  refine ⟨Below.trans h.low k.low, ⟨Nat.le_trans h.but.size k.but.size, fun b cs t fr hr hb => ?_⟩, fun d hd => ⟨?_, ?_⟩⟩
  · have hlt : b < w1.heap.size := (Array.getElem?_eq_some_iff.1 hb).1
    refine k.but.block b cs t fr (fun q => hr ?_) (h.but.block b cs t fr hr hb)
    rcases q with q | q | q | q | ⟨d, hd, q | q⟩
    · exact .inl q
    · exact .inr (.inl q)
    · exact .inr (.inr (.inl q))
    · exact .inr (.inr (.inr (.inl q)))
    · rcases (h.new d hd).1 with e | e
      · exact .inr (.inr (.inr (.inr ⟨d, hd, .inl (q.trans e)⟩)))
      · omega
    · rcases (h.new d hd).2 with e | e
      · exact .inr (.inr (.inr (.inr ⟨d, hd, .inr (q.trans e)⟩)))
      · omega
  · rcases (k.new d hd).1 with e | e
    · rcases (h.new d hd).1 with e2 | e2
      · exact .inl (e.trans e2)
      · exact .inr (by omega)
    · exact .inr (by omega)
  · rcases (k.new d hd).2 with e | e
    · rcases (h.new d hd).2 with e2 | e2
      · exact .inl (e.trans e2)
      · exact .inr (by omega)
    · exact .inr (by omega)
/-- the array's own block is none of its disks' -/
theorem RfP.apart {w : World} {p A D E : Nat} {K C : Nat → Nat} {S : Arr} (h : RfP w p A D E K C S) : p ≠ A ∧ p ≠ D ∧ p ≠ E ∧ ∀ d, d < S.m → p ≠ K d ∧ p ≠ C d := by
  obtain ⟨a1, a2, a3, ht⟩ := h.top
  obtain ⟨ca, hA⟩ := h.r.lrow
  obtain ⟨cd, hD⟩ := h.r.drow
  obtain ⟨ce, hE⟩ := h.r.erow
  refine ⟨block_ne ht hA (by decide), block_ne ht hD (by decide), block_ne ht hE (by decide), fun d hd => ?_⟩
  obtain ⟨G, hG, _⟩ := h.r.ks d hd
  obtain ⟨H, hH, _⟩ := h.r.cs d hd
  obtain ⟨c1, h1⟩ := hG.blk
  obtain ⟨c2, h2⟩ := hH.blk
  exact ⟨block_ne ht h1 (by decide), block_ne ht h2 (by decide)⟩
theorem RfR.same {w : World} {A D E : Nat} {K C : Nat → Nat} {S T : Arr} (h : RfR w A D E K C S) (e1 : T.ds = S.ds) (e2 : T.m = S.m) (e3 : T.n = S.n) : RfR w A D E K C T := by
  obtain ⟨ds, m, n, g, l⟩ := S
  obtain ⟨ds', m', n', g', l'⟩ := T
  dsimp only at e1 e2 e3
  subst e1 e2 e3
  exact ⟨h.lrow, h.drow, h.erow, h.de, h.live, h.disk, h.cach, h.ks, h.cs, h.kk, h.cc, h.kc⟩
theorem RfP.setTop {w w' : World} {p A D E : Nat} {K C : Nat → Nat} {S T : Arr} (h : RfP w p A D E K C S) (e1 : T.ds = S.ds) (e2 : T.m = S.m) (e3 : T.n = S.n) (k : CellsBut (fun b => b = p) w w')
    (ht : ∃ c1 c2 c3, BlockAt w' p #[.int .i64 T.m, .int .i64 T.n, .slice (some ⟨A, 0, none⟩) T.m c1, .slice (some ⟨D, 0, none⟩) T.m c2, .slice (some ⟨E, 0, none⟩) T.m c3, .int .i64 T.l, .int .i64 T.g] 43) : RfP w' p A D E K C T :=
  ⟨ht, (h.r.but k (fun b _ => Classical.em (b = p)) h.apart).same e1 e2 e3, by rw [e2]; exact h.m1, by rw [e2]; exact h.m2, by rw [e3]; exact h.n1, by rw [e3]; exact h.n2⟩
set_option maxRecDepth 100000 in
set_option maxHeartbeats 4000000 in
theorem changes_ar {B : Nat} {w : World} {p A D E : Nat} {K C : Nat → Nat} {S : Arr} (h : RfP w p A D E K C S) (hB : B ≤ p) (hg : S.g ≤ 9007199254740992) (hl : S.l ≤ 9223372036854775807) : Calls Try.prog 54 #[.pointer (some ⟨p, 0, none⟩)] w fun e w' => e = .returned (.tuple #[]) ∧ RfP w' p A D E K C (chgA S) ∧ RfN B w p A D E K C S.m w' K C := by
  obtain ⟨a1, a2, a3, ht⟩ := h.top
  obtain ⟨c0, c1, c2, c3, c4, c5, c6⟩ := box7r ht
  have f5 := ht.free 5
  have f6 := ht.free 6
  have HT := Lib.hid ht
  have HP := Lib.hid h
  have HB := Lib.hid hB
  clear ht h hB
  by_cases h1 : 0 < S.l
  · have e1 : decide (0 < S.l) = true := decide_eq_true h1
    have hc : chgA S = { S with g := S.g + 1, l := S.l - 1 } := by unfold chgA; rw [if_pos h1]
    rw [hc]
    clear hc
    go_enter Try.func54, Try.ntmps54
    go_wp2
    go_end0
    have b1 := (HT.out.set (i := 6) (.int .i64 ((S.g : Int) + 1))).set (i := 5) (.int .i64 (S.l - 1))
    have k1 := (CellsBut.setCell (R := fun b => b = p) w (.int .i64 ((S.g : Int) + 1)) (i := 6) (b := p) rfl).trans' (CellsBut.setCell (R := fun b => b = p) _ (.int .i64 (S.l - 1)) (i := 5) (b := p) rfl)
    exact ⟨rfl, HP.out.setTop rfl rfl rfl k1 ⟨a1, a2, a3, b1⟩, RfN.of_one (Below.setCell (Below.setCell (Below.refl _ _) HB.out _) HB.out _) k1 (.inl rfl)⟩
  · have e1 : decide (0 < S.l) = false := decide_eq_false h1
    have hc : chgA S = { S with g := S.g + 1 } := by unfold chgA; rw [if_neg h1]
    rw [hc]
    clear hc
    go_enter Try.func54, Try.ntmps54
    go_wp2
    go_end0
    have b1 := HT.out.set (i := 6) (.int .i64 ((S.g : Int) + 1))
    have k1 := CellsBut.setCell (R := fun b => b = p) w (.int .i64 ((S.g : Int) + 1)) (i := 6) (b := p) rfl
    exact ⟨rfl, HP.out.setTop rfl rfl rfl k1 ⟨a1, a2, a3, b1⟩, RfN.of_one (Below.setCell (Below.refl _ _) HB.out _) k1 (.inl rfl)⟩
set_option maxRecDepth 100000 in
set_option maxHeartbeats 4000000 in
theorem lose_ar {B : Nat} {w : World} {p A D E : Nat} {K C : Nat → Nat} {S : Arr} (h : RfP w p A D E K C S) (hB : B ≤ A) (hBw : B ≤ w.heap.size) (d : Int) : Calls Try.prog 36 #[.pointer (some ⟨p, 0, none⟩), .int .i64 d] w fun e w' => e = .returned (.int .i64 (loseA S d).2) ∧ RfP w' p A D E K C (loseA S d).1 ∧ RfN B w p A D E K C S.m w' K C := by
  have HNM := Lib.hid (num_ar d ((S.m : Int) - 1) w)
  rw [there_num] at HNM
  have HP := Lib.hid h
  have HB := Lib.hid (And.intro hB hBw)
  have hm := h.m2
  have hm1 := h.m1
  obtain ⟨a1, a2, a3, ht⟩ := h.top
  obtain ⟨c0, c1, c2, c3, c4, c5, c6⟩ := box7r ht
  clear h ht hB hBw
  cases hT : isThere S d with
  | false =>
    rw [hT] at HNM
    have hR : loseA S d = (S, 3) := if_pos hT
    rw [hR]
    clear hT hR
    go_enter Try.func36, Try.ntmps36
    go_wp2_with fail
    refine HNM.out.mono ?_
    rintro e w2 ⟨rfl, hk⟩
    have HK := Lib.hid hk
    clear hk HNM c0 c1 c2 c3 c4 c5 c6
    go_wp2
    go_ret
    exact ⟨rfl, HP.out.kept HK.out, RfN.of_kept HK.out HB.out.2⟩
  | true =>
    rw [hT] at HNM
    have hR : loseA S d = ({ S with ds := upF S.ds d.toNat none }, 0) := if_neg (by rw [hT]; simp)
    rw [hR]
    obtain ⟨n, rfl, hn⟩ := there_nat hT
    rw [Int.toNat_natCast]
    clear hT hR
    go_enter Try.func36, Try.ntmps36
    go_wp2_with fail
    refine HNM.out.mono ?_
    rintro e w2 ⟨rfl, hk⟩
    have HK := Lib.hid hk
    clear c0 c1 c2 c3 c4 c5 c6
    have hp := HP.out.kept hk
    have HP2 := Lib.hid hp
    have l0 := hp.r.live n hn
    obtain ⟨ca, hA⟩ := hp.r.lrow
    have f0 := hA.free n
    obtain ⟨a1, a2, a3, ht⟩ := hp.top
    have hpa := hp.apart.1
    have HQ := Lib.hid (show RfP (w2.setCell ⟨A, n, none⟩ (.bool false)) p A D E K C { S with ds := upF S.ds n none } from ⟨⟨a1, a2, a3, ht.setOther _ hpa⟩, hp.r.lose hn, hp.m1, hp.m2, hp.n1, hp.n2⟩)
    have HN := Lib.hid ((RfN.of_kept (p := p) (A := A) (D := D) (E := E) (K := K) (C := C) (m := S.m) hk HB.out.2).trans (RfN.of_one (Below.setCell (Below.refl _ _) (p := ⟨A, n, none⟩) HB.out.1 (.bool false)) (CellsBut.setCell w2 (.bool false) rfl) (.inr (.inl rfl))))
    obtain ⟨c0, c1, c2, c3, c4, c5, c6⟩ := box7r ht
    clear ht hk hp HNM hA hpa
    go_wp2
    go_ret
    exact ⟨rfl, HQ.out, HN.out⟩
end Go.Proofs.Ytkfomaoillnehaa
