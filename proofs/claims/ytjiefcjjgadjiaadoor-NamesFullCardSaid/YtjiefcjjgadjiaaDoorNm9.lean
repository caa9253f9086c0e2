/- names.Parts, by what it answers (a text of no great length; bytealg's limit lies as a number); silolaw0.Strings over a row of one's own. -/
import Derived.Test.YtjiefcjjgadjiaaDoorNm7
namespace Go.Proofs.YtjiefcjjgadjiaaDoor
open Go.RowKit Go.Shelf
attribute [local go_sem] Oper.semAt_some

/-- what names.Parts tells of a good name -/
def PartsGood (n : Nat) (PL : List ByteArray) (w : World) (e : Ending) (w' : World) : Prop :=
  ∃ g cap, e = .returned (.tuple #[.slice (some ⟨g, 0, none⟩) n cap, .int .i64 0]) ∧ StrsIn w' (some ⟨g, 0, none⟩) n PL ∧ w.heap.size ≤ g ∧ ∃ cs, BlockAt w' g cs 9
/-- what names.Parts tells -/
def PartsR (s : ByteArray) (w : World) (e : Ending) (w' : World) : Prop :=
  (nameB s = true ∧ PartsGood (cntN (pathB s).data.toList) (pcL s) w e w') ∨
  (nameB s = false ∧ e = .returned (.tuple #[.slice none 0 0, .int .i64 7]))
theorem nparts_bad (s : ByteArray) (w : World) (hs : s.size ≤ 1000000) (hm : MaxL w) (hn : nameB s = false) : Calls Tryd.prog 11 #[.string s] w fun e w' => e = .returned (.tuple #[.slice none 0 0, .int .i64 7]) ∧ Kept w w' := by
  have HR := Lib.hid (read_any s w hs hm)
  rw [readV_bad s hn] at HR
  clear hm hn
  go_enter Tryd.func11, Tryd.ntmps11
  go_wp2_with fail
  refine (HR.out).mono ?_
  rintro e w1 ⟨rfl, hk⟩
  have HK := Lib.hid hk
  clear hk
  go_wp2
  go_ret2
  exact ⟨rfl, HK.out⟩
theorem own_row {w : World} {base l : Nat} {e : TypeId} {v : Value} {xs : List Value} (ho : w.ownsRow base e 1 v l xs) (hl : 0 < l) : ∃ g cap cs, v = .slice (some ⟨g, 0, none⟩) l cap ∧ base ≤ g ∧ BlockAt w g cs e := by
  obtain ⟨hlen, ⟨rfl, rfl⟩ | ⟨g, cap, cur, rfl, hb, hg, _⟩⟩ := ho
  · omega
  · exact ⟨g, cap, cur, rfl, hb, hg⟩
set_option maxRecDepth 100000 in
set_option maxHeartbeats 4000000 in
theorem nparts_good (s : ByteArray) (wo : World) (hs : s.size ≤ 1000000) (hm : MaxL wo) (hn : nameB s = true) : Calls Tryd.prog 11 #[.string s] wo fun e w' => PartsGood (cntN (pathB s).data.toList) (pcL s) wo e w' ∧ Kept wo w' := by
  have HR := Lib.hid (read_any s wo hs hm)
  rw [readV_good s hn] at HR
  have HPL := Lib.hid (show pcL s = pcLP (pathB s) from rfl)
  have hps : (pathB s).size ≤ 1000000 := Nat.le_trans (pathB_size s) hs
  generalize pathB s = u at HR HPL hps ⊢
  generalize pcL s = PL at HPL ⊢
  have HCN := Lib.hid (cntN_le u.data.toList)
  have HC0 := Lib.hid (cntN_pos u.data.toList)
  have hul : u.data.toList.length = u.size := rfl
  have HUL := Lib.hid hul
  obtain ⟨i0, hi, hz0, hz1, hz2⟩ := info_parts Tryd.infoStrN
  have HI := Lib.hid (And.intro hi (And.intro hz0 (And.intro hz1 hz2)))
  clear hm hn hs hi hz0 hz1 hz2 hul
  refine callsIn_wide.1 (callsIn_of_wp_marks (n := 8) Tryd.func11 rfl trivial ?_ rfl)
  simp only [Tryd.ntmps11, List.size_toArray, List.length_nil, List.length_cons, Nat.reduceAdd, Nat.reduceSub, Array.replicate_succ, Array.replicate_zero, List.push_toArray, List.append_toArray, List.nil_append, List.cons_append]
  refine wpIn_wide.2 ?_
  go_wp2_with fail
  refine (HR.out).mono ?_
  rintro e w1 ⟨rfl, hk1⟩
  have HK1 := Lib.hid hk1
  have hw1 := hk1.size
  clear hk1
  go_upto_region 5 with (fail)
  have hg1 := (BlockAt.new w1 #[] 9).kept ((Kept.refl _).alloc (.cells #[.slice (some ⟨w1.heap.size, 0, none⟩) 0 0] 22))
  have hp1 := BlockAt.new1 w1 #[.slice (some ⟨w1.heap.size, 0, none⟩) 0 0] 22 (.cells #[] 9)
  have k12 : Kept w1 ((w1.alloc (.cells #[] 9)).alloc (.cells #[.slice (some ⟨w1.heap.size, 0, none⟩) 0 0] 22)) := ((Kept.refl _).alloc _).alloc _
  have hz1 : w1.heap.size + 2 = ((w1.alloc (.cells #[] 9)).alloc (.cells #[.slice (some ⟨w1.heap.size, 0, none⟩) 0 0] 22)).heap.size := by simp
  generalize hwa : (w1.alloc (.cells #[] 9)).alloc (.cells #[.slice (some ⟨w1.heap.size, 0, none⟩) 0 0] 22) = wa at *
  clear hwa
  have HK2 := Lib.hid (HK1.out.trans k12)
  have HGZ0 := Lib.hid hg1
  have HPZ0 := Lib.hid hp1
  clear hg1 hp1 k12
  generalize w1.heap.size = p at *
  go_wp2_with fail
  refine (parts_nm _ _).mono ?_
  rintro e w5 ⟨rfl, hw5⟩
  have hk5 : Kept wa w5 := by rw [hw5]; exact (Kept.refl _).alloc _
  have HX := Lib.hid (show BlockAt w5 wa.heap.size #[.string u] 9 by rw [hw5]; exact BlockAt.new _ _ _)
  have HGZ := Lib.hid (HGZ0.out.kept hk5)
  have HPZ := Lib.hid (HPZ0.out.kept hk5)
  have HKZ := Lib.hid (HK2.out.trans hk5)
  have hx5 : wa.heap.size < w5.heap.size := by rw [hw5]; simp
  clear hk5 hw5 HGZ0 HPZ0
  generalize wa.heap.size = x at *
  go_wp2_with fail
  refine wp_of_in 8 ?_
  obtain ⟨R, hR⟩ : ∃ R : Nat → Prop, R = fun g => wo.heap.size ≤ g ∧ g ≠ p + 1 ∧ g ≠ x := ⟨_, rfl⟩
  have HRP := Lib.hid (show R p by rw [hR]; exact ⟨by omega, by omega, by omega⟩)
  have HRL := Lib.hid (show ¬ R (p + 1) by rw [hR]; exact fun h => h.2.1 rfl)
  have HRN := Lib.hid (show ∀ g, x + 1 ≤ g → R g by rw [hR]; exact fun g h => ⟨by omega, by omega, by omega⟩)
  have hrt : ¬ (R x ∨ x = p + 1) := by rw [hR]; exact fun h => by rcases h with h | h; exact h.2.2 rfl; omega
  clear hR
  refine wpIn_rangeFunc_S rfl (by omega) (gf := 33) (lb := #[.pointer (some ⟨x, 0, none⟩)]) rfl trivial (enters_of Tryd.func33 (by kernel_rfl) rfl)
    (parts_stops 7 (by omega) (fun g => R g ∨ g = p + 1) u hps x w5 hrt HX.out) (CellsBut.refl _) CellsBut.trans CellsBut.putObj (Below.refl _ _) (fun _ => rfl)
    (fun pre W => (∃ v, BlockAt W (p + 1) #[v] 22 ∧ W.ownsRow wo.heap.size 9 1 v pre.length (pre.map fun i => Value.string (pcN u i.1)) ∧ ∀ g, v.ownBlock = some g → R g) ∧ (x + 1 ≤ W.heap.size ∧ Below wo.heap.size wo W))
    (fun _ _ _ => False)
    ?hI (fun _ _ _ _ _ hs _ _ => hs) ?h0 ?round ?done ?stop
  case hI =>
    refine OwnFrom.and (Own.from (fun s A B row hs hg hr => ?_) _) (OwnFrom.and (Own.from (fun s A B row hs hg hr => Nat.le_trans hs hg.size) _) (ownFrom_below (Nat.le_refl _) (by omega)))
    obtain ⟨v, h1, h2, h3⟩ := hs
    exact ⟨v, block_own h1 hg hr, own_own h2 hg hr, h3⟩
  case h0 => exact ⟨⟨_, HPZ.out, ⟨rfl, .inr ⟨p, 0, #[], rfl, by omega, HGZ.out, Nat.le_refl _, by unfold maxLen; omega, rfl, rfl⟩⟩, fun g e => by cases e; exact HRP.out⟩, by omega, HKZ.out⟩
  case round =>
    rintro l ⟨i, hi⟩ W K hK
    have HK := Lib.hid hK
    clear hK
    gi_wp2
    refine HK.out _ ?_
    clear HK
    rintro l pre W ⟨⟨v, hpl, hown, hvR⟩, hx2, hB⟩ hlen
    have HB := Lib.hid hB
    have HPL2 := Lib.hid hpl
    have HOWN := Lib.hid hown
    have HVR := Lib.hid hvR
    have HPR := Lib.hid (show (pre ++ [(⟨i, hi⟩ : { k : Nat // k < cntN u.data.toList })]).map (fun i => Value.string (pcN u i.1)) = pre.map (fun i => Value.string (pcN u i.1)) ++ [Value.string (pcN u i)] by simp)
    have hn : pre.length < 1000002 := by have := HCN.out; have := HUL.out; omega
    clear hpl hown hvR hB
    generalize hps : pre.map (fun i => Value.string (pcN u i.1)) = ps at *
    generalize pcN u i = ti at *
    clear hps
    have hwl := HB.out.size
    have c := box1 HPL2.out
    gi_wp2_with (gi_at_builtin; refine wpListIn_append_own_at _ rfl _ _ 22 rfl wo.heap.size 9 i0 (.string ByteArray.empty) 1 16 Tryd.underlying22 HI.out.1 HI.out.2.1 HI.out.2.2.1 HI.out.2.2.2 rfl (by decide) _ _ _ rfl (HOWN.out.alloc _) ⟨W.heap.size, 0, none⟩ 1 1 [.string ti] rfl rfl ?c1 ?c2 ?c3 ?c4 ?c5 ?_)
    case c1 =>
      intro j' u hj'
      match j', hj' with
      | 0, hj' => simp at hj'; subst hj'; simp [Addr.add]
    case c2 => intro u hu; simp at hu; subst hu; rfl
    case c3 => unfold maxLen; omega
    case c4 => omega
    case c5 => simp; omega
    intro v' w9 hown9 hgrow _ hat
    obtain ⟨a9, c9, hv9⟩ := slice_of_own1 hown9
    have kx := (Kept.refl W).alloc (.cells #[.string ti] 9)
    have hown1 := own_kept HOWN.out kx
    have hpl9 := block_grown (HPL2.out.kept kx) hgrow (fun e => HRL.out (HVR.out _ e.symm))
    have hR9 : ∀ g, v'.ownBlock = some g → R g := fun g e => by
      rcases hat with h | h
      · exact HVR.out g (h ▸ e)
      · rw [h] at e
        cases e
        exact HRN.out _ (by have := kx.size; omega)
    have hpg : some (p + 1) ≠ v'.ownBlock := fun e => HRL.out (hR9 _ e.symm)
    have hset : w9.grownBy (w9.setCell ⟨p + 1, 0, none⟩ v') (some (p + 1)) := ⟨rfl, rfl, rfl, by simp, fun k _ hne => Below.heap_setCell w9 ⟨p + 1, 0, none⟩ v' k (fun e => hne (by rw [e]))⟩
    have HE1 := Lib.hid ((((others_kept kx).trans (others_own hown1 hgrow))).trans (KeepsOthers.setCell w9 ⟨p + 1, 0, none⟩ v'))
    have HE2 := Lib.hid (((CellsBut.of_kept kx).trans (but_own hgrow (fun j e => Or.inl (HVR.out j e)))).trans (CellsBut.setCell (R := fun j => R j ∨ j = p + 1) (b := p + 1) (i := 0) w9 v' (.inr rfl)))
    have HE3 := Lib.hid (((kept_gr1 (HB.out.trans (Below.mono kx (by omega))) hgrow (fun g e => by have := (HOWN.out.lt g e).1; omega))).setCell (p := ⟨p + 1, 0, none⟩) (by show wo.heap.size ≤ p + 1; omega) v')
    have HE4 := Lib.hid (own_own1 hown9 hset hpg)
    have HE5 := Lib.hid (show BlockAt (w9.setCell ⟨p + 1, 0, none⟩ v') (p + 1) #[v'] 22 by have := hpl9.set (i := 0) v'; simpa using this)
    have HE6 := Lib.hid hR9
    have f0 := hpl9.free 0
    have c0 := box1 hpl9
    have hs9 : W.heap.size ≤ (w9.setCell ⟨p + 1, 0, none⟩ v').heap.size := by have := kx.size; have := hgrow.size; simp only [World.size_setCell]; omega
    subst hv9
    clear hown9 hgrow hat kx hown1 hpl9 hR9 hpg hset
    gi_wp2
    refine ⟨HE1.out, HE2.out, ⟨_, HE5.out, ?_, HE6.out⟩, by omega, HE3.out⟩
    rw [HPR.out, List.length_append]
    simpa using HE4.out
  case done =>
    rintro D ys W hD hys ⟨⟨v, hpl, hown, hvR⟩, hx2, hB⟩ hK
    have hlen : ys.length = cntN u.data.toList := by have := congrArg List.length hys; rw [ixs_length] at this; simpa using this
    have hmap : ys.map (fun i => Value.string (pcN u i.1)) = PL.map Value.string := by
      rw [HPL.out]
      unfold pcLP
      rw [← hys]
      unfold ixs
      rw [List.map_map, List.map_map]
      rfl
    rw [hlen, hmap] at hown
    have hown' := own_own hown (grown_put W D (.deferred none)) (fun k e => by cases e; exact ⟨_, hK, rfl⟩)
    obtain ⟨g, cap, cs, rfl, hbg, hcs⟩ := own_row hown' HC0.out
    obtain ⟨a, cap', hv, hcap, hst⟩ := strs_own hown' (by rw [HPL.out, pcLP_length]) (fun z hz => by rw [HPL.out] at hz; have := pcLP_size u z hz; omega)
    obtain ⟨rfl, _, rfl⟩ := Value.slice.inj hv
    have c := box1 hpl
    have HB := Lib.hid hB
    have HST := Lib.hid hst
    have HCS := Lib.hid hcs
    have HKD := Lib.hid hK
    clear hpl hown hown' hvR hB hst hcs hmap hlen hys hcap hv hK
    go_wp2
    refine ⟨by simp, .inl ⟨_, _, rfl, run_takeDeferred HKD.out, ?_⟩⟩
    have k2 : Kept wo (W.putObj D (.deferred none)) := Below.grown HB.out (grown_put W D (.deferred none)) (by have := HB.out.size; simp; omega) (fun k e => by cases e; omega)
    refine ⟨.tuple #[.slice (some ⟨g, 0, none⟩) (cntN u.data.toList) cap, .int .i64 0], ?_, ⟨g, cap, rfl, HST.out, hbg, _, HCS.out⟩, k2⟩
    simp [results, Tryd.f11, go_sem]
  case stop => rintro _ _ _ _ _ _ h; exact h.elim
theorem nparts_nm (s : ByteArray) (w : World) (hs : s.size ≤ 1000000) (hm : MaxL w) : Calls Tryd.prog 11 #[.string s] w fun e w' => PartsR s w e w' ∧ Kept w w' := by
  cases hn : nameB s with
  | true => exact (nparts_good s w hs hm hn).mono fun e w' ⟨h, k⟩ => ⟨.inl ⟨hn, h⟩, k⟩
  | false => exact (nparts_bad s w hs hm hn).mono fun e w' ⟨h, k⟩ => ⟨.inr ⟨hn, h⟩, k⟩
theorem grown_two {w a b : World} {row : Option Nat} (h : w.grownBy a row) (k : a.grownBy b row) : w.grownBy b row :=
  ⟨k.os.trans h.os, k.tape.trans h.tape, k.output.trans h.output, Nat.le_trans h.size k.size, fun i hi hne => (k.block i (Nat.lt_of_lt_of_le hi h.size) hne).trans (h.block i hi hne)⟩
theorem grown_cell (w : World) (g i : Nat) (v : Value) : w.grownBy (w.setCell ⟨g, i, none⟩ v) (some g) := ⟨rfl, rfl, rfl, by simp, fun k _ hne => Below.heap_setCell w ⟨g, i, none⟩ v k (fun e => hne (by rw [e]))⟩
theorem spoil_nm (g l cap : Nat) (G : Nat → ByteArray) (hl : l ≤ 2000000) (w : World) (hb0 : ∃ cs, BlockAt w g cs 9) (hc0 : ∀ j, j < l → w.cell? ⟨g, j, none⟩ = some (.string (G j))) :
    Calls Tryd.prog 16 #[.slice (some ⟨g, 0, none⟩) l cap] w fun e w' => (∃ u, e = .returned u) ∧ w.grownBy w' (some g) := by
  have HB0 := Lib.hid hb0
  have HC0 := Lib.hid hc0
  clear hb0 hc0
  go_enter Tryd.func16, Tryd.ntmps16
  go_wp2_with fail
  go_loopw [2] (fun i wr => ∃ (k : Nat), k ≤ l ∧ i = .int .i64 k ∧ (∃ cs, BlockAt wr g cs 9) ∧ (∀ j, k ≤ j → j < l → wr.cell? ⟨g, j, none⟩ = some (.string (G j))) ∧ w.grownBy wr (some g)) (fun i _ => l - (intOf i).toNat)
  case atStart => exact ⟨0, by omega, rfl, HB0.out, fun j _ hj => HC0.out j hj, ⟨rfl, rfl, rfl, Nat.le_refl _, fun _ _ _ => rfl⟩⟩
  case round =>
    obtain ⟨k, hk, rfl, ⟨cs, hb⟩, hc, hg⟩ := hrel
    by_cases hlt : k < l
    · have hcell := hc k (Nat.le_refl k) hlt
      have hfree := hb.free k
      have HB := Lib.hid hb
      have HC := Lib.hid hc
      have HG := Lib.hid hg
      clear hb hc hg
      go_wp2_with fail
      go_roundw
      case rel => exact ⟨k + 1, by omega, by go_num, ⟨_, HB.out.set _⟩, fun j h1 h2 => by
        rw [World.cell?_setCell_other (h := fun e => by have := (Addr.mk.inj e).2.1; omega)]
        exact HC.out j (by omega) h2, grown_two HG.out (grown_cell _ _ _ _)⟩
      case measure => simp [intOf]; omega
    · have HG := Lib.hid hg
      clear hb hc hg
      go_wp2
      go_end0
      exact ⟨⟨_, rfl⟩, HG.out⟩
theorem spoil_none (w : World) : Calls Tryd.prog 16 #[.slice none 0 0] w fun e w' => (∃ u, e = .returned u) ∧ w = w' := by
  go_enter Tryd.func16, Tryd.ntmps16
  go_wp2_with fail
  go_loopw [2] (fun i wr => i = .int .i64 0 ∧ w = wr) (fun _ _ => 0)
  case atStart => exact ⟨rfl, rfl⟩
  case round =>
    obtain ⟨rfl, rfl⟩ := hrel
    go_wp2
    go_end0
    exact ⟨⟨_, rfl⟩, rfl⟩
end Go.Proofs.YtjiefcjjgadjiaaDoor
