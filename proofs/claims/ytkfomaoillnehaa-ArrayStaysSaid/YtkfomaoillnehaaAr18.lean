
/- Package array: Flush (conditions: the array lies as it should; not too many changes). -/
import Derived.Test.YtkfomaoillnehaaAr17
import Derived.Test.YtkfomaoillnehaaJq
namespace Go.Proofs.Ytkfomaoillnehaa
open Go.RowKit Go.Shelf
attribute [local go_sem] Oper.semAt_some

theorem size_zero {t : ByteArray} (h : t.size = 0) : t = ByteArray.empty := by
  have e : t.data = #[] := Array.eq_empty_of_size_eq_zero h
  exact ByteArray.ext e
theorem CellsBut.mono {R R' : Nat → Prop} {w w' : World} (k : CellsBut R w w') (h : ∀ b, R b → R' b) : CellsBut R' w w' := ⟨k.size, fun b cs t fr hr hb => k.block b cs t fr (fun q => hr (h b q)) hb⟩
/-- a loop's own records are none of the cells -/
theorem but_rec {R : Nat → Prop} {B : Nat} {A A' : World} {row : Option Nat} (g : A.grownBy A' row) (hr : ∀ r, row = some r → B ≤ r ∧ ∃ o : Obj, A.heap[r]? = some o ∧ o.isCells = false) : CellsBut R A A' :=
  ⟨g.size, fun i cs t fr _ hi => by
    have hlt : i < A.heap.size := (Array.getElem?_eq_some_iff.1 hi).1
    refine (g.block i hlt (fun e => ?_)).trans hi
    obtain ⟨_, o, ho, hc⟩ := hr i e.symm
    rw [hi] at ho
    cases ho
    cases hc⟩
theorem ArP.butA {R : Nat → Prop} {w w' : World} {p D : Nat} {K C : Nat → Nat} {S : Arr} (h : ArP w p D K C S) (k : CellsBut R w w') (hr : ∀ b, b = p ∨ ArF D K C S.m b → ¬ R b) : ArP w' p D K C S := by
  obtain ⟨cap, off, bound, left, ht, hp⟩ := h.top
  exact ⟨⟨cap, off, bound, left, ht.but k (hr p (.inl rfl)), hp⟩, h.r.but k (fun b hb => hr b (.inr hb)), h.ap, h.m1, h.m2, h.n1, h.n2⟩
theorem BlockAt.recs {w w' : World} {b : Nat} {C : Array Value} {t : TypeId} {B : Nat} {row : Option Nat} (h : BlockAt w b C t) (g : w.grownBy w' row) (hr : ∀ r, row = some r → B ≤ r ∧ ∃ o : Obj, w.heap[r]? = some o ∧ o.isCells = false) : BlockAt w' b C t :=
  h.but (R := fun _ => False) (but_rec g hr) (fun h => h)
/-- what may have changed: the blocks of disks and the array's own; of others none that lay in w -/
structure ArW (B : Nat) (w : World) (p D : Nat) (K C : Nat → Nat) (m : Nat) (W : World) : Prop where
  low : Below B w W
  but : CellsBut (fun b => b = p ∨ ArF D K C m b) w W
  oth : KeepsOthers w W
theorem ArW.recs {B : Nat} {w : World} {p D : Nat} {K C : Nat → Nat} {m : Nat} {A A' : World} {B' : Nat} {row : Option Nat} (h : ArW B w p D K C m A) (hB : B ≤ B') (g : A.grownBy A' row) (hr : ∀ r, row = some r → B' ≤ r ∧ ∃ o : Obj, A.heap[r]? = some o ∧ o.isCells = false) (hw : B ≤ w.heap.size) (hw2 : w.heap.size ≤ B') : ArW B w p D K C m A' :=
  ⟨Below.grown h.low g (Nat.le_trans hw h.low.size) (fun r e => Nat.le_trans hB (hr r e).1), h.but.trans' (but_rec g hr), ⟨Nat.le_trans h.oth.size g.size, fun k o hk ho => (g.block k (Array.getElem?_eq_some_iff.1 (h.oth.same k o hk ho)).1 (fun e => by have := (hr k e.symm).1; have := (Array.getElem?_eq_some_iff.1 hk).1; omega)).trans (h.oth.same k o hk ho)⟩⟩
theorem ArW.toN {B : Nat} {w : World} {p D : Nat} {K C : Nat → Nat} {m : Nat} {W : World} (h : ArW B w p D K C m W) : ArN B w p D K C m W K C := ⟨h.low, h.but, fun _ _ => ⟨.inl rfl, .inl rfl⟩, h.oth⟩
theorem ArW.more {B : Nat} {w : World} {p D : Nat} {K C : Nat → Nat} {m : Nat} {W W2 : World} (h : ArW B w p D K C m W) (k : ArN B W p D K C m W2 K C) : ArW B w p D K C m W2 := ⟨Below.trans h.low k.low, h.but.trans' k.but, h.oth.trans k.oth⟩
/-- a range's mark is taken at the function's end -/
theorem taken_rec {W : World} {D9 B : Nat} (h : W.heap[D9]? = some (.deferred (some []))) (hB : B ≤ D9) : ∀ r, some D9 = some r → B ≤ r ∧ ∃ o : Obj, W.heap[r]? = some o ∧ o.isCells = false := fun r e => by cases e; exact ⟨hB, _, h, rfl⟩
theorem putD_putD (S : Arr) (d : Nat) (x y : Dsk) : putD (putD S d x) d y = putD S d y := by
  unfold putD
  congr 1
  funext j
  by_cases e : j = d
  · subst e; rw [upF_same, upF_same]
  · rw [upF_other _ _ e, upF_other _ _ e]; exact upF_other _ _ e
theorem putD_self {S : Arr} {d : Nat} {x : Dsk} (h : S.ds d = some x) : putD S d x = S := by
  unfold putD
  rw [← h, upF_self]
/-- a disk under flush: i sectors are through; the box of its address -/
structure FlI (B : Nat) (w : World) (p D : Nat) (K C : Nat → Nat) (S : Arr) (d pb : Nat) (x : Dsk) (i : Nat) (W : World) : Prop where
  a : ArP W p D K C (putD S d (flushD x i))
  w : ArW B w p D K C S.m W
  box : BlockAt W pb #[.pointer (some ⟨D, d * 3, none⟩)] 70
theorem FlI.own {B : Nat} {w : World} {p D : Nat} {K C : Nat → Nat} {S : Arr} {d pb : Nat} {x : Dsk} {i B' : Nat} (hB : B ≤ B') (hw : B ≤ w.heap.size) (hw2 : w.heap.size ≤ B') : OwnN B' (FlI B w p D K C S d pb x i) := fun _ _ _ h g hr =>
  ⟨h.a.butA (R := fun _ => False) (but_rec g hr) (fun _ _ h => h), h.w.recs hB g hr hw hw2, h.box.recs g hr⟩
theorem FlI.skip {B : Nat} {w : World} {p D : Nat} {K C : Nat → Nat} {S : Arr} {d pb : Nat} {x : Dsk} {i : Nat} {W : World} (h : FlI B w p D K C S d pb x i W) (hc : cacheX x.c i = none) : FlI B w p D K C S d pb x (i + 1) W := by
  have hz : (x.c i).size = 0 := by
    unfold cacheX at hc
    split at hc
    · assumption
    · cases hc
  rw [show FlI B w p D K C S d pb x (i + 1) = FlI B w p D K C S d pb x (i + 1) from rfl]
  refine ⟨?_, h.w, h.box⟩
  rw [flushD_clean x i hz (size_zero hz)]
  exact h.a
theorem FlI.reads {B : Nat} {w : World} {p D : Nat} {K C : Nat → Nat} {S : Arr} {d pb : Nat} {x : Dsk} {i : Nat} {W : World} (h : FlI B w p D K C S d pb x i W) (hd : d < S.m) : CachM D (d * 3) (some ⟨C d, 0, none⟩) S.n x.c i W := by
  have hx : (putD S d (flushD x i)).ds d = some (flushD x i) := upF_same _ _ _
  refine ⟨h.a.r.ccell (d := d) hd hx, fun j h1 h2 => ⟨_, rfl, ?_⟩⟩
  have := (h.a.r.cs d hd _ hx).cell j h2
  rwa [show (flushD x i).c j = x.c j from if_neg (by omega)] at this
theorem FlI.step {B : Nat} {w : World} {p D : Nat} {K C : Nat → Nat} {S : Arr} {d pb : Nat} {x : Dsk} {i : Nat} {W : World} (h : FlI B w p D K C S d pb x i W) (hd : d < S.m) (hc : (x.c i).size ≠ 0) (hB : ∀ e, e < S.m → B ≤ K e ∧ B ≤ C e) :
    FlI B w p D K C S d pb x (i + 1) ((W.setCell ⟨K d, i, none⟩ (.string (x.c i))).setCell ⟨C d, i, none⟩ (.string ByteArray.empty)) := by
  have hx : (putD S d (flushD x i)).ds d = some (flushD x i) := upF_same _ _ _
  have h1 := h.a.setK (d := d) hd hx i (x.c i)
  rw [putD_putD] at h1
  have h2 := h1.setC (d := d) hd (upF_same _ _ _) i ByteArray.empty
  rw [putD_putD] at h2
  obtain ⟨c1, hk1⟩ := (h.a.r.ks d hd _ hx).blk
  obtain ⟨c2, hk2⟩ := (h.a.r.cs d hd _ hx).blk
  have k1 := CellsBut.setCell (R := fun b => b = K d) W (.string (x.c i)) (i := i) rfl
  have k2 := CellsBut.setCell (R := fun b => b = C d) (W.setCell ⟨K d, i, none⟩ (.string (x.c i))) (.string ByteArray.empty) (i := i) rfl
  refine ⟨?_, ⟨Below.setCell (Below.setCell h.w.low (p := ⟨K d, i, none⟩) (hB d hd).1 _) (p := ⟨C d, i, none⟩) (hB d hd).2 _, (h.w.but.trans' (k1.mono (fun b e => .inr (.inr ⟨d, hd, .inl e⟩)))).trans' (k2.mono (fun b e => .inr (.inr ⟨d, hd, .inr e⟩))), (h.w.oth.trans (KeepsOthers.setCell _ _ _)).trans (KeepsOthers.setCell _ _ _)⟩, (h.box.but k1 (block_ne h.box hk1 (by decide))).but k2 (block_ne h.box hk2 (by decide))⟩
  rw [flushD_dirty x i hc]
  exact h2
set_option maxRecDepth 100000 in
set_option maxHeartbeats 4000000 in
theorem flush_arr {B : Nat} {w : World} {p D : Nat} {K C : Nat → Nat} {S : Arr} (h : ArP w p D K C S) (hB : B ≤ p) (hBC : ∀ d, d < S.m → B ≤ K d ∧ B ≤ C d) (hg : S.g ≤ 9007199254740992) (hBw : B ≤ w.heap.size) (d : Int) :
    Calls Try.prog 23 #[.pointer (some ⟨p, 0, none⟩), .int .i64 d] w fun e w' => e = .returned (.int .i64 (flushA S d).2) ∧ ArP w' p D K C (flushA S d).1 ∧ ArN B w p D K C S.m w' K C := by
  have HTH := Lib.hid (there_any h d)
  have HP := Lib.hid h
  have HB := Lib.hid (And.intro hB (And.intro hBC hBw))
  clear hB hBC hBw
  cases hT : isThere S d with
  | false =>
    rw [hT] at HTH
    have hR : flushA S d = (S, 3) := if_pos hT
    rw [hR]
    clear h hT hR
    go_enter Try.func23, Try.ntmps23
    go_wp2_with fail
    refine HTH.out.mono ?_
    rintro e w2 ⟨rfl, hk⟩
    have HK := Lib.hid hk
    clear hk HTH
    go_wp2
    go_ret
    exact ⟨rfl, HP.out.kept HK.out, ArN.of_kept HK.out HB.out.2.2⟩
  | true =>
    rw [hT] at HTH
    have hR0 : flushA S d = if serveA S d.toNat = 0 then (match S.ds d.toNat with | none => ((S, 0) : Arr × Int) | some x => (chgA (putD S d.toNat (flushD x S.n)), 0)) else (S, serveA S d.toNat) := if_neg (by rw [hT]; simp)
    obtain ⟨n, rfl, hn⟩ := there_nat hT
    rw [Int.toNat_natCast] at hR0
    have hm := h.m2
    have HSV := Lib.hid (fun w2 (k : Kept w w2) => serve_arr (h.kept k) n hn)
    obtain ⟨V, hV⟩ : ∃ V, V = serveA S n := ⟨_, rfl⟩
    rw [← hV] at HSV hR0
    by_cases h0 : V = 0
    · subst h0
      obtain ⟨x, hx⟩ := serve_zero hV.symm
      have hl := serve_on hV.symm
      rw [hR0, if_pos rfl, hx]
      dsimp only
      have HX := Lib.hid hx
      have HL := Lib.hid hl
      have hn2 := h.n2
      clear h hR0 hT hV hx hl
      refine callsIn_wide.1 (callsIn_of_wp_marks (n := 8) Try.func23 rfl trivial ?_ rfl)
      simp only [Try.ntmps23, List.size_toArray, List.length_nil, List.length_cons, Nat.reduceAdd, Nat.reduceSub, Array.replicate_succ, Array.replicate_zero, List.push_toArray, List.append_toArray, List.nil_append, List.cons_append]
      refine wpIn_wide.2 ?_
      go_wp2_with fail
      refine HTH.out.mono ?_
      rintro e w2 ⟨rfl, hk⟩
      have HK := Lib.hid hk
      clear hk HTH
      go_wp2_with fail
      refine (HSV.out w2 HK.out).mono ?_
      rintro e w3 ⟨rfl, hk3⟩
      have HK3 := Lib.hid (HK.out.trans hk3)
      have HP3 := Lib.hid (HP.out.kept HK3.out)
      obtain ⟨cap, off, bound, left, hb, _⟩ := HP3.out.top
      obtain ⟨c0, c1, c2, c3, c4, c5⟩ := box6m hb
      clear hk3 hb HSV
      go_upto_region 7 with (fail)
      have HI := Lib.hid (show FlI B w p D K C S n w3.heap.size x 0 (w3.alloc (.cells #[.pointer (some ⟨D, n * 3, none⟩)] 70)) from
        ⟨by rw [flushD_zero, putD_self HX.out]; exact HP3.out.kept ((Kept.refl w3).alloc _), ⟨Below.mono (HK3.out.alloc _) HB.out.2.2, CellsBut.of_kept (HK3.out.alloc _), kept_oth (HK3.out.alloc _)⟩, BlockAt.new w3 _ _⟩)
      have hb4 : BlockAt (w3.alloc (.cells #[.pointer (some ⟨D, n * 3, none⟩)] 70)) w3.heap.size #[.pointer (some ⟨D, n * 3, none⟩)] 70 := HI.out.box
      have HOT := Lib.hid ((kept_oth HK3.out).trans (kept_oth ((Kept.refl w3).alloc (.cells #[.pointer (some ⟨D, n * 3, none⟩)] 70))))
      have HSZ := Lib.hid (show w.heap.size ≤ (w3.alloc (.cells #[.pointer (some ⟨D, n * 3, none⟩)] 70)).heap.size from Kept.size (HK3.out.alloc _))
      obtain ⟨pb, hpb⟩ : ∃ pb, pb = w3.heap.size := ⟨_, rfl⟩
      rw [← hpb] at HI hb4 ⊢
      clear hpb c0 c1 c2 c3 c4 c5
      generalize w3.alloc (.cells #[.pointer (some ⟨D, n * 3, none⟩)] 70) = w4 at *
      have a0 := box1 hb4
      clear hb4
      go_wp2_with fail
      refine wp_of_in 8 ?_
      refine wpIn_range_N rfl (by omega) (gf := 46) (la := #[.pointer (some ⟨D, n * 3, none⟩)]) (lb := #[]) rfl trivial (enters_of Try.func46 (by kernel_rfl) rfl)
        (cached_stops 7 (by omega) D (n * 3) (some ⟨C n, 0, none⟩) S.n x.c hn2) (fun i v h => by unfold cacheX at h; split at h <;> cases h; rfl) (FlI B w p D K C S n pb x) (fun i => FlI.own (Nat.le_trans HB.out.2.2 HSZ.out) HB.out.2.2 HSZ.out) (fun i W h => h.reads hn) (fun i W hi hc h => h.skip hc) HI.out ?round ?done
      case round =>
        rintro l i v W K2 hi hv hK
        have hc : (x.c i).size ≠ 0 := fun e => by
          rw [show cacheX x.c i = none from if_pos e] at hv
          cases hv
        rw [show cacheX x.c i = some #[.int .i64 ((i : Nat) : Int), .string (x.c i)] from if_neg hc] at hv
        cases hv
        have HKK := Lib.hid hK
        clear hK
        gi_wp2
        refine HKK.out _ ?_
        clear HKK
        intro WR hF
        have HF := Lib.hid hF
        have HS := Lib.hid ((FlI.own (Nat.le_trans HB.out.2.2 HSZ.out) HB.out.2.2 HSZ.out WR WR.drew none hF (gr_kept ((Kept.refl WR).drew) none) (fun r e => by cases e)).step hn hc HB.out.2.1)
        have hx2 : (putD S n (flushD x i)).ds n = some (flushD x i) := upF_same _ _ _
        have r0 := box1 hF.box
        have r1 := hF.a.r.kcell (d := n) hn hx2
        have r2 := hF.a.r.ccell (d := n) hn hx2
        have tk := hF.a.r.ks n hn _ hx2
        have tc := hF.a.r.cs n hn _ hx2
        have k0 := tk.cell i hi
        have k1 := tk.free i
        have k2 := tc.cell i hi
        have k3 := tc.free i
        obtain ⟨ck, hck⟩ := tk.blk
        obtain ⟨cr, hcr⟩ := hF.a.r.row
        have s0 := cell_other (i' := i) (u := .string (x.c i)) r0 (block_ne hF.box hck (by decide))
        have s1 := cell_other (i' := i) (u := .string (x.c i)) r1 (block_ne hcr hck (by decide))
        have s2 := cell_other (i' := i) (u := .string (x.c i)) r2 (block_ne hcr hck (by decide))
        have s3 := cell_other (i' := i) (u := .string (x.c i)) k2 (fun e => hF.a.r.kc n n hn hn e.symm)
        have hpc : pb ≠ C n := by
          obtain ⟨cc, hcc⟩ := tc.blk
          exact block_ne hF.box hcc (by decide)
        have hdc : D ≠ C n := by
          obtain ⟨cc, hcc⟩ := tc.blk
          exact block_ne hcr hcc (by decide)
        clear hF hx2 tk tc hck hcr
        gi_wp2_with fail

        have HR := Lib.hid (show ∀ m, m ≤ 2 → (fun W : World => W.cell? ⟨pb, 0, none⟩ = some (.pointer (some ⟨D, n * 3, none⟩)) ∧ W.cell? ⟨D, n * 3 + 1, none⟩ = some (.slice (some ⟨K n, 0, none⟩) S.n S.n) ∧ W.cell? ⟨D, n * 3 + 2, none⟩ = some (.slice (some ⟨C n, 0, none⟩) S.n S.n)) ((fun m => ([WR.drew, (WR.drew.setCell ⟨K n, i, none⟩ (.string (x.c i))), ((WR.drew.setCell ⟨K n, i, none⟩ (.string (x.c i))).setCell ⟨C n, i, none⟩ (.string ByteArray.empty))] : List World).getD m (((WR.drew.setCell ⟨K n, i, none⟩ (.string (x.c i))).setCell ⟨C n, i, none⟩ (.string ByteArray.empty)))) m) from by
          intro m hm
          match m, hm with
          | 0, _ => exact ⟨r0, r1, r2⟩
          | 1, _ => exact ⟨s0, s1, s2⟩
          | 2, _ => exact ⟨cell_other (i' := i) (u := .string ByteArray.empty) s0 hpc, cell_other (i' := i) (u := .string ByteArray.empty) s1 hdc, cell_other (i' := i) (u := .string ByteArray.empty) s2 hdc⟩
          | m + 3, h => omega)
        clear r0 r1 r2 s0 s1 s2 hpc hdc
        refine Pj.wpIn_round_jq (by as_aux_lemma => kernel_rfl) [(29, 0), (30, 1), (31, 2), (32, 3), (33, 4), (34, 5), (35, 6), (36, 7), (37, 8), (38, 9), (39, 10), (40, 11), (41, 13)] (fun j => ([.pointer (some ⟨D, n * 3, none⟩), .pointer (some ⟨D, n * 3, none⟩), .pointer (some ⟨D, n * 3 + 1, none⟩), .slice (some ⟨K n, 0, none⟩) S.n S.n, .int .i64 ((i : Nat) : Int), .pointer (some ⟨D, n * 3, none⟩), .pointer (some ⟨D, n * 3, none⟩), .pointer (some ⟨D, n * 3 + 2, none⟩), .slice (some ⟨C n, 0, none⟩) S.n S.n, .int .i64 ((i : Nat) : Int), .string (x.c i), .pointer (some ⟨K n, i, none⟩), undef, .pointer (some ⟨C n, i, none⟩), undef] : List Value).getD j undef) [12, 14] (fun m => ([WR.drew, (WR.drew.setCell ⟨K n, i, none⟩ (.string (x.c i))), ((WR.drew.setCell ⟨K n, i, none⟩ (.string (x.c i))).setCell ⟨C n, i, none⟩ (.string ByteArray.empty))] : List World).getD m (((WR.drew.setCell ⟨K n, i, none⟩ (.string (x.c i))).setCell ⟨C n, i, none⟩ (.string ByteArray.empty)))) (by as_aux_lemma => kernel_rfl) (by as_aux_lemma => kernel_rfl) (by decide) rfl ?eh0 ?ehs ?ehe
        case eh0 => exact ⟨_, Pj.puts_self _ (fun j => ([29, 30, 31, 32, 33, 34, 35, 36, 37, 38, 39, 40, 0, 41, 0] : List Nat).getD j 0) [0, 1, 2, 3, 4, 5, 6, 7, 8, 9, 10, 11, 13]⟩
        case ehs =>
          intro L L' V w iz opz Kq hJ ho hopen hdep hL hKq
          match iz, ho with
          | 0, ho =>
            simp only [List.getElem?_toArray, List.getElem?_cons_zero, Option.some.injEq] at ho
            have hr : (fun W : World => W.cell? ⟨pb, 0, none⟩ = some (.pointer (some ⟨D, n * 3, none⟩)) ∧ W.cell? ⟨D, n * 3 + 1, none⟩ = some (.slice (some ⟨K n, 0, none⟩) S.n S.n) ∧ W.cell? ⟨D, n * 3 + 2, none⟩ = some (.slice (some ⟨C n, 0, none⟩) S.n S.n)) w := hJ.rd (R := fun W => W.cell? ⟨pb, 0, none⟩ = some (.pointer (some ⟨D, n * 3, none⟩)) ∧ W.cell? ⟨D, n * 3 + 1, none⟩ = some (.slice (some ⟨K n, 0, none⟩) S.n S.n) ∧ W.cell? ⟨D, n * 3 + 2, none⟩ = some (.slice (some ⟨C n, 0, none⟩) S.n S.n)) HR.out
            obtain ⟨r0, r1, r2⟩ := hr
            have HJ := Lib.hid hJ
            clear hJ
            subst ho
            refine Pj.Step.free rfl ?_
            simp only [Pj.puts, List.foldl_cons, List.foldl_nil, Act.put, List.setIfInBounds_toArray, List.set_cons_zero, List.set_cons_succ]
            go_simp
            exact hKq _ _ ⟨Pj.vset V 0 (.pointer (some ⟨D, n * 3, none⟩)), by simp only [Pj.puts, List.foldl_cons, List.foldl_nil, Act.put, List.setIfInBounds_toArray, List.set_cons_zero, List.set_cons_succ, Pj.vset, Nat.reduceEqDiff, if_true, if_false], HJ.out.more (by decide) hL rfl⟩
          | 1, ho =>
            simp only [List.getElem?_toArray, List.getElem?_cons_zero, List.getElem?_cons_succ, Option.some.injEq] at ho
            have e0 : V 0 = .pointer (some ⟨D, n * 3, none⟩) := hJ.h 0 (hdep 0 (by rw [← ho]; kernel_rfl)) (by decide)
            have HJ := Lib.hid hJ
            clear hJ
            subst ho
            refine Pj.Step.free rfl ?_
            simp only [Pj.puts, List.foldl_cons, List.foldl_nil, Act.put, List.setIfInBounds_toArray, List.set_cons_zero, List.set_cons_succ, e0]
            go_simp
            exact hKq _ _ ⟨Pj.vset V 1 (.pointer (some ⟨D, n * 3, none⟩)), by simp only [Pj.puts, List.foldl_cons, List.foldl_nil, Act.put, List.setIfInBounds_toArray, List.set_cons_zero, List.set_cons_succ, Pj.vset, Nat.reduceEqDiff, if_true, if_false, e0], HJ.out.more (by decide) hL rfl⟩
          | 2, ho =>
            simp only [List.getElem?_toArray, List.getElem?_cons_zero, List.getElem?_cons_succ, Option.some.injEq] at ho
            have e1 : V 1 = .pointer (some ⟨D, n * 3, none⟩) := hJ.h 1 (hdep 1 (by rw [← ho]; kernel_rfl)) (by decide)
            have HJ := Lib.hid hJ
            clear hJ
            subst ho
            refine Pj.Step.free rfl ?_
            simp only [Pj.puts, List.foldl_cons, List.foldl_nil, Act.put, List.setIfInBounds_toArray, List.set_cons_zero, List.set_cons_succ, e1]
            go_simp
            exact hKq _ _ ⟨Pj.vset V 2 (.pointer (some ⟨D, n * 3 + 1, none⟩)), by simp only [Pj.puts, List.foldl_cons, List.foldl_nil, Act.put, List.setIfInBounds_toArray, List.set_cons_zero, List.set_cons_succ, Pj.vset, Nat.reduceEqDiff, if_true, if_false, e1], HJ.out.more (by decide) hL rfl⟩
          | 3, ho =>
            simp only [List.getElem?_toArray, List.getElem?_cons_zero, List.getElem?_cons_succ, Option.some.injEq] at ho
            have e2 : V 2 = .pointer (some ⟨D, n * 3 + 1, none⟩) := hJ.h 2 (hdep 2 (by rw [← ho]; kernel_rfl)) (by decide)
            have hr : (fun W : World => W.cell? ⟨pb, 0, none⟩ = some (.pointer (some ⟨D, n * 3, none⟩)) ∧ W.cell? ⟨D, n * 3 + 1, none⟩ = some (.slice (some ⟨K n, 0, none⟩) S.n S.n) ∧ W.cell? ⟨D, n * 3 + 2, none⟩ = some (.slice (some ⟨C n, 0, none⟩) S.n S.n)) w := hJ.rd (R := fun W => W.cell? ⟨pb, 0, none⟩ = some (.pointer (some ⟨D, n * 3, none⟩)) ∧ W.cell? ⟨D, n * 3 + 1, none⟩ = some (.slice (some ⟨K n, 0, none⟩) S.n S.n) ∧ W.cell? ⟨D, n * 3 + 2, none⟩ = some (.slice (some ⟨C n, 0, none⟩) S.n S.n)) HR.out
            obtain ⟨r0, r1, r2⟩ := hr
            have HJ := Lib.hid hJ
            clear hJ
            subst ho
            refine Pj.Step.free rfl ?_
            simp only [Pj.puts, List.foldl_cons, List.foldl_nil, Act.put, List.setIfInBounds_toArray, List.set_cons_zero, List.set_cons_succ, e2]
            go_simp
            exact hKq _ _ ⟨Pj.vset V 3 (.slice (some ⟨K n, 0, none⟩) S.n S.n), by simp only [Pj.puts, List.foldl_cons, List.foldl_nil, Act.put, List.setIfInBounds_toArray, List.set_cons_zero, List.set_cons_succ, Pj.vset, Nat.reduceEqDiff, if_true, if_false, e2], HJ.out.more (by decide) hL rfl⟩
          | 4, ho =>
            simp only [List.getElem?_toArray, List.getElem?_cons_zero, List.getElem?_cons_succ, Option.some.injEq] at ho
            have HJ := Lib.hid hJ
            clear hJ
            subst ho
            refine Pj.Step.free rfl ?_
            simp only [Pj.puts, List.foldl_cons, List.foldl_nil, Act.put, List.setIfInBounds_toArray, List.set_cons_zero, List.set_cons_succ]
            go_simp
            exact hKq _ _ ⟨Pj.vset V 4 (.int .i64 ((i : Nat) : Int)), by simp only [Pj.puts, List.foldl_cons, List.foldl_nil, Act.put, List.setIfInBounds_toArray, List.set_cons_zero, List.set_cons_succ, Pj.vset, Nat.reduceEqDiff, if_true, if_false], HJ.out.more (by decide) hL rfl⟩
          | 5, ho =>
            simp only [List.getElem?_toArray, List.getElem?_cons_zero, List.getElem?_cons_succ, Option.some.injEq] at ho
            have hr : (fun W : World => W.cell? ⟨pb, 0, none⟩ = some (.pointer (some ⟨D, n * 3, none⟩)) ∧ W.cell? ⟨D, n * 3 + 1, none⟩ = some (.slice (some ⟨K n, 0, none⟩) S.n S.n) ∧ W.cell? ⟨D, n * 3 + 2, none⟩ = some (.slice (some ⟨C n, 0, none⟩) S.n S.n)) w := hJ.rd (R := fun W => W.cell? ⟨pb, 0, none⟩ = some (.pointer (some ⟨D, n * 3, none⟩)) ∧ W.cell? ⟨D, n * 3 + 1, none⟩ = some (.slice (some ⟨K n, 0, none⟩) S.n S.n) ∧ W.cell? ⟨D, n * 3 + 2, none⟩ = some (.slice (some ⟨C n, 0, none⟩) S.n S.n)) HR.out
            obtain ⟨r0, r1, r2⟩ := hr
            have HJ := Lib.hid hJ
            clear hJ
            subst ho
            refine Pj.Step.free rfl ?_
            simp only [Pj.puts, List.foldl_cons, List.foldl_nil, Act.put, List.setIfInBounds_toArray, List.set_cons_zero, List.set_cons_succ]
            go_simp
            exact hKq _ _ ⟨Pj.vset V 5 (.pointer (some ⟨D, n * 3, none⟩)), by simp only [Pj.puts, List.foldl_cons, List.foldl_nil, Act.put, List.setIfInBounds_toArray, List.set_cons_zero, List.set_cons_succ, Pj.vset, Nat.reduceEqDiff, if_true, if_false], HJ.out.more (by decide) hL rfl⟩
          | 6, ho =>
            simp only [List.getElem?_toArray, List.getElem?_cons_zero, List.getElem?_cons_succ, Option.some.injEq] at ho
            have e5 : V 5 = .pointer (some ⟨D, n * 3, none⟩) := hJ.h 5 (hdep 5 (by rw [← ho]; kernel_rfl)) (by decide)
            have HJ := Lib.hid hJ
            clear hJ
            subst ho
            refine Pj.Step.free rfl ?_
            simp only [Pj.puts, List.foldl_cons, List.foldl_nil, Act.put, List.setIfInBounds_toArray, List.set_cons_zero, List.set_cons_succ, e5]
            go_simp
            exact hKq _ _ ⟨Pj.vset V 6 (.pointer (some ⟨D, n * 3, none⟩)), by simp only [Pj.puts, List.foldl_cons, List.foldl_nil, Act.put, List.setIfInBounds_toArray, List.set_cons_zero, List.set_cons_succ, Pj.vset, Nat.reduceEqDiff, if_true, if_false, e5], HJ.out.more (by decide) hL rfl⟩
          | 7, ho =>
            simp only [List.getElem?_toArray, List.getElem?_cons_zero, List.getElem?_cons_succ, Option.some.injEq] at ho
            have e6 : V 6 = .pointer (some ⟨D, n * 3, none⟩) := hJ.h 6 (hdep 6 (by rw [← ho]; kernel_rfl)) (by decide)
            have HJ := Lib.hid hJ
            clear hJ
            subst ho
            refine Pj.Step.free rfl ?_
            simp only [Pj.puts, List.foldl_cons, List.foldl_nil, Act.put, List.setIfInBounds_toArray, List.set_cons_zero, List.set_cons_succ, e6]
            go_simp
            exact hKq _ _ ⟨Pj.vset V 7 (.pointer (some ⟨D, n * 3 + 2, none⟩)), by simp only [Pj.puts, List.foldl_cons, List.foldl_nil, Act.put, List.setIfInBounds_toArray, List.set_cons_zero, List.set_cons_succ, Pj.vset, Nat.reduceEqDiff, if_true, if_false, e6], HJ.out.more (by decide) hL rfl⟩
          | 8, ho =>
            simp only [List.getElem?_toArray, List.getElem?_cons_zero, List.getElem?_cons_succ, Option.some.injEq] at ho
            have e7 : V 7 = .pointer (some ⟨D, n * 3 + 2, none⟩) := hJ.h 7 (hdep 7 (by rw [← ho]; kernel_rfl)) (by decide)
            have hr : (fun W : World => W.cell? ⟨pb, 0, none⟩ = some (.pointer (some ⟨D, n * 3, none⟩)) ∧ W.cell? ⟨D, n * 3 + 1, none⟩ = some (.slice (some ⟨K n, 0, none⟩) S.n S.n) ∧ W.cell? ⟨D, n * 3 + 2, none⟩ = some (.slice (some ⟨C n, 0, none⟩) S.n S.n)) w := hJ.rd (R := fun W => W.cell? ⟨pb, 0, none⟩ = some (.pointer (some ⟨D, n * 3, none⟩)) ∧ W.cell? ⟨D, n * 3 + 1, none⟩ = some (.slice (some ⟨K n, 0, none⟩) S.n S.n) ∧ W.cell? ⟨D, n * 3 + 2, none⟩ = some (.slice (some ⟨C n, 0, none⟩) S.n S.n)) HR.out
            obtain ⟨r0, r1, r2⟩ := hr
            have HJ := Lib.hid hJ
            clear hJ
            subst ho
            refine Pj.Step.free rfl ?_
            simp only [Pj.puts, List.foldl_cons, List.foldl_nil, Act.put, List.setIfInBounds_toArray, List.set_cons_zero, List.set_cons_succ, e7]
            go_simp
            exact hKq _ _ ⟨Pj.vset V 8 (.slice (some ⟨C n, 0, none⟩) S.n S.n), by simp only [Pj.puts, List.foldl_cons, List.foldl_nil, Act.put, List.setIfInBounds_toArray, List.set_cons_zero, List.set_cons_succ, Pj.vset, Nat.reduceEqDiff, if_true, if_false, e7], HJ.out.more (by decide) hL rfl⟩
          | 9, ho =>
            simp only [List.getElem?_toArray, List.getElem?_cons_zero, List.getElem?_cons_succ, Option.some.injEq] at ho
            have HJ := Lib.hid hJ
            clear hJ
            subst ho
            refine Pj.Step.free rfl ?_
            simp only [Pj.puts, List.foldl_cons, List.foldl_nil, Act.put, List.setIfInBounds_toArray, List.set_cons_zero, List.set_cons_succ]
            go_simp
            exact hKq _ _ ⟨Pj.vset V 9 (.int .i64 ((i : Nat) : Int)), by simp only [Pj.puts, List.foldl_cons, List.foldl_nil, Act.put, List.setIfInBounds_toArray, List.set_cons_zero, List.set_cons_succ, Pj.vset, Nat.reduceEqDiff, if_true, if_false], HJ.out.more (by decide) hL rfl⟩
          | 10, ho =>
            simp only [List.getElem?_toArray, List.getElem?_cons_zero, List.getElem?_cons_succ, Option.some.injEq] at ho
            have HJ := Lib.hid hJ
            clear hJ
            subst ho
            refine Pj.Step.free rfl ?_
            simp only [Pj.puts, List.foldl_cons, List.foldl_nil, Act.put, List.setIfInBounds_toArray, List.set_cons_zero, List.set_cons_succ]
            go_simp
            exact hKq _ _ ⟨Pj.vset V 10 (.string (x.c i)), by simp only [Pj.puts, List.foldl_cons, List.foldl_nil, Act.put, List.setIfInBounds_toArray, List.set_cons_zero, List.set_cons_succ, Pj.vset, Nat.reduceEqDiff, if_true, if_false], HJ.out.more (by decide) hL rfl⟩
          | 11, ho =>
            simp only [List.getElem?_toArray, List.getElem?_cons_zero, List.getElem?_cons_succ, Option.some.injEq] at ho
            have e3 : V 3 = .slice (some ⟨K n, 0, none⟩) S.n S.n := hJ.h 3 (hdep 3 (by rw [← ho]; kernel_rfl)) (by decide)
            have e4 : V 4 = .int .i64 ((i : Nat) : Int) := hJ.h 4 (hdep 4 (by rw [← ho]; kernel_rfl)) (by decide)
            have HJ := Lib.hid hJ
            clear hJ
            subst ho
            refine Pj.Step.free rfl ?_
            simp only [Pj.puts, List.foldl_cons, List.foldl_nil, Act.put, List.setIfInBounds_toArray, List.set_cons_zero, List.set_cons_succ, e3, e4]
            go_simp
            exact hKq _ _ ⟨Pj.vset V 11 (.pointer (some ⟨K n, i, none⟩)), by simp only [Pj.puts, List.foldl_cons, List.foldl_nil, Act.put, List.setIfInBounds_toArray, List.set_cons_zero, List.set_cons_succ, Pj.vset, Nat.reduceEqDiff, if_true, if_false, e3, e4], HJ.out.more (by decide) hL rfl⟩
          | 12, ho =>
            simp only [List.getElem?_toArray, List.getElem?_cons_zero, List.getElem?_cons_succ, Option.some.injEq] at ho
            have e11 : V 11 = .pointer (some ⟨K n, i, none⟩) := hJ.h 11 (hdep 11 (by rw [← ho]; kernel_rfl)) (by decide)
            have e10 : V 10 = .string (x.c i) := hJ.h 10 (hdep 10 (by rw [← ho]; kernel_rfl)) (by decide)
            have hpv : 0 = 0 ∨ L (([12, 14] : List Nat).getD (0 - 1) 0) := .inl rfl
            obtain rfl : w = WR.drew := hJ.at 0 (by decide) rfl hopen hpv
            have HJ := Lib.hid hJ
            clear hJ
            subst ho
            refine Pj.Step.free rfl ?_
            simp only [Pj.puts, List.foldl_cons, List.foldl_nil, Act.put, List.setIfInBounds_toArray, List.set_cons_zero, List.set_cons_succ, e11, e10]
            go_simp
            exact hKq _ _ ⟨Pj.vset V 12 (undef), by simp only [Pj.puts, List.foldl_cons, List.foldl_nil, Act.put, List.setIfInBounds_toArray, List.set_cons_zero, List.set_cons_succ, Pj.vset, Nat.reduceEqDiff, if_false, e11, e10], HJ.out.step 0 (by decide) rfl (by decide) rfl hopen rfl hL hdep hpv rfl⟩
          | 13, ho =>
            simp only [List.getElem?_toArray, List.getElem?_cons_zero, List.getElem?_cons_succ, Option.some.injEq] at ho
            have e8 : V 8 = .slice (some ⟨C n, 0, none⟩) S.n S.n := hJ.h 8 (hdep 8 (by rw [← ho]; kernel_rfl)) (by decide)
            have e9 : V 9 = .int .i64 ((i : Nat) : Int) := hJ.h 9 (hdep 9 (by rw [← ho]; kernel_rfl)) (by decide)
            have HJ := Lib.hid hJ
            clear hJ
            subst ho
            refine Pj.Step.free rfl ?_
            simp only [Pj.puts, List.foldl_cons, List.foldl_nil, Act.put, List.setIfInBounds_toArray, List.set_cons_zero, List.set_cons_succ, e8, e9]
            go_simp
            exact hKq _ _ ⟨Pj.vset V 13 (.pointer (some ⟨C n, i, none⟩)), by simp only [Pj.puts, List.foldl_cons, List.foldl_nil, Act.put, List.setIfInBounds_toArray, List.set_cons_zero, List.set_cons_succ, Pj.vset, Nat.reduceEqDiff, if_true, if_false, e8, e9], HJ.out.more (by decide) hL rfl⟩
          | 14, ho =>
            simp only [List.getElem?_toArray, List.getElem?_cons_zero, List.getElem?_cons_succ, Option.some.injEq] at ho
            have e13 : V 13 = .pointer (some ⟨C n, i, none⟩) := hJ.h 13 (hdep 13 (by rw [← ho]; kernel_rfl)) (by decide)
            have hpv : 1 = 0 ∨ L (([12, 14] : List Nat).getD (1 - 1) 0) := .inr (hdep 12 (by rw [← ho]; kernel_rfl))
            obtain rfl : w = (WR.drew.setCell ⟨K n, i, none⟩ (.string (x.c i))) := hJ.at 1 (by decide) rfl hopen hpv
            have HJ := Lib.hid hJ
            clear hJ
            subst ho
            refine Pj.Step.free rfl ?_
            simp only [Pj.puts, List.foldl_cons, List.foldl_nil, Act.put, List.setIfInBounds_toArray, List.set_cons_zero, List.set_cons_succ, e13]
            go_simp
            exact hKq _ _ ⟨Pj.vset V 14 (undef), by simp only [Pj.puts, List.foldl_cons, List.foldl_nil, Act.put, List.setIfInBounds_toArray, List.set_cons_zero, List.set_cons_succ, Pj.vset, Nat.reduceEqDiff, if_false, e13], HJ.out.step 1 (by decide) rfl (by decide) rfl hopen rfl hL hdep hpv rfl⟩
          | n + 15, ho => simp at ho
        case ehe =>
          intro V hv
          simp only [Pj.puts, List.foldl_cons, List.foldl_nil, Act.put, List.setIfInBounds_toArray, List.set_cons_zero, List.set_cons_succ]
          clear hv 
          show KeepsOthers WR _ ∧ FlI B w p D K C S n pb x (i + 1) _
          exact ⟨((KeepsOthers.drew WR).trans (KeepsOthers.setCell _ _ _)).trans (KeepsOthers.setCell _ _ _), HS.out⟩
      case done =>
        rintro D9 W hD hS hdef
        have HS := Lib.hid hS
        have HD := Lib.hid hdef
        have HC := Lib.hid (changed_arr hS.a HB.out.1 (show S.l ≠ 0 from HL.out) hg)
        clear hS hdef
        go_wp2_with fail
        refine HC.out.mono ?_
        rintro e W2 ⟨rfl, hp4, hn4⟩
        have HP4 := Lib.hid hp4
        have HN4 := Lib.hid hn4
        have HD4 := Lib.hid (hn4.oth.same _ _ HD.out rfl)
        clear hp4 hn4 HC
        go_wp2_with fail
        refine ⟨by simp, .inl ⟨_, _, rfl, run_takeDeferred HD4.out, ?_⟩⟩
        have hg9 := grown_put W2 D9 (.deferred none)
        have hr9 := taken_rec HD4.out hD
        exact ⟨_, results_tmp rfl _ _ _, rfl, HP4.out.butA (R := fun _ => False) (but_rec hg9 hr9) (fun _ _ h => h), ((HS.out.w.more HN4.out).recs (Nat.le_trans HB.out.2.2 HSZ.out) hg9 hr9 HB.out.2.2 HSZ.out).toN⟩
    · rw [hR0, if_neg h0]
      have h0b : (V != 0) = true := by simpa using h0
      clear h hR0 hT hV
      go_enter Try.func23, Try.ntmps23
      go_wp2_with fail
      refine HTH.out.mono ?_
      rintro e w2 ⟨rfl, hk⟩
      have HK := Lib.hid hk
      clear hk HTH
      go_wp2_with fail
      refine (HSV.out w2 HK.out).mono ?_
      rintro e w3 ⟨rfl, hk3⟩
      have HK3 := Lib.hid (HK.out.trans hk3)
      clear hk3 HSV
      go_wp2
      go_ret
      exact ⟨rfl, HP.out.kept HK3.out, ArN.of_kept HK3.out HB.out.2.2⟩
end Go.Proofs.Ytkfomaoillnehaa
