/- Contracts laid together: what each says stands at its head (no conditions). -/
import Derived.Test.YtdllenoclnmmdaaTh5
namespace Go.Proofs.Ytdllenoclnmmdaa
open Go.RowKit Go.Shelf
attribute [local go_sem] Oper.semAt_some

def natV (n : Nat) : Value := .int .i64 (n : Int)
/-- which of the things a list of digests names -/
def lkD (ts : List Th) (ds : List ByteArray) : List Nat := ds.filterMap fun d => if fdF ts d = true then some (lbF ts d) else none
def lkF (ts : List Th) : List (List Nat) := ts.map fun x => lkD ts (nmF x)
theorem lkF_at (ts : List Th) (i : Nat) (h : i < ts.length) : (lkF ts).getD i [] = lkD ts (nmF (ts.getD i th00)) := by
  simp [lkF, List.getD, h]
theorem lkD_snoc (ts : List Th) (ds : List ByteArray) (k : Nat) (h : k < ds.length) : lkD ts (ds.take (k + 1)) = lkD ts (ds.take k) ++ (if fdF ts (ds.getD k ByteArray.empty) = true then [lbF ts (ds.getD k ByteArray.empty)] else []) := by
  unfold lkD
  rw [List.take_succ_eq_append_getElem h, List.filterMap_append]
  have : ds.getD k ByteArray.empty = ds[k] := by simp [List.getD, h]
  rw [this]
  congr 1
  by_cases e : fdF ts ds[k] = true
  · simp [e]
  · simp [e]
theorem lkD_len (ts : List Th) (ds : List ByteArray) : (lkD ts ds).length ≤ ds.length := List.length_filterMap_le _ _
theorem nmF_few (x : Th) : (nmF x).length ≤ 40 := by
  unfold nmF
  split
  · rw [List.length_append]; exact mfO_few _ _ rfl
  · exact Nat.zero_le _
/-- rows of numbers, each of its own, in a row of them -/
def RowsAt (W : World) (g : Nat) (C : Array Value) (ll : List (List Nat)) (k : Nat) : Prop :=
  ∀ j, j < k → ∃ v, C[j]? = some v ∧ W.ownsRow (g + 1) 3 1 v (ll.getD j []).length ((ll.getD j []).map natV)
theorem RowsAt.kept {W W' : World} {g : Nat} {C : Array Value} {ll : List (List Nat)} {k : Nat} (h : RowsAt W g C ll k) (q : Kept W W') : RowsAt W' g C ll k := fun j hj => by
  obtain ⟨v, h1, h2⟩ := h j hj
  exact ⟨v, h1, own_kept h2 q⟩
theorem RowsAt.gr {W W' : World} {g : Nat} {C C' : Array Value} {ll : List (List Nat)} {k : Nat} (h : RowsAt W g C ll k) (q : W.grownBy W' (some g)) (hC : ∀ j, j < k → C'[j]? = C[j]?) : RowsAt W' g C' ll k := fun j hj => by
  obtain ⟨v, h1, h2⟩ := h j hj
  exact ⟨v, (hC j hj).trans h1, own_own1 h2 q (fun e => by have := (h2.lt g e.symm).1; omega)⟩
def LinksIn (W : World) (a : Option Addr) (l : Nat) (ll : List (List Nat)) : Prop := ∃ g C, a = some ⟨g, 0, none⟩ ∧ BlockAt W g C 95 ∧ C.size = l ∧ ll.length = l ∧ RowsAt W g C ll l
theorem LinksIn.kept {W W' : World} {a : Option Addr} {l : Nat} {ll : List (List Nat)} (h : LinksIn W a l ll) (q : Kept W W') : LinksIn W' a l ll := by
  obtain ⟨g, C, h1, h2, h3, h4, h5⟩ := h
  exact ⟨g, C, h1, h2.kept q, h3, h4, h5.kept q⟩
theorem Try.infoIl : (Try.prog.info? 95).map (fun i => (i.zero, i.size, i.bytes)) = some (some (.slice none 0 0), 1, 24) := by kernel_rfl
theorem mkRows (n : Nat) (hn : n ≤ 1000000) : ∀ u : World, (Instr.makeSlice 80 (.int .i64 n) (.int .i64 n)).run Try.prog u =
    .ok (.slice (some ⟨u.heap.size, 0, none⟩) n n) (u.alloc (.cells (madeCells #[.slice none 0 0] n) 95)) := fun u => by
  obtain ⟨i0, hi, hz0, hz1, hz2⟩ := info_parts Try.infoIl
  have h := run_make (P := Try.prog) u 80 95 i0 (.slice none 0 0) Try.underlying80 hi hz0 .i64 .i64 (n : Int) (n : Int) (by omega) (Int.le_refl _) (by rw [hz2]; omega) (by omega)
  simpa [hz1, Value.cells] using h
theorem made_at (z : Value) (n i : Nat) (h : i < n) : (madeCells #[z] n)[i]? = some z := by simp [madeCells, h, Nat.mod_one]
theorem made_size (z : Value) (n : Nat) : (madeCells #[z] n).size = n := by simp [madeCells]
/-- the same, and where the row of rows lies: it is the first that the call makes -/
def LinksQ (w : World) (ll : List (List Nat)) (l : Nat) (e : Ending) (w' : World) : Prop := ∃ c, e = .returned (.slice (some ⟨w.heap.size, 0, none⟩) l c) ∧ LinksIn w' (some ⟨w.heap.size, 0, none⟩) l ll ∧ Kept w w'
def LinksP (w : World) (ll : List (List Nat)) (l : Nat) (e : Ending) (w' : World) : Prop := ∃ a c, e = .returned (.slice a l c) ∧ LinksIn w' a l ll ∧ Kept w w'
theorem slices_no (C : Array Value) (g : Nat) (W : World) (ll : List (List Nat)) (k l : Nat) (h1 : RowsAt W g C ll k) (h2 : ∀ j, k ≤ j → j < l → C[j]? = some (.slice none 0 0)) (hz : C.size = l) : ∀ (i : Nat) (x : ByteArray), C[i]? ≠ some (Value.string x) := fun i x e => by
  have hi : i < l := by rw [← hz]; exact (Array.getElem?_eq_some_iff.1 e).1
  by_cases hk : i < k
  · obtain ⟨v, hv, ho⟩ := h1 i hk
    rw [e] at hv
    cases hv
    obtain ⟨a, m, c, hv⟩ := own_slice ho
    cases hv
  · rw [h2 i (by omega) hi] at e
    cases e
set_option maxRecDepth 100000 in
set_option maxHeartbeats 4000000 in
theorem links_at (a : Option Addr) (l cap : Nat) (ts : List Th) (w : World) (h : ThsIn w a l ts) (hr : riB (digs ts) = true) (h60 : l ≤ 60) :
    Calls Try.prog 49 #[.slice a l cap] w (LinksQ w (lkF ts) l) := by
  obtain ⟨i0, hi, hz0, hz1, hz2⟩ := info_parts Try.infoI
  have HI := Lib.hid (And.intro hi (And.intro hz0 (And.intro hz1 hz2)))
  have HS := Lib.hid h
  have HL := Lib.hid h.len_eq
  have HR := Lib.hid hr
  clear h hr hi hz0 hz1 hz2
  have hmk : ∀ u : World, (Instr.makeSlice 80 (.int .i64 l) (.int .i64 l)).run Try.prog u = .ok (.slice (some ⟨u.heap.size, 0, none⟩) l l) (u.alloc (.cells (madeCells #[.slice none 0 0] l) 95)) := mkRows l (by omega)
  have HB0 := Lib.hid (BlockAt.new w (madeCells #[.slice none 0 0] l) 95)
  have HK0 := Lib.hid ((Kept.refl w).alloc (.cells (madeCells #[.slice none 0 0] l) 95))
  go_enter Try.func49, Try.ntmps49
  go_wp2_with fail
  clear hmk
  generalize w.alloc (.cells (madeCells #[.slice none 0 0] l) 95) = w1 at *
  obtain ⟨g, hg⟩ : ∃ g, g = w.heap.size := ⟨_, rfl⟩
  rw [← hg] at HB0 ⊢
  have HG := Lib.hid hg
  clear hg
  go_loopw [15] (fun i wr => ∃ (k : Nat) (C : Array Value), k ≤ l ∧ i = .int .i64 k ∧ C.size = l ∧ BlockAt wr g C 95 ∧ Hid (RowsAt wr g C (lkF ts) k) ∧ Hid (∀ j, k ≤ j → j < l → C[j]? = some (.slice none 0 0)) ∧ Kept w wr) (fun i _ => l - (intOf i).toNat)
  case atStart => exact ⟨0, _, by omega, rfl, made_size _ _, HB0.out, Lib.hid (fun j hj => absurd hj (Nat.not_lt_zero j)), Lib.hid (fun j _ hj => made_at _ _ _ hj), HK0.out⟩
  case round =>
    obtain ⟨i, C, hi, rfl, hC, hB, HRW, HNL, hkr⟩ := hrel
    have HK := Lib.hid hkr
    have HB := Lib.hid hB
    have HCZ := Lib.hid hC
    have hgs : g < wr.heap.size := hB.lt
    clear hkr hB hC
    by_cases hlt : i < l
    · have hd1 : decide (i < l) = true := decide_eq_true hlt
      obtain ⟨b, off, rfl, hc⟩ := HS.out.at (by omega)
      obtain ⟨c0, c1, c2⟩ := hc i hlt _ HK.out
      have HLK := Lib.hid (lkF_at ts i (by rw [HL.out]; exact hlt))
      obtain ⟨x, hx⟩ : ∃ x, x = ts.getD i th00 := ⟨_, rfl⟩
      rw [← hx] at c0 c1 c2 HLK
      clear hc hx
      go_upto_region 5 with (fail)
      have HBX := Lib.hid (BlockAt.new wr #[.string x.d, .string x.t, .bool x.m] 65)
      have kx := (Kept.refl wr).alloc (.cells #[.string x.d, .string x.t, .bool x.m] 65)
      have HK2 := Lib.hid (HK.out.trans kx)
      have HB2 := Lib.hid (HB.out.kept kx)
      have HRW2 := Lib.hid (HRW.out.kept kx)
      clear c0 c1 c2 kx HB HRW
      generalize wr.alloc (.cells #[.string x.d, .string x.t, .bool x.m] 65) = w2 at *
      obtain ⟨a0, a1, a2⟩ := box3 HBX.out
      have hnf := nmF_few x
      have hna := names_any x w2
      obtain ⟨ns, hns⟩ : ∃ ns, ns = nmF x := ⟨_, rfl⟩
      rw [← hns] at hnf hna HLK
      have HNA := Lib.hid hna
      clear hna hns
      go_wp2_with fail
      refine HNA.out.mono ?_
      rintro e w3 ⟨an, cn, rfl, hst, hk3⟩
      have HK3 := Lib.hid (HK2.out.trans hk3)
      have HB3 := Lib.hid (HB2.out.kept hk3)
      have HRW3 := Lib.hid (HRW2.out.kept hk3)
      have hg3 : g < w3.heap.size := HB3.out.lt
      have HST := Lib.hid hst
      clear a0 a1 a2 hk3 hst HB2 HRW2 HNA HBX
      have HNO := Lib.hid (slices_no C g w3 (lkF ts) i l HRW3.out HNL.out HCZ.out)
      obtain ⟨ln, hln⟩ : ∃ ln, ln = ns.length := ⟨_, rfl⟩
      rw [← hln] at hnf HST ⊢
      have HLN := Lib.hid hln
      clear hln
      go_wp2_with fail
      go_loopw [23] (fun kv wx => ∃ (k : Nat) (v : Value), k ≤ ln ∧ kv = .int .i64 k ∧ BlockAt wx g (C.setIfInBounds i v) 95 ∧ wx.ownsRow w3.heap.size 3 1 v (lkD ts (ns.take k)).length ((lkD ts (ns.take k)).map natV) ∧ w3.grownBy wx (some g)) (fun kv _ => ln - (intOf kv).toNat)
      case atStart =>
        refine ⟨0, .slice none 0 0, by omega, rfl, ?_, ?_, gr_refl _ _⟩
        · have e : C.setIfInBounds i (.slice none 0 0) = C := by
            have hn := HNL.out i (Nat.le_refl _) hlt
            apply Array.ext_getElem?
            intro j
            rw [Array.getElem?_setIfInBounds]
            split
            · rename_i e; subst e; rw [if_pos (by rw [HCZ.out]; exact hlt), hn]
            · rfl
          rw [e]; exact HB3.out
        · exact World.ownsRow_nil _ _ _ _
      case round =>
        rename World => wx
        obtain ⟨k, v, hk, rfl, hbx, hox, hgx⟩ := hrel
        have HBX := Lib.hid hbx
        have HOX := Lib.hid hox
        have HGX := Lib.hid hgx
        have hgx3 : w3.heap.size ≤ wx.heap.size := hgx.size
        have HKX := Lib.hid (show Kept w wx from kept_gr HK3.out hgx (fun q e => by cases e; rw [HG.out]; exact Nat.le_refl _))
        clear hbx hox hgx
        by_cases hkl : k < ln
        · have hd2 : decide (k < ln) = true := decide_eq_true hkl
          have HSX := Lib.hid (strs_set HST.out HB3.out HNO.out HGX.out)
          obtain ⟨bn, on, rfl, hcn⟩ := HSX.out.at (by omega)
          have n0 := hcn k hkl _ (Kept.refl _)
          have HSN := Lib.hid (lkD_snoc ts ns k (by rw [← HLN.out]; exact hkl))
          obtain ⟨d, hd⟩ : ∃ d, d = ns.getD k ByteArray.empty := ⟨_, rfl⟩
          rw [← hd] at n0 HSN
          clear hcn hd
          have HAT := Lib.hid (at_any (some ⟨b, off, none⟩) l cap ts d wx (HS.out.kept HKX.out) HR.out)
          generalize lbF ts d = nn at *
          cases hf : fdF ts d with
          | false =>
            rw [hf] at HAT HSN
            clear hf
            have HE := Lib.hid (show lkD ts (ns.take (k + 1)) = lkD ts (ns.take k) by rw [HSN.out]; simp)
            go_wp2_with fail
            refine HAT.out.mono ?_
            rintro e wy ⟨rfl, hky⟩
            have HB5 := Lib.hid (HBX.out.kept hky)
            have HO5 := Lib.hid (own_kept HOX.out hky)
            have HG5 := Lib.hid (gr_trans HGX.out (gr_kept hky (some g)))
            clear hky n0
            go_wp2_with fail
            go_roundw
            case rel => exact ⟨k + 1, v, by omega, by go_num, HB5.out, by rw [HE.out]; exact HO5.out, HG5.out⟩
            case measure => simp [intOf]; omega
          | true =>
            rw [hf] at HAT HSN
            clear hf
            have HE := Lib.hid (show lkD ts (ns.take (k + 1)) = lkD ts (ns.take k) ++ [nn] by rw [HSN.out]; simp)
            have hcf : (lkD ts (ns.take k)).length ≤ 40 := by have := lkD_len ts (ns.take k); rw [List.length_take] at this; omega
            generalize lkD ts (ns.take k) = L at HE HOX hcf
            go_wp2_with fail
            refine HAT.out.mono ?_
            rintro e wy ⟨rfl, hky⟩
            have HB5 := Lib.hid (HBX.out.kept hky)
            have HO5 := Lib.hid (own_kept HOX.out hky)
            have HG5 := Lib.hid (gr_trans HGX.out (gr_kept hky (some g)))
            have hgy : w3.heap.size ≤ wy.heap.size := HG5.out.size
            clear hky n0 HSX HAT
            have hci : wy.cell? ⟨g, i, none⟩ = some v := by
              rw [HB5.out.cell i, Array.getElem?_setIfInBounds]
              simp [HCZ.out, hlt]
            obtain ⟨av, cv, rfl⟩ := slice_of_own1 HO5.out
            go_wp2_with (at_builtin; refine wpList_append_held rfl _ _ 95 rfl w3.heap.size 3 i0 (.int .i64 0) 8 Try.underlying95 HI.out.1 HI.out.2.1 HI.out.2.2.1 HI.out.2.2.2 rfl _ _ _ rfl (own_kept HO5.out ((Kept.refl wy).alloc _)) (some ⟨wy.heap.size, 0, none⟩) 1 1 [.int .i64 (nn : Int)] rfl (held_one wy _ _ rfl) ?c1 ?c2 ?c3 ?_)
            case c1 => unfold maxLen; omega
            case c2 => omega
            case c3 => simp; omega
            intro v' wz hown hgr _
            obtain ⟨av2, cv2, rfl⟩ := slice_of_own1 hown
            have ka := (Kept.refl wy).alloc (.cells #[.int .i64 (nn : Int)] 3)
            have hne : some g ≠ (Value.slice av L.length cv).ownBlock := fun e => by have := (HO5.out.lt g e.symm).1; omega
            have HB6 := Lib.hid ((HB5.out.kept ka).gr hgr hne)
            have HG6 := Lib.hid (gr_then (gr_trans HG5.out (gr_kept ka (some g))) hgr (fun q e => (HO5.out.lt q e).1))
            have HO6 := Lib.hid hown
            clear ka hne hci hown hgr
            have hci : wz.cell? ⟨g, i, none⟩ = some (.slice av L.length cv) := by
              rw [HB6.out.cell i, Array.getElem?_setIfInBounds]
              simp [HCZ.out, hlt]
            have hfi := HB6.out.free i
            go_wp2_with fail
            go_roundw
            case rel =>
              refine ⟨k + 1, .slice av2 (L.length + 1) cv2, by omega, by go_num, ?_, ?_, gr_trans HG6.out (gr_set wz g i _)⟩
              · have := HB6.out.set (i := i) (.slice av2 (L.length + 1) cv2)
                rwa [Array.setIfInBounds_setIfInBounds] at this
              · rw [HE.out, List.length_append, List.map_append]
                exact own_own1 HO6.out (gr_set wz g i _) (fun e => by have := (HO6.out.lt g e.symm).1; omega)
            case measure => simp [intOf]; omega
        · obtain rfl : ln = k := by omega
          have hd2 : decide (ln < ln) = false := decide_eq_false (by omega)
          have HE := Lib.hid (show lkD ts (ns.take ln) = (lkF ts).getD i [] by rw [HLK.out, List.take_of_length_le (by rw [HLN.out]; exact Nat.le_refl _)])
          go_wp2_with fail
          go_roundw
          case rel =>
            refine ⟨i + 1, C.setIfInBounds i v, by omega, by go_num, by rw [Array.size_setIfInBounds]; exact HCZ.out, HBX.out, Lib.hid (fun j hj => ?_), Lib.hid (fun j h1 h2 => ?_), HKX.out⟩
            · by_cases e : j = i
              · subst e
                refine ⟨v, by rw [Array.getElem?_setIfInBounds]; simp [HCZ.out, hlt], ?_⟩
                rw [← HE.out]
                exact own_base HOX.out (by omega)
              · exact HRW3.out.gr HGX.out (C' := C.setIfInBounds i v) (fun j hj => by rw [Array.getElem?_setIfInBounds, if_neg (by omega)]) j (by omega)
            · rw [Array.getElem?_setIfInBounds, if_neg (by omega)]
              exact HNL.out j (by omega) h2
          case measure => simp [intOf]; omega
    · obtain rfl : l = i := by omega
      have hd1 : decide (l < l) = false := decide_eq_false (by omega)
      have HLL := Lib.hid (show (lkF ts).length = l by unfold lkF; rw [List.length_map]; exact HL.out)
      go_wp2_with fail
      go_ret
      exact ⟨_, by rw [← HG.out]; rfl, ⟨g, C, by rw [← HG.out], HB.out, HCZ.out, HLL.out, HRW.out⟩, HK.out⟩
theorem links_any (a : Option Addr) (l cap : Nat) (ts : List Th) (w : World) (h : ThsIn w a l ts) (hr : riB (digs ts) = true) (h60 : l ≤ 60) :
    Calls Try.prog 49 #[.slice a l cap] w (LinksP w (lkF ts) l) :=
  (links_at a l cap ts w h hr h60).mono fun _ _ ⟨c, e, h1, h2⟩ => ⟨_, c, e, h1, h2⟩
end Go.Proofs.Ytdllenoclnmmdaa

namespace Go.Proofs.Ytdllenoclnmmdaa
open Go.RowKit Go.Shelf
attribute [local go_sem] Oper.semAt_some

/-- the first below n that p is true of; n: none is -/
def firstF (p : Nat → Bool) : Nat → Nat
  | 0 => 0
  | n + 1 => if firstF p n < n then firstF p n else if p n = true then n else n + 1
theorem firstF_le (p : Nat → Bool) : ∀ n, firstF p n ≤ n
  | 0 => Nat.le_refl _
  | n + 1 => by
    have := firstF_le p n
    unfold firstF
    split
    · omega
    · split <;> omega
theorem firstF_no (p : Nat → Bool) : ∀ n i, i < firstF p n → p i = false
  | 0, i, h => by simp [firstF] at h
  | n + 1, i, h => by
    have hle := firstF_le p n
    unfold firstF at h
    split at h
    · exact firstF_no p n i h
    · split at h
      · exact firstF_no p n i (by omega)
      · rename_i h1 h2
        by_cases e : i = n
        · subst e; simpa using h2
        · exact firstF_no p n i (by omega)
theorem firstF_at (p : Nat → Bool) : ∀ n, firstF p n < n → p (firstF p n) = true
  | 0, h => by omega
  | n + 1, h => by
    have hle := firstF_le p n
    unfold firstF at h ⊢
    split
    · rename_i h1; exact firstF_at p n h1
    · split
      · rename_i h2; exact h2
      · rename_i h1 h2; rw [if_neg h1, if_neg h2] at h; omega
theorem firstF_of (p : Nat → Bool) (n k : Nat) (hk : k ≤ n) (h1 : ∀ i, i < k → p i = false) (h2 : k < n → p k = true) : firstF p n = k := by
  rcases Nat.lt_trichotomy (firstF p n) k with h | h | h
  · have := firstF_at p n (by omega)
    rw [h1 _ h] at this; cases this
  · exact h
  · have := firstF_no p n k h
    have hle := firstF_le p n
    rw [h2 (by omega)] at this; cases this
/-- is the n-th not told yet, and all that it names are? -/
def rdP (ll : List (List Nat)) (tl : List Bool) (n : Nat) : Bool := !(tl.getD n false) && (ll.getD n []).all fun m => tl.getD m false
def rdF (ll : List (List Nat)) (tl : List Bool) : Nat := firstF (rdP ll tl) ll.length
def blV (bs : List Bool) : Array Value := (bs.map Value.bool).toArray
theorem blV_at (bs : List Bool) (i : Nat) (h : i < bs.length) : (blV bs)[i]? = some (.bool (bs.getD i false)) := by simp [blV, List.getD, h]
theorem blV_set (bs : List Bool) (i : Nat) (x : Bool) : (blV bs).setIfInBounds i (.bool x) = blV (bs.set i x) := by
  unfold blV
  rw [List.setIfInBounds_toArray, List.map_set]
theorem blV_made (n : Nat) : madeCells #[.bool false] n = blV (List.replicate n false) := by
  apply Array.ext_getElem?
  intro i
  by_cases h : i < n
  · rw [made_at _ _ _ h, blV_at _ _ (by simpa using h)]
    simp [List.getD, h]
  · rw [Array.getElem?_eq_none (by rw [made_size]; omega), Array.getElem?_eq_none (by simp [blV]; omega)]
def LkOk (ll : List (List Nat)) : Prop := ∀ i, i < ll.length → ∀ m ∈ ll.getD i [], m < ll.length
theorem LinksIn.row {W : World} {a : Option Addr} {l : Nat} {ll : List (List Nat)} (h : LinksIn W a l ll) : ∃ g, a = some ⟨g, 0, none⟩ ∧ ∀ i, i < l → ∃ b cap, (∀ w, Kept W w → w.cell? ⟨g, i, none⟩ = some (.slice b (ll.getD i []).length cap)) ∧
    ∀ k, k < (ll.getD i []).length → ∃ q, b = some ⟨q, 0, none⟩ ∧ ∀ w, Kept W w → w.cell? ⟨q, k, none⟩ = some (.int .i64 (((ll.getD i []).getD k 0 : Nat) : Int)) := by
  obtain ⟨g, C, h1, h2, h3, h4, h5⟩ := h
  refine ⟨g, h1, fun i hi => ?_⟩
  obtain ⟨v, hv, ho⟩ := h5 i hi
  obtain ⟨b, cap, rfl⟩ := slice_of_own1 ho
  refine ⟨b, cap, fun w k => by rw [(h2.kept k).cell, hv], fun k hk => ?_⟩
  rcases ho.2 with ⟨e, e2⟩ | ⟨q, cap', cur, e, hb, hg, hn, hm, _⟩
  · omega
  · cases e
    refine ⟨q, rfl, fun w kk => kk.cell (ho.lt q rfl).2 ?_⟩
    rw [ho.cellAt k (by omega)]
    generalize ll.getD i [] = L at hk
    rw [List.getElem?_map, List.getElem?_eq_getElem hk]
    simp [natV, List.getD, hk]
def rdZ (ll : List (List Nat)) (tl : List Bool) : Int := if rdF ll tl < ll.length then (rdF ll tl : Int) else -1
set_option maxRecDepth 100000 in
set_option maxHeartbeats 4000000 in
theorem ready_any (a : Option Addr) (l cap : Nat) (ll : List (List Nat)) (tb tc : Nat) (tl : List Bool) (w : World) (h : LinksIn w a l ll) (ht : BlockAt w tb (blV tl) 4) (htl : tl.length = l) (hok : LkOk ll) (hl : l ≤ 60) (hrl : ∀ i, i < l → (ll.getD i []).length ≤ 40) :
    Calls Try.prog 50 #[.slice a l cap, .slice (some ⟨tb, 0, none⟩) l tc] w fun e w' => e = .returned (.int .i64 (rdZ ll tl)) ∧ Kept w w' := by
  have HT := Lib.hid (show ∀ j, j < l → ∀ w', Kept w w' → w'.cell? ⟨tb, j, none⟩ = some (.bool (tl.getD j false)) from fun j hj w' q => by rw [(ht.kept q).cell, blV_at _ _ (by omega)])
  have HLL := Lib.hid (show ll.length = l by obtain ⟨_, _, _, _, _, h4, _⟩ := h; exact h4)
  have HR := Lib.hid h.row
  have HOK := Lib.hid hok
  clear h ht htl hok
  obtain ⟨R, hR⟩ : ∃ R, R = rdZ ll tl := ⟨_, rfl⟩
  rw [← hR]
  have HRR := Lib.hid hR
  clear hR
  obtain ⟨g, rfl, hrow⟩ := HR.out
  have HROW := Lib.hid hrow
  clear hrow HR
  go_enter Try.func50, Try.ntmps50
  go_wp2_with fail
  refine wp_scope_straight ?_
  go_wp2_with fail
  refine wp_label ?_
  go_wp2_with fail
  go_loopw [11] (fun i wr => ∃ n : Nat, n ≤ l ∧ i = .int .i64 n ∧ Hid (∀ q, q < n → rdP ll tl q = false) ∧ Kept w wr) (fun i _ => l - (intOf i).toNat)
  case atStart => exact ⟨0, by omega, rfl, Lib.hid (fun q hq => absurd hq (Nat.not_lt_zero q)), Kept.refl _⟩
  case round =>
    obtain ⟨n, hn, rfl, HZ, hkr⟩ := hrel
    have HK := Lib.hid hkr
    clear hkr
    by_cases hlt : n < l
    · have hd1 : decide (n < l) = true := decide_eq_true hlt
      obtain ⟨b, c, hcb, hck⟩ := HROW.out n hlt
      have c0 := hcb _ HK.out
      have t0 := HT.out n hlt _ HK.out
      have HPN := Lib.hid (show rdP ll tl n = (!(tl.getD n false) && (ll.getD n []).all fun m => tl.getD m false) from rfl)
      have HCK := Lib.hid hck
      have HOKN := Lib.hid (HOK.out n (by rw [HLL.out]; exact hlt))
      have hrl := hrl n hlt
      generalize ll.getD n [] = L at c0 HPN HCK HOKN hrl
      clear hcb hck
      cases htn : tl.getD n false with
      | true =>
        rw [htn] at t0 HPN
        have HN := Lib.hid (show ∀ q, q < n + 1 → rdP ll tl q = false from fun q hq => by
          by_cases e : q = n
          · rw [e, HPN.out]; rfl
          · exact HZ.out q (by omega))
        clear htn
        go_wp2_with fail
        go_roundw
        case rel => exact ⟨n + 1, by omega, by go_num, HN, HK.out⟩
        case measure => simp [intOf]; omega
      | false =>
        rw [htn] at t0 HPN
        clear htn
        have hL40 := hrl
        obtain ⟨ln, hln⟩ : ∃ ln, ln = L.length := ⟨_, rfl⟩
        rw [← hln] at c0 HCK hL40
        have HLN := Lib.hid hln
        clear hln
        go_wp2_with fail
        clear c0 t0
        go_loopw [22] (fun kv wx => ∃ k : Nat, k ≤ ln ∧ kv = .int .i64 k ∧ Hid (∀ j, j < k → tl.getD (L.getD j 0) false = true) ∧ Kept w wx) (fun kv _ => ln - (intOf kv).toNat)
        case atStart => exact ⟨0, by omega, rfl, Lib.hid (fun j hj => absurd hj (Nat.not_lt_zero j)), HK.out⟩
        case round =>
          rename World => wx
          obtain ⟨k, hk, rfl, HJ, hkx⟩ := hrel
          have HKX := Lib.hid hkx
          clear hkx
          by_cases hkl : k < ln
          · have hd2 : decide (k < ln) = true := decide_eq_true hkl
            obtain ⟨q, rfl, hq⟩ := HCK.out k hkl
            have c0 := hq _ HKX.out
            have hmem : L.getD k 0 ∈ L := by simp [List.getD, show k < L.length by rw [← HLN.out]; exact hkl]
            have hml : L.getD k 0 < l := by have := HOKN.out _ hmem; rw [HLL.out] at this; exact this
            have HMM := Lib.hid hmem
            obtain ⟨m, hm⟩ : ∃ m, m = L.getD k 0 := ⟨_, rfl⟩
            rw [← hm] at c0 hml HMM
            have HM := Lib.hid hm
            have t0 := HT.out m hml _ HKX.out
            clear hq hmem hm
            cases htm : tl.getD m false with
            | true =>
              rw [htm] at t0
              have HN := Lib.hid (show ∀ j, j < k + 1 → tl.getD (L.getD j 0) false = true from fun j hj => by
                by_cases e : j = k
                · rw [e, ← HM.out]; exact htm
                · exact HJ.out j (by omega))
              clear htm
              go_wp2_with fail
              go_roundw
              case rel => exact ⟨k + 1, by omega, by go_num, HN, HKX.out⟩
              case measure => simp [intOf]; omega
            | false =>
              rw [htm] at t0
              have HN := Lib.hid (show ∀ q, q < n + 1 → rdP ll tl q = false from fun q hq => by
                by_cases e : q = n
                · rw [e, HPN.out, show (L.all fun m => tl.getD m false) = false from List.all_eq_false.2 ⟨m, HMM.out, by rw [htm]; exact Bool.false_ne_true⟩]; rfl
                · exact HZ.out q (by omega))
              clear htm
              go_wp2_with fail
              go_roundw
              case rel => exact ⟨n + 1, by omega, by go_num, HN, HKX.out⟩
              case measure => simp [intOf]; omega
          · obtain rfl : ln = k := by omega
            have hd2 : decide (ln < ln) = false := decide_eq_false (by omega)
            have HE := Lib.hid (show R = (n : Int) by
              have hp : rdP ll tl n = true := by
                rw [HPN.out]
                have : (L.all fun m => tl.getD m false) = true := List.all_eq_true.2 (fun x hx => by
                  obtain ⟨j, hj, rfl⟩ := List.getElem_of_mem hx
                  have := HJ.out j (by rw [HLN.out]; exact hj)
                  simpa [List.getD, hj] using this)
                rw [this]; rfl
              rw [HRR.out]; unfold rdZ rdF
              rw [firstF_of (rdP ll tl) ll.length n (by rw [HLL.out]; omega) HZ.out (fun _ => hp), if_pos (by rw [HLL.out]; exact hlt)])
            go_wp2_with fail
            (refine noGoto_ret ?_; go_ret)
            exact ⟨reti HE.out, HKX.out⟩
    · obtain rfl : l = n := by omega
      have hd1 : decide (l < l) = false := decide_eq_false (by omega)
      have HE := Lib.hid (show R = -1 by
        rw [HRR.out]; unfold rdZ rdF
        rw [firstF_of (rdP ll tl) ll.length l (by rw [HLL.out]; exact Nat.le_refl _) HZ.out (fun h => by rw [HLL.out] at h; omega), if_neg (by rw [HLL.out]; omega)])
      go_wp2_with fail
      (refine noGoto_ret ?_; go_ret)
      exact ⟨reti HE.out, HK.out⟩
end Go.Proofs.Ytdllenoclnmmdaa

namespace Go.Proofs.Ytdllenoclnmmdaa
open Go.RowKit Go.Shelf
attribute [local go_sem] Oper.semAt_some

def tlOf (l : Nat) (ps : List Nat) : List Bool := (List.range l).map fun i => decide (i ∈ ps)
theorem tlOf_len (l : Nat) (ps : List Nat) : (tlOf l ps).length = l := by simp [tlOf]
theorem tlOf_at (l : Nat) (ps : List Nat) (i : Nat) (h : i < l) : (tlOf l ps).getD i false = decide (i ∈ ps) := by simp [tlOf, List.getD, h]
theorem tlOf_nil (l : Nat) : tlOf l [] = List.replicate l false := by
  refine List.ext_getElem (by simp [tlOf]) (fun i h1 h2 => ?_)
  simp [tlOf]
theorem tlOf_set (l : Nat) (ps : List Nat) (n : Nat) : (tlOf l ps).set n true = tlOf l (ps ++ [n]) := by
  refine List.ext_getElem (by simp [tlOf]) (fun i h1 h2 => ?_)
  rw [List.getElem_set]
  simp only [tlOf, List.getElem_map, List.getElem_range]
  by_cases e : n = i
  · subst e; simp
  · have e2 : i ≠ n := fun q => e q.symm
    simp [e, e2]
/-- the first k that are told, one behind the other -/
def ordN (ll : List (List Nat)) (l : Nat) : Nat → Option (List Nat)
  | 0 => some []
  | k + 1 => match ordN ll l k with
    | none => none
    | some ps => if rdF ll (tlOf l ps) < l then some (ps ++ [rdF ll (tlOf l ps)]) else none
theorem ordN_none {ll : List (List Nat)} {l k : Nat} (h : ordN ll l k = none) : ∀ j, ordN ll l (k + j) = none
  | 0 => h
  | j + 1 => by
    have := ordN_none h j
    show (match ordN ll l (k + j) with | none => none | some ps => _) = none
    rw [this]
theorem ordN_len {ll : List (List Nat)} {l : Nat} : ∀ k ps, ordN ll l k = some ps → ps.length = k
  | 0, ps, h => by cases h; rfl
  | k + 1, ps, h => by
    unfold ordN at h
    split at h
    · cases h
    · rename_i qs hq
      split at h
      · cases h
        rw [List.length_append, ordN_len k qs hq]; rfl
      · cases h
def dOf (ts : List Th) (n : Nat) : ByteArray := (ts.getD n th00).d
def ordO (ts : List Th) : Option (List ByteArray) := (ordN (lkF ts) ts.length ts.length).map fun ps => ps.map (dOf ts)
def ordL (ts : List Th) : List ByteArray := if thsB ts = true then (ordO ts).getD [] else []
def ordE (ts : List Th) : Int := if thsB ts = true then (if (ordO ts).isSome = true then 0 else 7) else 1
/-- a list of texts and an error's number are told -/
def TextsE (w : World) (ss : List ByteArray) (E : Int) (e : Ending) (w' : World) : Prop := ∃ a c, e = .returned (.tuple #[.slice a ss.length c, .int .i64 E]) ∧ StrsIn w' a ss.length ss ∧ Kept w w'
theorem lbF_le (ts : List Th) (d : ByteArray) : lbF ts d ≤ ts.length := by
  unfold lbF
  exact (List.takeWhile_sublist _).length_le
theorem lkD_lt (ts : List Th) (ds : List ByteArray) : ∀ m ∈ lkD ts ds, m < ts.length := by
  intro m hm
  unfold lkD at hm
  obtain ⟨d, _, he⟩ := List.mem_filterMap.1 hm
  split at he
  · rename_i hf
    cases he
    unfold fdF at hf
    exact (of_decide_eq_true hf).1
  · cases he
theorem lkF_len (ts : List Th) : (lkF ts).length = ts.length := by unfold lkF; rw [List.length_map]
theorem lkF_ok (ts : List Th) : LkOk (lkF ts) := fun i hi m hm => by
  rw [lkF_len] at hi ⊢
  rw [lkF_at ts i hi] at hm
  exact lkD_lt ts _ m hm
theorem lkF_few (ts : List Th) (i : Nat) (h : i < ts.length) : ((lkF ts).getD i []).length ≤ 40 := by
  rw [lkF_at ts i h]
  exact Nat.le_trans (lkD_len ts _) (nmF_few _)
theorem LinksIn.gr {W W' : World} {a : Option Addr} {l : Nat} {ll : List (List Nat)} {row : Option Nat} (h : LinksIn W a l ll) (q : W.grownBy W' row) (h1 : ∀ b C, BlockAt W b C 95 → some b ≠ row) (h2 : ∀ b C, BlockAt W b C 3 → some b ≠ row) : LinksIn W' a l ll := by
  obtain ⟨g, C, e, hb, hs, hl, hr⟩ := h
  refine ⟨g, C, e, hb.gr q (h1 g C hb), hs, hl, fun j hj => ?_⟩
  obtain ⟨v, hv, ho⟩ := hr j hj
  exact ⟨v, hv, Pj.own_row ho q h2⟩
theorem Try.infoBz : (Try.prog.info? 4).map (fun i => (i.zero, i.size, i.bytes)) = some (some (.bool false), 1, 1) := by kernel_rfl
theorem mkBls (n : Nat) (hn : n ≤ 1000000) : ∀ u : World, (Instr.makeSlice 82 (.int .i64 n) (.int .i64 n)).run Try.prog u =
    .ok (.slice (some ⟨u.heap.size, 0, none⟩) n n) (u.alloc (.cells (blV (List.replicate n false)) 4)) := fun u => by
  obtain ⟨i0, hi, hz0, hz1, hz2⟩ := info_parts Try.infoBz
  have h := run_make (P := Try.prog) u 82 4 i0 (.bool false) Try.underlying82 hi hz0 .i64 .i64 (n : Int) (n : Int) (by omega) (Int.le_refl _) (by rw [hz2]; omega) (by omega)
  rw [← blV_made]
  simpa [hz1, Value.cells] using h
/-- an empty row, freshly built -/
theorem own_empty (w : World) (e : TypeId) : (w.alloc (.cells #[] e)).ownsRow w.heap.size e 1 (.slice (some ⟨w.heap.size, 0, none⟩) 0 0) 0 [] :=
  ⟨rfl, .inr ⟨w.heap.size, 0, #[], rfl, Nat.le_refl _, BlockAt.new w #[] e, Nat.le_refl _, by unfold maxLen; omega, rfl, rfl⟩⟩
set_option maxRecDepth 100000 in
set_option maxHeartbeats 4000000 in
theorem order_any (ax : Option Addr) (l cap : Nat) (ts : List Th) (wo : World) (h : ThsIn wo ax l ts) :
    Calls Try.prog 23 #[.slice ax l cap] wo (TextsE wo (ordL ts) (ordE ts)) := by
  have HS := Lib.hid h
  have HL := Lib.hid h.len_eq
  have HC := Lib.hid (rcheck_any ax l cap ts wo h)
  have HSZ := Lib.hid (show ∀ n, (dOf ts n).size ≤ 9223372036854775807 from fun n => by have := (ths_small h.sizes n).1; unfold dOf; omega)
  clear h
  have HOL := Lib.hid (show ordL ts = if thsB ts = true then (ordO ts).getD [] else [] from rfl)
  have HOE := Lib.hid (show ordE ts = if thsB ts = true then (if (ordO ts).isSome = true then 0 else 7) else 1 from rfl)
  generalize ordL ts = OL at *
  generalize ordE ts = OE at *
  cases hB : thsB ts with
  | false =>
    rw [hB] at HC HOL HOE
    obtain rfl : OL = [] := HOL.out
    obtain rfl : OE = 1 := HOE.out
    clear hB HOL HOE
    go_enter Try.func23, Try.ntmps23
    go_wp2_with fail
    refine HC.out.mono ?_
    rintro e w2 ⟨rfl, hk2⟩
    have HK2 := Lib.hid hk2
    clear hk2
    go_wp2_with fail
    go_ret2
    exact ⟨none, 0, rfl, nil_strs _ _, HK2.out⟩
  | true =>
    rw [hB] at HC HOL HOE
    have h60 : l ≤ 60 := by rw [← HL.out]; exact thsB_few hB
    have HRI := Lib.hid (thsB_ri hB)
    clear hB
    go_enter Try.func23, Try.ntmps23
    go_wp2_with fail
    refine HC.out.mono ?_
    rintro e w0 ⟨rfl, hk0⟩
    have HK0 := Lib.hid hk0
    clear hk0 HC
    have HLK := Lib.hid (show ∀ w', Kept w0 w' → Calls Try.prog 49 #[.slice ax l cap] w' (LinksP w' (lkF ts) l) from fun w' q => links_any ax l cap ts w' (HS.out.kept (HK0.out.trans q)) HRI.out h60)
    have HLE := Lib.hid (show (lkF ts).length = l by rw [lkF_len]; exact HL.out)
    have HRL := Lib.hid (show ∀ i, i < l → ((lkF ts).getD i []).length ≤ 40 from fun i hi => lkF_few ts i (by rw [HL.out]; exact hi))
    have HOK := Lib.hid (lkF_ok ts)
    have HOO := Lib.hid (show ordO ts = (ordN (lkF ts) l l).map fun ps => ps.map (dOf ts) by unfold ordO; rw [HL.out])
    obtain ⟨BL, hBL⟩ : ∃ BL, BL = blV (tlOf l []) := ⟨_, rfl⟩
    have HBL := Lib.hid hBL
    have HMK := Lib.hid (show ∀ u : World, (Instr.makeSlice 82 (.int .i64 l) (.int .i64 l)).run Try.prog u = .ok (.slice (some ⟨u.heap.size, 0, none⟩) l l) (u.alloc (.cells BL 4)) by rw [hBL, tlOf_nil]; exact mkBls l (by omega))
    generalize lkF ts = LL at *
    clear hBL
    go_wp2_with fail
    refine Pj.wp_region_step (fun az0 L az w => ∃ V : Nat → Value, az = Pj.puts [(11, 0), (12, 1), (13, 2), (14, 3), (15, 4), (4, 5), (5, 6)] V az0 ∧ Pj.J w0 [Pj.Is (.slice ax l cap), (fun w v => ∃ a c, v = .slice a l c ∧ LinksIn w a l LL), Pj.Is (.slice ax l cap), Pj.Is (.int .i64 l), (fun w v => ∃ q, v = .slice (some ⟨q, 0, none⟩) l l ∧ w0.heap.size ≤ q ∧ BlockAt w q BL 4), (fun w v => ∃ a c, v = .slice a l c ∧ LinksIn w a l LL), (fun w v => ∃ q, v = .slice (some ⟨q, 0, none⟩) l l ∧ w0.heap.size ≤ q ∧ BlockAt w q BL 4)] L V w) (by as_aux_lemma => kernel_rfl) (by as_aux_lemma => kernel_rfl) ?eh0 ?ehs ?ehe
    case eh0 =>
      intro L hL
      exact ⟨_, Pj.puts_self _ (fun j => ([11, 12, 13, 14, 15, 4, 5] : List Nat).getD j 0) [0, 1, 2, 3, 4, 5, 6], Pj.J.none (n := 7) (Nat.le_refl _) hL ((Kept.refl _).drew)⟩
    case ehs =>
      rintro L L' az w iz opz Kq ⟨V, rfl, hJ⟩ ho hopen hdep hL hKq
      have hP : Pj.AllStay [Pj.Is (.slice ax l cap), (fun w v => ∃ a c, v = .slice a l c ∧ LinksIn w a l LL), Pj.Is (.slice ax l cap), Pj.Is (.int .i64 l), (fun w v => ∃ q, v = .slice (some ⟨q, 0, none⟩) l l ∧ w0.heap.size ≤ q ∧ BlockAt w q BL 4), (fun w v => ∃ a c, v = .slice a l c ∧ LinksIn w a l LL), (fun w v => ∃ q, v = .slice (some ⟨q, 0, none⟩) l l ∧ w0.heap.size ≤ q ∧ BlockAt w q BL 4)] := ⟨Pj.Is.stays _, fun w w' v h k => by obtain ⟨a, c, e, q⟩ := h; exact ⟨a, c, e, q.kept k⟩, Pj.Is.stays _, Pj.Is.stays _, fun w w' v h k => by obtain ⟨q, e, h1, h2⟩ := h; exact ⟨q, e, h1, h2.kept k⟩, fun w w' v h k => by obtain ⟨a, c, e, q⟩ := h; exact ⟨a, c, e, q.kept k⟩, fun w w' v h k => by obtain ⟨q, e, h1, h2⟩ := h; exact ⟨q, e, h1, h2.kept k⟩, trivial⟩
      have HP := Lib.hid hP
      clear hP
      match iz, ho with
      | 0, ho =>
        simp only [List.getElem?_toArray, List.getElem?_cons_zero, Option.some.injEq] at ho
        have HJ := Lib.hid hJ
        clear hJ
        subst ho
        refine Pj.Step.free rfl ?_
        simp only [Pj.puts, List.foldl_cons, List.foldl_nil, Act.put, List.setIfInBounds_toArray, List.set_cons_zero, List.set_cons_succ]
        go_simp
        exact hKq _ _ ⟨Pj.vset V 0 (.slice ax l cap), by simp only [Pj.puts, List.foldl_cons, List.foldl_nil, Act.put, List.setIfInBounds_toArray, List.set_cons_zero, List.set_cons_succ, Pj.vset, Nat.reduceEqDiff, if_true, if_false], HJ.out.more HP.out hL (Kept.refl _) (rfl)⟩
      | 1, ho =>
        simp only [List.getElem?_toArray, List.getElem?_cons_zero, List.getElem?_cons_succ, Option.some.injEq] at ho
        have e0 : V 0 = .slice ax l cap := hJ.h 0 (hdep 0 (by rw [← ho]; kernel_rfl))
        have hlk := HLK.out w hJ.kp
        have HJ := Lib.hid hJ
        clear hJ
        subst ho
        refine Pj.Step.free rfl ?_
        simp only [Pj.puts, List.foldl_cons, List.foldl_nil, Act.put, List.setIfInBounds_toArray, List.set_cons_zero, List.set_cons_succ, e0]
        go_simp
        refine hlk.mono ?_
        rintro e w' ⟨a9, c9, rfl, hl9, hk9⟩
        exact hKq _ _ ⟨Pj.vset V 1 (.slice a9 l c9), by simp only [Pj.puts, List.foldl_cons, List.foldl_nil, Act.put, List.setIfInBounds_toArray, List.set_cons_zero, List.set_cons_succ, Pj.vset, Nat.reduceEqDiff, if_true, if_false, e0], HJ.out.more HP.out hL (hk9) (⟨_, _, rfl, hl9⟩)⟩
      | 2, ho =>
        simp only [List.getElem?_toArray, List.getElem?_cons_zero, List.getElem?_cons_succ, Option.some.injEq] at ho
        have HJ := Lib.hid hJ
        clear hJ
        subst ho
        refine Pj.Step.free rfl ?_
        simp only [Pj.puts, List.foldl_cons, List.foldl_nil, Act.put, List.setIfInBounds_toArray, List.set_cons_zero, List.set_cons_succ]
        go_simp
        exact hKq _ _ ⟨Pj.vset V 2 (.slice ax l cap), by simp only [Pj.puts, List.foldl_cons, List.foldl_nil, Act.put, List.setIfInBounds_toArray, List.set_cons_zero, List.set_cons_succ, Pj.vset, Nat.reduceEqDiff, if_true, if_false], HJ.out.more HP.out hL (Kept.refl _) (rfl)⟩
      | 3, ho =>
        simp only [List.getElem?_toArray, List.getElem?_cons_zero, List.getElem?_cons_succ, Option.some.injEq] at ho
        have e2 : V 2 = .slice ax l cap := hJ.h 2 (hdep 2 (by rw [← ho]; kernel_rfl))
        have HJ := Lib.hid hJ
        clear hJ
        subst ho
        refine Pj.Step.free rfl ?_
        simp only [Pj.puts, List.foldl_cons, List.foldl_nil, Act.put, List.setIfInBounds_toArray, List.set_cons_zero, List.set_cons_succ, e2]
        go_simp
        exact hKq _ _ ⟨Pj.vset V 3 (.int .i64 l), by simp only [Pj.puts, List.foldl_cons, List.foldl_nil, Act.put, List.setIfInBounds_toArray, List.set_cons_zero, List.set_cons_succ, Pj.vset, Nat.reduceEqDiff, if_true, if_false, e2], HJ.out.more HP.out hL (Kept.refl _) (rfl)⟩
      | 4, ho =>
        simp only [List.getElem?_toArray, List.getElem?_cons_zero, List.getElem?_cons_succ, Option.some.injEq] at ho
        have e3 : V 3 = .int .i64 l := hJ.h 3 (hdep 3 (by rw [← ho]; kernel_rfl))
        have hmk := HMK.out w
        have HJ := Lib.hid hJ
        clear hJ
        subst ho
        refine Pj.Step.free rfl ?_
        simp only [Pj.puts, List.foldl_cons, List.foldl_nil, Act.put, List.setIfInBounds_toArray, List.set_cons_zero, List.set_cons_succ, e3]
        go_simp
        exact hKq _ _ ⟨Pj.vset V 4 (.slice (some ⟨w.heap.size, 0, none⟩) l l), by simp only [Pj.puts, List.foldl_cons, List.foldl_nil, Act.put, List.setIfInBounds_toArray, List.set_cons_zero, List.set_cons_succ, Pj.vset, Nat.reduceEqDiff, if_true, if_false, e3], HJ.out.more HP.out hL ((Kept.refl _).alloc _) (⟨_, rfl, HJ.out.kp.size, BlockAt.new _ _ _⟩)⟩
      | 5, ho =>
        simp only [List.getElem?_toArray, List.getElem?_cons_zero, List.getElem?_cons_succ, Option.some.injEq] at ho
        obtain ⟨al, cl, e1, hlk⟩ := hJ.h 1 (hdep 1 (by rw [← ho]; kernel_rfl))
        have HJ := Lib.hid hJ
        clear hJ
        subst ho
        refine Pj.Step.free rfl ?_
        simp only [Pj.puts, List.foldl_cons, List.foldl_nil, Act.put, List.setIfInBounds_toArray, List.set_cons_zero, List.set_cons_succ, e1]
        go_simp
        exact hKq _ _ ⟨Pj.vset V 5 (.slice al l cl), by simp only [Pj.puts, List.foldl_cons, List.foldl_nil, Act.put, List.setIfInBounds_toArray, List.set_cons_zero, List.set_cons_succ, Pj.vset, Nat.reduceEqDiff, if_true, if_false, e1], HJ.out.more HP.out hL (Kept.refl _) (⟨_, _, rfl, hlk⟩)⟩
      | 6, ho =>
        simp only [List.getElem?_toArray, List.getElem?_cons_zero, List.getElem?_cons_succ, Option.some.injEq] at ho
        obtain ⟨qb, e4, hqb, hbb⟩ := hJ.h 4 (hdep 4 (by rw [← ho]; kernel_rfl))
        have HJ := Lib.hid hJ
        clear hJ
        subst ho
        refine Pj.Step.free rfl ?_
        simp only [Pj.puts, List.foldl_cons, List.foldl_nil, Act.put, List.setIfInBounds_toArray, List.set_cons_zero, List.set_cons_succ, e4]
        go_simp
        exact hKq _ _ ⟨Pj.vset V 6 (.slice (some ⟨qb, 0, none⟩) l l), by simp only [Pj.puts, List.foldl_cons, List.foldl_nil, Act.put, List.setIfInBounds_toArray, List.set_cons_zero, List.set_cons_succ, Pj.vset, Nat.reduceEqDiff, if_true, if_false, e4], HJ.out.more HP.out hL (Kept.refl _) (⟨_, rfl, hqb, hbb⟩)⟩
      | n + 7, ho => simp at ho
    case ehe =>
      rintro L az w ⟨V, rfl, hJ⟩ hall
      have e0 : V 0 = .slice ax l cap := hJ.h 0 (hall 0 (by decide))
      obtain ⟨al, cl, e1, hlk⟩ := hJ.h 1 (hall 1 (by decide))
      have e2 : V 2 = .slice ax l cap := hJ.h 2 (hall 2 (by decide))
      have e3 : V 3 = .int .i64 l := hJ.h 3 (hall 3 (by decide))
      obtain ⟨qb, e4, hqb, hbb⟩ := hJ.h 4 (hall 4 (by decide))
      obtain ⟨am, cm, e5, hlm⟩ := hJ.h 5 (hall 5 (by decide))
      obtain ⟨qc, e6, hqc, hbc⟩ := hJ.h 6 (hall 6 (by decide))
      have HKj := Lib.hid hJ.kp
      clear hJ hall
      simp only [Pj.puts, List.foldl_cons, List.foldl_nil, Act.put, List.setIfInBounds_toArray, List.set_cons_zero, List.set_cons_succ, e0, e1, e2, e3, e4, e5, e6]
      clear e0 e1 e2 e3 e4 e5 e6
      obtain ⟨i0, hi1, hz0, hz1, hz2⟩ := info_parts Try.infoSt
      have HI := Lib.hid (And.intro hi1 (And.intro hz0 (And.intro hz1 hz2)))
      clear hi1 hz0 hz1 hz2
      have HKW := Lib.hid (HK0.out.trans HKj.out)
      have HLM := Lib.hid hlm
      have HBC := Lib.hid hbc
      have hws : wo.heap.size ≤ w0.heap.size := HK0.out.size
      have hqc : w0.heap.size ≤ qc := by assumption
      have hw0 : w0.heap.size ≤ w.heap.size := HKj.out.size
      clear hlk hlm hbb hbc hqb HKj HK0
      go_upto_region 5 with (fail)
      have ka := (Kept.refl w).alloc (.cells #[] 9)
      have HD2 := Lib.hid (own_empty w 9)
      have HB2 := Lib.hid (HBC.out.kept ka)
      have HL2 := Lib.hid (HLM.out.kept ka)
      have HK2 := Lib.hid (HKW.out.trans ka)
      have hs2 : w.heap.size ≤ (w.alloc (.cells #[] 9)).heap.size := ka.size
      clear ka HBC HLM
      generalize w.alloc (.cells #[] 9) = w2 at *
      go_wp2_with fail
      go_loopw [6, 19] (fun dv iv wr => ∃ (k : Nat) (ps : List Nat), k ≤ l ∧ iv = .int .i64 k ∧ Hid (ordN LL l k = some ps) ∧ wr.ownsRow w.heap.size 9 1 dv k (ps.map fun n => Value.string (dOf ts n)) ∧ BlockAt wr qc (blV (tlOf l ps)) 4 ∧ LinksIn wr am l LL ∧ w.heap.size ≤ wr.heap.size ∧ Kept wo wr) (fun _ iv _ => l - (intOf iv).toNat)
      case atStart => exact ⟨0, [], by omega, rfl, Lib.hid rfl, HD2.out, by rw [← HBL.out]; exact HB2.out, HL2.out, by omega, HK2.out⟩
      case round =>
        rename Value => dv
        obtain ⟨k, ps, hk, rfl, HN, hd, hb, hlk, hsw, hkr⟩ := hrel
        have HK := Lib.hid hkr
        have HD := Lib.hid hd
        have HB := Lib.hid hb
        have HLI := Lib.hid hlk
        clear hkr hb hlk
        by_cases hlt : k < l
        · have hd1 : decide (k < l) = true := decide_eq_true hlt
          have hrd := ready_any am l cm LL qc l (tlOf l ps) wr HLI.out HB.out (tlOf_len _ _) HOK.out h60 HRL.out
          obtain ⟨n, hn⟩ : ∃ n, n = rdF LL (tlOf l ps) := ⟨_, rfl⟩
          have HNX := Lib.hid (show ordN LL l (k + 1) = if n < l then some (ps ++ [n]) else none by
            show (match ordN LL l k with | none => none | some ps => _) = _
            rw [HN.out, hn])
          have HZ := Lib.hid (show rdZ LL (tlOf l ps) = if n < l then (n : Int) else -1 by unfold rdZ; rw [HLE.out, ← hn])
          rw [HZ.out] at hrd
          clear hn HZ
          by_cases hnl : n < l
          · rw [if_pos hnl] at hrd
            have HRD := Lib.hid hrd
            have HN2 := Lib.hid (show ordN LL l (k + 1) = some (ps ++ [n]) by rw [HNX.out, if_pos hnl])
            have hd2 : decide ((n : Int) < 0) = false := decide_eq_false (by omega)
            obtain ⟨av, cv, rfl⟩ := slice_of_own1 hd
            clear hrd hd HNX
            go_wp2_with fail
            refine HRD.out.mono ?_
            rintro e w3 ⟨rfl, hk3⟩
            have HK3 := Lib.hid (HK.out.trans hk3)
            have HD3 := Lib.hid (own_kept HD.out hk3)
            have HB3 := Lib.hid (HB.out.kept hk3)
            have HL3 := Lib.hid (HLI.out.kept hk3)
            have hs3 : w.heap.size ≤ w3.heap.size := Nat.le_trans hsw hk3.size
            clear hk3 HRD
            have hcb : w3.cell? ⟨qc, n, none⟩ = some (.bool ((tlOf l ps).getD n false)) := by rw [HB3.out.cell, blV_at _ _ (by rw [tlOf_len]; exact hnl)]
            have hfb := HB3.out.free n
            go_upto_region 11 with (fail)
            have HB4 := Lib.hid (show BlockAt (w3.setCell ⟨qc, n, none⟩ (.bool true)) qc (blV (tlOf l (ps ++ [n]))) 4 by
              have := HB3.out.set (i := n) (.bool true)
              rwa [blV_set, tlOf_set] at this)
            have hg4 := gr_set w3 qc n (.bool true)
            have HK4 := Lib.hid (kept_gr HK3.out hg4 (fun q e => by cases e; omega))
            have HD4 := Lib.hid (Pj.own_row HD3.out hg4 (Pj.block_types HB3.out (by decide)))
            have HL4 := Lib.hid (HL3.out.gr hg4 (Pj.block_types HB3.out (by decide)) (Pj.block_types HB3.out (by decide)))
            have hs4 : w.heap.size ≤ (w3.setCell ⟨qc, n, none⟩ (.bool true)).heap.size := by simpa using hs3
            clear hg4 hcb hfb HB3 HD3 HL3
            generalize w3.setCell ⟨qc, n, none⟩ (.bool true) = w4 at *
            obtain ⟨b, off, rfl, hc⟩ := HS.out.at (by omega)
            obtain ⟨c0, _, _⟩ := hc n hnl _ HK4.out
            rw [show (ts.getD n th00).d = dOf ts n from rfl] at c0
            have HSS := Lib.hid (HSZ.out n)
            obtain ⟨s9, hs9⟩ : ∃ s9, s9 = dOf ts n := ⟨_, rfl⟩
            rw [← hs9] at c0
            have HS9 := Lib.hid hs9
            clear hc hs9
            go_wp2_with (at_builtin; refine wpList_append_held rfl _ _ 23 rfl w.heap.size 9 i0 (.string ByteArray.empty) 16 Try.underlying23 HI.out.1 HI.out.2.1 HI.out.2.2.1 HI.out.2.2.2 rfl _ _ _ rfl (own_kept HD4.out ((Kept.refl w4).alloc _)) (some ⟨w4.heap.size, 0, none⟩) 1 1 [.string s9] rfl (held_one w4 _ _ rfl) ?c1 ?c2 ?c3 ?_)
            case c1 => unfold maxLen; omega
            case c2 => omega
            case c3 => rw [World.size_alloc]; omega
            intro v' w6 hown hgr _
            have ka := (Kept.refl w4).alloc (.cells #[.string s9] 9)
            have ho5 := own_kept HD4.out ka
            have HB6 := Lib.hid ((HB4.out.kept ka).gr hgr (Pj.row_types ho5 (by decide) _ _ (HB4.out.kept ka)))
            have HL6 := Lib.hid ((HL4.out.kept ka).gr hgr (Pj.row_types ho5 (by decide)) (Pj.row_types ho5 (by decide)))
            have HK6 := Lib.hid (kept_gr (HK4.out.trans ka) hgr (fun q e => by have := (ho5.lt q e).1; omega))
            have HD6 := Lib.hid (show w6.ownsRow w.heap.size 9 1 v' (k + 1) ((ps ++ [n]).map fun n => Value.string (dOf ts n)) by rw [List.map_append]; show w6.ownsRow _ _ _ _ _ (_ ++ [Value.string (dOf ts n)]); rw [← HS9.out]; exact hown)
            have hs6 : w.heap.size ≤ w6.heap.size := by have := hgr.size; have := ka.size; omega
            clear ka ho5 hown hgr c0
            go_wp2_with fail
            go_roundw
            case rel => exact ⟨k + 1, ps ++ [n], by omega, by go_num, HN2, HD6.out, HB6.out, HL6.out, hs6, HK6.out⟩
            case measure => simp [intOf]; omega
          · rw [if_neg hnl] at hrd
            have HRD := Lib.hid hrd
            have HNO := Lib.hid (show ordN LL l l = none by
              have h1 : ordN LL l (k + 1) = none := by rw [HNX.out, if_neg hnl]
              have := ordN_none h1 (l - (k + 1))
              rwa [show k + 1 + (l - (k + 1)) = l by omega] at this)
            obtain rfl : OL = [] := by rw [HOL.out, HOO.out, HNO.out]; rfl
            obtain rfl : OE = 7 := by rw [HOE.out, HOO.out, HNO.out]; rfl
            clear hrd HNX HOL HOE hd
            go_wp2_with fail
            refine HRD.out.mono ?_
            rintro e w3 ⟨rfl, hk3⟩
            have HK3 := Lib.hid (HK.out.trans hk3)
            clear hk3
            go_wp2_with fail
            go_ret2
            exact ⟨none, 0, rfl, nil_strs _ _, HK3.out⟩
        · obtain rfl : l = k := by omega
          have hd1 : decide (l < l) = false := decide_eq_false (by omega)
          have hpl := ordN_len l ps HN.out
          obtain rfl : OL = ps.map (dOf ts) := by rw [HOL.out, HOO.out, HN.out]; rfl
          obtain rfl : OE = 0 := by rw [HOE.out, HOO.out, HN.out]; rfl
          obtain ⟨av, cv, rfl, _, hst⟩ := strs_own (ss := ps.map (dOf ts)) (by rw [List.map_map]; exact hd) (by simp [hpl]) (fun s hs => by obtain ⟨n, _, rfl⟩ := List.mem_map.1 hs; exact HSZ.out n)
          have HST := Lib.hid hst
          have HPL := Lib.hid (show l = (ps.map (dOf ts)).length by simp [hpl])
          clear hd hst hpl HOL HOE
          go_wp2_with fail
          go_ret2
          exact ⟨av, cv, by rw [← HPL.out]; rfl, by rw [← HPL.out]; exact HST.out, HK.out⟩
end Go.Proofs.Ytdllenoclnmmdaa

namespace Go.Proofs.Ytdllenoclnmmdaa
open Go.RowKit Go.Shelf
attribute [local go_sem] Oper.semAt_some

theorem th_lt {ts : List Th} (hr : riB (digs ts) = true) {i j : Nat} (h : i < j) (hj : j < ts.length) : ltB (dOf ts i) (dOf ts j) = true := by
  have := riK_lt (show riK (digs ts) (digs ts).length = true from hr) j i h (by unfold digs; rw [List.length_map]; exact hj)
  rwa [txt_digs, txt_digs] at this
theorem dOf_inj {ts : List Th} (hr : riB (digs ts) = true) {i j : Nat} (hi : i < ts.length) (hj : j < ts.length) (h : dOf ts i = dOf ts j) : i = j := by
  rcases Nat.lt_trichotomy i j with q | q | q
  · exact absurd h (ltB_ne (th_lt hr q hj))
  · exact q
  · exact absurd h.symm (ltB_ne (th_lt hr q hi))
theorem at_lb {ts : List Th} (hr : riB (digs ts) = true) (d : ByteArray) : fdF ts d = decide (atF ts d < ts.length) ∧ (atF ts d < ts.length → lbF ts d = atF ts d) := by
  by_cases h : atF ts d < ts.length
  · have hd := atF_at ts h
    have e : lbF ts d = atF ts d := lbF_of ts _ (by omega) (fun i hi => by have := th_lt hr hi h; unfold dOf at this; rwa [hd] at this) (fun _ => by rw [hd]; exact ltB_irrefl d)
    refine ⟨?_, fun _ => e⟩
    unfold fdF
    rw [e, decide_eq_true h, decide_eq_true ⟨h, hd⟩]
  · refine ⟨?_, fun q => absurd q h⟩
    rw [decide_eq_false h]
    unfold fdF
    refine decide_eq_false (fun q => h ?_)
    rcases Nat.lt_or_ge (lbF ts d) (atF ts d) with k | k
    · exact absurd q.2 (atF_ne ts _ k)
    · omega
/-- is a name none of the things, or told? -/
def okN (ts : List Th) (x : List ByteArray) (d : ByteArray) : Bool := decide (atZ ts d < 0) || hasB d x
theorem atZ_neg (ts : List Th) (d : ByteArray) : decide (atZ ts d < 0) = !decide (atF ts d < ts.length) := by
  unfold atZ
  split
  · rename_i h; rw [decide_eq_true h]; simp
  · rename_i h; rw [decide_eq_false h]; simp
theorem has_dOf {ts : List Th} (hr : riB (digs ts) = true) {ps : List Nat} (hps : ∀ p ∈ ps, p < ts.length) {i : Nat} (hi : i < ts.length) : hasB (dOf ts i) (ps.map (dOf ts)) = decide (i ∈ ps) := by
  rw [Bool.eq_iff_iff, hasB_iff, decide_eq_true_iff, List.mem_map]
  constructor
  · rintro ⟨p, hp, e⟩
    rw [← dOf_inj hr (hps p hp) hi e]; exact hp
  · exact fun h => ⟨i, h, rfl⟩
theorem okN_eq {ts : List Th} (hr : riB (digs ts) = true) {ps : List Nat} (hps : ∀ p ∈ ps, p < ts.length) (d : ByteArray) :
    okN ts (ps.map (dOf ts)) d = (if fdF ts d = true then decide (lbF ts d ∈ ps) else true) := by
  obtain ⟨h1, h2⟩ := at_lb hr d
  unfold okN
  rw [atZ_neg, h1]
  by_cases h : atF ts d < ts.length
  · rw [decide_eq_true h, h2 h, if_pos rfl]
    have hd := atF_at ts h
    rw [show hasB d (ps.map (dOf ts)) = hasB (dOf ts (atF ts d)) (ps.map (dOf ts)) by rw [show dOf ts (atF ts d) = d from hd], has_dOf hr hps h]
    rfl
  · rw [decide_eq_false h]; rfl
theorem lk_all {ts : List Th} (hr : riB (digs ts) = true) {ps : List Nat} (hps : ∀ p ∈ ps, p < ts.length) : ∀ ns : List ByteArray, (lkD ts ns).all (fun m => (tlOf ts.length ps).getD m false) = ns.all (okN ts (ps.map (dOf ts)))
  | [] => rfl
  | d :: r => by
    have ih := lk_all hr hps r
    have he := okN_eq hr hps d
    unfold lkD at ih ⊢
    rw [List.filterMap_cons, List.all_cons, he]
    by_cases h : fdF ts d = true
    · rw [if_pos h, if_pos h]
      simp only [List.all_cons]
      rw [ih, tlOf_at _ _ _ (by unfold fdF at h; exact (of_decide_eq_true h).1)]
    · rw [if_neg h, if_neg h]
      simp only []
      rw [ih]; rfl
theorem rdP_ref {ts : List Th} (hr : riB (digs ts) = true) {ps : List Nat} (hps : ∀ p ∈ ps, p < ts.length) {i : Nat} (hi : i < ts.length) :
    rdP (lkF ts) (tlOf ts.length ps) i = (!hasB (dOf ts i) (ps.map (dOf ts)) && (nmF (ts.getD i th00)).all (okN ts (ps.map (dOf ts)))) := by
  unfold rdP
  rw [tlOf_at _ _ _ hi, has_dOf hr hps hi, lkF_at ts i hi, lk_all hr hps]
theorem ordN_lt {ll : List (List Nat)} {l : Nat} : ∀ k ps, ordN ll l k = some ps → ∀ p ∈ ps, p < l
  | 0, ps, h => by cases h; intro p hp; cases hp
  | k + 1, ps, h => by
    unfold ordN at h
    split at h
    · cases h
    · rename_i qs hq
      split at h
      · rename_i hlt
        cases h
        intro p hp
        rcases List.mem_append.1 hp with hp | hp
        · exact ordN_lt k qs hq p hp
        · rw [List.mem_singleton] at hp; rw [hp]; exact hlt
      · cases h
def lenV : Value → Nat
  | .slice _ n _ => n
  | _ => 0
/-- a list of texts and a truth are told -/
def TextsB (w : World) (ss : List ByteArray) (B : Bool) (e : Ending) (w' : World) : Prop := ∃ a c, e = .returned (.tuple #[.slice a ss.length c, .bool B]) ∧ StrsIn w' a ss.length ss ∧ Kept w w'
set_option maxRecDepth 100000 in
set_option maxHeartbeats 8000000 in
theorem rorder_any (ax : Option Addr) (l cap : Nat) (ts : List Th) (wo : World) (h : ThsIn wo ax l ts) (hB : thsB ts = true) :
    Calls Try.prog 24 #[.slice ax l cap] wo (TextsB wo ((ordO ts).getD []) (ordO ts).isSome) := by
  have HS := Lib.hid h
  have HL := Lib.hid h.len_eq
  have h60 : l ≤ 60 := by rw [← h.len_eq]; exact thsB_few hB
  have HRI := Lib.hid (thsB_ri hB)
  have HSZ := Lib.hid (show ∀ n, (dOf ts n).size ≤ 9223372036854775807 from fun n => by have := (ths_small h.sizes n).1; unfold dOf; omega)
  obtain ⟨i0, hi1, hz0, hz1, hz2⟩ := info_parts Try.infoSt
  have HI := Lib.hid (And.intro hi1 (And.intro hz0 (And.intro hz1 hz2)))
  clear hi1 hz0 hz1 hz2 h hB
  have HOO := Lib.hid (show ordO ts = (ordN (lkF ts) l l).map fun ps => ps.map (dOf ts) by unfold ordO; rw [HL.out])
  obtain ⟨O, hO⟩ : ∃ O, O = ordO ts := ⟨_, rfl⟩
  rw [← hO] at HOO ⊢
  clear hO
  have HLE := Lib.hid (show (lkF ts).length = l by rw [lkF_len]; exact HL.out)
  have HRP := Lib.hid (show ∀ ps : List Nat, (∀ p ∈ ps, p < l) → ∀ i, i < l → rdP (lkF ts) (tlOf l ps) i = (!hasB (dOf ts i) (ps.map (dOf ts)) && (nmF (ts.getD i th00)).all (okN ts (ps.map (dOf ts)))) from
    fun ps hps i hi => by have := rdP_ref HRI.out (ps := ps) (fun p hp => by rw [HL.out]; exact hps p hp) (i := i) (by rw [HL.out]; exact hi); rwa [HL.out] at this)
  generalize lkF ts = LL at *
  go_enter Try.func24, Try.ntmps24
  go_wp2_with fail
  go_loopw [4] (fun xv wr => ∃ (k : Nat) (ps : List Nat), k ≤ l ∧ Hid (ordN LL l k = some ps) ∧ wr.ownsRow wo.heap.size 9 1 xv k (ps.map fun n => Value.string (dOf ts n)) ∧ Kept wo wr) (fun xv _ => l - lenV xv)
  case atStart => exact ⟨0, [], by omega, Lib.hid rfl, World.ownsRow_nil _ _ _ _, Kept.refl _⟩
  case round =>
    rename Value => xv
    obtain ⟨k, ps, hk, HN, hd, hkr⟩ := hrel
    have HK := Lib.hid hkr
    have HD := Lib.hid hd
    have HPL := Lib.hid (ordN_len k ps HN.out)
    clear hkr
    obtain ⟨av, cv, rfl⟩ := slice_of_own1 hd
    clear hd
    by_cases hlt : k < l
    · have hd1 : decide (k < l) = true := decide_eq_true hlt
      have HPS := Lib.hid (ordN_lt k ps HN.out)
      have HXS := Lib.hid (show StrsIn wr av k (ps.map (dOf ts)) by
        obtain ⟨a', c', e', _, h'⟩ := strs_own (ss := ps.map (dOf ts)) (by rw [List.map_map]; exact HD.out) (by simp [HPL.out]) (fun s hs => by obtain ⟨n, _, rfl⟩ := List.mem_map.1 hs; exact HSZ.out n)
        cases e'
        exact h')
      obtain ⟨n, hn⟩ : ∃ n, n = rdF LL (tlOf l ps) := ⟨_, rfl⟩
      have HNX := Lib.hid (show ordN LL l (k + 1) = if n < l then some (ps ++ [n]) else none by
        show (match ordN LL l k with | none => none | some ps => _) = _
        rw [HN.out, hn])
      have HNF := Lib.hid (show ∀ m, m ≤ l → (∀ q, q < m → rdP LL (tlOf l ps) q = false) → (m < l → rdP LL (tlOf l ps) m = true) → n = m from fun m h1 h2 h3 => by
        rw [hn]; unfold rdF; rw [HLE.out]; exact firstF_of _ _ _ h1 h2 h3)
      have HPP := Lib.hid (HRP.out ps HPS.out)
      generalize tlOf l ps = TL at *
      obtain ⟨X, hX⟩ : ∃ X, X = ps.map (dOf ts) := ⟨_, rfl⟩
      rw [← hX] at HXS HPP
      have HXX := Lib.hid hX
      clear hn hX
      go_wp2_with fail
      go_loopw [5, 6] (fun nv iv wx => ∃ i : Nat, i ≤ l ∧ iv = .int .i64 i ∧ ((nv = .int .i64 (-1) ∧ Hid (∀ q, q < i → rdP LL TL q = false)) ∨ (∃ m : Nat, nv = .int .i64 m ∧ m < l ∧ Hid (n = m))) ∧ Kept wr wx) (fun _ iv _ => l - (intOf iv).toNat)
      case atStart => exact ⟨0, by omega, rfl, .inl ⟨rfl, Lib.hid (fun q hq => absurd hq (Nat.not_lt_zero q))⟩, Kept.refl _⟩
      case round =>
        rename World => wx
        obtain ⟨i, hi, rfl, hcase, hwx⟩ := hrel
        have HWX := Lib.hid hwx
        have HKX := Lib.hid (HK.out.trans hwx)
        clear hwx
        rcases hcase with ⟨rfl, HZ⟩ | ⟨m, rfl, hml, HNM⟩
        · by_cases hil : i < l
          · have hd3 : decide (i < l) = true := decide_eq_true hil
            obtain ⟨b, off, rfl, hc⟩ := HS.out.at (by omega)
            obtain ⟨c0, c1, c2⟩ := hc i hil _ HKX.out
            have HPI := Lib.hid (HPP.out i hil)
            have HC := Lib.hid hc
            unfold dOf at HPI
            obtain ⟨x, hx⟩ : ∃ x, x = ts.getD i th00 := ⟨_, rfl⟩
            rw [← hx] at c0 c1 c2 HPI
            have HX := Lib.hid hx
            have HHA := Lib.hid (has_any av k cv X x.d wx (HXS.out.kept HWX.out))
            clear hc hx
            cases hh : hasB x.d X with
            | true =>
              rw [hh] at HPI HHA
              have HN3 := Lib.hid (show ∀ q, q < i + 1 → rdP LL TL q = false from fun q hq => by
                by_cases e : q = i
                · rw [e, HPI.out]; rfl
                · exact HZ.out q (by omega))
              clear hh
              go_wp2_with fail
              refine HHA.out.mono ?_
              rintro e w3 ⟨rfl, hk3⟩
              have HW3 := Lib.hid (HWX.out.trans hk3)
              clear hk3 c0 c1 c2
              go_wp2_with fail
              go_roundw
              case rel => exact ⟨i + 1, by omega, by go_num, .inl ⟨rfl, HN3⟩, HW3.out⟩
              case measure => simp [intOf]; omega
            | false =>
              rw [hh] at HPI HHA
              clear hh
              go_wp2_with fail
              refine HHA.out.mono ?_
              rintro e w3 ⟨rfl, hk3⟩
              have HW3 := Lib.hid (HWX.out.trans hk3)
              clear hk3 c0 c1 c2
              obtain ⟨c0, c1, c2⟩ := HC.out i hil _ (HK.out.trans HW3.out)
              rw [← HX.out] at c0 c1 c2
              have hnf := nmF_few x
              have hna := rnamed_any x
              obtain ⟨ns, hns⟩ : ∃ ns, ns = nmF x := ⟨_, rfl⟩
              rw [← hns] at hnf hna HPI
              have HNA := Lib.hid hna
              clear hna hns
              go_wp2_with fail
              refine (HNA.out _).mono ?_
              rintro e w4 ⟨an, cn, rfl, hst, hk4⟩
              have HW4 := Lib.hid (HW3.out.trans hk4)
              have HST := Lib.hid hst
              clear hk4 hst c0 c1 c2
              obtain ⟨ln, hln⟩ : ∃ ln, ln = ns.length := ⟨_, rfl⟩
              rw [← hln] at hnf HST ⊢
              have HLN := Lib.hid hln
              clear hln
              go_wp2_with fail
              go_loopw [7, 9] (fun rv kv wy => ∃ (j : Nat) (B : Bool), j ≤ ln ∧ kv = .int .i64 j ∧ rv = .bool B ∧ Hid (B = (ns.take j).all (okN ts X)) ∧ Kept w4 wy) (fun _ kv _ => ln - (intOf kv).toNat)
              case atStart => exact ⟨0, true, by omega, rfl, rfl, Lib.hid rfl, Kept.refl _⟩
              case round =>
                rename World => wy
                obtain ⟨j, B, hj, rfl, rfl, HBB, hwy⟩ := hrel
                have HWY := Lib.hid hwy
                have HKY := Lib.hid (HK.out.trans (HW4.out.trans hwy))
                clear hwy
                by_cases hjl : j < ln
                · have hd4 : decide (j < ln) = true := decide_eq_true hjl
                  have HSN := Lib.hid (all_snoc ns (okN ts X) j ByteArray.empty (by rw [← HLN.out]; exact hjl))
                  cases B with
                  | false =>
                    have HB3 := Lib.hid (show false = (ns.take (j + 1)).all (okN ts X) by rw [HSN.out, ← HBB.out]; rfl)
                    go_wp2_with fail
                    go_roundw
                    case rel => exact ⟨j + 1, false, by omega, by go_num, rfl, HB3, HWY.out⟩
                    case measure => simp [intOf]; omega
                  | true =>
                    obtain ⟨bn, on, rfl, hcn⟩ := HST.out.at (by omega)
                    have n0 := hcn j hjl _ HWY.out
                    have HCN := Lib.hid (hcn j hjl)
                    obtain ⟨d, hd⟩ : ∃ d, d = ns.getD j ByteArray.empty := ⟨_, rfl⟩
                    rw [← hd] at n0 HSN HCN
                    clear hcn hd
                    have HAT := Lib.hid (rat_any (some ⟨b, off, none⟩) l cap ts d wy (HS.out.kept HKY.out))
                    have HOK := Lib.hid (show okN ts X d = (decide (atZ ts d < 0) || hasB d X) from rfl)
                    generalize atZ ts d = Z at *
                    by_cases hz : Z < 0
                    · have hd5 : decide (Z < 0) = true := decide_eq_true hz
                      have HB3 := Lib.hid (show true = (ns.take (j + 1)).all (okN ts X) by rw [HSN.out, ← HBB.out, HOK.out, hd5]; rfl)
                      clear HOK
                      go_wp2_with fail
                      refine HAT.out.mono ?_
                      rintro e w5 ⟨rfl, hk5⟩
                      have HW5 := Lib.hid (HWY.out.trans hk5)
                      clear hk5 n0
                      go_wp2_with fail
                      go_roundw
                      case rel => exact ⟨j + 1, true, by omega, by go_num, rfl, HB3, HW5.out⟩
                      case measure => simp [intOf]; omega
                    · have hd5 : decide (Z < 0) = false := decide_eq_false hz
                      obtain ⟨HBd, hHB⟩ : ∃ HBd, HBd = hasB d X := ⟨_, rfl⟩
                      have HB3 := Lib.hid (show HBd = (ns.take (j + 1)).all (okN ts X) by rw [HSN.out, ← HBB.out, HOK.out, hd5, hHB]; simp)
                      have hha := fun w h => has_any av k cv X d w h
                      rw [← hHB] at hha
                      have HH2 := Lib.hid hha
                      clear hha hHB HOK
                      go_wp2_with fail
                      refine HAT.out.mono ?_
                      rintro e w5 ⟨rfl, hk5⟩
                      have HW5 := Lib.hid (HWY.out.trans hk5)
                      clear hk5 n0
                      have n0 := HCN.out _ HW5.out
                      go_wp2_with fail
                      refine (HH2.out _ (HXS.out.kept (HW4.out.trans HW5.out))).mono ?_
                      rintro e w6 ⟨rfl, hk6⟩
                      have HW6 := Lib.hid (HW5.out.trans hk6)
                      clear hk6 n0
                      go_wp2_with fail
                      go_roundw
                      case rel => exact ⟨j + 1, HBd, by omega, by go_num, rfl, HB3, HW6.out⟩
                      case measure => simp [intOf]; omega
                · obtain rfl : ln = j := by omega
                  have hd4 : decide (ln < ln) = false := decide_eq_false (by omega)
                  have HBE := Lib.hid (show B = ns.all (okN ts X) by rw [HBB.out, List.take_of_length_le (by rw [HLN.out]; exact Nat.le_refl _)])
                  have HWZ := Lib.hid (HW4.out.trans HWY.out)
                  cases B with
                  | false =>
                    have HN3 := Lib.hid (show ∀ q, q < i + 1 → rdP LL TL q = false from fun q hq => by
                      by_cases e : q = i
                      · rw [e, HPI.out, ← HBE.out]; rfl
                      · exact HZ.out q (by omega))
                    go_wp2_with fail
                    go_roundw
                    case rel => exact ⟨i + 1, by omega, by go_num, .inl ⟨rfl, HN3⟩, HWZ.out⟩
                    case measure => simp [intOf]; omega
                  | true =>
                    have HN3 := Lib.hid (HNF.out i (by omega) HZ.out (fun _ => by rw [HPI.out, ← HBE.out]; rfl))
                    go_wp2_with fail
                    go_roundw
                    case rel => exact ⟨i + 1, by omega, by go_num, .inr ⟨i, rfl, hil, HN3⟩, HWZ.out⟩
                    case measure => simp [intOf]; omega
          · obtain rfl : l = i := by omega
            have hd3 : decide (l < l) = false := decide_eq_false (by omega)
            have HE := Lib.hid (show n = l from HNF.out l (Nat.le_refl _) HZ.out (fun h => absurd h (Nat.lt_irrefl _)))
            obtain rfl : O = none := by
              have h1 : ordN LL l (k + 1) = none := by rw [HNX.out, if_neg (by rw [HE.out]; omega)]
              have := ordN_none h1 (l - (k + 1))
              rw [show k + 1 + (l - (k + 1)) = l by omega] at this
              rw [HOO.out, this]; rfl
            clear HOO
            go_wp2_with fail
            go_ret2
            exact ⟨none, 0, rfl, nil_strs _ _, HKX.out⟩
        · obtain rfl : n = m := HNM.out
          have hnl := hml
          clear HNM hml
          have HN2 := Lib.hid (show ordN LL l (k + 1) = some (ps ++ [n]) by rw [HNX.out, if_pos hnl])
          have hd5 : decide ((n : Int) < 0) = false := decide_eq_false (by omega)
          by_cases hil : i < l
          · have hd3 : decide (i < l) = true := decide_eq_true hil
            obtain ⟨b, off, rfl, hc⟩ := HS.out.at (by omega)
            obtain ⟨c0, _, _⟩ := hc n hnl _ HKX.out
            rw [show (ts.getD n th00).d = dOf ts n from rfl] at c0
            obtain ⟨s9, hs9⟩ : ∃ s9, s9 = dOf ts n := ⟨_, rfl⟩
            rw [← hs9] at c0
            have HS9 := Lib.hid hs9
            clear hc hs9
            have hzx : wo.heap.size ≤ wx.heap.size := HKX.out.size
            go_wp2_with (at_builtin; refine wpList_append_held rfl _ _ 23 rfl wo.heap.size 9 i0 (.string ByteArray.empty) 16 Try.underlying23 HI.out.1 HI.out.2.1 HI.out.2.2.1 HI.out.2.2.2 rfl _ _ _ rfl (own_kept (own_kept HD.out HWX.out) ((Kept.refl wx).alloc _)) (some ⟨wx.heap.size, 0, none⟩) 1 1 [.string s9] rfl (held_one wx _ _ rfl) ?c1 ?c2 ?c3 ?_)
            case c1 => unfold maxLen; omega
            case c2 => omega
            case c3 => rw [World.size_alloc]; omega
            intro v' w6 hown hgr _
            have ka := (Kept.refl wx).alloc (.cells #[.string s9] 9)
            have ho5 := own_kept (own_kept HD.out HWX.out) ka
            have HK6 := Lib.hid (kept_gr (HKX.out.trans ka) hgr (fun q e => (ho5.lt q e).1))
            have HD6 := Lib.hid (show w6.ownsRow wo.heap.size 9 1 v' (k + 1) ((ps ++ [n]).map fun n => Value.string (dOf ts n)) by rw [List.map_append]; show w6.ownsRow _ _ _ _ _ (_ ++ [Value.string (dOf ts n)]); rw [← HS9.out]; exact hown)
            obtain ⟨av6, cv6, rfl⟩ := slice_of_own1 hown
            clear ka ho5 hown hgr c0
            go_wp2_with fail
            go_roundw
            case rel => exact ⟨k + 1, ps ++ [n], by omega, HN2.out, HD6.out, HK6.out⟩
            case measure => simp [lenV]; omega

          · have hd3 : decide (i < l) = false := decide_eq_false hil
            obtain ⟨b, off, rfl, hc⟩ := HS.out.at (by omega)
            obtain ⟨c0, _, _⟩ := hc n hnl _ HKX.out
            rw [show (ts.getD n th00).d = dOf ts n from rfl] at c0
            obtain ⟨s9, hs9⟩ : ∃ s9, s9 = dOf ts n := ⟨_, rfl⟩
            rw [← hs9] at c0
            have HS9 := Lib.hid hs9
            clear hc hs9
            have hzx : wo.heap.size ≤ wx.heap.size := HKX.out.size
            go_wp2_with (at_builtin; refine wpList_append_held rfl _ _ 23 rfl wo.heap.size 9 i0 (.string ByteArray.empty) 16 Try.underlying23 HI.out.1 HI.out.2.1 HI.out.2.2.1 HI.out.2.2.2 rfl _ _ _ rfl (own_kept (own_kept HD.out HWX.out) ((Kept.refl wx).alloc _)) (some ⟨wx.heap.size, 0, none⟩) 1 1 [.string s9] rfl (held_one wx _ _ rfl) ?c1 ?c2 ?c3 ?_)
            case c1 => unfold maxLen; omega
            case c2 => omega
            case c3 => rw [World.size_alloc]; omega
            intro v' w6 hown hgr _
            have ka := (Kept.refl wx).alloc (.cells #[.string s9] 9)
            have ho5 := own_kept (own_kept HD.out HWX.out) ka
            have HK6 := Lib.hid (kept_gr (HKX.out.trans ka) hgr (fun q e => (ho5.lt q e).1))
            have HD6 := Lib.hid (show w6.ownsRow wo.heap.size 9 1 v' (k + 1) ((ps ++ [n]).map fun n => Value.string (dOf ts n)) by rw [List.map_append]; show w6.ownsRow _ _ _ _ _ (_ ++ [Value.string (dOf ts n)]); rw [← HS9.out]; exact hown)
            obtain ⟨av6, cv6, rfl⟩ := slice_of_own1 hown
            clear ka ho5 hown hgr c0
            go_wp2_with fail
            go_roundw
            case rel => exact ⟨k + 1, ps ++ [n], by omega, HN2.out, HD6.out, HK6.out⟩
            case measure => simp [lenV]; omega

    · obtain rfl : l = k := by omega
      have hd1 : decide (l < l) = false := decide_eq_false (by omega)
      obtain rfl : O = some (ps.map (dOf ts)) := by rw [HOO.out, HN.out]; rfl
      obtain ⟨a', c', e', _, hst⟩ := strs_own (ss := ps.map (dOf ts)) (by rw [List.map_map]; exact HD.out) (by simp [HPL.out]) (fun s hs => by obtain ⟨n, _, rfl⟩ := List.mem_map.1 hs; exact HSZ.out n)
      cases e'
      have HST := Lib.hid hst
      have HPE := Lib.hid (show l = (ps.map (dOf ts)).length by simp [HPL.out])
      clear hst HOO
      go_wp2_with fail
      go_ret2
      exact ⟨av, cv, by show _ = Ending.returned (.tuple #[.slice av (ps.map (dOf ts)).length cv, _]); rw [← HPE.out]; rfl, by show StrsIn _ _ (ps.map (dOf ts)).length _; rw [← HPE.out]; exact HST.out, HK.out⟩
end Go.Proofs.Ytdllenoclnmmdaa

