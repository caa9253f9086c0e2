/- The reference's From (things that may be). -/
import Derived.Test.YtdllenoclnmmdaaRq1
import Derived.Test.YtdllenoclnmmdaaTl
namespace Go.Proofs.Ytdllenoclnmmdaa
open Go.RowKit Go.Shelf
attribute [local go_sem] Oper.semAt_some

def rchB (ts : List Th) (rs : List ByteArray) (i : Nat) : Bool := decide (i ∈ walkB (lkF ts) (start0 ts.length (lkD ts rs)))
/-- the digests of all that is reached, in their order -/
def fromL (ts : List Th) (rs : List ByteArray) : List ByteArray := ((List.range ts.length).filter (rchB ts rs)).map (dOf ts)
theorem rchB_iff (ts : List Th) (rs : List ByteArray) (i : Nat) : rchB ts rs i = true ↔ Rch (lkF ts) (lkD ts rs) i := by
  unfold rchB
  rw [decide_eq_true_iff, ← lkF_len ts]
  exact walkB_iff (lkF_ok ts) (fun r hr => by rw [lkF_len]; exact lkD_lt ts rs r hr) i
def isTrueC : Option Value → Bool
  | some (.bool true) => true
  | _ => false
/-- how many of a row's truths are none -/
def unseenW (w : World) (b l : Nat) : Nat := (List.range l).countP fun j => !isTrueC (w.cell? ⟨b, j, none⟩)
theorem unseenW_eq {w : World} {b l : Nat} {bs : List Bool} (h : BlockAt w b (blV bs) 4) (hl : bs.length = l) : unseenW w b l = bs.count false := by
  unfold unseenW
  subst hl
  have e : ∀ j, j < bs.length → isTrueC (w.cell? ⟨b, j, none⟩) = bs.getD j false := fun j hj => by
    rw [h.cell, blV_at _ _ hj]
    cases bs.getD j false <;> rfl
  have e2 : bs.count false = (List.range bs.length).countP fun j => !(bs.getD j false) := by
    have : bs = (List.range bs.length).map fun j => bs.getD j false := by
      refine List.ext_getElem (by simp) (fun i h1 h2 => ?_)
      simp [List.getD, h1]
    conv => lhs; rw [this]
    rw [List.count, List.countP_map]
    congr 1
    funext j
    simp [Function.comp]
  rw [e2]
  refine List.countP_congr (fun j hj => ?_)
  rw [e j (List.mem_range.1 hj)]
theorem count_set {bs : List Bool} {m : Nat} (hm : m < bs.length) (h : bs.getD m false = false) : (bs.set m true).count false + 1 = bs.count false := by
  have hv : bs[m] = false := by simpa [List.getD, hm] using h
  have hpos : 0 < bs.count false := List.count_pos_iff.2 (by rw [← hv]; exact List.getElem_mem _)
  rw [List.count_set hm, hv, if_pos (by rfl), if_neg (by decide)]
  omega
/-- what the reference's own list and its truths know -/
structure FInv (ts : List Th) (rs : List Nat) (is : List Bool) (D : List ByteArray) : Prop where
  len : is.length = ts.length
  sound : ∀ i, i < ts.length → is.getD i false = true → Rch (lkF ts) rs i
  todo : ∀ d ∈ D, fdF ts d = true → Rch (lkF ts) rs (lbF ts d)
  roots : ∀ r ∈ rs, is.getD r false = true ∨ ∃ d ∈ D, fdF ts d = true ∧ lbF ts d = r
  closed : ∀ i, i < ts.length → is.getD i false = true → ∀ m ∈ (lkF ts).getD i [], is.getD m false = true ∨ ∃ d ∈ D, fdF ts d = true ∧ lbF ts d = m
theorem FInv.start (ts : List Th) (rs : List ByteArray) : FInv ts (lkD ts rs) (List.replicate ts.length false) rs := by
  refine ⟨by simp, fun i hi h => by simp [List.getD, hi] at h, fun d hd hf => .root ?_, fun r hr => .inr ?_, fun i hi h => by simp [List.getD, hi] at h⟩
  · unfold lkD
    exact List.mem_filterMap.2 ⟨d, hd, by rw [if_pos hf]⟩
  · unfold lkD at hr
    obtain ⟨d, hd, he⟩ := List.mem_filterMap.1 hr
    split at he
    · rename_i hf
      cases he
      exact ⟨d, hd, hf, rfl⟩
    · cases he
theorem FInv.none {ts : List Th} {rs : List Nat} {is : List Bool} {d : ByteArray} {D : List ByteArray} (h : FInv ts rs is (d :: D)) (hn : fdF ts d = false) : FInv ts rs is D :=
  ⟨h.len, h.sound, fun x hx => h.todo x (List.mem_cons_of_mem _ hx), fun r hr => (h.roots r hr).imp id (fun ⟨x, hx, hf, he⟩ => by
    rcases List.mem_cons.1 hx with rfl | q
    · rw [hn] at hf; cases hf
    · exact ⟨x, q, hf, he⟩), fun i hi hs m hm => (h.closed i hi hs m hm).imp id (fun ⟨x, hx, hf, he⟩ => by
    rcases List.mem_cons.1 hx with rfl | q
    · rw [hn] at hf; cases hf
    · exact ⟨x, q, hf, he⟩)⟩
theorem FInv.old {ts : List Th} {rs : List Nat} {is : List Bool} {d : ByteArray} {D : List ByteArray} (h : FInv ts rs is (d :: D)) (hn : is.getD (lbF ts d) false = true) : FInv ts rs is D :=
  ⟨h.len, h.sound, fun x hx => h.todo x (List.mem_cons_of_mem _ hx), fun r hr => (h.roots r hr).elim .inl (fun ⟨x, hx, hf, he⟩ => by
    rcases List.mem_cons.1 hx with rfl | q
    · rw [he] at hn; exact .inl hn
    · exact .inr ⟨x, q, hf, he⟩), fun i hi hs m hm => (h.closed i hi hs m hm).elim .inl (fun ⟨x, hx, hf, he⟩ => by
    rcases List.mem_cons.1 hx with rfl | q
    · rw [he] at hn; exact .inl hn
    · exact .inr ⟨x, q, hf, he⟩)⟩
theorem lkD_mem {ts : List Th} {ds : List ByteArray} {m : Nat} : m ∈ lkD ts ds ↔ ∃ d ∈ ds, fdF ts d = true ∧ lbF ts d = m := by
  unfold lkD
  rw [List.mem_filterMap]
  constructor
  · rintro ⟨d, hd, he⟩
    split at he
    · rename_i hf; cases he; exact ⟨d, hd, hf, rfl⟩
    · cases he
  · rintro ⟨d, hd, hf, rfl⟩
    exact ⟨d, hd, by rw [if_pos hf]⟩
theorem FInv.next {ts : List Th} {rs : List Nat} {is : List Bool} {d : ByteArray} {D : List ByteArray} (h : FInv ts rs is (d :: D)) (hf : fdF ts d = true) :
    FInv ts rs (is.set (lbF ts d) true) (D ++ nmF (ts.getD (lbF ts d) th00)) := by
  have hlt : lbF ts d < ts.length := by unfold fdF at hf; exact (of_decide_eq_true hf).1
  have hR := h.todo d List.mem_cons_self hf
  have hset := fun i => set_at is (lbF ts d) i (by rw [h.len]; exact hlt)
  have hlk := lkF_at ts (lbF ts d) hlt
  refine ⟨by rw [List.length_set]; exact h.len, fun i hi hs => ?_, fun x hx hfx => ?_, fun r hr => ?_, fun i hi hs m hm => ?_⟩
  · rw [hset, Bool.or_eq_true, decide_eq_true_iff] at hs
    rcases hs with rfl | hs
    · exact hR
    · exact h.sound i hi hs
  · rcases List.mem_append.1 hx with q | q
    · exact h.todo x (List.mem_cons_of_mem _ q) hfx
    · exact .step hR (by rw [hlk]; exact lkD_mem.2 ⟨x, q, hfx, rfl⟩)
  · rw [hset, Bool.or_eq_true, decide_eq_true_iff]
    rcases h.roots r hr with q | ⟨x, hx, h1, h2⟩
    · exact .inl (.inr q)
    · rcases List.mem_cons.1 hx with rfl | q
      · exact .inl (.inl h2.symm)
      · exact .inr ⟨x, List.mem_append.2 (.inl q), h1, h2⟩
  · rw [hset, Bool.or_eq_true, decide_eq_true_iff]
    rw [hset, Bool.or_eq_true, decide_eq_true_iff] at hs
    rcases hs with rfl | hs
    · rw [hlk] at hm
      obtain ⟨x, hx, h1, h2⟩ := lkD_mem.1 hm
      exact .inr ⟨x, List.mem_append.2 (.inr hx), h1, h2⟩
    · rcases h.closed i hi hs m hm with q | ⟨x, hx, h1, h2⟩
      · exact .inl (.inr q)
      · rcases List.mem_cons.1 hx with rfl | q
        · exact .inl (.inl h2.symm)
        · exact .inr ⟨x, List.mem_append.2 (.inl q), h1, h2⟩
theorem FInv.done {ts : List Th} {rs : List Nat} {is : List Bool} (h : FInv ts rs is []) (hrs : ∀ r ∈ rs, r < ts.length) {i : Nat} (hi : i < ts.length) : is.getD i false = true ↔ Rch (lkF ts) rs i := by
  refine ⟨h.sound i hi, fun hR => ?_⟩
  have key : ∀ i, Rch (lkF ts) rs i → i < ts.length ∧ is.getD i false = true := fun i hR => by
    induction hR with
    | root hr => exact ⟨hrs _ hr, (h.roots _ hr).resolve_right (fun ⟨_, q, _⟩ => by cases q)⟩
    | step hR hm ih =>
      refine ⟨?_, (h.closed _ ih.1 ih.2 _ hm).resolve_right (fun ⟨_, q, _⟩ => by cases q)⟩
      have := lkF_ok ts _ (by rw [lkF_len]; exact ih.1) _ hm
      rwa [lkF_len] at this
  exact (key i hR).2
set_option maxRecDepth 100000 in
set_option maxHeartbeats 4000000 in
theorem rfrom_any (ax : Option Addr) (l cap : Nat) (ts : List Th) (ar : Option Addr) (lr cr : Nat) (rs : List ByteArray) (wo : World) (h : ThsIn wo ax l ts) (hr : StrsIn wo ar lr rs) (hB : thsB ts = true) (hlr : lr ≤ 1000000) :
    Calls Try.prog 30 #[.slice ax l cap, .slice ar lr cr] wo (TextsP wo (fromL ts rs)) := by
  have HS := Lib.hid h
  have HRS := Lib.hid hr
  have HL := Lib.hid h.len_eq
  have h60 : l ≤ 60 := by rw [← h.len_eq]; exact thsB_few hB
  have HRI := Lib.hid (thsB_ri hB)
  have HSZ := Lib.hid (show ∀ n, (dOf ts n).size ≤ 9223372036854775807 from fun n => by have := (ths_small h.sizes n).1; unfold dOf; omega)
  obtain ⟨i0, hi1, hz0, hz1, hz2⟩ := info_parts Try.infoSt
  have HI := Lib.hid (And.intro hi1 (And.intro hz0 (And.intro hz1 hz2)))
  clear hi1 hz0 hz1 hz2 h hr hB
  have hmk : ∀ u : World, (Instr.makeSlice 82 (.int .i64 l) (.int .i64 l)).run Try.prog u = .ok (.slice (some ⟨u.heap.size, 0, none⟩) l l) (u.alloc (.cells (blV (List.replicate l false)) 4)) := mkBls l (by omega)
  go_enter Try.func30, Try.ntmps30
  go_wp2_with fail
  clear hmk
  have HB1 := Lib.hid (BlockAt.new wo (blV (List.replicate l false)) 4)
  have HK1 := Lib.hid ((Kept.refl wo).alloc (.cells (blV (List.replicate l false)) 4))
  generalize wo.alloc (.cells (blV (List.replicate l false)) 4) = w1 at *
  obtain ⟨ib, hib⟩ : ∃ ib, ib = wo.heap.size := ⟨_, rfl⟩
  rw [← hib] at HB1 ⊢
  have HIB := Lib.hid hib
  clear hib
  refine (copy_strings_own ar lr cr rs _ (HRS.out.kept HK1.out) (by omega)).mono ?_
  rintro e w2 ⟨a2, c2, rfl, ho2, hk2⟩
  have HK2 := Lib.hid (HK1.out.trans hk2)
  have HB2 := Lib.hid (HB1.out.kept hk2)
  have HO2 := Lib.hid (TailOwn.of_own ho2)
  have hw12 : wo.heap.size ≤ w1.heap.size := HK1.out.size
  have hs12 : w1.heap.size ≤ w2.heap.size := hk2.size
  have hibl0 : ib < w1.heap.size := HB1.out.lt
  clear ho2 hk2 HB1
  go_wp2_with fail
  go_loopw [6] (fun tv wr => ∃ (n : Nat) (is : List Bool) (D : List ByteArray), Hid (FInv ts (lkD ts rs) is D) ∧ n ≤ lr + 40 * l ∧ Hid (n + 40 * is.count false ≤ lr + 40 * l) ∧ D.length = n ∧ BlockAt wr ib (blV is) 4 ∧ TailOwn wr w1.heap.size 9 tv n (D.map Value.string) ∧ w1.heap.size ≤ wr.heap.size ∧ Kept wo wr) (fun tv wr => 41 * unseenW wr ib l + lenV tv)
  case atStart =>
    refine ⟨lr, _, rs, Lib.hid (FInv.start ts rs), by omega, Lib.hid (by rw [HL.out]; simp), HRS.out.len_eq, by rw [HL.out]; exact HB2.out, HO2.out, ?_, HK2.out⟩
    exact hs12
  case round =>
    rename Value => tv
    obtain ⟨n, is, D, HF, hn, HCN, hDn, hb, ht, hsw, hkr⟩ := hrel
    have HK := Lib.hid hkr
    have HT := Lib.hid ht
    have HB := Lib.hid hb
    clear hkr hb
    by_cases hpos : 0 < n
    · obtain ⟨g, off, cp, rfl, hbg, hnc, hcells⟩ := ht.cells hpos
      clear ht
      have hd1 : decide (0 < n) = true := decide_eq_true hpos
      obtain ⟨d, D', rfl⟩ : ∃ d D', D = d :: D' := by
        cases D with
        | nil => simp at hDn; omega
        | cons d D' => exact ⟨d, D', rfl⟩
      obtain ⟨m, hm⟩ : ∃ m, n = m + 1 := ⟨n - 1, by omega⟩
      obtain ⟨cq, hcq⟩ : ∃ cq, cq = cp - 1 := ⟨_, rfl⟩
      have hmn : n - 1 = m := by omega
      have HMN := Lib.hid hmn
      have HCQ := Lib.hid hcq
      have HMM := Lib.hid hm
      have c0 := hcells 0 hpos _ (Kept.refl _)
      simp only [List.map_cons, List.getElem?_cons_zero, Nat.add_zero] at c0
      have HTL := Lib.hid (show TailOwn wr w1.heap.size 9 (.slice (if cp = 1 then some ⟨g, off, none⟩ else some ⟨g, off + 1, none⟩) m cq) m (D'.map Value.string) by
        have := HT.out
        rw [hm] at this
        rw [hcq]
        exact this.tail)
      have HAT := Lib.hid (rat_any ax l cap ts d wr (HS.out.kept HK.out))
      have HU := Lib.hid (unseenW_eq HB.out (by rw [HF.out.len, HL.out]))
      obtain ⟨hlb1, hlb2⟩ := at_lb HRI.out d
      clear hcells hm hcq hmn HT
      cases hf : fdF ts d with
      | false =>
        have HZ := Lib.hid (show atZ ts d = -1 by
          rw [hf] at hlb1
          unfold atZ
          rw [if_neg (of_decide_eq_false hlb1.symm)])
        have HF2 := Lib.hid (HF.out.none hf)
        rw [HZ.out] at HAT
        clear hlb1 hlb2 hf HZ
        go_wp2_with fail
        refine HAT.out.mono ?_
        rintro e w3 ⟨rfl, hk3⟩
        have HK3 := Lib.hid (HK.out.trans hk3)
        have HB3 := Lib.hid (HB.out.kept hk3)
        have HT3 := Lib.hid (HTL.out.kept hk3)
        have hs3 : w1.heap.size ≤ w3.heap.size := Nat.le_trans hsw hk3.size
        clear hk3 c0
        go_upto_region 6 with (fail)
        rw [HMN.out, ← HCQ.out]
        generalize (if cp = 1 then some (⟨g, off, none⟩ : Addr) else some ⟨g, off + 1, none⟩) = az at *
        go_wp2_with fail
        go_roundw
        case rel => exact ⟨m, is, D', HF2, by have := HMM.out; omega, Lib.hid (by have := HCN.out; have := HMM.out; omega), by simp at hDn; have := HMM.out; omega, HB3.out, HT3.out, hs3, HK3.out⟩
        case measure => rw [HU.out, unseenW_eq HB3.out (by rw [HF.out.len, HL.out])]; have := HMM.out; simp [lenV]; omega
      | true =>
        have hlt : atF ts d < ts.length := by rw [hf] at hlb1; exact of_decide_eq_true hlb1.symm
        have HZ := Lib.hid (show atZ ts d = (lbF ts d : Int) by unfold atZ; rw [if_pos hlt, hlb2 hlt])
        have hml : lbF ts d < l := by rw [hlb2 hlt, ← HL.out]; exact hlt
        have HFD := Lib.hid hf
        have HFO := Lib.hid (fun h => HF.out.old (d := d) (D := D') h)
        have HFN := Lib.hid (HF.out.next hf)
        rw [HZ.out] at HAT
        clear hlb1 hlb2 hf HZ hlt
        generalize lbF ts d = q at *
        have hb0 : wr.cell? ⟨ib, q, none⟩ = some (.bool (is.getD q false)) := by rw [HB.out.cell, blV_at _ _ (by rw [HF.out.len, HL.out]; exact hml)]
        cases hs : is.getD q false with
        | true =>
          have HF2 := Lib.hid (HFO.out hs)
          rw [hs] at hb0
          have HB0 := Lib.hid hb0
          clear hb0 hs
          go_wp2_with fail
          refine HAT.out.mono ?_
          rintro e w3 ⟨rfl, hk3⟩
          have HK3 := Lib.hid (HK.out.trans hk3)
          have HB3 := Lib.hid (HB.out.kept hk3)
          have HT3 := Lib.hid (HTL.out.kept hk3)
          have hs3 : w1.heap.size ≤ w3.heap.size := Nat.le_trans hsw hk3.size
          have hb3 := hk3.cell HB.out.lt HB0.out
          clear hk3 c0
          go_upto_region 6 with (fail)
          rw [HMN.out, ← HCQ.out]
          generalize (if cp = 1 then some (⟨g, off, none⟩ : Addr) else some ⟨g, off + 1, none⟩) = az at *
          go_wp2_with fail
          go_roundw
          case rel => exact ⟨m, is, D', HF2, by have := HMM.out; omega, Lib.hid (by have := HCN.out; have := HMM.out; omega), by simp at hDn; have := HMM.out; omega, HB3.out, HT3.out, hs3, HK3.out⟩
          case measure => rw [HU.out, unseenW_eq HB3.out (by rw [HF.out.len, HL.out])]; have := HMM.out; simp [lenV]; omega
        | false =>
          rw [hs] at hb0
          have HB0 := Lib.hid hb0
          have HCS := Lib.hid (count_set (by rw [HF.out.len, HL.out]; exact hml) hs)
          have HLS := Lib.hid (show (is.set q true).length = l by rw [List.length_set, HF.out.len, HL.out])
          clear hb0 hs
          go_wp2_with fail
          refine HAT.out.mono ?_
          rintro e w3 ⟨rfl, hk3⟩
          have HK3 := Lib.hid (HK.out.trans hk3)
          have HB3 := Lib.hid (HB.out.kept hk3)
          have HT3 := Lib.hid (HTL.out.kept hk3)
          have hs3 : w1.heap.size ≤ w3.heap.size := Nat.le_trans hsw hk3.size
          have hb3 := hk3.cell HB.out.lt HB0.out
          have hf3 := HB3.out.free q
          clear hk3 c0
          go_upto_region 6 with (fail)
          rw [HMN.out, ← HCQ.out]
          generalize (if cp = 1 then some (⟨g, off, none⟩ : Addr) else some ⟨g, off + 1, none⟩) = az at *
          go_upto_region 8 with (fail)
          have HB4 := Lib.hid (show BlockAt (w3.setCell ⟨ib, q, none⟩ (.bool true)) ib (blV (is.set q true)) 4 by
            have := HB3.out.set (i := q) (.bool true)
            rwa [blV_set] at this)
          have hg4 := gr_set w3 ib q (.bool true)
          have HK4 := Lib.hid (kept_gr HK3.out hg4 (fun r e => by cases e; rw [HIB.out]; exact Nat.le_refl _))
          have HT4 := Lib.hid (HT3.out.gr hg4 (fun b C hb _ => Pj.block_types HB3.out (by decide) b C hb))
          have hs4 : w1.heap.size ≤ (w3.setCell ⟨ib, q, none⟩ (.bool true)).heap.size := by simpa using hs3
          clear hg4 hb3 hf3
          generalize w3.setCell ⟨ib, q, none⟩ (.bool true) = w4 at *
          obtain ⟨bx, ox, rfl, hc⟩ := HS.out.at (by omega)
          obtain ⟨c0, c1, c2⟩ := hc q hml _ HK4.out
          obtain ⟨x, hx⟩ : ∃ x, x = ts.getD q th00 := ⟨_, rfl⟩
          rw [← hx] at c0 c1 c2 HFN
          clear hc hx
          have hnf := nmF_few x
          have hna := rnamed_any x w4
          obtain ⟨ns, hns⟩ : ∃ ns, ns = nmF x := ⟨_, rfl⟩
          rw [← hns] at hnf hna HFN
          have HNA := Lib.hid hna
          clear hna hns
          go_wp2_with fail
          refine HNA.out.mono ?_
          rintro e w5 ⟨an, cn, rfl, hst, hk5⟩
          have HK5 := Lib.hid (HK4.out.trans hk5)
          have HB5 := Lib.hid (HB4.out.kept hk5)
          have HT5 := Lib.hid (HT4.out.kept hk5)
          have hs5 : w1.heap.size ≤ w5.heap.size := Nat.le_trans hs4 hk5.size
          have HST := Lib.hid hst
          clear hk5 hst c0 c1 c2
          go_wp2_with (at_builtin; refine wpList_append_tail rfl _ _ 23 rfl w1.heap.size 9 i0 (.string ByteArray.empty) 16 Try.underlying23 HI.out.1 HI.out.2.1 HI.out.2.2.1 HI.out.2.2.2 rfl _ _ _ rfl HT5.out an ns.length cn (ns.map Value.string) rfl (held_strs HST.out) ?c1 ?c2 ?c3 ?_)
          case c1 => have := HMM.out; unfold maxLen; omega
          case c2 => have := HMM.out; omega
          case c3 => exact hs5
          intro v' w6 hown hgr _
          have hibl : ib < w1.heap.size := hibl0
          have HB6 := Lib.hid (HB5.out.gr hgr (fun e => by have := (HT5.out.lt ib e.symm).1; omega))
          have HK6 := Lib.hid (kept_gr HK5.out hgr (fun r e => by have := (HT5.out.lt r e).1; omega))
          have hs6 : w1.heap.size ≤ w6.heap.size := Nat.le_trans hs5 hgr.size
          rw [← List.map_append] at hown
          obtain ⟨a6, c6, rfl, _⟩ := hown.slice
          have HO6 := Lib.hid hown
          clear hown hgr
          go_wp2_with fail
          go_roundw
          case rel => exact ⟨m + ns.length, is.set q true, D' ++ ns, HFN, by have := HCN.out; have := HCS.out; have := HMM.out; omega, Lib.hid (by have := HCN.out; have := HCS.out; have := HMM.out; omega), by rw [List.length_append]; simp at hDn; have := HMM.out; omega, HB6.out, HO6.out, hs6, HK6.out⟩
          case measure => rw [HU.out, unseenW_eq HB6.out HLS.out]; have := HCS.out; have := HMM.out; simp [lenV]; omega
    · obtain rfl : n = 0 := by omega
      obtain rfl : D = [] := List.length_eq_zero_iff.1 hDn
      obtain ⟨av, cv, rfl, _⟩ := ht.slice
      have hd1 : decide (0 < 0) = false := by decide
      have HRB := Lib.hid (show ∀ i, i < l → is.getD i false = rchB ts rs i from fun i hi => by
        rw [Bool.eq_iff_iff, rchB_iff]
        exact HF.out.done (lkD_lt ts rs) (by rw [HL.out]; exact hi))
      have HLI := Lib.hid (show is.length = l by rw [HF.out.len, HL.out])
      have HFL := Lib.hid (show fromL ts rs = ((List.range l).filter (rchB ts rs)).map (dOf ts) by unfold fromL; rw [HL.out])
      generalize fromL ts rs = FL at *
      clear ht HF hDn HT
      go_wp2_with fail
      go_loopw [8, 9] (fun xv iv wx => ∃ (k : Nat), k ≤ l ∧ iv = .int .i64 k ∧ wx.ownsRow wo.heap.size 9 1 xv ((List.range k).filter (rchB ts rs)).length ((((List.range k).filter (rchB ts rs)).map (dOf ts)).map Value.string) ∧ BlockAt wx ib (blV is) 4 ∧ Kept wo wx) (fun _ iv _ => l - (intOf iv).toNat)
      case atStart => exact ⟨0, by omega, rfl, World.ownsRow_nil _ _ _ _, HB.out, HK.out⟩
      case round =>
        rename Value => xv
        rename World => wx
        obtain ⟨k, hk, rfl, hox, hbx, hkx⟩ := hrel
        have HKX := Lib.hid hkx
        have HBX := Lib.hid hbx
        have HOX := Lib.hid hox
        clear hkx hbx
        by_cases hlt : k < l
        · have hd2 : decide (k < l) = true := decide_eq_true hlt
          have hb0 : wx.cell? ⟨ib, k, none⟩ = some (.bool (rchB ts rs k)) := by rw [HBX.out.cell, blV_at _ _ (by rw [HLI.out]; exact hlt), HRB.out k hlt]
          have HSN := Lib.hid (show (List.range (k + 1)).filter (rchB ts rs) = (List.range k).filter (rchB ts rs) ++ (if rchB ts rs k = true then [k] else []) by
            rw [List.range_succ, List.filter_append]
            congr 1
            cases hh : rchB ts rs k <;> simp [hh])
          have hfl : ((List.range k).filter (rchB ts rs)).length ≤ 60 := by have := List.length_filter_le (rchB ts rs) (List.range k); rw [List.length_range] at this; omega
          generalize (List.range k).filter (rchB ts rs) = FK at *
          cases hrk : rchB ts rs k with
          | false =>
            rw [hrk] at hb0 HSN
            have HE := Lib.hid (show (List.range (k + 1)).filter (rchB ts rs) = FK by rw [HSN.out]; simp)
            clear hrk HSN hox
            go_wp2_with fail
            go_roundw
            case rel => exact ⟨k + 1, by omega, by go_num, by rw [HE.out]; exact HOX.out, HBX.out, HKX.out⟩
            case measure => simp [intOf]; omega
          | true =>
            rw [hrk] at hb0 HSN
            have HE := Lib.hid (show (List.range (k + 1)).filter (rchB ts rs) = FK ++ [k] by rw [HSN.out]; simp)
            obtain ⟨av2, cv2, rfl⟩ := slice_of_own1 hox
            obtain ⟨bx, ox, rfl, hc⟩ := HS.out.at (by omega)
            obtain ⟨c0, _, _⟩ := hc k hlt _ HKX.out
            rw [show (ts.getD k th00).d = dOf ts k from rfl] at c0
            obtain ⟨s9, hs9⟩ : ∃ s9, s9 = dOf ts k := ⟨_, rfl⟩
            rw [← hs9] at c0
            have HS9 := Lib.hid hs9
            have hzx : wo.heap.size ≤ wx.heap.size := HKX.out.size
            clear hrk HSN hox hc hs9
            go_wp2_with (at_builtin; refine wpList_append_held rfl _ _ 23 rfl wo.heap.size 9 i0 (.string ByteArray.empty) 16 Try.underlying23 HI.out.1 HI.out.2.1 HI.out.2.2.1 HI.out.2.2.2 rfl _ _ _ rfl (own_kept HOX.out ((Kept.refl wx).alloc _)) (some ⟨wx.heap.size, 0, none⟩) 1 1 [.string s9] rfl (held_one wx _ _ rfl) ?c1 ?c2 ?c3 ?_)
            case c1 => unfold maxLen; omega
            case c2 => omega
            case c3 => rw [World.size_alloc]; omega
            intro v' w6 hown hgr _
            have ka := (Kept.refl wx).alloc (.cells #[.string s9] 9)
            have ho5 := own_kept HOX.out ka
            have HB6 := Lib.hid ((HBX.out.kept ka).gr hgr (Pj.row_types ho5 (by decide) _ _ (HBX.out.kept ka)))
            have HK6 := Lib.hid (kept_gr (HKX.out.trans ka) hgr (fun r e => (ho5.lt r e).1))
            have HD6 := Lib.hid (show w6.ownsRow wo.heap.size 9 1 v' (FK ++ [k]).length (((FK ++ [k]).map (dOf ts)).map Value.string) by
              rw [List.length_append, List.map_append, List.map_append]
              show w6.ownsRow _ _ _ _ _ (_ ++ [Value.string (dOf ts k)])
              rw [← HS9.out, List.map_map]; exact hown)
            obtain ⟨av6, cv6, rfl⟩ := slice_of_own1 hown
            clear ka ho5 hown hgr c0
            go_wp2_with fail
            go_roundw
            case rel => exact ⟨k + 1, by omega, by go_num, by rw [HE.out]; exact HD6.out, HB6.out, HK6.out⟩
            case measure => simp [intOf]; omega
        · obtain rfl : l = k := by omega
          have hd2 : decide (l < l) = false := decide_eq_false (by omega)
          obtain ⟨a', c', rfl, _, hst⟩ := strs_own hox (by simp) (fun s hs => by obtain ⟨n, _, rfl⟩ := List.mem_map.1 hs; exact HSZ.out n)
          obtain rfl : FL = ((List.range l).filter (rchB ts rs)).map (dOf ts) := HFL.out
          have HST := Lib.hid hst
          have HPE := Lib.hid (show ((List.range l).filter (rchB ts rs)).length = (((List.range l).filter (rchB ts rs)).map (dOf ts)).length by simp)
          generalize ((List.range l).filter (rchB ts rs)).map (dOf ts) = FM at *
          generalize ((List.range l).filter (rchB ts rs)).length = FN at *
          clear hox hst HFL HOX
          go_wp2_with fail
          go_ret
          exact ⟨a', c', by rw [← HPE.out]; rfl, by rw [← HPE.out]; exact HST.out, HKX.out⟩
end Go.Proofs.Ytdllenoclnmmdaa
