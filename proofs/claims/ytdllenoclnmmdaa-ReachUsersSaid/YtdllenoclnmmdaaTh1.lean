/- Things as they are read (rows of three cells), the search for a digest among them (no conditions but that lengths fit). -/
import Derived.Test.YtdllenoclnmmdaaMt2
import Derived.Test.YtdllenoclnmmdaaShelf
namespace Go.Proofs.Ytdllenoclnmmdaa
open Go.RowKit Go.Shelf
attribute [local go_sem] Oper.semAt_some

structure Th where
  d : ByteArray
  t : ByteArray
  m : Bool
def th00 : Th := ⟨ByteArray.empty, ByteArray.empty, false⟩
structure ThsIn (W : World) (a : Option Addr) (len : Nat) (ts : List Th) : Prop where
  len_eq : ts.length = len
  le : len ≤ 3518437208883
  sizes : ∀ x ∈ ts, x.d.size ≤ 140737488351232 ∧ x.t.size ≤ 140737488351232
  cells : ∃ b off, (0 < len → a = some ⟨b, off, none⟩) ∧ ∀ i, i < len → b < W.heap.size ∧ W.cell? ⟨b, off + i * 3, none⟩ = some (.string (ts.getD i th00).d) ∧
    W.cell? ⟨b, off + i * 3 + 1, none⟩ = some (.string (ts.getD i th00).t) ∧ W.cell? ⟨b, off + i * 3 + 2, none⟩ = some (.bool (ts.getD i th00).m)
theorem ThsIn.kept {W W' : World} {a : Option Addr} {len : Nat} {ts : List Th} (h : ThsIn W a len ts) (k : Kept W W') : ThsIn W' a len ts := by
  obtain ⟨b, off, ha, hc⟩ := h.cells
  exact ⟨h.len_eq, h.le, h.sizes, b, off, ha, fun i hi => ⟨Nat.lt_of_lt_of_le (hc i hi).1 k.size, k.cell (hc i hi).1 (hc i hi).2.1, k.cell (hc i hi).1 (hc i hi).2.2.1, k.cell (hc i hi).1 (hc i hi).2.2.2⟩⟩
theorem ThsIn.size {W : World} {a : Option Addr} {len : Nat} {ts : List Th} (h : ThsIn W a len ts) (i : Nat) (hi : i < len) : (ts.getD i th00).d.size ≤ 140737488351232 ∧ (ts.getD i th00).t.size ≤ 140737488351232 := by
  have hl : i < ts.length := by rw [h.len_eq]; exact hi
  exact h.sizes _ (by simp [List.getD, hl])
theorem ThsIn.at {W : World} {a : Option Addr} {l : Nat} {ts : List Th} (h : ThsIn W a l ts) (hl : 0 < l) : ∃ b off, a = some ⟨b, off, none⟩ ∧ ∀ i, i < l → ∀ w, Kept W w →
    w.cell? ⟨b, off + i * 3, none⟩ = some (.string (ts.getD i th00).d) ∧ w.cell? ⟨b, off + i * 3 + 1, none⟩ = some (.string (ts.getD i th00).t) ∧ w.cell? ⟨b, off + i * 3 + 2, none⟩ = some (.bool (ts.getD i th00).m) := by
  obtain ⟨b, off, ha, hc⟩ := h.cells
  exact ⟨b, off, ha hl, fun i hi w kk => ⟨kk.cell (hc i hi).1 (hc i hi).2.1, kk.cell (hc i hi).1 (hc i hi).2.2.1, kk.cell (hc i hi).1 (hc i hi).2.2.2⟩⟩

/-! ### the comparison of texts -/
def cmpT (a b : ByteArray) : Int := Lib.compareBytes a.data.toList b.data.toList
theorem cmp_less : ∀ a b : List UInt8, decide (Lib.compareBytes a b < 0) = Op.bytesLess a b
  | [], [] => by simp [Lib.compareBytes, Op.bytesLess]
  | [], _ :: _ => by simp [Lib.compareBytes, Op.bytesLess]
  | _ :: _, [] => by simp [Lib.compareBytes, Op.bytesLess]
  | a :: x, b :: y => by
    unfold Lib.compareBytes Op.bytesLess
    by_cases h : a < b
    · simp [h]
    · by_cases k : b < a
      · have hne : a ≠ b := fun e => by subst e; exact h k
        simp [h, k, hne]
      · have e : a = b := by
          rcases Nat.lt_trichotomy a.toNat b.toNat with q | q | q
          · exact absurd (UInt8.lt_iff_toNat_lt.2 q) h
          · exact UInt8.toNat_inj.1 q
          · exact absurd (UInt8.lt_iff_toNat_lt.2 q) k
        subst e
        rw [if_neg h, if_neg k]
        have := cmp_less x y
        simp [h, this]
theorem cmp_zero : ∀ a b : List UInt8, Lib.compareBytes a b = 0 ↔ a = b
  | [], [] => by simp [Lib.compareBytes]
  | [], _ :: _ => by simp [Lib.compareBytes]
  | _ :: _, [] => by simp [Lib.compareBytes]
  | a :: x, b :: y => by
    unfold Lib.compareBytes
    by_cases h : a < b
    · have hne : a ≠ b := fun e => by subst e; exact absurd (UInt8.lt_iff_toNat_lt.1 h) (Nat.lt_irrefl _)
      simp [h, hne]
    · by_cases k : b < a
      · have hne : a ≠ b := fun e => by subst e; exact absurd (UInt8.lt_iff_toNat_lt.1 k) (Nat.lt_irrefl _)
        simp [h, k, hne]
      · have e : a = b := by
          rcases Nat.lt_trichotomy a.toNat b.toNat with q | q | q
          · exact absurd (UInt8.lt_iff_toNat_lt.2 q) h
          · exact UInt8.toNat_inj.1 q
          · exact absurd (UInt8.lt_iff_toNat_lt.2 q) k
        subst e
        rw [if_neg h, if_neg k, cmp_zero x y]
        simp
theorem cmpT_lt (a b : ByteArray) : decide (cmpT a b < 0) = ltB a b := by
  unfold cmpT ltB
  rw [cmp_less, ByteArray.toList_eq, ByteArray.toList_eq]
theorem cmpT_zero (a b : ByteArray) : cmpT a b = 0 ↔ a = b := by
  unfold cmpT
  rw [cmp_zero]
  constructor
  · intro h
    obtain ⟨⟨x⟩⟩ := a
    obtain ⟨⟨y⟩⟩ := b
    simp at h
    rw [h]
  · rintro rfl; rfl
theorem cmpT_bd (a b : ByteArray) : -1 ≤ cmpT a b ∧ cmpT a b ≤ 1 := by
  unfold cmpT
  generalize a.data.toList = x
  generalize b.data.toList = y
  induction x generalizing y with
  | nil => cases y <;> simp [Lib.compareBytes]
  | cons a x ih =>
    cases y with
    | nil => simp [Lib.compareBytes]
    | cons b y =>
      unfold Lib.compareBytes
      split
      · simp
      · split
        · simp
        · exact ih y
theorem scmp_any (a b : ByteArray) (w : World) : Calls Try.prog 78 #[.string a, .string b] w fun e w' => e = .returned (.int .i64 (cmpT a b)) ∧ w = w' :=
  (Try.strings_Compare a b w).mono fun _ _ h => ⟨h.1, h.2.symm⟩
set_option maxRecDepth 100000 in
theorem cmpf_any (x : Th) (d : ByteArray) (w : World) : Calls Try.prog 77 #[.agg #[.string x.d, .string x.t, .bool x.m], .string d] w fun e w' => e = .returned (.int .i64 (cmpT x.d d)) ∧ Kept w w' := by
  have HB := Lib.hid (BlockAt.new w #[.string x.d, .string x.t, .bool x.m] 65)
  have HK := Lib.hid ((Kept.refl w).alloc (.cells #[.string x.d, .string x.t, .bool x.m] 65))
  go_enter Try.func77, Try.ntmps77
  go_upto_region 1 with (fail)
  generalize w.alloc (.cells #[.string x.d, .string x.t, .bool x.m] 65) = w1 at *
  obtain ⟨a0, a1, a2⟩ := box3 HB.out
  go_wp2_with fail
  refine (scmp_any x.d d _).mono ?_
  rintro e w' ⟨rfl, rfl⟩
  go_wp2
  go_ret
  exact ⟨rfl, HK.out⟩
/-- the place of a digest among those that rise: so many are less -/
def lbF (ts : List Th) (d : ByteArray) : Nat := (ts.takeWhile fun x => ltB x.d d).length
def digs (ts : List Th) : List ByteArray := ts.map (·.d)
theorem txt_digs (ts : List Th) (i : Nat) : txt (digs ts) i = (ts.getD i th00).d := by
  unfold txt digs
  simp only [List.getD_eq_getElem?_getD, List.getElem?_map]
  cases ts[i]? <;> rfl
theorem lbF_of {d : ByteArray} : ∀ (ts : List Th) (k : Nat), k ≤ ts.length → (∀ i, i < k → ltB (ts.getD i th00).d d = true) → (k < ts.length → ltB (ts.getD k th00).d d = false) → lbF ts d = k
  | [], k, hk, _, _ => by simp at hk; subst hk; rfl
  | x :: r, 0, _, _, h => by
    have := h (Nat.succ_pos _)
    simp [List.getD] at this
    unfold lbF
    rw [List.takeWhile_cons, this]
    rfl
  | x :: r, k + 1, hk, h1, h2 => by
    have h0 := h1 0 (Nat.succ_pos _)
    simp [List.getD] at h0
    have := lbF_of r k (by simpa using hk) (fun i hi => by simpa [List.getD] using h1 (i + 1) (by omega)) (fun hk => by simpa [List.getD] using h2 (by simpa using hk))
    unfold lbF at this ⊢
    rw [List.takeWhile_cons, h0]
    simp [this]
/-- is it there? -/
def fdF (ts : List Th) (d : ByteArray) : Bool := decide (lbF ts d < ts.length ∧ (ts.getD (lbF ts d) th00).d = d)
set_option maxRecDepth 100000 in
set_option maxHeartbeats 2000000 in
theorem bsf_any (a : Option Addr) (l cap : Nat) (ts : List Th) (d : ByteArray) (w : World) (h : ThsIn w a l ts) (hr : riB (digs ts) = true) :
    Calls Try.prog 76 #[.slice a l cap, .string d, .func (.func 77) #[] #[]] w fun e w' => e = .returned (.tuple #[.int .i64 (lbF ts d), .bool (fdF ts d)]) ∧ Kept w w' := by
  have hle := h.le
  have HS := Lib.hid h
  have HL := Lib.hid h.len_eq
  have HR := Lib.hid (show ∀ j i, i < j → j < l → ltB (ts.getD i th00).d (ts.getD j th00).d = true from fun j i hij hj => by
    have := riK_lt (show riK (digs ts) (digs ts).length = true from hr) j i hij (by unfold digs; rw [List.length_map, h.len_eq]; exact hj)
    rwa [txt_digs, txt_digs] at this)
  clear h hr
  obtain ⟨K, hK⟩ : ∃ K, K = lbF ts d := ⟨_, rfl⟩
  obtain ⟨F, hF⟩ : ∃ F, F = fdF ts d := ⟨_, rfl⟩
  rw [← hK, ← hF]
  have HKK := Lib.hid hK
  have HFF := Lib.hid (show F = decide (lbF ts d < l ∧ (ts.getD (lbF ts d) th00).d = d) by rw [hF]; unfold fdF; rw [HL.out])
  clear hK hF
  go_enter Try.func76, Try.ntmps76
  go_wp2_with fail
  go_loopw [9, 10] (fun x y wr => ∃ lo hi : Nat, x = .int .i64 lo ∧ y = .int .i64 hi ∧ lo ≤ hi ∧ hi ≤ l ∧ Hid ((∀ q, q < lo → ltB (ts.getD q th00).d d = true) ∧ (∀ q, hi ≤ q → q < l → ltB (ts.getD q th00).d d = false)) ∧ Kept w wr) (fun x y _ => (intOf y).toNat - (intOf x).toNat)
  case atStart => exact ⟨0, l, rfl, rfl, Nat.zero_le _, Nat.le_refl _, Lib.hid ⟨fun q hq => absurd hq (Nat.not_lt_zero q), fun q h1 h2 => by omega⟩, Kept.refl _⟩
  case round =>
    obtain ⟨lo, hi, rfl, rfl, hlh, hhl, HI, hkr⟩ := hrel
    have HK := Lib.hid hkr
    clear hkr
    by_cases hlt : lo < hi
    · have hd1 : decide (lo < hi) = true := decide_eq_true hlt
      obtain ⟨b, off, rfl, hc⟩ := HS.out.at (by omega)
      obtain ⟨c0, c1, c2⟩ := hc ((lo + hi) / 2) (by omega) _ HK.out
      obtain ⟨x, hx⟩ : ∃ x, x = ts.getD ((lo + hi) / 2) th00 := ⟨_, rfl⟩
      rw [← hx] at c0 c1 c2
      have HX := Lib.hid hx
      clear hc hx
      have hcl := cmpT_lt x.d d
      have hcb := cmpT_bd x.d d
      have hcf := cmpf_any x d
      obtain ⟨C, hC⟩ : ∃ C, C = cmpT x.d d := ⟨_, rfl⟩
      rw [← hC] at hcl hcb hcf
      have HC := Lib.hid hcf
      have HCL := Lib.hid hcl
      clear hC hcf hcl
      by_cases hlx : C < 0
      · have hd2 : decide (C < 0) = true := decide_eq_true hlx
        have HLT := Lib.hid (HCL.out.symm.trans hd2)
        go_wp2_with fail
        refine (HC.out _).mono ?_
        rintro e w2 ⟨rfl, hk2⟩
        have HK2 := Lib.hid (HK.out.trans hk2)
        clear hk2 c0 c1 c2
        go_wp2_with fail
        go_roundw
        case rel =>
          refine ⟨(lo + hi) / 2 + 1, hi, by go_num, rfl, by omega, hhl, Lib.hid ⟨fun q hq => ?_, HI.out.2⟩, HK2.out⟩
          by_cases e : q = (lo + hi) / 2
          · rw [e, ← HX.out]; exact HLT.out
          · exact ltB_trans (HR.out ((lo + hi) / 2) q (by omega) (by omega)) (by rw [← HX.out]; exact HLT.out)
        case measure => simp [intOf]; omega
      · have hd2 : decide (C < 0) = false := decide_eq_false hlx
        have HLT := Lib.hid (HCL.out.symm.trans hd2)
        go_wp2_with fail
        refine (HC.out _).mono ?_
        rintro e w2 ⟨rfl, hk2⟩
        have HK2 := Lib.hid (HK.out.trans hk2)
        clear hk2 c0 c1 c2
        go_wp2_with fail
        go_roundw
        case rel =>
          refine ⟨lo, (lo + hi) / 2, rfl, by go_num, by omega, by omega, Lib.hid ⟨HI.out.1, fun q h1 h2 => ?_⟩, HK2.out⟩
          cases hq : ltB (ts.getD q th00).d d with
          | false => rfl
          | true =>
            have hxx : ltB x.d d = true := by
              by_cases e : q = (lo + hi) / 2
              · rw [HX.out, ← e]; exact hq
              · exact ltB_trans (by rw [HX.out]; exact HR.out q ((lo + hi) / 2) (by omega) h2) hq
            rw [HLT.out] at hxx
            cases hxx
        case measure => simp [intOf]; omega
    · obtain rfl : lo = hi := by omega
      have hd1 : decide (lo < lo) = false := decide_eq_false (by omega)
      have HKE := Lib.hid (show K = lo by
        rw [HKK.out]
        exact lbF_of ts lo (by rw [HL.out]; exact hhl) HI.out.1 (fun q => HI.out.2 lo (Nat.le_refl _) (by rw [← HL.out]; exact q)))
      by_cases hlo : lo < l
      · have hd2 : decide (lo < l) = true := decide_eq_true hlo
        obtain ⟨b, off, rfl, hc⟩ := HS.out.at (by omega)
        obtain ⟨c0, c1, c2⟩ := hc lo hlo _ HK.out
        obtain ⟨x, hx⟩ : ∃ x, x = ts.getD lo th00 := ⟨_, rfl⟩
        rw [← hx] at c0 c1 c2
        have HX := Lib.hid hx
        clear hc hx
        have hcz := cmpT_zero x.d d
        have hcf := cmpf_any x d
        obtain ⟨C, hC⟩ : ∃ C, C = cmpT x.d d := ⟨_, rfl⟩
        rw [← hC] at hcz hcf
        have HC := Lib.hid hcf
        have HCZ := Lib.hid hcz
        clear hC hcf hcz
        by_cases hz : C = 0
        · have HFE := Lib.hid (show F = true by
            rw [HFF.out, ← HKK.out, HKE.out]
            exact decide_eq_true ⟨hlo, by rw [← HX.out]; exact HCZ.out.1 hz⟩)
          subst hz
          go_wp2_with fail
          refine (HC.out _).mono ?_
          rintro e w2 ⟨rfl, hk2⟩
          have HK2 := Lib.hid (HK.out.trans hk2)
          clear hk2 c0 c1 c2
          go_wp2_with fail
          go_ret2
          rw [HFE.out, HKE.out]
          exact ⟨rfl, HK2.out⟩
        · have hze : (C == 0) = false := by simpa using hz
          have HFE := Lib.hid (show F = false by
            rw [HFF.out, ← HKK.out, HKE.out]
            exact decide_eq_false (fun e => hz (HCZ.out.2 (by rw [HX.out]; exact e.2))))
          go_wp2_with fail
          refine (HC.out _).mono ?_
          rintro e w2 ⟨rfl, hk2⟩
          have HK2 := Lib.hid (HK.out.trans hk2)
          clear hk2 c0 c1 c2
          go_wp2_with fail
          go_ret2
          rw [HFE.out, HKE.out]
          exact ⟨rfl, HK2.out⟩
      · have hd2 : decide (lo < l) = false := decide_eq_false hlo
        have HFE := Lib.hid (show F = false by
          rw [HFF.out, ← HKK.out, HKE.out]
          exact decide_eq_false (fun e => hlo e.1))
        go_wp2
        go_ret2
        rw [HFE.out, HKE.out]
        exact ⟨rfl, HK.out⟩
theorem at_any (a : Option Addr) (l cap : Nat) (ts : List Th) (d : ByteArray) (w : World) (h : ThsIn w a l ts) (hr : riB (digs ts) = true) :
    Calls Try.prog 66 #[.slice a l cap, .string d] w fun e w' => e = .returned (.tuple #[.int .i64 (lbF ts d), .bool (fdF ts d)]) ∧ Kept w w' := by
  have HC := Lib.hid (bsf_any a l cap ts d w h hr)
  generalize lbF ts d = K at *
  generalize fdF ts d = F at *
  go_enter Try.func66, Try.ntmps66
  go_wp2_with fail
  refine HC.out.mono ?_
  rintro e w2 ⟨rfl, hk2⟩
  have HK2 := Lib.hid hk2
  clear hk2
  go_wp2
  go_ret2
  exact ⟨rfl, HK2.out⟩
end Go.Proofs.Ytdllenoclnmmdaa
