/- Contracts laid together: what each says stands at its head (no conditions). -/
import Derived.Test.YtdllenoclnmmdaaDoorGr
import Derived.Test.YtdllenoclnmmdaaDoorBl13
import Derived.Test.YtdllenoclnmmdaaDoorGh
namespace Go.Proofs.YtdllenoclnmmdaaDoor
open Go.RowKit Go.Shelf
attribute [local go_sem] Oper.semAt_some

theorem rname_any (s : ByteArray) (hs : s.size ≤ 9223372036854775807) (w : World) :
    Calls Tryd.prog 11 #[.string s] w fun e w' => e = .returned (.string (dg s.data.toList)) ∧ Kept w w' := by
  go_enter Tryd.func11, Tryd.ntmps11
  go_wp2_with fail
  refine (rdigest_any s hs _).mono ?_
  rintro e w' ⟨rfl, hk⟩
  have HK := Lib.hid hk
  clear hk
  obtain ⟨D, hD⟩ : ∃ D, D = dg s.data.toList := ⟨_, rfl⟩
  rw [← hD]
  go_wp2
  go_ret
  exact ⟨rfl, HK.out⟩
set_option maxRecDepth 100000 in
set_option maxHeartbeats 2000000 in
theorem mname_bad (k : Int) (ab : Option Addr) (lb cb : Nat) (au : Option Addr) (lu cu : Nat) (bs us : List ByteArray) (w : World) (hb : StrsIn w ab lb bs) (hu : StrsIn w au lu us) (hl : lb ≤ 1000000 ∧ lu ≤ 1000000) (hm : mfB ⟨k, bs, us⟩ = false) :
    Calls Tryd.prog 9 #[.agg #[.int .i64 k, .slice ab lb cb, .slice au lu cu]] w fun e w' => e = .returned (.tuple #[.string ByteArray.empty, .int .i64 1]) ∧ Kept w w' := by
  have HB := Lib.hid (BlockAt.new w #[.int .i64 k, .slice ab lb cb, .slice au lu cu] 29)
  have HK := Lib.hid ((Kept.refl w).alloc (.cells #[.int .i64 k, .slice ab lb cb, .slice au lu cu] 29))
  have HMB := Lib.hid (fun w h1 h2 => mbytes_bad k ab lb cb au lu cu bs us w h1 h2 hl hm)
  have HBS := Lib.hid hb
  have HUS := Lib.hid hu
  clear hb hu hm
  go_enter Tryd.func9, Tryd.ntmps9
  go_upto_region 1 with (fail)
  generalize w.alloc (.cells #[.int .i64 k, .slice ab lb cb, .slice au lu cu] 29) = w1 at *
  obtain ⟨a0, a1, a2⟩ := box3 HB.out
  go_wp2_with fail
  refine (HMB.out _ (HBS.out.kept HK.out) (HUS.out.kept HK.out)).mono ?_
  rintro e w2 ⟨rfl, hk2⟩
  have HK2 := Lib.hid (HK.out.trans hk2)
  clear a0 a1 a2 hk2
  go_wp2
  go_ret2
  exact ⟨rfl, HK2.out⟩
set_option maxRecDepth 100000 in
set_option maxHeartbeats 2000000 in
theorem mname_good (k : Int) (ab : Option Addr) (lb cb : Nat) (au : Option Addr) (lu cu : Nat) (bs us : List ByteArray) (w : World) (hb : StrsIn w ab lb bs) (hu : StrsIn w au lu us) (hm : mfB ⟨k, bs, us⟩ = true) (hB : Begins w) (hO : Orders w) (hs : (mfT ⟨k, bs, us⟩).size ≤ 281474976710656) :
    Calls Tryd.prog 9 #[.agg #[.int .i64 k, .slice ab lb cb, .slice au lu cu]] w fun e w' => e = .returned (.tuple #[.string (dg (mfT ⟨k, bs, us⟩).data.toList), .int .i64 0]) ∧ Kept w w' := by
  have HB := Lib.hid (BlockAt.new w #[.int .i64 k, .slice ab lb cb, .slice au lu cu] 29)
  have HK := Lib.hid ((Kept.refl w).alloc (.cells #[.int .i64 k, .slice ab lb cb, .slice au lu cu] 29))
  have hmb := fun w h1 h2 => mbytes_good k ab lb cb au lu cu bs us w h1 h2 hm
  have HBS := Lib.hid hb
  have HUS := Lib.hid hu
  have HBG := Lib.hid hB
  have HOR := Lib.hid hO
  obtain ⟨T, hT⟩ : ∃ T, T = mfT ⟨k, bs, us⟩ := ⟨_, rfl⟩
  rw [← hT] at hmb hs ⊢
  have HMB := Lib.hid hmb
  clear hb hu hm hT hmb hB hO
  go_enter Tryd.func9, Tryd.ntmps9
  go_upto_region 1 with (fail)
  generalize w.alloc (.cells #[.int .i64 k, .slice ab lb cb, .slice au lu cu] 29) = w1 at *
  obtain ⟨a0, a1, a2⟩ := box3 HB.out
  go_wp2_with fail
  refine (HMB.out _ (HBS.out.kept HK.out) (HUS.out.kept HK.out)).mono ?_
  rintro e w2 ⟨rfl, hk2⟩
  have HK2 := Lib.hid (HK.out.trans hk2)
  clear a0 a1 a2 hk2
  go_wp2_with fail
  refine (of_any T hs w2 (HBG.out.kept HK2.out) (HOR.out.kept HK2.out)).mono ?_
  rintro e w3 ⟨rfl, hk3⟩
  have HK3 := Lib.hid (HK2.out.trans hk3)
  clear hk3
  obtain ⟨D, hD⟩ : ∃ D, D = dg T.data.toList := ⟨_, rfl⟩
  rw [← hD]
  go_wp2
  go_ret2
  exact ⟨rfl, HK3.out⟩
end Go.Proofs.YtdllenoclnmmdaaDoor

namespace Go.Proofs.YtdllenoclnmmdaaDoor
open Go.RowKit Go.Shelf
attribute [local go_sem] Oper.semAt_some

theorem cat_step {t u : ByteArray} {h : List UInt8} {bs : List ByteArray} {j : Nat} (ht : t.data.toList = h ++ cats (bs.take j)) (hj : j < bs.length) (hu : u = bs.getD j ByteArray.empty) : (t ++ u).data.toList = h ++ cats (bs.take (j + 1)) := by
  rw [cats_snoc bs j hj, ← List.append_assoc, ← ht, hu]
  simp [txt]
theorem bytes_by {t : ByteArray} {l : List UInt8} (h : t.data.toList = l) : t = ⟨l.toArray⟩ := by
  rw [← h]
theorem retsB {a b : ByteArray} (h : b = a) : Ending.returned (.string a) = .returned (.string b) := by rw [h]
theorem size_step {t u : ByteArray} {H : List UInt8} {l : List ByteArray} {j : Nat} (ht : t.data.toList = H ++ cats (l.take j)) (hs : szB l = true) (hj : j < l.length) (hu : u = l.getD j ByteArray.empty) (hH : H.length ≤ 1000) (hl : l.length ≤ 20) : ¬ (t.size + u.size > 9223372036854775807) := by
  have h1 : u.size = 32 := by rw [hu]; exact szB_at hs hj
  have h2 := str_size t
  rw [ht, List.length_append, cats_len _ (szB_take hs j), List.length_take] at h2
  omega
set_option maxRecDepth 100000 in
set_option maxHeartbeats 4000000 in
theorem rbytes_any (k : Int) (ab : Option Addr) (lb cb : Nat) (au : Option Addr) (lu cu : Nat) (bs us : List ByteArray) (w : World) (hb : StrsIn w ab lb bs) (hu : StrsIn w au lu us) (hm : mfB ⟨k, bs, us⟩ = true) :
    Calls Tryd.prog 10 #[.agg #[.int .i64 k, .slice ab lb cb, .slice au lu cu]] w fun e w' => e = .returned (.string (mfT ⟨k, bs, us⟩)) ∧ Kept w w' := by
  obtain ⟨h20, hk0, hk1, hsb, hsu, -, -⟩ := mfB_true hm
  dsimp only at h20 hk0 hk1 hsb hsu
  have HSB := Lib.hid hsb
  have HSU := Lib.hid hsu
  clear hsb hsu
  rw [hb.len_eq, hu.len_eq] at h20
  obtain ⟨K, rfl⟩ : ∃ K : Nat, k = K := ⟨k.toNat, by omega⟩
  have HT := Lib.hid (show mfT ⟨K, bs, us⟩ = ⟨(([77, 65, 78, 70, UInt8.ofNat K, UInt8.ofNat lb, UInt8.ofNat lu] ++ cats bs) ++ cats us).toArray⟩ by unfold mfT mfBytes; dsimp only; rw [hb.len_eq, hu.len_eq, Int.toNat_natCast])
  have HB := Lib.hid (BlockAt.new w #[.int .i64 K, .slice ab lb cb, .slice au lu cu] 29)
  have HK := Lib.hid ((Kept.refl w).alloc (.cells #[.int .i64 K, .slice ab lb cb, .slice au lu cu] 29))
  have HBS := Lib.hid hb
  have HUS := Lib.hid hu
  have HLB := Lib.hid hb.len_eq
  have HLU := Lib.hid hu.len_eq
  clear hb hu hm
  obtain ⟨R, hR⟩ : ∃ R, R = mfT ⟨K, bs, us⟩ := ⟨_, rfl⟩
  rw [← hR] at HT ⊢
  clear hR
  go_enter Tryd.func10, Tryd.ntmps10
  go_upto_region 1 with (fail)
  generalize w.alloc (.cells #[.int .i64 K, .slice ab lb cb, .slice au lu cu] 29) = w1 at *
  obtain ⟨a0, a1, a2⟩ := box3 HB.out
  have hK2' : UInt8.toNat (UInt8.ofNat K) = K := by simp; omega
  have hlb' : UInt8.toNat (UInt8.ofNat lb) = lb := by simp; omega
  have hlu' : UInt8.toNat (UInt8.ofNat lu) = lu := by simp; omega
  have hcv : (convert 48 9 (.slice (some ⟨w1.heap.size, 0, none⟩) 3 3)).run Tryd.prog (w1.alloc (.cells #[.int .u8 (K : Int), .int .u8 (lb : Int), .int .u8 (lu : Int)] 5)) = .ok (.string ⟨#[UInt8.ofNat K, UInt8.ofNat lb, UInt8.ofNat lu]⟩) (w1.alloc (.cells #[.int .u8 (K : Int), .int .u8 (lb : Int), .int .u8 (lu : Int)] 5)) := by
    refine run_convert_bytes_back (P := Tryd.prog) _ 48 9 5 ⟨w1.heap.size, 0, none⟩ 3 [UInt8.ofNat K, UInt8.ofNat lb, UInt8.ofNat lu] Tryd.underlying48 Tryd.underlying5 Tryd.underlying9 (fun j hj => ?_)
    rw [addr_add, cell_new]
    match j, hj with
    | 0, hj => simp [hK2']
    | 1, hj => simp [hlb']
    | 2, hj => simp [hlu']
    | j + 3, hj => simp at hj; omega
  have HB2 := Lib.hid (HB.out.kept ((Kept.refl w1).alloc (.cells #[.int .u8 (K : Int), .int .u8 (lb : Int), .int .u8 (lu : Int)] 5)))
  have HK2 := Lib.hid (HK.out.alloc (.cells #[.int .u8 (K : Int), .int .u8 (lb : Int), .int .u8 (lu : Int)] 5))
  go_upto_region 2 with (fail)
  clear hcv
  generalize w1.alloc (.cells #[.int .u8 (K : Int), .int .u8 (lb : Int), .int .u8 (lu : Int)] 5) = w2 at *
  obtain ⟨t0, ht0⟩ : ∃ t0 : ByteArray, t0 = (⟨#[77, 65, 78, 70]⟩ ++ ⟨#[UInt8.ofNat K, UInt8.ofNat lb, UInt8.ofNat lu]⟩) := ⟨_, rfl⟩
  rw [← ht0]
  have HT0 := Lib.hid (show t0.data.toList = [77, 65, 78, 70, UInt8.ofNat K, UInt8.ofNat lb, UInt8.ofNat lu] ++ cats (bs.take 0) by rw [ht0]; simp [cats])
  obtain ⟨hd, hhd⟩ : ∃ x : List UInt8, x = [77, 65, 78, 70, UInt8.ofNat K, UInt8.ofNat lb, UInt8.ofNat lu] := ⟨_, rfl⟩
  rw [← hhd] at HT HT0
  have HD7 := Lib.hid (show hd.length = 7 by rw [hhd]; rfl)
  have HCB := Lib.hid (show (cats bs).length = 32 * lb by rw [cats_len bs HSB.out, HLB.out])
  clear hhd ht0 a0 a1 a2 hK2' hlb' hlu'
  go_wp2_with fail
  go_loopw [3, 4] (fun s v wr => ∃ (j : Nat) (t : ByteArray), j ≤ lb ∧ v = .int .i64 j ∧ s = .string t ∧ Hid (t.data.toList = hd ++ cats (bs.take j)) ∧ Kept w2 wr) (fun _ v _ => lb - (intOf v).toNat)
  case atStart => exact ⟨0, _, by omega, rfl, rfl, HT0, Kept.refl _⟩
  case round =>
    rename World => wr1
    obtain ⟨j, t, hj, rfl, rfl, HTJ, hkr⟩ := hrel
    have HKR1 := Lib.hid hkr
    obtain ⟨a0, a1, a2⟩ := box3k HB2.out hkr
    clear hkr
    by_cases hlt : j < lb
    · have hd1 : decide (j < lb) = true := decide_eq_true hlt
      obtain ⟨b, off, rfl, hc⟩ := HBS.out.at (by omega)
      have c0 := hc j hlt _ (HK2.out.trans HKR1.out)
      obtain ⟨u, hu⟩ : ∃ u, u = bs.getD j ByteArray.empty := ⟨_, rfl⟩
      rw [← hu] at c0
      have HN := Lib.hid (cat_step HTJ.out (by rw [HLB.out]; exact hlt) hu)
      have hsz := size_step HTJ.out HSB.out (by rw [HLB.out]; exact hlt) hu (by rw [HD7.out]; omega) (by rw [HLB.out]; omega)
      clear hc hu
      go_wp2_with fail
      go_roundw
      case rel => exact ⟨j + 1, _, by omega, by go_num, rfl, HN, HKR1.out⟩
      case measure => simp [intOf]; omega
    · obtain rfl : lb = j := by omega
      have hd1 : decide (lb < lb) = false := decide_eq_false (by omega)
      have HT1 := Lib.hid (show t.data.toList = (hd ++ cats bs) ++ cats (us.take 0) by
        rw [HTJ.out, List.take_of_length_le (by rw [HLB.out]; exact Nat.le_refl _)]; simp [cats])
      clear HTJ
      go_wp2_with fail
      clear a0 a1 a2
      go_loopw [3, 5] (fun s v wr => ∃ (j : Nat) (t : ByteArray), j ≤ lu ∧ v = .int .i64 j ∧ s = .string t ∧ Hid (t.data.toList = (hd ++ cats bs) ++ cats (us.take j)) ∧ Kept w2 wr) (fun _ v _ => lu - (intOf v).toNat)
      case atStart => exact ⟨0, _, by omega, rfl, rfl, HT1, HKR1.out⟩
      case round =>
        rename World => wr2
        obtain ⟨j, t, hj, rfl, rfl, HTJ, hkr⟩ := hrel
        have HKR2 := Lib.hid hkr
        obtain ⟨a0, a1, a2⟩ := box3k HB2.out hkr
        clear hkr
        by_cases hlt : j < lu
        · have hd1 : decide (j < lu) = true := decide_eq_true hlt
          obtain ⟨b, off, rfl, hc⟩ := HUS.out.at (by omega)
          have c0 := hc j hlt _ (HK2.out.trans HKR2.out)
          obtain ⟨u, hu⟩ : ∃ u, u = us.getD j ByteArray.empty := ⟨_, rfl⟩
          rw [← hu] at c0
          have HN := Lib.hid (cat_step HTJ.out (by rw [HLU.out]; exact hlt) hu)
          have hsz := size_step HTJ.out HSU.out (by rw [HLU.out]; exact hlt) hu (by rw [List.length_append, HD7.out, HCB.out]; omega) (by rw [HLU.out]; omega)
          clear hc hu
          go_wp2_with fail
          go_roundw
          case rel => exact ⟨j + 1, _, by omega, by go_num, rfl, HN, HKR2.out⟩
          case measure => simp [intOf]; omega
        · obtain rfl : lu = j := by omega
          have hd1 : decide (lu < lu) = false := decide_eq_false (by omega)
          have HR := Lib.hid (show R = t by
            rw [HT.out, bytes_by HTJ.out, List.take_of_length_le (by rw [HLU.out]; exact Nat.le_refl _)])
          go_wp2
          go_ret
          exact ⟨retsB HR.out, HK2.out.trans HKR2.out⟩
end Go.Proofs.YtdllenoclnmmdaaDoor

namespace Go.Proofs.YtdllenoclnmmdaaDoor
open Go.RowKit Go.Shelf
attribute [local go_sem] Oper.semAt_some

/-- a manifest's bytes, or none -/
def mfS (m : Mf) : ByteArray := if mfB m = true then mfT m else ByteArray.empty
/-- a manifest's name, or none -/
def mfD (m : Mf) : ByteArray := if mfB m = true then dg (mfT m).data.toList else ByteArray.empty
theorem mfT_small {m : Mf} (h : mfB m = true) : (mfT m).size ≤ 647 := by
  have := mfT_size h
  have h20 := (mfB_true h).1
  omega
theorem mbytes_both (k : Int) (ab : Option Addr) (lb cb : Nat) (au : Option Addr) (lu cu : Nat) (bs us : List ByteArray) (w : World) (hb : StrsIn w ab lb bs) (hu : StrsIn w au lu us) (hl : lb ≤ 1000000 ∧ lu ≤ 1000000) :
    Calls Tryd.prog 8 #[.agg #[.int .i64 k, .slice ab lb cb, .slice au lu cu]] w fun e w' => e = .returned (.tuple #[.string (mfS ⟨k, bs, us⟩), .int .i64 (mfE ⟨k, bs, us⟩)]) ∧ Kept w w' := by
  unfold mfS mfE
  cases h : mfB ⟨k, bs, us⟩ with
  | false => exact mbytes_bad k ab lb cb au lu cu bs us w hb hu hl h
  | true => exact mbytes_good k ab lb cb au lu cu bs us w hb hu h
theorem mname_both (k : Int) (ab : Option Addr) (lb cb : Nat) (au : Option Addr) (lu cu : Nat) (bs us : List ByteArray) (w : World) (hb : StrsIn w ab lb bs) (hu : StrsIn w au lu us) (hl : lb ≤ 1000000 ∧ lu ≤ 1000000) (hB : Begins w) (hO : Orders w) :
    Calls Tryd.prog 9 #[.agg #[.int .i64 k, .slice ab lb cb, .slice au lu cu]] w fun e w' => e = .returned (.tuple #[.string (mfD ⟨k, bs, us⟩), .int .i64 (mfE ⟨k, bs, us⟩)]) ∧ Kept w w' := by
  unfold mfD mfE
  cases h : mfB ⟨k, bs, us⟩ with
  | false => exact mname_bad k ab lb cb au lu cu bs us w hb hu hl h
  | true => exact mname_good k ab lb cb au lu cu bs us w hb hu h hB hO (Nat.le_trans (mfT_small h) (by decide))
end Go.Proofs.YtdllenoclnmmdaaDoor

namespace Go.Proofs.YtdllenoclnmmdaaDoor
open Go.RowKit Go.Shelf
attribute [local go_sem] Oper.semAt_some

theorem own_set {A B : World} {base g s n : Nat} {C : Array Value} {t : TypeId} {v : Value} {xs : List Value} (h : A.ownsRow base 9 s v n xs) (hg : BlockAt A g C t) (ht : t ≠ 9) (k : A.grownBy B (some g)) : B.ownsRow base 9 s v n xs :=
  own_apart h k (fun j hj e => by
    cases e
    rcases h.2 with ⟨rfl, h0⟩ | ⟨g', cap, cur, rfl, hb, hg', hn', hm, hc, ht'⟩
    · cases hj
    · cases hj
      first
        | (have e2 := hg'.symm.trans hg; cases e2; exact ht rfl)
        | (have e2 := hb.symm.trans hg; cases e2; exact ht rfl)
        | (have e2 := Eq.trans (Eq.symm hg) hg'; cases e2; exact ht rfl))
set_option maxRecDepth 100000 in
set_option maxHeartbeats 2000000 in
theorem copy_mf_own (k : Int) (ab : Option Addr) (lb cb : Nat) (au : Option Addr) (lu cu : Nat) (bs us : List ByteArray) (wo : World) (hb : StrsIn wo ab lb bs) (hu : StrsIn wo au lu us) (hl : lb ≤ 100000 ∧ lu ≤ 100000) :
    Calls Tryd.prog 6 #[.agg #[.int .i64 k, .slice ab lb cb, .slice au lu cu]] wo fun e w' => ∃ a1 c1 a2 c2, e = .returned (.agg #[.int .i64 k, .slice a1 lb c1, .slice a2 lu c2]) ∧ w'.ownsRow wo.heap.size 9 1 (.slice a1 lb c1) lb (bs.map Value.string) ∧ w'.ownsRow wo.heap.size 9 1 (.slice a2 lu c2) lu (us.map Value.string) ∧ Kept wo w' := by
  have HBS := Lib.hid hb
  have HUS := Lib.hid hu
  have HB := Lib.hid (((BlockAt.new wo #[.int .i64 k, .slice ab lb cb, .slice au lu cu] 29).kept ((Kept.refl _).alloc (.cells #[.int .i64 0, .slice none 0 0, .slice none 0 0] 29))).kept ((Kept.refl _).alloc (.cells #[.int .i64 k, .slice ab lb cb, .slice au lu cu] 29)))
  have HR := Lib.hid ((BlockAt.new1 wo #[.int .i64 0, .slice none 0 0, .slice none 0 0] 29 (.cells #[.int .i64 k, .slice ab lb cb, .slice au lu cu] 29)).kept ((Kept.refl _).alloc (.cells #[.int .i64 k, .slice ab lb cb, .slice au lu cu] 29)))
  have HX := Lib.hid (BlockAt.new2 wo #[.int .i64 k, .slice ab lb cb, .slice au lu cu] 29 (.cells #[.int .i64 k, .slice ab lb cb, .slice au lu cu] 29) (.cells #[.int .i64 0, .slice none 0 0, .slice none 0 0] 29))
  have HK := Lib.hid ((((Kept.refl wo).alloc (.cells #[.int .i64 k, .slice ab lb cb, .slice au lu cu] 29)).alloc (.cells #[.int .i64 0, .slice none 0 0, .slice none 0 0] 29)).alloc (.cells #[.int .i64 k, .slice ab lb cb, .slice au lu cu] 29))
  clear hb hu
  go_enter Tryd.func6, Tryd.ntmps6
  go_upto_region 1 with (fail)
  obtain ⟨q0, q1, q2⟩ := box3 ((BlockAt.new wo #[.int .i64 k, .slice ab lb cb, .slice au lu cu] 29).kept ((Kept.refl _).alloc (.cells #[.int .i64 0, .slice none 0 0, .slice none 0 0] 29)))
  go_upto_region 2 with (fail)
  generalize ((wo.alloc (.cells #[.int .i64 k, .slice ab lb cb, .slice au lu cu] 29)).alloc (.cells #[.int .i64 0, .slice none 0 0, .slice none 0 0] 29)).alloc (.cells #[.int .i64 k, .slice ab lb cb, .slice au lu cu] 29) = w1 at *
  clear q0 q1 q2
  obtain ⟨a0, a1, a2⟩ := box3 HB.out
  go_wp2_with fail
  refine (copy_strings_own ab lb cb bs _ (HBS.out.kept HK.out) (by omega)).mono ?_
  rintro e w2 ⟨x1, y1, rfl, hown, hk2⟩
  have HS1 := Lib.hid (own_base hown (Kept.size HK.out))
  have HK2 := Lib.hid (HK.out.trans hk2)
  have HB2 := Lib.hid (HB.out.kept hk2)
  have HR2 := Lib.hid (HR.out.kept hk2)
  have HX2 := Lib.hid (HX.out.kept hk2)
  have f1 := HX2.out.free 1
  obtain ⟨d0, d1, d2⟩ := box3 HX2.out
  clear a0 a1 a2 hk2 hown HB HR HX
  have hzb := HR2.out.lt
  have hset : w2.grownBy (w2.setCell ⟨wo.heap.size + 1 + 1, 1, none⟩ (.slice x1 lb y1)) (some (wo.heap.size + 1 + 1)) := ⟨rfl, rfl, rfl, by simp, fun k _ hne => Below.heap_setCell w2 ⟨wo.heap.size + 1 + 1, 1, none⟩ (.slice x1 lb y1) k (fun e => hne (by rw [e]))⟩
  have HB3 := Lib.hid (block_grown HB2.out hset (by simp; omega))
  have HR3 := Lib.hid (block_grown HR2.out hset (by simp))
  have HX3 := Lib.hid (show BlockAt (w2.setCell ⟨wo.heap.size + 1 + 1, 1, none⟩ (.slice x1 lb y1)) (wo.heap.size + 1 + 1) #[.int .i64 k, .slice x1 lb y1, .slice au lu cu] 29 by have := HX2.out.set (i := 1) (.slice x1 lb y1); simpa using this)
  have HS3 := Lib.hid (own_set HS1.out HX2.out (by decide) hset)
  have HK3 := Lib.hid (Kept.setCell HK2.out (p := ⟨wo.heap.size + 1 + 1, 1, none⟩) (by show wo.heap.size ≤ wo.heap.size + 1 + 1; omega) (.slice x1 lb y1))
  clear hset
  go_upto_region 3 with (fail)
  generalize w2.setCell ⟨wo.heap.size + 1 + 1, 1, none⟩ (.slice x1 lb y1) = w3 at *
  clear f1 d0 d1 d2
  obtain ⟨a0, a1, a2⟩ := box3 HB3.out
  go_wp2_with fail
  refine (copy_strings_own au lu cu us _ (HUS.out.kept HK3.out) (by omega)).mono ?_
  rintro e w4 ⟨x2, y2, rfl, hown, hk4⟩
  have HS2 := Lib.hid (own_base hown (Kept.size HK3.out))
  have HS4 := Lib.hid (own_kept HS3.out hk4)
  have HK4 := Lib.hid (HK3.out.trans hk4)
  have HR4 := Lib.hid (HR3.out.kept hk4)
  have HX4 := Lib.hid (HX3.out.kept hk4)
  have f2 := HX4.out.free 2
  obtain ⟨d0, d1, d2⟩ := box3 HX4.out
  clear a0 a1 a2 hk4 hown HB3 HR3 HX3
  have hset : w4.grownBy (w4.setCell ⟨wo.heap.size + 1 + 1, 2, none⟩ (.slice x2 lu y2)) (some (wo.heap.size + 1 + 1)) := ⟨rfl, rfl, rfl, by simp, fun k _ hne => Below.heap_setCell w4 ⟨wo.heap.size + 1 + 1, 2, none⟩ (.slice x2 lu y2) k (fun e => hne (by rw [e]))⟩
  have HR5 := Lib.hid (block_grown HR4.out hset (by simp))
  have HX5 := Lib.hid (show BlockAt (w4.setCell ⟨wo.heap.size + 1 + 1, 2, none⟩ (.slice x2 lu y2)) (wo.heap.size + 1 + 1) #[.int .i64 k, .slice x1 lb y1, .slice x2 lu y2] 29 by have := HX4.out.set (i := 2) (.slice x2 lu y2); simpa using this)
  have HS5 := Lib.hid (own_set HS4.out HX4.out (by decide) hset)
  have HS6 := Lib.hid (own_set HS2.out HX4.out (by decide) hset)
  have HK5 := Lib.hid (Kept.setCell HK4.out (p := ⟨wo.heap.size + 1 + 1, 2, none⟩) (by show wo.heap.size ≤ wo.heap.size + 1 + 1; omega) (.slice x2 lu y2))
  clear hset
  go_upto_region 4 with (fail)
  generalize w4.setCell ⟨wo.heap.size + 1 + 1, 2, none⟩ (.slice x2 lu y2) = w5 at *
  clear f2 d0 d1 d2
  obtain ⟨a0, a1, a2⟩ := box3 HX5.out
  go_wp2_with (refine wpList_store_block rfl 29 (.tmp 2) (.tmp 13) rfl _ #[.int .i64 k, .slice x1 lb y1, .slice x2 lu y2] #[.int .i64 0, .slice none 0 0, .slice none 0 0] 29 rfl rfl HR5.out Tryd.infoMf rfl (one3m _ _ _ _ _ _ _) ?_)
  have g8 := grown_row w5 (wo.heap.size + 1) #[.int .i64 k, .slice x1 lb y1, .slice x2 lu y2]
  refine bodyPost_ret (v := .agg #[.int .i64 k, .slice x1 lb y1, .slice x2 lu y2]) ?_ rfl ⟨x1, y1, x2, y2, rfl, own_set HS5.out HR5.out (by decide) g8, own_set HS6.out HR5.out (by decide) g8, HK5.out.setRow (by omega) _⟩
  exact results_cell_row rfl _ _ (wo.heap.size + 1) 29 #[.int .i64 k, .slice x1 lb y1, .slice x2 lu y2] (0, 0) _ rfl (HR5.out.setRow _) Tryd.underlying29 rfl Tryd.infoMf
end Go.Proofs.YtdllenoclnmmdaaDoor

namespace Go.Proofs.YtdllenoclnmmdaaDoor
open Go.RowKit Go.Shelf
attribute [local go_sem] Oper.semAt_some

/-- the manifest that is told: the zero one if there is none -/
def mfO (o : Option Mf) : Mf := o.getD ⟨0, [], []⟩
theorem take_caseM (t : ByteArray) (m : Mf) (ok : Bool) (hm : m = mfO (takeM t)) (hok : ok = (takeM t).isSome) (w : World) :
    Calls Tryd.prog 15 #[.string t] w fun e w' => ∃ a c a2 c2, e = .returned (.tuple #[.agg #[.int .i64 m.k, .slice a m.bs.length c, .slice a2 m.us.length c2], .int .i64 (if ok = true then 0 else 7)]) ∧ StrsIn w' a m.bs.length m.bs ∧ StrsIn w' a2 m.us.length m.us ∧ Kept w w' := by
  refine (mtake_any t w).mono ?_
  rintro e w' ⟨h1, h2, h3⟩
  subst hm hok
  cases ho : takeM t with
  | none => exact ⟨none, 0, none, 0, h1 ho, nil_strs _ _, nil_strs _ _, h3⟩
  | some m =>
    obtain ⟨ab, cb, au, cu, e, _, s1, s2⟩ := h2 m ho
    exact ⟨ab, cb, au, cu, e, s1, s2, h3⟩
theorem take_caseR (t : ByteArray) (m : Mf) (ok : Bool) (hm : m = mfO (takeM t)) (hok : ok = (takeM t).isSome) (w : World) :
    Calls Tryd.prog 16 #[.string t] w fun e w' => ∃ a c a2 c2, e = .returned (.tuple #[.agg #[.int .i64 m.k, .slice a m.bs.length c, .slice a2 m.us.length c2], .bool ok]) ∧ StrsIn w' a m.bs.length m.bs ∧ StrsIn w' a2 m.us.length m.us ∧ Kept w w' := by
  refine (rmtake_any t w).mono ?_
  rintro e w' ⟨h1, h2, h3⟩
  subst hm hok
  cases ho : takeM t with
  | none => exact ⟨none, 0, none, 0, h1 ho, nil_strs _ _, nil_strs _ _, h3⟩
  | some m =>
    obtain ⟨ab, cb, au, cu, e, _, s1, s2⟩ := h2 m ho
    exact ⟨ab, cb, au, cu, e, s1, s2, h3⟩
end Go.Proofs.YtdllenoclnmmdaaDoor

