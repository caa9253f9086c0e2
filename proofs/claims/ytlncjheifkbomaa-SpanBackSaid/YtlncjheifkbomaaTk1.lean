/- What parts take of texts: as data; the reference's May and Took, CopyParts (texts and parts within the limits). -/
import Derived.Test.YtlncjheifkbomaaSpn3
import Derived.Test.YtlncjheifkbomaaCutJ
import Derived.Test.YtlncjheifkbomaaStd
namespace Go.Proofs.Ytlncjheifkbomaa
open Go.RowKit

/-- is this a number up to m? -/
def nuB (x m : Int) : Bool := decide (0 ≤ x) && decide (x ≤ m)
theorem nuB_any (x m : Int) (w : World) : Calls Try.prog 14 #[.int .i64 x, .int .i64 m] w fun e w' => e = .returned (.bool (nuB x m)) ∧ w = w' := num_any x m w
theorem nuB_true {x m : Int} (h : nuB x m = true) : 0 ≤ x ∧ x ≤ m := by unfold nuB at h; simpa using h
theorem nuB_false {x m : Int} (h : nuB x m = false) : ¬ (0 ≤ x ∧ x ≤ m) := fun e => by unfold nuB at h; rw [decide_eq_true e.1, decide_eq_true e.2] at h; cases h
/-- does a number lie between two? -/
def btB (n a b : Int) : Bool := decide (a ≤ n) && decide (n ≤ b)
theorem btB_any (n a b : Int) (w : World) : Calls Try.prog 22 #[.int .i64 n, .int .i64 a, .int .i64 b] w fun e w' => e = .returned (.bool (btB n a b)) ∧ w = w' := between_any n a b w
theorem btB_true {n a b : Int} (h : btB n a b = true) : a ≤ n ∧ n ≤ b := by unfold btB at h; simpa using h
theorem btB_false {n a b : Int} (h : btB n a b = false) : ¬ (a ≤ n ∧ n ≤ b) := fun e => by unfold btB at h; rw [decide_eq_true e.1, decide_eq_true e.2] at h; cases h
/-- the text that a part is of -/
def txtP (ss : List ByteArray) (x : Int × Int × Int) : ByteArray := ss.getD x.1.toNat ByteArray.empty
/-- does a part lie within the texts? -/
def mayP (ss : List ByteArray) (x : Int × Int × Int) : Bool := nuB x.1 ((ss.length : Int) - 1) && (nuB x.2.1 (txtP ss x).size && btB x.2.2 x.2.1 (txtP ss x).size)
def mayL (ss : List ByteArray) (ps : List (Int × Int × Int)) : Bool := ps.all (mayP ss)
/-- what a part takes -/
def tookP (ss : List ByteArray) (x : Int × Int × Int) : ByteArray := (txtP ss x).extract x.2.1.toNat x.2.2.toNat
def tookL (ss : List ByteArray) (ps : List (Int × Int × Int)) : ByteArray := cat (ps.map (tookP ss))
theorem tookL_nil (ss : List ByteArray) : tookL ss [] = ⟨#[]⟩ := rfl
theorem tookL_snoc (ss : List ByteArray) (ps : List (Int × Int × Int)) (x : Int × Int × Int) : tookL ss (ps ++ [x]) = tookL ss ps ++ tookP ss x := by
  unfold tookL
  rw [List.map_append]
  exact cat_snoc _ _
theorem take_getD (ps : List (Int × Int × Int)) (k : Nat) (h : k < ps.length) : ps.take (k + 1) = ps.take k ++ [ps.getD k (0, 0, 0)] := by
  rw [List.take_succ_eq_append_getElem h]
  simp [List.getD, h]
/-- a part within the texts: its number, its text, its bounds -/
theorem mayP_true {ss : List ByteArray} {x : Int × Int × Int} (h : mayP ss x = true) : ∃ n lo hi : Nat, x = ((n : Int), (lo : Int), (hi : Int)) ∧ n < ss.length ∧ lo ≤ hi ∧ hi ≤ (ss.getD n ByteArray.empty).size := by
  obtain ⟨N, L, H⟩ := x
  unfold mayP txtP at h
  rw [Bool.and_eq_true, Bool.and_eq_true] at h
  obtain ⟨h1, h2, h3⟩ := h
  have a1 := nuB_true h1
  have a2 := nuB_true h2
  have a3 := btB_true h3
  dsimp only at a1 a2 a3
  exact ⟨N.toNat, L.toNat, H.toNat, by rw [Int.toNat_of_nonneg (by omega), Int.toNat_of_nonneg (by omega), Int.toNat_of_nonneg (by omega)], by omega, by omega, by omega⟩
theorem tookP_size {ss : List ByteArray} {x : Int × Int × Int} (h : mayP ss x = true) (hb : ∀ i, i < ss.length → (ss.getD i ByteArray.empty).size ≤ 4000) : (tookP ss x).size ≤ 4000 := by
  obtain ⟨n, lo, hi, rfl, h1, h2, h3⟩ := mayP_true h
  have := hb n h1
  unfold tookP txtP
  rw [ByteArray.size_extract]
  simp only [Int.toNat_natCast]
  omega
theorem tookL_size {ss : List ByteArray} (hb : ∀ i, i < ss.length → (ss.getD i ByteArray.empty).size ≤ 4000) : ∀ ps : List (Int × Int × Int), mayL ss ps = true → (tookL ss ps).size ≤ 4000 * ps.length
  | [], _ => by rw [tookL_nil]; exact Nat.zero_le _
  | x :: ps, h => by
    unfold mayL at h
    rw [List.all_cons, Bool.and_eq_true] at h
    have h1 := tookP_size h.1 hb
    have h2 := tookL_size hb ps h.2
    have e : (tookL ss (x :: ps)).size = (tookP ss x).size + (tookL ss ps).size := by unfold tookL; rw [List.map_cons]; exact cat_cons _ _
    rw [e, List.length_cons]
    omega
theorem PartsIn.take {W : World} {a : Option Addr} {l : Nat} {ps : List (Int × Int × Int)} (h : PartsIn W a l ps) (n : Nat) (hn : n ≤ l) : PartsIn W a n (ps.take n) := by
  obtain ⟨b, off, ha, hc⟩ := h.cells
  refine ⟨by rw [List.length_take, h.len_eq]; omega, by have := h.le; omega, b, off, fun h0 => ha (by omega), fun i hi => ?_⟩
  have e : (ps.take n).getD i (0, 0, 0) = ps.getD i (0, 0, 0) := by
    rw [List.getD_eq_getElem?_getD, List.getD_eq_getElem?_getD, List.getElem?_take_of_lt hi]
  rw [e]
  exact hc i (by omega)
/-- the cells of the parts -/
theorem PartsIn.at {W : World} {a : Option Addr} {l : Nat} {ps : List (Int × Int × Int)} (h : PartsIn W a l ps) (hl : 0 < l) : ∃ b off, a = some ⟨b, off, none⟩ ∧ ∀ i, i < l → ∀ w, Kept W w → w.cell? ⟨b, off + i * 3, none⟩ = some (.int .i64 (ps.getD i (0, 0, 0)).1) ∧ w.cell? ⟨b, off + i * 3 + 1, none⟩ = some (.int .i64 (ps.getD i (0, 0, 0)).2.1) ∧ w.cell? ⟨b, off + i * 3 + 2, none⟩ = some (.int .i64 (ps.getD i (0, 0, 0)).2.2) := by
  obtain ⟨b, off, ha, hc⟩ := h.cells
  exact ⟨b, off, ha hl, fun i hi w k => ⟨k.cell (hc i hi).1 (hc i hi).2.1, k.cell (hc i hi).1 (hc i hi).2.2.1, k.cell (hc i hi).1 (hc i hi).2.2.2⟩⟩
set_option maxRecDepth 100000 in
set_option maxHeartbeats 4000000 in
theorem may_ref (al : Option Addr) (ll cl : Nat) (ss : List ByteArray) (ap : Option Addr) (lp cp : Nat) (ps : List (Int × Int × Int)) (w : World) (hS : StrsIn w al ll ss) (hP : PartsIn w ap lp ps) :
    Calls Try.prog 37 #[.slice al ll cl, .slice ap lp cp] w fun e w' => e = .returned (.bool (mayL ss ps)) ∧ Kept w w' := by
  have hll := hS.le
  have hlp := hP.le
  have HS := Lib.hid hS
  have HP := Lib.hid hP
  have HLP := Lib.hid hP.len_eq
  have HLS := Lib.hid hS.len_eq
  clear hS hP
  go_enter Try.func37, Try.ntmps37
  go_wp2_with fail
  go_loopw [5] (fun i wr => ∃ k : Nat, k ≤ lp ∧ i = .int .i64 k ∧ (ps.take k).all (mayP ss) = true ∧ Kept w wr) (fun i _ => lp - (intOf i).toNat)
  case atStart => exact ⟨0, by omega, rfl, rfl, Kept.refl _⟩
  case round =>
    obtain ⟨k, hk, rfl, hall, hkr⟩ := hrel
    have HAL := Lib.hid hall
    have HK := Lib.hid hkr
    clear hall hkr
    obtain ⟨wa, rfl⟩ : ∃ wa, wa = wr := ⟨_, rfl⟩
    by_cases hlt : k < lp
    · have hd1 : decide (k < lp) = true := decide_eq_true hlt
      obtain ⟨bp, op9, rfl, hc⟩ := HP.out.at (by omega)
      obtain ⟨c0, c1, c2⟩ := hc k hlt _ HK.out
      have HSN := Lib.hid (all_snoc ps (mayP ss) k (0, 0, 0) (by rw [HLP.out]; exact hlt))
      have HF := Lib.hid (all_at ps (mayP ss) k (0, 0, 0) (by rw [HLP.out]; exact hlt))
      generalize ps.getD k (0, 0, 0) = x at c0 c1 c2 HSN HF
      obtain ⟨N, L, H⟩ := x
      dsimp only at c0 c1 c2
      clear hc
      obtain ⟨l1, hl1⟩ : ∃ l1 : Int, (ll : Int) - 1 = l1 := ⟨_, rfl⟩
      have hw1 : IntKind.i64.wrap l1 = l1 := IntWalk.i64_in _ (by omega)
      have HL1 := Lib.hid hl1
      cases h1 : nuB N l1 with
      | false =>
        have HM := Lib.hid (HF.out (show mayP ss (N, L, H) = false by unfold mayP; rw [show ((ss.length : Int) - 1) = l1 by rw [HLS.out]; exact HL1.out]; dsimp only; rw [h1]; rfl))
        clear HSN HF
        go_wp2_with fail
        go_quiet ((first | (go_at_call 14; exact quietly (nuB_any _ _ _)) | (go_at_call 22; exact quietly (btB_any _ _ _ _))))
        clear hl1 hw1
        go_wp2
        go_ret
        unfold mayL
        rw [HM.out]
        exact ⟨rfl, HK.out.drewN nq⟩
      | true =>
        obtain ⟨n, rfl⟩ : ∃ n : Nat, N = n := ⟨N.toNat, by have := nuB_true h1; omega⟩
        have hn : n < ll := by have := nuB_true h1; omega
        obtain ⟨bt, ot, rfl, hct⟩ := HS.out.at (by omega)
        have c3 := hct n hn _ HK.out
        have HTX := Lib.hid (show txtP ss ((n : Int), L, H) = ss.getD n ByteArray.empty by unfold txtP; rw [Int.toNat_natCast])
        have hts := HS.out.size n hn
        generalize ss.getD n ByteArray.empty = t at c3 HTX hts
        clear hct
        cases h2 : nuB L t.size with
        | false =>
          have HM := Lib.hid (HF.out (show mayP ss ((n : Int), L, H) = false by unfold mayP; rw [HTX.out]; dsimp only; rw [h2]; simp))
          clear HSN HF
          go_wp2_with fail
          go_quiet ((first | (go_at_call 14; exact quietly (nuB_any _ _ _)) | (go_at_call 22; exact quietly (btB_any _ _ _ _))))
          clear hl1 hw1
          go_wp2
          go_ret
          unfold mayL
          rw [HM.out]
          exact ⟨rfl, HK.out.drewN nq⟩
        | true =>
          cases h3 : btB H L t.size with
          | false =>
            have HM := Lib.hid (HF.out (show mayP ss ((n : Int), L, H) = false by unfold mayP; rw [HTX.out]; dsimp only; rw [h2, h3]; simp))
            clear HSN HF
            go_wp2_with fail
            go_quiet ((first | (go_at_call 14; exact quietly (nuB_any _ _ _)) | (go_at_call 22; exact quietly (btB_any _ _ _ _))))
            clear hl1 hw1
            go_wp2
            go_ret
            unfold mayL
            rw [HM.out]
            exact ⟨rfl, HK.out.drewN nq⟩
          | true =>
            have HM := Lib.hid (show mayP ss ((n : Int), L, H) = true by unfold mayP; rw [HTX.out, show ((ss.length : Int) - 1) = l1 by rw [HLS.out]; exact HL1.out]; dsimp only; rw [h1, h2, h3]; rfl)
            clear HF
            go_wp2_with fail
            go_quiet ((first | (go_at_call 14; exact quietly (nuB_any _ _ _)) | (go_at_call 22; exact quietly (btB_any _ _ _ _))))
            clear hl1 hw1
            go_wp2
            go_roundw
            case rel => exact ⟨k + 1, by omega, by go_num, by rw [HSN.out, HAL.out, HM.out]; rfl, HK.out.drewN nq⟩
            case measure => simp [intOf]; omega
    · obtain rfl : k = lp := by omega
      have hd1 : decide (k < k) = false := decide_eq_false (by omega)
      have HM := Lib.hid (show mayL ss ps = true by unfold mayL; have := HAL.out; rwa [List.take_of_length_le (by rw [HLP.out]; omega)] at this)
      go_wp2
      go_ret
      rw [HM.out]
      exact ⟨rfl, HK.out⟩
set_option maxRecDepth 100000 in
set_option maxHeartbeats 4000000 in
theorem took_ref (al : Option Addr) (ll cl : Nat) (ss : List ByteArray) (ap : Option Addr) (lp cp : Nat) (ps : List (Int × Int × Int)) (w : World) (hS : StrsIn w al ll ss) (hP : PartsIn w ap lp ps) (hM : mayL ss ps = true) (hb : ∀ i, i < ll → (ss.getD i ByteArray.empty).size ≤ 4000) (hl : lp ≤ 3000) :
    Calls Try.prog 38 #[.slice al ll cl, .slice ap lp cp] w fun e w' => e = .returned (.string (tookL ss ps)) ∧ Kept w w' := by
  have hll := hS.le
  have HS := Lib.hid hS
  have HP := Lib.hid hP
  have HLP := Lib.hid hP.len_eq
  have HLS := Lib.hid hS.len_eq
  have HB := Lib.hid hb
  have HMA := Lib.hid (fun k (hk : k < lp) => show mayP ss (ps.getD k (0, 0, 0)) = true from by
    have hk' : k < ps.length := by rw [hP.len_eq]; exact hk
    exact List.all_eq_true.1 hM _ (by simp [List.getD, hk']))
  have HSZ := Lib.hid (fun k (hk : k ≤ lp) => show (tookL ss (ps.take k)).size ≤ 4000 * 3000 from by
    have h1 := tookL_size (ss := ss) (by rw [hS.len_eq]; exact hb) (ps.take k) (by unfold mayL; exact List.all_eq_true.2 fun x hx => List.all_eq_true.1 hM x (List.mem_of_mem_take hx))
    have h2 : (ps.take k).length ≤ k := List.length_take_le _ _
    have h3 : 4000 * (ps.take k).length ≤ 4000 * 3000 := Nat.mul_le_mul_left _ (by omega)
    omega)
  clear hS hP hM hb
  go_enter Try.func38, Try.ntmps38
  go_wp2_with fail
  go_loopw [5, 6] (fun s i wr => ∃ k : Nat, k ≤ lp ∧ i = .int .i64 k ∧ s = .string (tookL ss (ps.take k)) ∧ Kept w wr) (fun _ i _ => lp - (intOf i).toNat)
  case atStart => exact ⟨0, by omega, rfl, by rw [List.take_zero, tookL_nil], Kept.refl _⟩
  case round =>
    obtain ⟨k, hk, rfl, rfl, hkr⟩ := hrel
    have HK := Lib.hid hkr
    clear hkr
    obtain ⟨wa, rfl⟩ : ∃ wa, wa = wr := ⟨_, rfl⟩
    have hsz := HSZ.out k hk
    by_cases hlt : k < lp
    · have hd1 : decide (k < lp) = true := decide_eq_true hlt
      obtain ⟨bp, op9, rfl, hc⟩ := HP.out.at (by omega)
      obtain ⟨c0, c1, c2⟩ := hc k hlt _ HK.out
      have HSN := Lib.hid (show tookL ss (ps.take (k + 1)) = tookL ss (ps.take k) ++ tookP ss (ps.getD k (0, 0, 0)) by rw [take_getD ps k (by rw [HLP.out]; exact hlt), tookL_snoc])
      obtain ⟨n, lo, hi, hx, hn, hlh, hht⟩ := mayP_true (HMA.out k hlt)
      rw [HLS.out] at hn
      rw [hx] at c0 c1 c2 HSN
      dsimp only at c0 c1 c2
      obtain ⟨bt, ot, rfl, hct⟩ := HS.out.at (by omega)
      have c3 := hct n hn _ HK.out
      have hts := HB.out n hn
      have htk : tookP ss ((n : Int), (lo : Int), (hi : Int)) = (ss.getD n ByteArray.empty).extract lo hi := by unfold tookP txtP; simp only [Int.toNat_natCast]
      rw [htk] at HSN
      generalize ss.getD n ByteArray.empty = t at c3 hts hht HSN
      obtain ⟨u, hu⟩ : ∃ u, tookL ss (ps.take k) = u := ⟨_, rfl⟩
      obtain ⟨v, hv⟩ : ∃ v, u ++ t.extract lo hi = v := ⟨_, rfl⟩
      rw [hu] at hsz HSN
      rw [hv] at HSN
      rw [hu]
      have hA : ∀ w : World, (Op.stringOp .add u (t.extract lo hi)).run Try.prog w = .ok (.string v) w := fun w => by rw [← hv]; exact run_string_add_sum _ _ _ (by rw [ByteArray.size_extract]; omega)
      clear hc hct hx htk hu hv
      go_wp2_with fail
      go_quiet (fail)
      go_wp2
      go_roundw
      case rel => exact ⟨k + 1, by omega, by go_num, by rw [HSN.out], HK.out.drewN nq⟩
      case measure => simp [intOf]; omega
    · obtain rfl : k = lp := by omega
      have hd1 : decide (k < k) = false := decide_eq_false (by omega)
      rw [List.take_of_length_le (by rw [HLP.out]; omega)]
      go_wp2
      go_ret
      exact ⟨rfl, HK.out⟩
set_option maxRecDepth 100000 in
set_option maxHeartbeats 4000000 in
theorem copy_parts (ap : Option Addr) (lp cp : Nat) (ps : List (Int × Int × Int)) (w : World) (hP : PartsIn w ap lp ps) (hl : lp ≤ 3000) :
    Calls Try.prog 35 #[.slice ap lp cp] w fun e w' => ∃ a cap, e = .returned (.slice a lp cap) ∧ PartsIn w' a lp ps ∧ Kept w w' := by
  have HP := Lib.hid hP
  have HLP := Lib.hid hP.len_eq
  obtain ⟨i0, hi, hz0, hz1, hz2⟩ := info_parts Try.infoPart
  have HI := Lib.hid (And.intro hi (And.intro hz0 (And.intro hz1 hz2)))
  clear hi hz0 hz1 hz2 hP
  go_enter Try.func35, Try.ntmps35
  go_wp2_with fail
  go_loopw [3, 4] (fun v i wr => ∃ k : Nat, k ≤ lp ∧ i = .int .i64 k ∧ wr.ownsRow w.heap.size 84 3 v k (spv (ps.take k)) ∧ Kept w wr) (fun _ i _ => lp - (intOf i).toNat)
  case atStart => exact ⟨0, by omega, rfl, World.ownsRow_nil _ _ _ _, Kept.refl _⟩
  case round =>
    obtain ⟨k, hk, rfl, hown, hkr⟩ := hrel
    have HK := Lib.hid hkr
    have HO := Lib.hid hown
    clear hkr hown
    by_cases hlt : k < lp
    · have hd1 : decide (k < lp) = true := decide_eq_true hlt
      obtain ⟨bp, op9, rfl, hc⟩ := HP.out.at (by omega)
      obtain ⟨c0, c1, c2⟩ := hc k hlt _ HK.out
      have HSN := Lib.hid (take_getD ps k (by rw [HLP.out]; exact hlt))
      generalize ps.getD k (0, 0, 0) = x at c0 c1 c2 HSN
      obtain ⟨N, L, H⟩ := x
      dsimp only at c0 c1 c2
      clear hc
      go_wp2_with (at_builtin; refine wpList_append_own_at _ rfl _ _ 56 rfl w.heap.size 84 i0 (.agg #[.int .i64 0, .int .i64 0, .int .i64 0]) 3 24 Try.underlying56 HI.out.1 HI.out.2.1 HI.out.2.2.1 HI.out.2.2.2 rfl (by decide) _ _ _ rfl (HO.out.alloc _) ⟨wr.heap.size, 0, none⟩ 1 1 [.int .i64 N, .int .i64 L, .int .i64 H] rfl rfl ?c1 ?c2 ?c3 ?c4 ?c5 ?_)
      case c1 =>
        intro j' u hj'
        match j', hj' with
        | 0, hj' => simp at hj'; subst hj'; simp [Addr.add]
        | 1, hj' => simp at hj'; subst hj'; simp [Addr.add]
        | 2, hj' => simp at hj'; subst hj'; simp [Addr.add]
      case c2 => intro u hu; simp at hu; rcases hu with rfl | rfl | rfl <;> rfl
      case c3 => unfold maxLen; omega
      case c4 => omega
      case c5 => have := HK.out.size; simp; omega
      intro v' w9 hown9 hgrow _ _
      have HO9 := Lib.hid hown9
      have HK9 := Lib.hid (kept_gr3 (HK.out.alloc (.cells #[.int .i64 N, .int .i64 L, .int .i64 H] 84)) hgrow (fun g e => (HO.out.lt g e).1))
      clear hown9 hgrow c0 c1 c2
      go_wp2
      go_roundw
      case rel => exact ⟨k + 1, by omega, by go_num, by rw [HSN.out, spv_append]; exact HO9.out, HK9.out⟩
      case measure => simp [intOf]; omega
    · obtain rfl : k = lp := by omega
      have hd1 : decide (k < k) = false := decide_eq_false (by omega)
      have hown := HO.out
      rw [List.take_of_length_le (by rw [HLP.out]; omega)] at hown
      obtain ⟨a', cap', rfl, hcl, hst⟩ := parts_own hown HLP.out
      have HST := Lib.hid hst
      clear hown hst
      go_wp2
      go_ret
      exact ⟨_, _, rfl, HST.out, HK.out⟩
end Go.Proofs.Ytlncjheifkbomaa
