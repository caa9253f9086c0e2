/- A text's pieces and lanes, put together again: small laws (no conditions). -/
import Derived.Test.YtlncjheifkbomaaCutJn
namespace Go.Proofs.Ytlncjheifkbomaa
open Go.RowKit
theorem ext_list (t : ByteArray) (i j : Nat) : (t.extract i j).data.toList = (t.data.toList.drop i).take (j - i) := by
  rw [ByteArray.data_extract, Array.toList_extract]
theorem ba_ext {x y : ByteArray} (h : x.data.toList = y.data.toList) : x = y := ByteArray.ext (Array.toList_inj.1 h)
theorem ext_ext (t : ByteArray) (a b : Nat) (h : a ≤ b) : t.extract 0 a ++ t.extract a b = t.extract 0 b := by
  apply ba_ext
  rw [ByteArray.data_append, Array.toList_append, ext_list, ext_list, ext_list]
  simp only [List.drop_zero, Nat.sub_zero]
  rw [← List.take_add, Nat.add_sub_cancel' h]
theorem cat_take (t : ByteArray) (q : Nat) (hq : 1 ≤ q) (k : Nat) (hk : k ≤ nP t.size q) : cat ((pcs t q).take k) = t.extract 0 (min (k * q) t.size) := by
  induction k with
  | zero =>
    rw [List.take_zero, cat_nil, Nat.zero_mul, Nat.zero_min]
    apply ba_ext
    rw [ext_list]
    rfl
  | succ k ih =>
    have h1 : k * q < t.size := (nP_lt hq).1 (by omega)
    rw [pcs_take t q k (by omega), cat_snoc, ih (by omega)]
    unfold pcOf
    rw [show min (k * q) t.size = k * q by omega, ext_ext t _ _ (by omega), show (k + 1) * q = k * q + q by rw [Nat.succ_mul]]
theorem nP_ge (n q : Nat) (hq : 1 ≤ q) : n ≤ nP n q * q := by
  by_cases h : nP n q * q < n
  · exact absurd ((nP_lt hq).2 h) (Nat.lt_irrefl _)
  · omega
theorem cat_pcs (t : ByteArray) (q : Nat) (hq : 1 ≤ q) : cat (pcs t q) = t := by
  have h := cat_take t q hq (nP t.size q) (Nat.le_refl _)
  rw [List.take_of_length_le (by rw [pcs_length]; omega), Nat.min_eq_right (nP_ge _ _ hq)] at h
  rw [h]
  apply ba_ext
  rw [ext_list, List.drop_zero, Nat.sub_zero]
  exact List.take_of_length_le (by simp)
theorem pcOf_bounds (t : ByteArray) (q k : Nat) (hq : 1 ≤ q) (hk : k < nP t.size q) : 1 ≤ (pcOf t q k).size ∧ (pcOf t q k).size ≤ q := by
  have h1 : k * q < t.size := (nP_lt hq).1 hk
  rw [pcOf_size]
  omega
theorem lns_all (p : ByteArray) (k s : Nat) (hs : 1 ≤ s) (hp : p.size ≤ k * s) : ∀ x ∈ lns p k s, x.size = s := by
  intro x hx
  unfold lns pcs at hx
  rw [List.mem_map] at hx
  obtain ⟨i, hi, rfl⟩ := hx
  rw [List.mem_range, padS_size p _ hp, nP_mul k s hs] at hi
  rw [pcOf_size, padS_size p _ hp]
  have : (i + 1) * s ≤ k * s := Nat.mul_le_mul_right s (by omega)
  rw [Nat.succ_mul] at this
  omega
theorem pad_list (p : ByteArray) (n : Nat) : (padS p n).data.toList = p.data.toList ++ List.replicate (n - p.size) 0 := by
  unfold padS zb
  rw [ByteArray.data_append, Array.toList_append]
theorem pad_zero (p : ByteArray) (n : Nat) : zeroFrom (padS p n) p.size := by
  intro i h1 h2
  have e : (padS p n)[i] = (padS p n).data.toList[i]'(by simpa using h2) := by rfl
  rw [e]
  have hl : p.data.toList.length = p.size := by simp
  simp only [pad_list]
  rw [List.getElem_append_right (by omega)]
  simp
theorem pad_head (p : ByteArray) (n : Nat) : (padS p n).extract 0 p.size = p := by
  apply ba_ext
  have hl : p.data.toList.length = p.size := by simp
  rw [ext_list, pad_list, List.drop_zero, Nat.sub_zero, ← hl, List.take_left]
/-- laid as lanes and joined it is itself -/
theorem lns_back (k m s : Int) (p : ByteArray) (hs : shpB k m s = true) (h1 : 1 ≤ p.size) (h2 : (p.size : Int) ≤ k * s) :
    jokB k m s p.size (lns p k.toNat s.toNat) ∧ zeroFrom (cat (lns p k.toNat s.toNat)) p.size ∧ (cat (lns p k.toNat s.toNat)).extract 0 p.size = p := by
  obtain ⟨a1, a2, a3, a4, a5, a6⟩ := shpB_true hs
  obtain ⟨kn, hk⟩ : ∃ kn : Nat, k = kn := ⟨k.toNat, by omega⟩
  obtain ⟨n, hn⟩ : ∃ n : Nat, s = n := ⟨s.toNat, by omega⟩
  have hks : k * s = ((kn * n : Nat) : Int) := by rw [hk, hn]; simp
  have hpn : p.size ≤ kn * n := by omega
  have hn1 : 1 ≤ n := by omega
  rw [show k.toNat = kn by omega, show s.toNat = n by omega]
  have hc : cat (lns p kn n) = padS p (kn * n) := cat_pcs _ n hn1
  refine ⟨⟨hs, by rw [lns_length p kn n hn1 hpn]; omega, ⟨by omega, h2⟩, ?_⟩, by rw [hc]; exact pad_zero p _, by rw [hc]; exact pad_head p _⟩
  rw [List.all_eq_true]
  intro x hx
  rw [decide_eq_true_iff, lns_all p kn n hn1 hpn x hx, hn]
/-- cut.Lanes, then cut.Join of what it told: the text -/
theorem back_any (k m s : Int) (p : ByteArray) (hs : shpB k m s = true) (h1 : 1 ≤ p.size) (h2 : (p.size : Int) ≤ k * s) :
    (∀ w, Calls Try.prog 21 #[.agg #[.int .i64 k, .int .i64 m, .int .i64 s], .string p] w fun e w' => ∃ a cap, e = .returned (.tuple #[.slice a k.toNat cap, .int .i64 0]) ∧ k.toNat ≤ cap ∧ StrsIn w' a k.toNat (lns p k.toNat s.toNat) ∧ Kept w w') ∧
    (∀ w a cap, StrsIn w a k.toNat (lns p k.toNat s.toNat) → k.toNat ≤ cap → Calls Try.prog 25 #[.agg #[.int .i64 k, .int .i64 m, .int .i64 s], .slice a k.toNat cap, .int .i64 p.size] w fun e w' => e = .returned (.tuple #[.string p, .int .i64 0]) ∧ Kept w w') := by
  obtain ⟨b1, b2, b3⟩ := lns_back k m s p hs h1 h2
  refine ⟨fun w => lanes_good k m s p hs ⟨h1, h2⟩ w, fun w a cap hst hcap => (join_good k m s p.size a k.toNat cap _ w hst hcap b1).mono ?_⟩
  rintro e w' ⟨h | h, hk⟩
  · rw [b3] at h
    exact ⟨h.2, hk⟩
  · exact absurd b2 h.1
end Go.Proofs.Ytlncjheifkbomaa
