/- What a text's parts take of its stripes is just that piece of it: as data (no conditions). -/
import Derived.Test.YtlncjheifkbomaaTk1
import Derived.Test.YtlncjheifkbomaaCutM
namespace Go.Proofs.Ytlncjheifkbomaa
open Go.RowKit
theorem ext_two (t : ByteArray) (f a b : Nat) (h1 : f ≤ a) (h2 : a ≤ b) : t.extract f a ++ t.extract a b = t.extract f b := by
  apply ba_ext
  rw [ByteArray.data_append, Array.toList_append, ext_list, ext_list, ext_list, show b - f = (a - f) + (b - a) by omega, List.take_add, List.drop_drop, show f + (a - f) = a by omega]
theorem ext_in (t : ByteArray) (i j x y : Nat) (h : i + y ≤ j) : (t.extract i j).extract x y = t.extract (i + x) (i + y) := by
  apply ba_ext
  rw [ext_list, ext_list, ext_list, List.drop_take, List.drop_drop, List.take_take, show min (y - x) (j - i - x) = i + y - (i + x) by omega]
theorem spP_in {q f e n j : Nat} (hq : 1 ≤ q) (hfe : f ≤ e) (hen : e ≤ n) (hj : j < spN q f e) :
    (f / q + j) * q ≤ spA q f e j ∧ spA q f e j ≤ spA q f e (j + 1) ∧ spA q f e (j + 1) ≤ min ((f / q + j) * q + q) n ∧ f / q + j < nP n q ∧ f ≤ spA q f e j := by
  have h1 := (spA_lt q f e j hq).2 hj
  have h2 := spA_next q f e j hq hfe
  have h3 := spA_div q f e j hq h1
  have h4 := Nat.div_mul_le_self (spA q f e j) q
  have h5 := Nat.lt_mul_div_succ (spA q f e j) (show 0 < q by omega)
  rw [h3] at h4 h5
  rw [Nat.mul_comm] at h5
  have h6 : (f / q + j + 1) * q = (f / q + j) * q + q := Nat.succ_mul _ _
  rw [h6] at h2 h5
  have h7 : f ≤ spA q f e j := by unfold spA; omega
  exact ⟨h4, by omega, by omega, (nP_lt hq).2 (by omega), h7⟩
theorem spP_txt {t : ByteArray} {q f e j : Nat} (hq : 1 ≤ q) (hfe : f ≤ e) (hen : e ≤ t.size) (hj : j < spN q f e) : txtP (pcs t q) (spP q f e j) = pcOf t q (f / q + j) := by
  obtain ⟨_, _, _, h4, _⟩ := spP_in hq hfe hen hj
  unfold txtP spP
  simp only [Int.toNat_natCast]
  exact pcs_getD t q _ h4
theorem mayP_sp {t : ByteArray} {q f e j : Nat} (hq : 1 ≤ q) (hfe : f ≤ e) (hen : e ≤ t.size) (hj : j < spN q f e) : mayP (pcs t q) (spP q f e j) = true := by
  obtain ⟨h1, h2, h3, h4, _⟩ := spP_in hq hfe hen hj
  have h5 := spP_txt hq hfe hen hj
  unfold mayP nuB btB
  rw [h5, pcs_length, pcOf_size]
  unfold spP
  generalize f / q + j = kk at h1 h2 h3 h4 ⊢
  generalize kk * q = Z at h1 h2 h3 ⊢
  simp only [Bool.and_eq_true, decide_eq_true_eq]
  omega
theorem tookP_sp {t : ByteArray} {q f e j : Nat} (hq : 1 ≤ q) (hfe : f ≤ e) (hen : e ≤ t.size) (hj : j < spN q f e) : tookP (pcs t q) (spP q f e j) = t.extract (spA q f e j) (spA q f e (j + 1)) := by
  obtain ⟨h1, h2, h3, h4, _⟩ := spP_in hq hfe hen hj
  unfold tookP
  rw [spP_txt hq hfe hen hj]
  unfold pcOf spP
  simp only [Int.toNat_natCast]
  rw [ext_in _ _ _ _ _ (by omega)]
  congr 1 <;> omega
theorem mayL_sp {t : ByteArray} {q f e : Nat} (hq : 1 ≤ q) (hfe : f ≤ e) (hen : e ≤ t.size) : mayL (pcs t q) (spL q f e) = true := by
  unfold mayL spL
  rw [List.all_map, List.all_eq_true]
  intro j hj
  exact mayP_sp hq hfe hen (List.mem_range.1 hj)
theorem tookL_sp {t : ByteArray} {q f e : Nat} (hq : 1 ≤ q) (hfe : f ≤ e) (hen : e ≤ t.size) : tookL (pcs t q) (spL q f e) = t.extract f e := by
  have h : ∀ j, j ≤ spN q f e → tookL (pcs t q) ((spL q f e).take j) = t.extract f (spA q f e j) := fun j => by
    induction j with
    | zero =>
      intro _
      rw [List.take_zero, tookL_nil, spA_zero]
      apply ba_ext
      rw [ext_list, Nat.sub_self, List.take_zero]
    | succ j ih =>
      intro hj
      obtain ⟨_, h2, _, _, h5⟩ := spP_in hq hfe hen (show j < spN q f e by omega)
      rw [spL_take q f e j (by omega), tookL_snoc, ih (by omega), tookP_sp hq hfe hen (by omega), ext_two t f _ _ h5 h2]
  have h1 := h (spN q f e) (Nat.le_refl _)
  rw [List.take_of_length_le (by rw [spL_length]; omega)] at h1
  rw [h1]
  have h2 : ¬ spA q f e (spN q f e) < e := fun k => by have := (spA_lt q f e _ hq).1 k; omega
  have h3 : spA q f e (spN q f e) ≤ e := by unfold spA; omega
  rw [show spA q f e (spN q f e) = e by omega]
theorem spN_few (q f e : Nat) : spN q f e ≤ e := by
  unfold spN
  split
  · have h := Nat.div_le_self (e - 1) q
    generalize (e - 1) / q = A at h ⊢
    generalize f / q = B
    omega
  · omega
end Go.Proofs.Ytlncjheifkbomaa
