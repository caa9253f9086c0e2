/- Any K pieces tell the data: what is rebuilt of K pieces is all of them, and two unlike data's pieces are unlike in more than M places (nothing of the program). -/
import Derived.Test.YtoonpnpooljmlaaCdM
namespace Go.Proofs.Ytoonpnpooljmlaa
open Go.RowKit

theorem getD_ext4 {ss tt : List ByteArray} (hl : ss.length = tt.length) (h : ∀ q, q < ss.length → ss.getD q ByteArray.empty = tt.getD q ByteArray.empty) : ss = tt := by
  refine List.ext_getElem hl (fun i h1 h2 => ?_)
  have := h i h1
  simpa [List.getD, h1, h2] using this
theorem mulM_one_right4 {f : Nat → Nat → Nat} (hf : Bt f) {n i j : Nat} (hj : j < n) : mulM n f oneF i j = f i j := by
  show xs (fun k => Gf.mul (f i k) (oneF k j)) n = f i j
  have h : ∀ m, m ≤ n → xs (fun k => Gf.mul (f i k) (oneF k j)) m = if j < m then f i j else 0 := by
    intro m
    induction m with
    | zero => intro _; rfl
    | succ m ih =>
      intro hm
      show xs _ m ^^^ Gf.mul (f i m) (oneF m j) = _
      rw [ih (by omega)]
      unfold oneF
      by_cases e : m = j
      · subst e
        rw [if_neg (Nat.lt_irrefl m), if_pos rfl, Gf.mul_one _ (hf i m), Nat.zero_xor, if_pos (by omega)]
      · rw [if_neg e, Gf.mul_zero, Nat.xor_zero]
        by_cases h2 : j < m
        · rw [if_pos h2, if_pos (by omega)]
        · rw [if_neg h2, if_neg (by omega)]
  rw [h n (Nat.le_refl n), if_pos hj]
/-- the identity leaves texts as they are -/
theorem app_id {F : Nat → Nat → Nat} {D : List ByteArray} {n i s : Nat} (hD : ∀ j, j < n → (D.getD j ByteArray.empty).size = s) (hi : i < n) (hF : ∀ j, j < n → F i j = oneF i j) : appTo (F i) D n = D.getD i ByteArray.empty := by
  have h0 := hD 0 (by omega)
  have hsz : ∀ j, j < n → (D.getD j ByteArray.empty).size = (D.getD 0 ByteArray.empty).size := fun j hj => by rw [hD j hj, h0]
  refine ext_byteAt4 (by rw [appTo_size, hsz i hi]) (fun p hp => u8_ext4 ?_)
  rw [appTo_size] at hp
  rw [app_byte4 _ D p hp n hsz]
  have hb : Bt (fun (_ j : Nat) => (byteAt (D.getD j ByteArray.empty) p).toNat) := fun _ j => UInt8.toNat_lt _
  have h1 := mulM_one_right4 hb (i := 0) hi
  rw [← h1]
  show xs _ n = xs (fun k => Gf.mul (byteAt (D.getD k ByteArray.empty) p).toNat (oneF k i)) n
  refine xs_congr (fun j hj => ?_)
  rw [hF j hj]
  unfold oneF
  by_cases e : i = j
  · rw [if_pos e, if_pos e.symm]
  · rw [if_neg e, if_neg (fun q => e q.symm)]
/-- of K pieces the data comes back -/
theorem data_back {T : Nat → Bool} {K H s : Nat} {D : List ByteArray} (hK : 0 < K ∧ K ≤ 255) (hH : H ≤ 255) (hl : (lst T K H).length = K) (hD : ∀ j, j < K → (D.getD j ByteArray.empty).size = s) (hDl : D.length = K) :
    appS (backF T K H) (lstS T K H (appS (genF K) D H K)) K K = D := by
  refine getD_ext4 (by simp [appS, hDl]) (fun i hi => ?_)
  have hi' : i < K := by simpa [appS] using hi
  rw [appS_getD _ _ _ _ _ hi']
  have hP : Bt (pickF (genF K) (lstZ T K H)) := fun i j => genF_bt K _ _
  have e : ∀ j, j < K → (lstS T K H (appS (genF K) D H K)).getD j ByteArray.empty = (appS (pickF (genF K) (lstZ T K H)) D K K).getD j ByteArray.empty := fun j hj => by
    have hj' : j < (lst T K H).length := by omega
    have hm := lst_lt (List.getElem_mem hj')
    rw [appS_getD _ _ _ _ _ hj]
    have h1 : (lstS T K H (appS (genF K) D H K)).getD j ByteArray.empty = (appS (genF K) D H K).getD ((lst T K H)[j]) ByteArray.empty := by
      simp only [lstS, List.getD_eq_getElem?_getD, List.getElem?_map, List.getElem?_eq_getElem hj', Option.map_some, Option.getD_some]
    rw [h1, appS_getD _ _ _ _ _ hm]
    have h2 : ((lstZ T K H).getD j 0).toNat = (lst T K H)[j] := by
      rw [lstZ_at hj', List.getD_eq_getElem?_getD, List.getElem?_eq_getElem hj', Option.getD_some]
    show _ = appTo (fun k => genF K ((lstZ T K H).getD j 0).toNat k) D K
    rw [h2]
  have hll : (lstS T K H (appS (genF K) D H K)) = appS (pickF (genF K) (lstZ T K H)) D K K := getD_ext4 (by simp [lstS, appS, hl]) (fun q hq => e q (by simpa [lstS, hl] using hq))
  unfold backF
  rw [hll, ← app_mul4 (invF_bt hP K) hP D K i hK.1 (fun j hj => by rw [hD j hj, hD 0 hK.1])]
  have hr := lst_rank (T := T) (K := K) (H := H) hK.2 hH hl
  exact app_id hD hi' (fun j hj => inv_left hP hr hi' hj)
/-- of K pieces all come back -/
theorem pieces_back {T : Nat → Bool} {K H s : Nat} {D : List ByteArray} (hK : 0 < K ∧ K ≤ 255) (hH : H ≤ 255) (hl : (lst T K H).length = K) (hD : ∀ j, j < K → (D.getD j ByteArray.empty).size = s) (hDl : D.length = K) :
    appS (allB T K H) (lstS T K H (appS (genF K) D H K)) H K = appS (genF K) D H K := by
  have hs : ∀ j, j < K → ((lstS T K H (appS (genF K) D H K)).getD j ByteArray.empty).size = s := fun j hj => by
    have hj' : j < (lst T K H).length := by omega
    have hm := lst_lt (List.getElem_mem hj')
    have h1 : (lstS T K H (appS (genF K) D H K)).getD j ByteArray.empty = (appS (genF K) D H K).getD ((lst T K H)[j]) ByteArray.empty := by
      simp only [lstS, List.getD_eq_getElem?_getD, List.getElem?_map, List.getElem?_eq_getElem hj', Option.map_some, Option.getD_some]
    rw [h1, appS_getD _ _ _ _ _ hm, appTo_size, hD 0 hK.1]
  rw [rebuilt_same hK.1 hs, data_back hK hH hl hD hDl]
/-- how many of the first n are there -/
def cntT (T : Nat → Bool) : Nat → Nat
  | 0 => 0
  | n + 1 => cntT T n + if T n = true then 1 else 0
theorem lst_count {T : Nat → Bool} {K : Nat} : ∀ n, (lst T K n).length = min K (cntT T n)
  | 0 => by simp [lst, cntT]
  | n + 1 => by
    have ih := lst_count (T := T) (K := K) n
    simp only [lst, cntT]
    split
    · rename_i h
      rw [List.length_append, ih, if_pos h.1]
      have h2 := h.2
      rw [ih] at h2
      simp only [List.length_cons, List.length_nil]
      omega
    · rename_i h
      by_cases hT : T n = true
      · have h2 : ¬ (lst T K n).length < K := fun q => h ⟨hT, q⟩
        rw [ih] at h2 ⊢
        rw [if_pos hT]
        omega
      · rw [if_neg hT, ih]
        rfl
theorem cnt_not (T : Nat → Bool) : ∀ n, cntT T n + cntT (fun q => !T q) n = n
  | 0 => rfl
  | n + 1 => by
    have ih := cnt_not T n
    simp only [cntT]
    by_cases hT : T n = true
    · rw [if_pos hT, if_neg (by rw [hT]; decide)]; omega
    · rw [if_neg hT, if_pos (by simpa using hT)]; omega
/-- two unlike data's pieces are unlike in more than M places -/
theorem unlike_more {K M H s : Nat} {D E : List ByteArray} (hK : 0 < K ∧ K ≤ 255) (hH : H = K + M) (hH2 : H ≤ 255) (hD : ∀ j, j < K → (D.getD j ByteArray.empty).size = s) (hDl : D.length = K) (hE : ∀ j, j < K → (E.getD j ByteArray.empty).size = s) (hEl : E.length = K) (hne : ¬ D = E) :
    M < cntT (fun q => !decide ((appS (genF K) D H K).getD q ByteArray.empty = (appS (genF K) E H K).getD q ByteArray.empty)) H := by
  refine Nat.lt_of_not_le (fun hle => hne ?_)
  obtain ⟨T, hT⟩ : ∃ T : Nat → Bool, T = fun q => decide ((appS (genF K) D H K).getD q ByteArray.empty = (appS (genF K) E H K).getD q ByteArray.empty) := ⟨_, rfl⟩
  have hc := cnt_not T H
  have hle' : cntT (fun q => !T q) H ≤ M := by rw [hT]; exact hle
  have hl : (lst T K H).length = K := by rw [lst_count]; omega
  rw [← data_back (T := T) hK hH2 hl hD hDl, ← data_back (T := T) hK hH2 hl hE hEl]
  congr 1
  unfold lstS
  refine List.map_congr_left (fun i hi => ?_)
  have := lst_there hi
  rw [hT] at this
  exact of_decide_eq_true this
end Go.Proofs.Ytoonpnpooljmlaa
