/- A manifest's bytes are taken as it; lists put together (nothing of the program). -/
import Derived.Test.YthdlmpgojoaijaaMr3
import Derived.Test.YthdlmpgojoaijaaMs2
namespace Go.Proofs.Ythdlmpgojoaijaa
open Go.RowKit

theorem cats_drop : ∀ (l : List ByteArray) (k : Nat), szB l = true → (cats l).drop (k * 32) = cats (l.drop k)
  | l, 0, _ => by simp
  | [], k + 1, _ => by simp [cats]
  | s :: l, k + 1, h => by
    unfold szB at h
    rw [List.all_cons, Bool.and_eq_true] at h
    have h1 : s.data.toList.length = 32 := by have := of_decide_eq_true h.1; simpa using this
    have e : cats (s :: l) = s.data.toList ++ cats l := by unfold cats; rw [List.flatMap_cons]
    rw [e, show (k + 1) * 32 = 32 + k * 32 by omega, ← List.drop_drop, List.drop_left' h1, cats_drop l k h.2]
    rfl
theorem cats_at {l : List ByteArray} {k : Nat} (h : szB l = true) (hk : k < l.length) : ((cats l).drop (k * 32)).take 32 = (txt l k).data.toList := by
  rw [cats_drop l k h, List.drop_eq_getElem_cons hk]
  have h32 := szB_at h hk
  have e : txt l k = l[k] := by unfold txt; simp [List.getD, hk]
  rw [e] at h32 ⊢
  have h1 : l[k].data.toList.length = 32 := by simpa using h32
  unfold cats
  rw [List.flatMap_cons, List.take_left' h1]
theorem dgL_cats {l : List ByteArray} (h : szB l = true) (t : ByteArray) (ht : t.data.toList = cats l) : dgL t = l := by
  have hs : t.size = 32 * l.length := by
    have := cats_len l h
    rw [← ht] at this
    simpa using this
  have hn : nDg t = l.length := by unfold nDg; omega
  refine List.ext_getElem (by rw [dgL_length, hn]) (fun i h1 h2 => ?_)
  have e : (dgL t)[i] = dgAt t i := by simp [dgL]
  rw [e]
  apply bytes_ext
  rw [dgAt_list, ht, cats_at h h2]
  unfold txt
  simp [List.getD, h2]
theorem szB_append (a b : List ByteArray) : szB (a ++ b) = (szB a && szB b) := by unfold szB; rw [List.all_append]
theorem mfT_size {m : Mf} (h : mfB m = true) : (mfT m).size = 7 + 32 * (m.bs.length + m.us.length) := by
  obtain ⟨_, _, _, hb, hu, _, _⟩ := mfB_true h
  have : (mfT m).data.toList.length = 7 + 32 * (m.bs.length + m.us.length) := by
    show (mfBytes m).length = _
    unfold mfBytes
    rw [List.length_append, List.length_append, cats_len _ hb, cats_len _ hu]
    simp
    omega
  simpa using this
theorem rawM_back {m : Mf} (h : mfB m = true) : rawM (mfT m) = m := by
  obtain ⟨h20, hk0, hk1, hb, hu, _, _⟩ := mfB_true h
  have hL : (mfT m).data.toList = [77, 65, 78, 70, UInt8.ofNat m.k.toNat, UInt8.ofNat m.bs.length, UInt8.ofNat m.us.length] ++ cats m.bs ++ cats m.us := rfl
  have e4 : byt (mfT m) 4 = UInt8.ofNat m.k.toNat := by unfold byt; rw [hL]; rfl
  have e5 : byt (mfT m) 5 = UInt8.ofNat m.bs.length := by unfold byt; rw [hL]; rfl
  have n4 : ((byt (mfT m) 4).toNat : Int) = m.k := by
    rw [e4]
    have : (UInt8.ofNat m.k.toNat).toNat = m.k.toNat := by simp; omega
    rw [this]
    omega
  have n5 : (byt (mfT m) 5).toNat = m.bs.length := by rw [e5]; simp; omega
  have hd : dgL (tlM (mfT m)) = m.bs ++ m.us := dgL_cats (by rw [szB_append, hb, hu]; rfl) _ (by
    rw [tlM_list, hL, cats_append, List.append_assoc]
    rfl)
  unfold rawM
  rw [n4, n5, hd, List.take_left, List.drop_left]
theorem take_back {m : Mf} (h : mfB m = true) : takeM (mfT m) = some m := by
  have h20 := (mfB_true h).1
  unfold takeM
  rw [rawM_back h, mfT_size h, if_pos ⟨by omega, by omega, h, rfl⟩]
theorem mfMade_iff (k : Int) (bs us : List ByteArray) : mfMade ⟨k, bs, us⟩ = ((decide (0 ≤ k) && decide (k ≤ 255)) && szB (bs ++ us)) := by
  unfold mfMade
  dsimp only
  rw [szB_append]
  cases decide (0 ≤ k) <;> cases decide (k ≤ 255) <;> rfl
theorem sorted_may {k : Int} {bs us : List ByteArray} (h : mfMade ⟨k, bs, us⟩ = true) (hf : mfFew ⟨k, risen bs, risen us⟩ = true) : mfB ⟨k, risen bs, risen us⟩ = true ∧ mfMade ⟨k, risen bs, risen us⟩ = true := by
  unfold mfMade at h
  dsimp only at h
  simp only [Bool.and_eq_true] at h
  have hm : mfMade ⟨k, risen bs, risen us⟩ = true := by
    unfold mfMade
    dsimp only
    rw [h.1, h.2.1, risen_szB _ h.2.2.1, risen_szB _ h.2.2.2]
    rfl
  refine ⟨?_, hm⟩
  unfold mfB
  rw [hf, hm]
  dsimp only
  rw [risen_riB, risen_riB]
  rfl
end Go.Proofs.Ythdlmpgojoaijaa
