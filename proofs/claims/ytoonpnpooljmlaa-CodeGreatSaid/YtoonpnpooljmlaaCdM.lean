/- What a product of matrices makes of texts is what both make in turn; what is rebuilt is what the reference rebuilds (nothing of the program). -/
import Derived.Test.YtoonpnpooljmlaaQa11
namespace Go.Proofs.Ytoonpnpooljmlaa
open Go.RowKit

theorem ext_byteAt4 {a b : ByteArray} (h : a.size = b.size) (hb : ∀ i, i < a.size → byteAt a i = byteAt b i) : a = b := by
  apply ByteArray.ext
  apply Array.ext h
  intro i h1 h2
  have h := hb i h1
  rw [← byteAt_get a i h1, ← byteAt_get b i h2] at h
  exact h
theorem byteAt_list4 (l : List UInt8) (k : Nat) : byteAt ⟨l.toArray⟩ k = l.getD k 0 := rfl
theorem list_byteAt4 (s : ByteArray) (i : Nat) (hi : i < s.size) : s.data.toList[i]'(by simpa using hi) = byteAt s i := by
  unfold byteAt; rw [List.getD_eq_getElem?_getD, List.getElem?_eq_getElem (by simpa using hi)]; rfl
theorem byteAt_added4 (a b : ByteArray) (i : Nat) (hi : i < a.size) : byteAt (addedS a b) i = byteAt a i ^^^ byteAt b i := by
  have hi' : i < a.data.toList.length := by simpa using hi
  unfold addedS
  rw [byteAt_list4, List.getD_eq_getElem?_getD, List.getElem?_eq_getElem (by simpa [added] using hi')]
  simp only [added, List.getElem_mapIdx, Option.getD_some, list_byteAt4 a i hi]
theorem u8_ext4 {x y : UInt8} (h : x.toNat = y.toNat) : x = y := UInt8.toNat_inj.1 h
theorem byteAt_zero4 (n i : Nat) (hi : i < n) : byteAt (zeroS n) i = 0 := by
  unfold zeroS; rw [byteAt_list4, List.getD_eq_getElem?_getD, List.getElem?_eq_getElem (by simpa using hi)]; simp
theorem byteAt_scaled4 (b : ByteArray) (c i : Nat) (hi : i < b.size) : byteAt (scaledS b c) i = gm (byteAt b i) c := by
  have hi' : i < b.data.toList.length := by simpa using hi
  have e : byteAt b i = b.data.toList[i] := by
    unfold byteAt; rw [List.getD_eq_getElem?_getD, List.getElem?_eq_getElem hi']; rfl
  rw [e]
  unfold byteAt scaledS scaled
  simp [List.getD_eq_getElem?_getD, hi]
theorem app_byte4 (f : Nat → Nat) (ss : List ByteArray) (p : Nat) (hp : p < (ss.getD 0 ByteArray.empty).size) : ∀ n, (∀ j, j < n → (ss.getD j ByteArray.empty).size = (ss.getD 0 ByteArray.empty).size) →
    (byteAt (appTo f ss n) p).toNat = xs (fun j => Gf.mul (byteAt (ss.getD j ByteArray.empty) p).toNat (f j)) n
  | 0, _ => by
    show (byteAt (zeroS _) p).toNat = 0
    rw [byteAt_zero4 _ p hp]
    rfl
  | n + 1, h => by
    have ih := app_byte4 f ss p hp n (fun j hj => h j (by omega))
    show (byteAt (addedS (appTo f ss n) _) p).toNat = xs _ n ^^^ _
    rw [byteAt_added4 _ _ p (by rw [appTo_size]; exact hp), UInt8.toNat_xor, ih, byteAt_scaled4 _ _ p (by rw [h n (by omega)]; exact hp), gm_toNat]
theorem app_mul4 {A B : Nat → Nat → Nat} (hA : Bt A) (hB : Bt B) (ss : List ByteArray) (n i : Nat) (hn : 0 < n) (hs : ∀ j, j < n → (ss.getD j ByteArray.empty).size = (ss.getD 0 ByteArray.empty).size) :
    appTo (mulM n A B i) ss n = appTo (A i) (appS B ss n n) n := by
  have h0 : ((appS B ss n n).getD 0 ByteArray.empty).size = (ss.getD 0 ByteArray.empty).size := by rw [appS_getD _ _ _ _ _ hn, appTo_size]
  refine ext_byteAt4 (by rw [appTo_size, appTo_size, h0]) (fun p hp => u8_ext4 ?_)
  rw [appTo_size] at hp
  rw [app_byte4 _ ss p hp n hs, app_byte4 _ (appS B ss n n) p (by rw [h0]; exact hp) n (fun j hj => by rw [appS_getD _ _ _ _ _ hj, appTo_size, h0])]
  have hl : ∀ j, j < n → Gf.mul (byteAt (ss.getD j ByteArray.empty) p).toNat (mulM n A B i j) = xs (fun t => Gf.mul (Gf.mul (byteAt (ss.getD j ByteArray.empty) p).toNat (B t j)) (A i t)) n := fun j hj => by
    show Gf.mul _ (xs _ n) = _
    rw [xs_mul_left]
    exact xs_congr fun t ht => by rw [Gf.mul_comm (A i t) (B t j) (hA i t) (hB t j), Gf.mul_assoc _ _ _ (UInt8.toNat_lt _) (hB t j) (hA i t)]
  have hr : ∀ t, t < n → Gf.mul (byteAt ((appS B ss n n).getD t ByteArray.empty) p).toNat (A i t) = xs (fun j => Gf.mul (Gf.mul (byteAt (ss.getD j ByteArray.empty) p).toNat (B t j)) (A i t)) n := fun t ht => by
    rw [appS_getD _ _ _ _ _ ht, app_byte4 _ ss p hp n hs, xs_mul_right (fun j => Gf.mul_lt (UInt8.toNat_lt _) _)]
  rw [xs_congr hl, xs_congr hr, xs_swap]
/-- the pieces that code.Rebuild reckons are those of the reference -/
theorem rebuilt_same {T : Nat → Bool} {K H s : Nat} (hK : 0 < K) {ts : List ByteArray} (hs : ∀ j, j < K → (ts.getD j ByteArray.empty).size = s) :
    appS (allB T K H) ts H K = appS (genF K) (appS (backF T K H) ts K K) H K :=
  List.map_congr_left fun i _ => app_mul4 (genF_bt K) (invF_bt (fun i j => genF_bt K _ _) K) ts K i hK (fun j hj => by rw [hs j hj, hs 0 hK])
end Go.Proofs.Ytoonpnpooljmlaa
