/- What a product makes of lanes is what both make in turn (numbers below 256, lanes of one length). -/
import Derived.Test.YtlpjpeonejbpjaaMatAp
import Derived.Test.YtlpjpeonejbpjaaLaneOrders
namespace Go.Proofs.Ytlpjpeonejbpjaa

theorem app_byte (f : Nat → Nat) (ss : List ByteArray) (p : Nat) (hp : p < (ss.getD 0 ByteArray.empty).size) : ∀ n, (∀ j, j < n → (ss.getD j ByteArray.empty).size = (ss.getD 0 ByteArray.empty).size) →
    (byteAt (appTo f ss n) p).toNat = xs (fun j => Gf.mul (byteAt (ss.getD j ByteArray.empty) p).toNat (f j)) n
  | 0, _ => by
    show (byteAt (zeroS _) p).toNat = 0
    rw [byteAt_zero _ p hp]
    rfl
  | n + 1, h => by
    have ih := app_byte f ss p hp n (fun j hj => h j (by omega))
    show (byteAt (addedS (appTo f ss n) _) p).toNat = xs _ n ^^^ _
    rw [byteAt_added _ _ p (by rw [appTo_size]; exact hp), UInt8.toNat_xor, ih, byteAt_scaled _ _ p (by rw [h n (by omega)]; exact hp), gm_toNat]
theorem app_mul {A B : Nat → Nat → Nat} (hA : Bt A) (hB : Bt B) (ss : List ByteArray) (n i : Nat) (hn : 0 < n) (hs : ∀ j, j < n → (ss.getD j ByteArray.empty).size = (ss.getD 0 ByteArray.empty).size) :
    appTo (mulM n A B i) ss n = appTo (A i) (appS B ss n n) n := by
  have h0 : ((appS B ss n n).getD 0 ByteArray.empty).size = (ss.getD 0 ByteArray.empty).size := by rw [appS_getD _ _ _ _ _ hn, appTo_size]
  refine ext_byteAt (by rw [appTo_size, appTo_size, h0]) (fun p hp => u8_ext ?_)
  rw [appTo_size] at hp
  rw [app_byte _ ss p hp n hs, app_byte _ (appS B ss n n) p (by rw [h0]; exact hp) n (fun j hj => by rw [appS_getD _ _ _ _ _ hj, appTo_size, h0])]
  have hl : ∀ j, j < n → Gf.mul (byteAt (ss.getD j ByteArray.empty) p).toNat (mulM n A B i j) = xs (fun t => Gf.mul (Gf.mul (byteAt (ss.getD j ByteArray.empty) p).toNat (B t j)) (A i t)) n := fun j hj => by
    show Gf.mul _ (xs _ n) = _
    rw [xs_mul_left]
    exact xs_congr fun t ht => by rw [Gf.mul_comm (A i t) (B t j) (hA i t) (hB t j), Gf.mul_assoc _ _ _ (UInt8.toNat_lt _) (hB t j) (hA i t)]
  have hr : ∀ t, t < n → Gf.mul (byteAt ((appS B ss n n).getD t ByteArray.empty) p).toNat (A i t) = xs (fun j => Gf.mul (Gf.mul (byteAt (ss.getD j ByteArray.empty) p).toNat (B t j)) (A i t)) n := fun t ht => by
    rw [appS_getD _ _ _ _ _ ht, app_byte _ ss p hp n hs, xs_mul_right (fun j => Gf.mul_lt (UInt8.toNat_lt _) _)]
  rw [xs_congr hl, xs_congr hr, xs_swap]
end Go.Proofs.Ytlpjpeonejbpjaa
