/- Contracts laid together: what each says stands at its head (no conditions). -/
import Derived.Test.YtkfomaoillnehaaAr0
import Derived.Test.YtkfomaoillnehaaVc
import Derived.Test.YtkfomaoillnehaaText
import Derived.Test.YtkfomaoillnehaaTail
namespace Go.Proofs.Ytkfomaoillnehaa
open Go.RowKit
def arrS (g : Nat) (k c : Nat → ByteArray) : Arr := ⟨upF (fun _ => some freshD) 1 (some ⟨k, c⟩), 2, 8, g, -1⟩
theorem upF_twice {α : Type} (f : Nat → α) (i : Nat) (x y : α) : upF (upF f i x) i y = upF f i y := by
  funext j
  by_cases h : j = i
  · subst h; rw [upF_same, upF_same]
  · rw [upF_other _ _ h, upF_other _ _ h, upF_other _ _ h]
theorem arrS_new : newA 2 8 = arrS 0 (fun _ => zeroT) (fun _ => ByteArray.empty) := by
  have h : (fun _ : Nat => some freshD) = upF (fun _ => some freshD) 1 (some ⟨fun _ => zeroT, fun _ => ByteArray.empty⟩) := by
    funext j
    by_cases h : j = 1
    · subst h; rw [upF_same]; rfl
    · rw [upF_other _ _ h]
  unfold newA arrS
  rw [← h]
theorem arrS_one (g : Nat) (k c : Nat → ByteArray) : (arrS g k c).ds 1 = some ⟨k, c⟩ := upF_same (fun _ => some freshD) 1 (some (⟨k, c⟩ : Dsk))
theorem arrS_other (g : Nat) (k c : Nat → ByteArray) {j : Nat} (h : j ≠ 1) : (arrS g k c).ds j = some freshD := upF_other (fun _ => some freshD) (some (⟨k, c⟩ : Dsk)) h
theorem arrS_serve (g : Nat) (k c : Nat → ByteArray) : serveA (arrS g k c) 1 = 0 := by
  unfold serveA
  rw [arrS_one]
  rfl
theorem arrS_put (g : Nat) (k c : Nat → ByteArray) (k' c' : Nat → ByteArray) : putD (arrS g k c) 1 ⟨k', c'⟩ = arrS g k' c' := by
  unfold putD arrS
  dsimp only
  rw [upF_twice]
theorem arrS_chg (g : Nat) (k c : Nat → ByteArray) : chgA (arrS g k c) = arrS (g + 1) k c := rfl
theorem arrS_sec (g : Nat) (k c : Nat → ByteArray) (s : Nat) (hs : s < 8) : isSec (arrS g k c) s = true := decide_eq_true (show (0 : Int) ≤ s ∧ (s : Int) < ((8 : Nat) : Int) by omega)
theorem arrS_write (g : Nat) (k c : Nat → ByteArray) (s : Nat) (hs : s < 8) (t : ByteArray) (ht : t.size = 64) : writeA (arrS g k c) 1 s t = (arrS (g + 1) k (upF c s t), 0) := by
  unfold writeA
  rw [if_neg (by rw [arrS_sec g k c s hs]; intro h; rcases h with h | h <;> cases h), if_neg (by omega)]
  rw [show (1 : Int).toNat = 1 from rfl, if_pos (arrS_serve g k c), arrS_one]
  dsimp only
  rw [Int.toNat_natCast, arrS_put, arrS_chg]
theorem arrS_flush (g : Nat) (k c : Nat → ByteArray) : flushA (arrS g k c) 1 = (arrS (g + 1) (flushD ⟨k, c⟩ 8).k (flushD ⟨k, c⟩ 8).c, 0) := by
  unfold flushA
  rw [if_neg (by intro h; cases h), show (1 : Int).toNat = 1 from rfl, if_pos (arrS_serve g k c), arrS_one]
  dsimp only
  exact congrArg (fun z => (chgA z, (0 : Int))) (arrS_put g k c _ _)
theorem arrS_read (g : Nat) (k c : Nat → ByteArray) (s : Nat) (hs : s < 8) : readA (arrS g k c) 1 s = (readD ⟨k, c⟩ s, 0) := by
  unfold readA
  rw [if_neg (by rw [arrS_sec g k c s hs]; intro h; rcases h with h | h <;> cases h), show (1 : Int).toNat = 1 from rfl, if_pos (arrS_serve g k c), arrS_one]
  rfl
theorem fresh_dirty : ∀ n, dirtyR freshD n = 0
  | 0 => rfl
  | n + 1 => by unfold dirtyR; rw [fresh_dirty n]; rfl
theorem arrS_dirty (g : Nat) (k c : Nat → ByteArray) : dirtyA (arrS g k c) = dirtyR ⟨k, c⟩ 8 := by
  show dirtyD 8 (arrS g k c).ds 2 = _
  have h0 : (arrS g k c).ds 0 = some freshD := arrS_other g k c (by decide)
  unfold dirtyD dirtyD dirtyD
  rw [h0, arrS_one]
  dsimp only
  rw [fresh_dirty]
  omega
theorem fresh_crash (zs : List Int) (j : Nat) : ∀ n, crashR zs freshD j n = (freshD, j)
  | 0 => rfl
  | n + 1 => by unfold crashR; rw [fresh_crash zs j n]; rfl
theorem arrS_crash (g : Nat) (k c : Nat → ByteArray) (zs : List Int) : crashA (arrS g k c) zs = arrS g (crashR zs ⟨k, c⟩ 0 8).1.k (crashR zs ⟨k, c⟩ 0 8).1.c := by
  have h0 : (arrS g k c).ds 0 = some freshD := arrS_other g k c (by decide)
  have h : (crashD zs 8 (arrS g k c).ds 2).1 = upF (fun _ => some freshD) 1 (some (crashR zs ⟨k, c⟩ 0 8).1) := by
    unfold crashD crashD crashD
    rw [h0, arrS_one]
    dsimp only
    rw [fresh_crash]
    funext j
    by_cases q : j = 1
    · subst q; rw [upF_same, upF_same]
    · rw [upF_other _ _ q, upF_other _ _ q]
      by_cases q0 : j = 0
      · subst q0; rw [upF_same]
      · rw [upF_other _ _ q0]; exact arrS_other g k c q
  show Arr.mk (crashD zs 8 (arrS g k c).ds 2).1 2 8 g (-1) = _
  rw [h]
  rfl
theorem arrS_flip (g : Nat) (k c : Nat → ByteArray) : flipA (arrS g k c) 1 517 = (arrS g (upF k 1 (turnT (k 1) 5)) c, 0) := by
  unfold flipA
  rw [if_neg (by intro h; cases h), if_neg (by omega), show (1 : Int).toNat = 1 from rfl, arrS_one]
  dsimp only
  rw [arrS_put, show Int.toNat 517 % ((arrS g k c).n * 512) / 512 = 1 from (by show Int.toNat 517 % (8 * 512) / 512 = 1; decide), show Int.toNat 517 % ((arrS g k c).n * 512) % 512 = 5 from (by show Int.toNat 517 % (8 * 512) % 512 = 5; decide)]
/-- all sectors dirty: what a crash makes of the first n -/
theorem crash_all (zs : List Int) (k c : Nat → ByteArray) : ∀ n, (∀ i, i < n → (c i).size ≠ 0) → (crashR zs ⟨k, c⟩ 0 n).2 = n ∧ ∀ i, (crashR zs ⟨k, c⟩ 0 n).1.k i = (if i < n ∧ pickA zs i = true then c i else k i) ∧ (crashR zs ⟨k, c⟩ 0 n).1.c i = (if i < n then ByteArray.empty else c i)
  | 0, _ => ⟨rfl, fun i => ⟨by rw [if_neg (by omega)]; rfl, by rw [if_neg (by omega)]; rfl⟩⟩
  | n + 1, h => by
    obtain ⟨h1, h2⟩ := crash_all zs k c n (fun i hi => h i (by omega))
    unfold crashR
    dsimp only
    rw [if_neg (h n (by omega))]
    refine ⟨by dsimp only; rw [h1], fun i => ?_⟩
    dsimp only
    rw [h1]
    by_cases q : i = n
    · subst q
      refine ⟨?_, by rw [upF_same, if_pos (by omega)]⟩
      by_cases p : pickA zs i = true
      · rw [if_pos p, upF_same, if_pos ⟨by omega, p⟩]
      · rw [if_neg p, if_neg (fun x => p x.2), (h2 i).1, if_neg (fun x => p x.2)]
    · refine ⟨?_, ?_⟩
      · by_cases p : pickA zs n = true
        · rw [if_pos p, upF_other _ _ q, (h2 i).1]
          simp only [show (i < n + 1) = (i < n) from propext ⟨fun _ => by omega, fun _ => by omega⟩]
        · rw [if_neg p, (h2 i).1]
          simp only [show (i < n + 1) = (i < n) from propext ⟨fun _ => by omega, fun _ => by omega⟩]
      · rw [upF_other _ _ q, (h2 i).2]
        simp only [show (i < n + 1) = (i < n) from propext ⟨fun _ => by omega, fun _ => by omega⟩]
end Go.Proofs.Ytkfomaoillnehaa

namespace Go.Proofs.Ytkfomaoillnehaa
open Go.RowKit
/-- t in the first j sectors -/
def firstF (f : Nat → ByteArray) (t : ByteArray) (j : Nat) : Nat → ByteArray := fun i => if i < j then t else f i
theorem firstF_zero (f : Nat → ByteArray) (t : ByteArray) : firstF f t 0 = f := by funext i; exact if_neg (by omega)
theorem firstF_step (f : Nat → ByteArray) (t : ByteArray) (j : Nat) : upF (firstF f t j) j t = firstF f t (j + 1) := by
  funext i
  unfold firstF
  by_cases q : i = j
  · subst q; rw [upF_same, if_pos (by omega)]
  · rw [upF_other _ _ q]
    simp only [show (i < j + 1) = (i < j) from propext ⟨fun _ => by omega, fun _ => by omega⟩]
/-- one write more of the eight -/
theorem stays_write (g : Nat) (k c : Nat → ByteArray) (s : Nat) (hs : s < 8) (t : ByteArray) (ht : t.size = 64) : writeA (arrS g k (firstF c t s)) 1 s t = (arrS (g + 1) k (firstF c t (s + 1)), 0) := by
  rw [arrS_write g k _ s hs t ht, firstF_step]
theorem dirty_all (k c : Nat → ByteArray) : ∀ n, (∀ i, i < n → (c i).size ≠ 0) → dirtyR ⟨k, c⟩ n = n
  | 0, _ => rfl
  | n + 1, h => by unfold dirtyR; rw [dirty_all k c n (fun i hi => h i (by omega)), if_neg (h n (by omega))]
theorem dirty_none (k c : Nat → ByteArray) : ∀ n, (∀ i, i < n → (c i).size = 0) → dirtyR ⟨k, c⟩ n = 0
  | 0, _ => rfl
  | n + 1, h => by unfold dirtyR; rw [dirty_none k c n (fun i hi => h i (by omega)), if_pos (h n (by omega))]
theorem stays_none (zs : List Int) (k c : Nat → ByteArray) : ∀ n, (∀ i, i < n → (c i).size = 0) → crashR zs ⟨k, c⟩ 0 n = (⟨k, c⟩, 0)
  | 0, _ => rfl
  | n + 1, h => by unfold crashR; rw [stays_none zs k c n (fun i hi => h i (by omega))]; dsimp only; rw [if_pos (h n (by omega))]
/-- behind the first eight writes and the flush -/
theorem stays_flushed (k c : Nat → ByteArray) (t : ByteArray) (ht : t.size = 64) : ∀ i, i < 8 → (flushD ⟨k, firstF c t 8⟩ 8).k i = t ∧ (flushD ⟨k, firstF c t 8⟩ 8).c i = ByteArray.empty := fun i hi => by
  have e : firstF c t 8 i = t := if_pos hi
  refine ⟨?_, if_pos hi⟩
  show (if i < 8 ∧ (firstF c t 8 i).size ≠ 0 then firstF c t 8 i else k i) = t
  rw [e]
  exact if_pos ⟨hi, by omega⟩
/-- behind the crash: what each of the eight sectors holds -/
theorem stays_crashed (zs : List Int) (k c : Nat → ByteArray) (old now : ByteArray) (hn : now.size = 64) (hk : ∀ i, i < 8 → k i = old) : ∀ i, i < 8 → (crashR zs ⟨k, firstF c now 8⟩ 0 8).1.k i = (if pickA zs i = true then now else old) ∧ (crashR zs ⟨k, firstF c now 8⟩ 0 8).1.c i = ByteArray.empty := fun i hi => by
  obtain ⟨_, h2⟩ := crash_all zs k (firstF c now 8) 8 (fun i hi => by unfold firstF; rw [if_pos hi]; omega)
  rw [(h2 i).1, (h2 i).2, if_pos hi]
  refine ⟨?_, rfl⟩
  by_cases p : pickA zs i = true
  · rw [if_pos ⟨hi, p⟩, if_pos p]; exact if_pos hi
  · rw [if_neg (fun x => p x.2), if_neg p, hk i hi]
/-- a sector with nothing in the cache is read as it lies on the disk -/
theorem read_none (k c : Nat → ByteArray) (s : Nat) (h : (c s).size = 0) : readD ⟨k, c⟩ s = k s := if_pos h
end Go.Proofs.Ytkfomaoillnehaa

namespace Go.Proofs.Ytkfomaoillnehaa
open Go.RowKit
theorem turn5_is (x : UInt8) (r : List UInt8) : turnT ⟨⟨x :: r⟩⟩ 5 = ⟨⟨(x ^^^ 32) :: r⟩⟩ := by
  unfold turnT
  rw [show (1 : UInt8) <<< UInt8.ofNat (5 % 8) = 32 from by decide]
  rfl
theorem turn5_zero (w : ByteArray) (h : w.size = 64) : (turnT w 5).data.toList.getD 0 0 = w.data.toList.getD 0 0 ^^^ 32 := by
  obtain ⟨⟨l⟩⟩ := w
  cases l with
  | nil => cases h
  | cons x r => rw [turn5_is]; rfl
theorem turn5_rest (w : ByteArray) (h : w.size = 64) : (turnT w 5).extract 1 64 = w.extract 1 64 := by
  obtain ⟨⟨l⟩⟩ := w
  cases l with
  | nil => cases h
  | cons x r =>
    rw [turn5_is]
    apply ByteArray.ext
    simp [ByteArray.data_extract, List.extract_toArray]
end Go.Proofs.Ytkfomaoillnehaa

namespace Go.Proofs.Ytkfomaoillnehaa
open Go.RowKit
attribute [local go_sem] Oper.semAt_some
structure StA (B : Nat) (w0 w : World) (p D : Nat) (K C : Nat → Nat) (g : Nat) (k c : Nat → ByteArray) : Prop where
  a : ArP w p D K C (arrS g k c)
  low : Below B w0 w
  pB : B ≤ p
  kB : ∀ d, d < 2 → B ≤ K d ∧ B ≤ C d
  sz : B ≤ w.heap.size
variable {B : Nat} {w0 w w' : World} {p D : Nat} {K C : Nat → Nat} {g : Nat} {k c : Nat → ByteArray}
theorem StA.kept (h : StA B w0 w p D K C g k c) (q : Kept w w') : StA B w0 w' p D K C g k c :=
  ⟨h.a.kept q, Below.trans h.low (Below.mono q h.sz), h.pB, h.kB, Nat.le_trans h.sz (Kept.size q)⟩
theorem StA.next {S : Arr} {g' : Nat} {k' c' : Nat → ByteArray} (h : StA B w0 w p D K C g k c) (ha : ArP w' p D K C S) (hn : ArN B w p D K C 2 w' K C) (e : S = arrS g' k' c') : StA B w0 w' p D K C g' k' c' :=
  ⟨e ▸ ha, Below.trans h.low hn.low, h.pB, h.kB, Nat.le_trans h.sz hn.but.size⟩
theorem StA.write {s : Nat} {t : ByteArray} (h : StA B w0 w p D K C g k (firstF c t s)) (hs : s < 8) (ht : t.size = 64) (hg : g ≤ 1000) :
    Calls Try.prog 22 #[.pointer (some ⟨p, 0, none⟩), .int .i64 1, .int .i64 s, .string t] w fun e w' => e = .returned (.int .i64 0) ∧ StA B w0 w' p D K C (g + 1) k (firstF c t (s + 1)) := by
  refine (write_arr (B := B) h.a h.pB (fun d hd => (h.kB d hd).2) (show g ≤ 9007199254740992 by omega) h.sz 1 s t).mono ?_
  rintro e w' ⟨rfl, ha, hn⟩
  have e1 := stays_write g k c s hs t ht
  exact ⟨by rw [e1], h.next ha hn (by rw [e1])⟩
theorem StA.flush {t : ByteArray} (h : StA B w0 w p D K C g k (firstF c t 8)) (ht : t.size = 64) (hg : g ≤ 1000) :
    Calls Try.prog 23 #[.pointer (some ⟨p, 0, none⟩), .int .i64 1] w fun e w' => e = .returned (.int .i64 0) ∧ ∃ k' c', (∀ i, i < 8 → k' i = t ∧ c' i = ByteArray.empty) ∧ StA B w0 w' p D K C (g + 1) k' c' := by
  refine (flush_arr (B := B) h.a h.pB h.kB (show g ≤ 9007199254740992 by omega) h.sz 1).mono ?_
  rintro e w' ⟨rfl, ha, hn⟩
  have e1 := arrS_flush g k (firstF c t 8)
  exact ⟨by rw [e1], _, _, stays_flushed k c t ht, h.next ha hn (by rw [e1])⟩
theorem StA.dirtied (h : StA B w0 w p D K C g k c) {n : Nat} {z : Int} (hn : dirtyR ⟨k, c⟩ 8 = n) (hz : (n : Int) = z) :
    Calls Try.prog 24 #[.pointer (some ⟨p, 0, none⟩)] w fun e w' => e = .returned (.int .i64 z) ∧ Kept w w' := by
  refine (dirty_arr h.a).mono ?_
  rintro e w' ⟨rfl, hk⟩
  exact ⟨by rw [arrS_dirty, hn, hz], hk⟩
theorem StA.crash {old now : ByteArray} (h : StA B w0 w p D K C g k (firstF c now 8)) (hnw : now.size = 64) (hk : ∀ i, i < 8 → k i = old) (al : Option Addr) (ll cl : Nat) (zs : List Int) (hl : ∀ W, ArW B w p D K C 2 W → IntsIn W .i64 al ll zs) :
    Calls Try.prog 16 #[.pointer (some ⟨p, 0, none⟩), .slice al ll cl] w fun e w' => e = .returned (.tuple #[]) ∧ ∃ k' c', (∀ i, i < 8 → k' i = (if pickA zs i = true then now else old) ∧ c' i = ByteArray.empty) ∧ StA B w0 w' p D K C g k' c' := by
  refine (crash_arr (B := B) h.a h.pB h.kB h.sz al ll cl zs hl).mono ?_
  rintro e w' ⟨rfl, ha, hn⟩
  exact ⟨rfl, _, _, stays_crashed zs k c old now hnw hk, h.next ha hn (arrS_crash g k _ zs)⟩
theorem StA.still (h : StA B w0 w p D K C g k c) (hc : ∀ i, i < 8 → (c i).size = 0) (al : Option Addr) (ll cl : Nat) (zs : List Int) (hl : ∀ W, ArW B w p D K C 2 W → IntsIn W .i64 al ll zs) :
    Calls Try.prog 16 #[.pointer (some ⟨p, 0, none⟩), .slice al ll cl] w fun e w' => e = .returned (.tuple #[]) ∧ StA B w0 w' p D K C g k c := by
  refine (crash_arr (B := B) h.a h.pB h.kB h.sz al ll cl zs hl).mono ?_
  rintro e w' ⟨rfl, ha, hn⟩
  exact ⟨rfl, h.next ha hn (by rw [arrS_crash, stays_none zs k c 8 hc])⟩
theorem StA.read (h : StA B w0 w p D K C g k c) {s : Nat} (hs : s < 8) {t : ByteArray} (ht : k s = t) (hc : c s = ByteArray.empty) :
    Calls Try.prog 18 #[.pointer (some ⟨p, 0, none⟩), .int .i64 1, .int .i64 s] w fun e w' => e = .returned (.tuple #[.string t, .int .i64 0]) ∧ Kept w w' := by
  refine (read_arr h.a 1 s).mono ?_
  rintro e w' ⟨rfl, hk⟩
  have e1 := arrS_read g k c s hs
  rw [read_none k c s (by rw [hc]; rfl), ht] at e1
  exact ⟨by rw [e1], hk⟩
theorem StA.flip (h : StA B w0 w p D K C g k c) (hk : ∀ i, i < 8 → (k i).size = 64) :
    Calls Try.prog 25 #[.pointer (some ⟨p, 0, none⟩), .int .i64 1, .int .i64 517] w fun e w' => e = .returned (.int .i64 0) ∧ StA B w0 w' p D K C g (upF k 1 (turnT (k 1) 5)) c := by
  refine (flip_arr (B := B) h.a (fun d hd => (h.kB d hd).1) h.sz 1 517 (by decide) ?_).mono ?_
  · intro x hx i hi
    rw [show (1 : Int).toNat = 1 from rfl, arrS_one] at hx
    cases hx
    exact hk i hi
  rintro e w' ⟨rfl, ha, hn⟩
  have e1 := arrS_flip g k c
  exact ⟨by rw [e1], h.next ha hn (by rw [e1])⟩
theorem ints_block {W : World} {b : Nat} {t : TypeId} (h : BlockAt W b #[.int .i64 1] t) : IntsIn W .i64 (some ⟨b, 0, none⟩) 1 [1] :=
  ⟨rfl, by omega, by decide, b, 0, fun _ => rfl, fun i hi => by
    obtain rfl : i = 0 := by omega
    exact ⟨h.lt, h.cell 0⟩⟩
theorem ints_still {W W' : World} {b : Nat} {t : TypeId} (h : BlockAt W b #[.int .i64 1] t) (hf : ∀ b', (b' = p ∨ ArF D K C 2 b') → b' ≠ b) (q : ArW B W p D K C 2 W') : IntsIn W' .i64 (some ⟨b, 0, none⟩) 1 [1] :=
  ints_block (h.but q.but (fun e => hf b e rfl))
theorem byte_at (t : ByteArray) (h : 0 < t.size) : t[0] = t.data.toList.getD 0 0 := by
  obtain ⟨⟨l⟩⟩ := t
  cases l with
  | nil => cases h
  | cons x r => rfl
theorem lastsT {t was : ByteArray} (hw : was.size = 64) (ht : t = turnT was 5) : t.size = 64 ∧ (∀ (h1 : 0 < t.size) (h2 : 0 < was.size), (((t[0]'h1).toNat : Int) != bits .xor .u8 ((was[0]'h2).toNat : Int) 32) = false) ∧ t.extract 1 64 = was.extract 1 64 := by
  subst ht
  refine ⟨(turnT_size was 5).trans hw, fun h1 h2 => ?_, turn5_rest was hw⟩
  have e := turn_bit (was[0]'h2) 5 (by decide)
  rw [show ((2 : Int) ^ 5 % 256) = 32 from by decide] at e
  rw [e, byte_at _ h1, byte_at _ h2, turn5_zero was hw, show (1 : UInt8) <<< UInt8.ofNat 5 = 32 from by decide]
  simp
end Go.Proofs.Ytkfomaoillnehaa

namespace Go.Proofs.Ytkfomaoillnehaa
instance (w : World) : Nonempty (Later w) := ⟨⟨w, Kept.refl w⟩⟩
theorem wpIn_region_later_tail {F : Fence} {n : Nat} {P : Program} {id : Nat} {Q : Exit → Act → World → Prop} {a : Act} {w : World} {l : List Oper} (m : Nat) (hm : P.follows .mixedOrders = true) (hnd : l.toArray.all Oper.noDefer = true) (hB : Region.lexTailB .any l.toArray m = true)
    (h : wpQuietIn F n P l.toArray (fun w' => ∃ u : Later w, w' = u.1) (fun a' => ∀ w', (∃ u : Later w, w' = u.1) → wpListIn F n P l.toArray Q (l.drop m) a' w') (l.take m) a) : (Code.region id l.toArray true).wpIn F n P Q a w :=
  wpIn_region_quiet_tail m hm hnd hB ⟨⟨{ w with drawn := w.drawn + 1 }, ⟨rfl, rfl, rfl, Nat.le_refl _, fun _ _ => rfl⟩⟩, rfl⟩ h
end Go.Proofs.Ytkfomaoillnehaa

