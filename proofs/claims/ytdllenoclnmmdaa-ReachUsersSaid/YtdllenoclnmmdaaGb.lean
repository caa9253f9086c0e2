/- Contracts laid together: what each says stands at its head (no conditions). -/
import Derived.Sort.QuietIn
import Derived.StillTail
import Derived.RangeFuncCalls
import Derived.Test.YtdllenoclnmmdaaRows
import Derived.Test.YtdllenoclnmmdaaHp
import Derived.Laws.BitsAllLaws
import Derived.IntWalk
import Derived.Outline
import Derived.Deep.DeepCutAuto
import Derived.Test.YtdllenoclnmmdaaGz
namespace Go.Proofs.Ytdllenoclnmmdaa.Bl
def add (x y : Nat) : Nat := (x + y) % 4294967296
def rot (x n : Nat) : Nat := x / 2 ^ n ||| x * 2 ^ (32 - n) % 4294967296
theorem add_lt (x y : Nat) : add x y < 4294967296 := Nat.mod_lt _ (by decide)
theorem add_assoc (x y z : Nat) : add (add x y) z = add x (add y z) := by unfold add; omega
theorem xor_lt {x y : Nat} (hx : x < 4294967296) (hy : y < 4294967296) : x ^^^ y < 4294967296 := Nat.xor_lt_two_pow (n := 32) hx hy
theorem or_lt {x y : Nat} (hx : x < 4294967296) (hy : y < 4294967296) : x ||| y < 4294967296 := Nat.or_lt_two_pow (n := 32) hx hy
theorem rot_lt {x : Nat} (hx : x < 4294967296) (n : Nat) : rot x n < 4294967296 :=
  or_lt (Nat.lt_of_le_of_lt (Nat.div_le_self _ _) hx) (Nat.mod_lt _ (by decide))
/-- so many numbers, each below 2^32 -/
structure W (n : Nat) (v : List Nat) : Prop where
  len : v.length = n
  lt : ∀ x ∈ v, x < 4294967296
theorem W.at {n : Nat} {v : List Nat} (h : W n v) (i : Nat) : v.getD i 0 < 4294967296 := by
  rw [List.getD_eq_getElem?_getD]
  rcases Nat.lt_or_ge i v.length with k | k
  · rw [List.getElem?_eq_getElem k]; exact h.lt _ (List.getElem_mem k)
  · rw [List.getElem?_eq_none k]; decide
theorem W.set {n : Nat} {v : List Nat} (h : W n v) (i : Nat) {x : Nat} (hx : x < 4294967296) : W n (v.set i x) :=
  ⟨by rw [List.length_set]; exact h.len, fun y hy => by
    rcases List.mem_or_eq_of_mem_set hy with k | k
    · exact h.lt _ k
    · rw [k]; exact hx⟩
theorem W.zeros (n : Nat) : W n (List.replicate n 0) := ⟨by simp, fun x hx => by rw [List.eq_of_mem_replicate hx]; decide⟩
theorem getD_set (v : List Nat) (i j x : Nat) (hi : i < v.length) : (v.set i x).getD j 0 = if i = j then x else v.getD j 0 := by
  by_cases h : i = j
  · subst h; simp [List.getD_eq_getElem?_getD, hi]
  · simp [List.getD_eq_getElem?_getD, h]
/-! two numbers turned into four of sixteen -/
def s0 (v : List Nat) (a b : Nat) (x : Nat) : List Nat := v.set a (add (add (v.getD a 0) (v.getD b 0)) x)
def s1 (v : List Nat) (d a n : Nat) : List Nat := v.set d (rot (v.getD d 0 ^^^ v.getD a 0) n)
def s2 (v : List Nat) (c d : Nat) : List Nat := v.set c (add (v.getD c 0) (v.getD d 0))
theorem s0_ok {n : Nat} {v : List Nat} (h : W n v) (a b x : Nat) : W n (s0 v a b x) := h.set _ (add_lt _ _)
theorem s1_ok {n : Nat} {v : List Nat} (h : W n v) (d a k : Nat) : W n (s1 v d a k) := h.set _ (rot_lt (xor_lt (h.at _) (h.at _)) _)
theorem s2_ok {n : Nat} {v : List Nat} (h : W n v) (c d : Nat) : W n (s2 v c d) := h.set _ (add_lt _ _)
def mix (v : List Nat) (a b c d x y : Nat) : List Nat :=
  s1 (s2 (s1 (s0 (s1 (s2 (s1 (s0 v a b x) d a 16) c d) b c 12) a b y) d a 8) c d) b c 7
theorem mix_ok {n : Nat} {v : List Nat} (h : W n v) (a b c d x y : Nat) : W n (mix v a b c d x y) :=
  s1_ok (s2_ok (s1_ok (s0_ok (s1_ok (s2_ok (s1_ok (s0_ok h _ _ _) _ _ _) _ _) _ _ _) _ _ _) _ _ _) _ _) _ _ _
/-! a block's rounds -/
def orders : List (List Nat) := [
  [0, 1, 2, 3, 4, 5, 6, 7, 8, 9, 10, 11, 12, 13, 14, 15],
  [14, 10, 4, 8, 9, 15, 13, 6, 1, 12, 0, 2, 11, 7, 5, 3],
  [11, 8, 12, 0, 5, 2, 15, 13, 10, 14, 3, 6, 7, 1, 9, 4],
  [7, 9, 3, 1, 13, 12, 11, 14, 2, 6, 5, 10, 4, 0, 15, 8],
  [9, 0, 5, 7, 2, 4, 10, 15, 14, 1, 11, 12, 6, 8, 3, 13],
  [2, 12, 6, 10, 0, 11, 8, 3, 4, 13, 7, 5, 15, 14, 1, 9],
  [12, 5, 1, 15, 14, 13, 4, 10, 0, 7, 6, 3, 9, 2, 8, 11],
  [13, 11, 7, 14, 12, 1, 3, 9, 5, 0, 15, 4, 8, 6, 2, 10],
  [6, 15, 14, 9, 11, 3, 0, 8, 12, 2, 13, 7, 1, 4, 10, 5],
  [10, 2, 8, 4, 7, 6, 1, 5, 15, 11, 9, 14, 3, 12, 13, 0]]
def begins : List Nat := [1779033703, 3144134277, 1013904242, 2773480762, 1359893119, 2600822924, 528734635, 1541459225]
theorem begins_ok : W 8 begins := ⟨rfl, by decide⟩
theorem order_lt (r i : Nat) : (orders.getD r []).getD i 0 < 16 := by
  have h : ∀ l ∈ orders, ∀ x ∈ l, x < 16 := by decide
  rw [List.getD_eq_getElem?_getD, List.getD_eq_getElem?_getD]
  rcases Nat.lt_or_ge r orders.length with k | k
  · rw [List.getElem?_eq_getElem k]
    rcases Nat.lt_or_ge i orders[r].length with q | q
    · simp only [Option.getD_some]; rw [List.getElem?_eq_getElem q]; exact h _ (List.getElem_mem k) _ (List.getElem_mem q)
    · simp only [Option.getD_some]; rw [List.getElem?_eq_none q]; decide
  · rw [List.getElem?_eq_none k]; simp
def halfA (m o v : List Nat) : Nat → List Nat
  | 0 => v
  | k + 1 => mix (halfA m o v k) k (4 + k) (8 + k) (12 + k) (m.getD (o.getD (2 * k) 0) 0) (m.getD (o.getD (2 * k + 1) 0) 0)
def halfB (m o v : List Nat) : Nat → List Nat
  | 0 => v
  | k + 1 => mix (halfB m o v k) k (4 + (k + 1) % 4) (8 + (k + 2) % 4) (12 + (k + 3) % 4) (m.getD (o.getD (8 + 2 * k) 0) 0) (m.getD (o.getD (9 + 2 * k) 0) 0)
theorem halfA_ok {m o v : List Nat} (h : W 16 v) : ∀ k, W 16 (halfA m o v k)
  | 0 => h
  | k + 1 => mix_ok (halfA_ok h k) ..
theorem halfB_ok {m o v : List Nat} (h : W 16 v) : ∀ k, W 16 (halfB m o v k)
  | 0 => h
  | k + 1 => mix_ok (halfB_ok h k) ..
def rounds (m v : List Nat) : Nat → List Nat
  | 0 => v
  | r + 1 => halfB m (orders.getD r []) (halfA m (orders.getD r []) (rounds m v r) 4) 4
theorem rounds_ok {m v : List Nat} (h : W 16 v) : ∀ k, W 16 (rounds m v k)
  | 0 => h
  | k + 1 => halfB_ok (halfA_ok (rounds_ok h k) _) _
/-! a block's numbers -/
def wd (m : List Nat) (i x : Nat) : List Nat := m.set (i / 4) (m.getD (i / 4) 0 ||| x * 2 ^ (8 * (i % 4)) % 4294967296)
def words (l : List UInt8) : Nat → List Nat
  | 0 => List.replicate 16 0
  | k + 1 => wd (words l k) k (l.getD k 0).toNat
theorem wd_ok {n : Nat} {m : List Nat} (h : W n m) (i x : Nat) : W n (wd m i x) := h.set _ (or_lt (h.at _) (Nat.mod_lt _ (by decide)))
theorem words_ok (l : List UInt8) : ∀ k, W 16 (words l k)
  | 0 => W.zeros 16
  | k + 1 => wd_ok (words_ok l k) ..
/-- the sixteen numbers ahead of the rounds -/
def inv (x : Nat) : Nat := 4294967295 - x
theorem inv_lt (x : Nat) : inv x < 4294967296 := by unfold inv; omega
def start (h : List Nat) (n : Nat) (last : Bool) : List Nat :=
  let v := h ++ begins
  let v := v.set 12 (v.getD 12 0 ^^^ n % 4294967296)
  let v := v.set 13 (v.getD 13 0 ^^^ n / 4294967296 % 4294967296)
  if last then v.set 14 (inv (v.getD 14 0)) else v
theorem both_ok {m n : Nat} {v u : List Nat} (h : W m v) (k : W n u) : W (m + n) (v ++ u) :=
  ⟨by rw [List.length_append, h.len, k.len], fun x hx => by rcases List.mem_append.1 hx with q | q; exact h.lt _ q; exact k.lt _ q⟩
theorem start_ok {h : List Nat} (hh : W 8 h) (n : Nat) (last : Bool) : W 16 (start h n last) := by
  unfold start
  have h1 := both_ok hh begins_ok
  have h2 := h1.set 12 (xor_lt (h1.at 12) (Nat.mod_lt n (by decide)))
  have h3 := h2.set 13 (xor_lt (h2.at 13) (Nat.mod_lt (n / 4294967296) (by decide)))
  cases last
  · exact h3
  · exact h3.set 14 (inv_lt _)
/-- what the sums come to, number by number -/
def fin (h v : List Nat) : Nat → List Nat
  | 0 => h
  | k + 1 => (fin h v k).set k ((fin h v k).getD k 0 ^^^ v.getD k 0 ^^^ v.getD (8 + k) 0)
theorem fin_ok {h v : List Nat} (hh : W 8 h) (hv : W 16 v) : ∀ k, W 8 (fin h v k)
  | 0 => hh
  | k + 1 => (fin_ok hh hv k).set _ (xor_lt (xor_lt ((fin_ok hh hv k).at _) (hv.at _)) (hv.at _))
/-- a block turned in -/
def block (h : List Nat) (l : List UInt8) (n : Nat) (last : Bool) : List Nat := fin h (rounds (words l l.length) (start h n last) 10) 8
theorem block_ok {h : List Nat} (hh : W 8 h) (l : List UInt8) (n : Nat) (last : Bool) : W 8 (block h l n last) := fin_ok hh (rounds_ok (start_ok hh _ _) _) _
/-- a text's bytes from one to another -/
def cut (l : List UInt8) (a b : Nat) : List UInt8 := (l.take b).drop a
/-- the sums behind so many whole blocks -/
def h0 : List Nat := begins.set 0 (begins.getD 0 0 ^^^ 16842784)
theorem h0_ok : W 8 h0 := begins_ok.set 0 (by decide)
def sums (l : List UInt8) : Nat → List Nat
  | 0 => h0
  | k + 1 => block (sums l k) (cut l (64 * k) (64 * k + 64)) (64 * k + 64) false
theorem sums_ok (l : List UInt8) : ∀ k, W 8 (sums l k)
  | 0 => h0_ok
  | k + 1 => block_ok (sums_ok l k) ..
/-- the whole blocks ahead of the last one -/
def ahead (n : Nat) : Nat := (n - 1) / 64
/-- the eight numbers' bytes -/
def byteOf (h : List Nat) (i : Nat) : UInt8 := UInt8.ofNat (h.getD (i / 4) 0 / 2 ^ (8 * (i % 4)) % 256)
def bytes (h : List Nat) : List UInt8 := (List.range 32).map (byteOf h)
def digest (l : List UInt8) : List UInt8 := bytes (block (sums l (ahead l.length)) (l.drop (64 * ahead l.length)) l.length true)
theorem digest_length (l : List UInt8) : (digest l).length = 32 := by simp [digest, bytes]
end Go.Proofs.Ytdllenoclnmmdaa.Bl

namespace Go

section
variable {F : Fence} {n : Nat} {P : Program} {ops : Array Oper} {md : Region.Mode} {C : World → Prop}

def Oper.noDefer (o : Oper) : Bool := match o.op with | .defer _ => false | _ => true
theorem Oper.noDefer_ne {o : Oper} (h : o.noDefer = true) : ∀ c, o.op ≠ .defer c := by
  intro c e
  unfold Oper.noDefer at h
  rw [e] at h
  cases h

theorem Oper.wpIn_of_quietR {o : Oper} {a : Act} {K : Act → Prop} {K' : Act → World → Prop} {Q' : Exit → Act → World → Prop} {w : World} (hnd : o.noDefer = true) (hw : C w) (h : ∀ a w', C w' → K a → K' a w')
    (ha : o.askedIn F P a C) (hh : o.quietIn F n P a C K) : o.wpIn F n P a w K' Q' := by
  obtain ⟨v, h1, h2⟩ := hh
  have h3 := h1 w hw
  unfold Oper.quietAtIn at h3
  unfold Oper.wpIn
  refine ⟨ha w hw, ?_⟩
  rw [Oper.semAt_eq _ _ _ (Oper.noDefer_ne hnd)]
  generalize (execOp a.eval o).run P w = r at *
  cases r with
  | ok x w' =>
    cases x <;> simp only [Oper.quietUponIn] at h3 <;> simp only [Oper.uponIn]
    case value u =>
      obtain ⟨e1, e2⟩ := h3
      rw [e1, e2]
      exact h _ _ hw h2
    case skip =>
      obtain ⟨e1, e2⟩ := h3
      rw [e1, ← e2]
      exact h _ _ hw h2
    case enter f args =>
      obtain ⟨e1, hd, hc⟩ := h3
      rw [e1]
      exact ⟨hd, hc.mono fun e w'' ⟨he, hw''⟩ => by subst he; exact h _ _ hw'' h2⟩
  | halt x w' => simp only [Oper.quietUponIn] at h3

theorem wpOpIn_of_qOpInR {i : Nat} {a : Act} {K : Act → Prop} {K' : Act → World → Prop} {Q' : Exit → Act → World → Prop} {w : World} (hnd : ops.all Oper.noDefer = true) (hC : C w) (h : ∀ a w', C w' → K a → K' a w')
    (hh : qOpIn F n P ops C i K a) : wpOpIn F n P ops Q' i K' a w := by
  unfold qOpIn at hh
  unfold wpOpIn
  split
  · rename_i ho; simp only [ho] at hh; exact h _ _ hC hh
  · rename_i o ho
    simp only [ho] at hh
    obtain ⟨ha, hh⟩ := hh
    have ho' : o.noDefer = true := by
      obtain ⟨hi, he⟩ := Array.getElem?_eq_some_iff.1 ho
      exact Array.all_eq_true'.1 hnd o (he ▸ Array.getElem_mem hi)
    split
    · rename_i hw; simp only [hw, if_true] at hh; exact Oper.wpIn_of_quietR ho' hC h ha hh
    · rename_i hw; simp only [hw] at hh; exact ⟨ha w hC, h _ _ hC hh⟩

/-- Whatever order is picked, as long as something before the tail may come up. -/
def wpAnyQL (F : Fence) (n : Nat) (P : Program) (md : Region.Mode) (ops : Array Oper) (C : World → Prop) (m : Nat) (L : Array Bool → Act → Prop) : Nat → Array Bool → Act → Prop
  | 0, listed, a => L listed a
  | f + 1, listed, a =>
    Region.ready md ops listed ≠ [] ∧ ∀ i ∈ Region.ready md ops listed, i < m ∧ qOpIn F n P ops C i (wpAnyQL F n P md ops C m L f (listed.setIfInBounds i true)) a

theorem wpAnyIn_of_qhead {m g : Nat} {L : Array Bool → Act → Prop} {Q' : Exit → Act → World → Prop} (hnd : ops.all Oper.noDefer = true) (hL : ∀ listed a w, C w → L listed a → wpAnyIn F n P md ops Q' g listed a w) :
    ∀ (f : Nat) (listed : Array Bool) (a : Act) (w : World), C w → wpAnyQL F n P md ops C m L f listed a → wpAnyIn F n P md ops Q' (f + g) listed a w
  | 0, listed, a, w, hw, h => by rw [Nat.zero_add]; exact hL _ _ _ hw h
  | f + 1, listed, a, w, hw, h => by
    rw [show f + 1 + g = (f + g) + 1 by omega]
    exact ⟨fun h0 => absurd h0 h.1, fun i hi => wpOpIn_of_qOpInR hnd hw (fun a' w' hw' h' => wpAnyIn_of_qhead hnd hL f _ a' w' hw' h') (h.2 i hi).2⟩

theorem wpAnyQL_first {m i : Nat} {oi : Oper} {v : Value} {L : Array Bool → Act → Prop} (hi : ops[i]? = some oi) (hsel : ∀ (j : Nat) (o : Oper) cs b, ops[j]? = some o → o.op ≠ .select cs b)
    (hs : Region.sinkB md ops m = true) (hc : Region.chainB md ops m = true) (hn : m < ops.size) (hin : i < m)
    (hdone : ∀ listed a, L listed a → ∀ j ∈ Region.ready md ops listed, m ≤ j) :
    ∀ (f : Nat) (listed : Array Bool) (a : Act), HeadInv md ops m listed →
      (∀ j oj, ops[j]? = some oj → j ≠ i → listed.getD j true = false → (∀ e ∈ oj.after, Region.binds md e = true → e.on ≠ i) → oi.apart ops oj = true) →
      i ∈ Region.ready md ops listed → YieldsQuiet F n P ops C oi v a →
      wpAnyQL F n P md ops C m L f (listed.setIfInBounds i true) (a.put oi.dst v) → wpAnyQL F n P md ops C m L (f + 1) listed a := by
  intro f
  induction f with
  | zero =>
    intro listed a inv _ hr hy H
    have hun := (mem_ready.1 hr).1
    refine ⟨fun h => (by rw [h] at hr; cases hr), fun j hj => ?_⟩
    have hjn : j < m := by
      rcases Nat.lt_or_ge j m with h | h
      · exact h
      · exact absurd hj (tail_waits hs hc hn inv _ i rfl hin hun j h)
    refine ⟨hjn, ?_⟩
    by_cases hji : j = i
    · subst hji; exact hy.qOpIn hi H
    · have := hdone _ _ H j (ready_mono hj hji)
      omega
  | succ f ih =>
    intro listed a inv hfree hr hy H
    have hun := (mem_ready.1 hr).1
    refine ⟨fun h => (by rw [h] at hr; cases hr), fun j hj => ?_⟩
    have hjn : j < m := by
      rcases Nat.lt_or_ge j m with h | h
      · exact h
      · exact absurd hj (tail_waits hs hc hn inv _ i rfl hin hun j h)
    refine ⟨hjn, ?_⟩
    by_cases hji : j = i
    · subst hji; exact hy.qOpIn hi H
    · have h1 := (H.2 j (ready_mono hj hji)).2
      obtain ⟨hjun, oj, hoj, hall⟩ := mem_ready.1 hj
      have hnot : ∀ e ∈ oj.after, Region.binds md e = true → e.on ≠ i := fun e he hb heq => by
        have h1 := hall e he hb
        rw [heq, getD_both hun] at h1
        cases h1
      have h2 := qOpIn_put hoj (hfree j oj hoj hji hjun hnot) (fun cs b => hsel i oi cs b hi) (fun cs b => hsel j oj cs b hoj) hy h1
      have hfree' : ∀ k ok, ops[k]? = some ok → k ≠ i → (listed.setIfInBounds j true).getD k true = false →
          (∀ e ∈ ok.after, Region.binds md e = true → e.on ≠ i) → oi.apart ops ok = true := fun k ok hk hki hun hno => by
        refine hfree k ok hk hki ?_ hno
        by_cases hjk : j = k
        · subst hjk; exact hjun
        · rw [getD_set_ne true hjk] at hun; exact hun
      refine qOpIn_mono (fun a' h3 => ih (listed.setIfInBounds j true) a' (inv.set hj hjn) hfree' (ready_mono hr (Ne.symm hji)) h3.1 ?_) h2
      rw [Array.setIfInBounds_comm _ _ hji]
      exact h3.2

theorem wpAnyIn_of_seq {Q' : Exit → Act → World → Prop} : ∀ (l : List Oper) (k : Nat) (listed : Array Bool) (a : Act) (w : World), (∀ j, l[j]? = ops[k + j]?) →
    Region.seqB md ops l.length k listed = true → wpListIn F n P ops Q' l a w → wpAnyIn F n P md ops Q' l.length listed a w
  | [], _, _, _, _, _, hB, h => ⟨by simpa [Region.seqB] using hB, h⟩
  | o :: l, k, listed, a, w, hl, hB, h => by
    have h0 : ops[k]? = some o := by simpa using (hl 0).symm
    simp only [List.length_cons, Region.seqB, Bool.and_eq_true, decide_eq_true_eq] at hB
    refine ⟨fun h1 => (by rw [hB.1] at h1; cases h1), fun i hi => ?_⟩
    rw [hB.1] at hi
    have hik : i = k := by simpa using hi
    subst hik
    have hw : wpOpIn F n P ops Q' i (wpListIn F n P ops Q' l) a w := by unfold wpOpIn; simp only [h0]; exact h
    exact wpOpIn_mono (fun a' w' h' => wpAnyIn_of_seq l (i + 1) _ a' w' (fun j => by have := hl (j + 1); simpa [Nat.add_assoc, Nat.add_comm 1 j] using this) hB.2 h') hw

theorem wpAnyQL_lex {m g : Nat} {Lq : Act → Prop} (hsel : Region.noSelect ops = true) (hs : Region.sinkB md ops m = true) (hc : Region.chainB md ops m = true) (hn : m < ops.size) :
    ∀ (l : List Oper) (k : Nat) (listed : Array Bool) (a : Act), (∀ j, j < l.length → l[j]? = ops[k + j]?) → k + l.length = m → HeadInv md ops m listed →
    Region.lexHead md ops g l.length k listed = true → wpQuietIn F n P ops C Lq l a →
    wpAnyQL F n P md ops C m (fun listed' a' => Region.seqB md ops g m listed' = true ∧ Lq a') l.length listed a
  | [], k, listed, a, _, hk, _, hB, h => by
    have : k = m := by simpa using hk
    subst this
    exact ⟨by simpa [Region.lexHead] using hB, h⟩
  | o :: l, k, listed, a, hl, hk, inv, hB, h => by
    have h0 : ops[k]? = some o := by simpa using (hl 0 (by simp)).symm
    simp only [List.length_cons, Region.lexHead, Bool.and_eq_true] at hB
    obtain ⟨⟨hr, hf⟩, hB'⟩ := hB
    have hkn : k < m := by simp only [List.length_cons] at hk; omega
    have hr' : k ∈ Region.ready md ops listed := by simpa using hr
    have hst : qOpIn F n P ops C k (wpQuietIn F n P ops C Lq l) a := by unfold qOpIn; simp only [h0]; exact h
    obtain ⟨v, hy, hK⟩ := yieldsQuiet_of_qOpIn h0 hst
    exact wpAnyQL_first h0 (Region.noSelect_spec hsel) hs hc hn hkn (fun listed' a' hL => seqB_ready hL.1) l.length listed a inv (Region.free_spec h0 hf) hr' hy
      (wpAnyQL_lex hsel hs hc hn l (k + 1) _ _ (fun j hj => by have := hl (j + 1) (by simp; omega); simpa [Nat.add_assoc, Nat.add_comm 1 j] using this) (by simp only [List.length_cons] at hk; omega) (inv.set hr' hkn) hB' hK)

/-- the head in its lexical order, whatever the class of worlds; then the tail in every world of it -/
theorem wpIn_region_quiet_tail {id : Nat} {Q : Exit → Act → World → Prop} {a : Act} {w : World} {l : List Oper} (m : Nat) (hm : P.follows .mixedOrders = true) (hnd : l.toArray.all Oper.noDefer = true) (hB : Region.lexTailB .any l.toArray m = true) (hC : C { w with drawn := w.drawn + 1 })
    (h : wpQuietIn F n P l.toArray C (fun a' => ∀ w', C w' → wpListIn F n P l.toArray Q (l.drop m) a' w') (l.take m) a) : (Code.region id l.toArray true).wpIn F n P Q a w := by
  simp only [Region.lexTailB, Bool.and_eq_true, decide_eq_true_eq] at hB
  obtain ⟨⟨⟨⟨hsel, hn⟩, hs⟩, hc⟩, hlex⟩ := hB
  have hn' : m < l.length := by simpa using hn
  have htl : (l.take m).length = m := by simp; omega
  have hdl : (l.drop m).length = l.toArray.size - m := by simp
  have inv0 : HeadInv .any l.toArray m (Array.replicate l.toArray.size false) :=
    ⟨by simp, fun j oj _ hl => (by rw [getD_replicate_false] at hl; cases hl), fun t _ ht => getD_in (by simpa using ht) (getD_replicate_false _ _)⟩
  have H := wpAnyQL_lex (F := F) (n := n) (C := C) (md := .any) (g := l.toArray.size - m) hsel hs hc hn (l.take m) 0 _ a (fun j hj => by
    have hj' : j < m := by rw [htl] at hj; exact hj
    simp [hj']) (by simpa using htl) inv0 (by rw [htl]; exact hlex) h
  refine wpIn_region_any hm ?_
  have := wpAnyIn_of_qhead (Q' := Q) (g := l.toArray.size - m) hnd (fun listed a' w' hw' hL => by
    have := wpAnyIn_of_seq (F := F) (n := n) (md := .any) (Q' := Q) (l.drop m) m listed a' w' (fun j => by simp [List.getElem?_drop]) (by rw [hdl]; exact hL.1) (hL.2 w' hw')
    rwa [hdl] at this) _ _ _ _ hC H
  rw [htl, show m + (l.toArray.size - m) = l.toArray.size by omega] at this
  exact this

/-- The same for the class 'w after some draws'. -/
theorem wpIn_region_quiet_tail_lit {id : Nat} {Q : Exit → Act → World → Prop} {a : Act} {w : World} {l : List Oper} (m : Nat) (hm : P.follows .mixedOrders = true) (hnd : l.toArray.all Oper.noDefer = true) (hB : Region.lexTailB .any l.toArray m = true)
    (h : wpQuietIn F n P l.toArray (fun w' => ∃ n, w' = w.drewN n) (fun a' => ∀ w', (∃ n, w' = w.drewN n) → wpListIn F n P l.toArray Q (l.drop m) a' w') (l.take m) a) : (Code.region id l.toArray true).wpIn F n P Q a w :=
  wpIn_region_quiet_tail m hm hnd hB ⟨1, rfl⟩ h
@[simp] theorem wide_inRound_fn (l : Nat) (f : FuncId) : (Fence.wide.inRound l).fn f = True := rfl
@[simp] theorem wide_fn' (f : FuncId) : Fence.wide.fn f = True := rfl
@[simp] theorem wide_depth' : Fence.wide.depth.isSome = false := rfl
@[simp] theorem wide_inRound_depth (l : Nat) : (Fence.wide.inRound l).depth.isSome = false := rfl
end

end Go

namespace Go.Proofs.Ytdllenoclnmmdaa
open Go.RowKit Go.Shelf
attribute [local go_sem] Oper.semAt_some

/-- the cells of some numbers -/
def cw (v : List Nat) : Array Value := (v.map fun (n : Nat) => Value.int .u32 (n : Int)).toArray
theorem cw_size (v : List Nat) : (cw v).size = v.length := by simp [cw]
theorem cw_set (v : List Nat) (i x : Nat) : (cw v).setIfInBounds i (.int .u32 (x : Int)) = cw (v.set i x) := by simp [cw]
theorem cw_at (v : List Nat) (i : Nat) (h : i < v.length) : (cw v)[i]? = some (.int .u32 (v.getD i 0 : Nat)) := by
  simp [cw, h]
theorem cw_one (v : List Nat) : (cw v).all (·.oneCell') = true := by
  rw [Array.all_eq_true]
  intro i h
  simp [cw, Value.oneCell']
theorem x32 (a b : Nat) (ha : a < 4294967296) (hb : b < 4294967296) : bits .xor .u32 (a : Int) (b : Int) = ((a ^^^ b : Nat) : Int) := u32_xor_nat a b ha hb
theorem o32 (a b : Nat) (ha : a < 4294967296) (hb : b < 4294967296) : bits .or .u32 (a : Int) (b : Int) = ((a ||| b : Nat) : Int) := u32_or_nat a b ha hb
theorem a32 (a b : Nat) : ((a : Int) + b) % 4294967296 = ((Bl.add a b : Nat) : Int) := by unfold Bl.add; omega
theorem s32 (x n : Nat) (hx : x < 4294967296) : bits .or .u32 ((x : Int) / 2 ^ n) ((x : Int) * 2 ^ (32 - n) % 4294967296) = ((Bl.rot x n : Nat) : Int) := by
  have h := o32 (x / 2 ^ n) (x * 2 ^ (32 - n) % 4294967296) (Nat.lt_of_le_of_lt (Nat.div_le_self _ _) hx) (Nat.mod_lt _ (by decide))
  unfold Bl.rot
  rw [← h]
  congr 1
set_option maxRecDepth 100000 in
theorem turned_any (x n : Nat) (hx : x < 4294967296) (hn : n < 32) (w : World) :
    Calls Try.prog 99 #[.int .u32 x, .int .i64 n] w fun e w' => e = .returned (.int .u32 (Bl.rot x n : Nat)) ∧ ∃ k, w' = w.drewN k := by
  have hs := s32 x n hx
  go_enter Try.func99, Try.ntmps99
  go_wp2
  go_region
  go_wp2
  go_ret
  exact ⟨rfl, 1, rfl⟩
end Go.Proofs.Ytdllenoclnmmdaa

namespace Go.Proofs.Ytdllenoclnmmdaa
open Go.RowKit Go.Shelf
attribute [local go_sem] Oper.semAt_some

/-- sixteen numbers in a block, the one that was written since -/
structure V16 (w : World) (g : Nat) (v : List Nat) (W : World) : Prop where
  row : BlockAt W g (cw v) 120
  grown : w.grownBy W (some g)
  ok : Bl.W 16 v
theorem V16.cell {w W : World} {g : Nat} {v : List Nat} (h : V16 w g v W) (i : Nat) (hi : i < 16) : W.cell? ⟨g, i, none⟩ = some (.int .u32 (v.getD i 0 : Nat)) := by
  rw [h.row.cell]
  exact cw_at v i (by rw [h.ok.len]; exact hi)
theorem V16.free {w W : World} {g : Nat} {v : List Nat} (h : V16 w g v W) (i : Nat) : W.frozen? ⟨g, i, none⟩ = false := h.row.free i
theorem Kept.gr {W a b : World} {row : Option Nat} (h : Kept W a) (g : a.grownBy b row) (hr : ∀ k, row = some k → W.heap.size ≤ k) : Kept W b := Below.grown h g (Below.size h) hr
theorem grown_setCell {w W : World} {g : Nat} (h : w.grownBy W (some g)) (nq i : Nat) (x : Value) : w.grownBy ((W.drewN nq).setCell ⟨g, i, none⟩ x) (some g) :=
  gr_trans h (gr_trans (gr_kept ((Kept.refl W).drewN nq) _) (gr_set _ _ _ _))
theorem V16.put {w W : World} {g : Nat} {v : List Nat} (h : V16 w g v W) (nq i : Nat) {x : Nat} (hx : x < 4294967296) : V16 w g (v.set i x) ((W.drewN nq).setCell ⟨g, i, none⟩ (.int .u32 (x : Int))) := by
  refine ⟨?_, grown_setCell h.grown nq i _, h.ok.set i hx⟩
  have hb : BlockAt (W.drewN nq) g (cw v) 120 := h.row
  rw [← cw_set]
  exact hb.set _
set_option maxRecDepth 100000 in
set_option maxHeartbeats 4000000 in
theorem rmix_any (g : Nat) (v : List Nat) (a b c d x y : Nat) (ha : a < 16) (hb : b < 16) (hc : c < 16) (hd : d < 16) (w : World) (hv : V16 w g v w) :
    Calls Try.prog 91 #[.pointer (some ⟨g, 0, none⟩), .int .i64 a, .int .i64 b, .int .i64 c, .int .i64 d, .int .u32 x, .int .u32 y] w fun e w' => e = .returned (.tuple #[]) ∧ V16 w g (Bl.mix v a b c d x y) w' := by
  have HV0 := Lib.hid hv
  clear hv
  go_enter Try.func91, Try.ntmps91
  obtain ⟨p, hp⟩ : ∃ p, p = v.getD a 0 := ⟨_, rfl⟩
  obtain ⟨q, hq⟩ : ∃ q, q = v.getD b 0 := ⟨_, rfl⟩
  have c1 := HV0.out.cell a ha
  have c2 := HV0.out.cell b hb
  have f1 := HV0.out.free a
  rw [← hp] at c1
  rw [← hq] at c2
  have e1 := a32 p q
  have e2 := a32 (Bl.add p q) x
  have HN := Lib.hid (fun nq => HV0.out.put nq a (Bl.add_lt (Bl.add p q) x))
  have HE := Lib.hid (show v.set a (Bl.add (Bl.add p q) x) = Bl.s0 v a b x by rw [hp, hq]; rfl)
  clear hp hq
  go_wp2_with fail
  refine (wpIn_wide (n := 0)).1 ?_
  refine wpIn_region_quiet_tail_lit 17 (by kernel_rfl) (by kernel_rfl) (by kernel_rfl) ?_
  simp only [List.take_succ_cons, List.take_zero, List.drop_succ_cons, List.drop_zero]
  repeat (gi_big_quiet_step (fail))
  refine wpQuietIn_nil ?_
  intro _ hw'
  obtain ⟨nq, hw''⟩ := hw'
  subst hw''
  gi_wp2
  have HV1' := Lib.hid (HN.out nq)
  clear HN c1 c2 f1 e1 e2
  generalize World.setCell _ _ _ = w1 at HV1' ⊢
  have hv1 := HV1'.out
  rw [HE.out] at hv1
  have HV1 := Lib.hid hv1
  clear hv1 HV1' HE HV0
  obtain ⟨v1, hw1⟩ : ∃ v1, v1 = (Bl.s0 v a b x) := ⟨_, rfl⟩
  have HW1 := Lib.hid hw1
  rw [← hw1] at HV1
  clear hw1
  obtain ⟨p, hp⟩ : ∃ p, p = v1.getD d 0 := ⟨_, rfl⟩
  obtain ⟨q, hq⟩ : ∃ q, q = v1.getD a 0 := ⟨_, rfl⟩
  have c1 := HV1.out.cell d hd
  have c2 := HV1.out.cell a ha
  have f1 := HV1.out.free d
  have hpl : p < 4294967296 := by rw [hp]; exact HV1.out.ok.at _
  have hql : q < 4294967296 := by rw [hq]; exact HV1.out.ok.at _
  rw [← hp] at c1
  rw [← hq] at c2
  have hxl := Bl.xor_lt hpl hql
  have e1 := x32 p q hpl hql
  have HN := Lib.hid (fun nq => HV1.out.put nq d (Bl.rot_lt hxl 16))
  have HE := Lib.hid (show v1.set d (Bl.rot (p ^^^ q) 16) = Bl.s1 v1 d a 16 by rw [hp, hq]; rfl)
  clear hpl hql
  generalize p ^^^ q = z at *
  clear hp hq
  go_wp2_with fail
  refine (wpIn_wide (n := 0)).1 ?_
  refine wpIn_region_quiet_tail_lit 16 (by kernel_rfl) (by kernel_rfl) (by kernel_rfl) ?_
  simp only [List.take_succ_cons, List.take_zero, List.drop_succ_cons, List.drop_zero]
  repeat (gi_big_quiet_step ((gi_at_call 99; exact callsIn_wide.2 (Calls.quiet_of (turned_any _ 16 hxl (by decide) _)))))
  refine wpQuietIn_nil ?_
  intro _ hw'
  obtain ⟨nq, hw''⟩ := hw'
  subst hw''
  gi_wp2
  have HV2' := Lib.hid (HN.out nq)
  clear HN c1 c2 f1 e1 hxl
  generalize World.setCell _ _ _ = w2 at HV2' ⊢
  have hv2 := HV2'.out
  rw [HE.out] at hv2
  have HV2 := Lib.hid hv2
  clear hv2 HV2' HE HV1
  obtain ⟨v2, hw2⟩ : ∃ v2, v2 = (Bl.s1 v1 d a 16) := ⟨_, rfl⟩
  have HW2 := Lib.hid hw2
  rw [← hw2] at HV2
  clear hw2
  obtain ⟨p, hp⟩ : ∃ p, p = v2.getD c 0 := ⟨_, rfl⟩
  obtain ⟨q, hq⟩ : ∃ q, q = v2.getD d 0 := ⟨_, rfl⟩
  have c1 := HV2.out.cell c hc
  have c2 := HV2.out.cell d hd
  have f1 := HV2.out.free c
  rw [← hp] at c1
  rw [← hq] at c2
  have e1 := a32 p q
  have HN := Lib.hid (fun nq => HV2.out.put nq c (Bl.add_lt p q))
  have HE := Lib.hid (show v2.set c (Bl.add p q) = Bl.s2 v2 c d by rw [hp, hq]; rfl)
  clear hp hq
  go_wp2_with fail
  refine (wpIn_wide (n := 0)).1 ?_
  refine wpIn_region_quiet_tail_lit 15 (by kernel_rfl) (by kernel_rfl) (by kernel_rfl) ?_
  simp only [List.take_succ_cons, List.take_zero, List.drop_succ_cons, List.drop_zero]
  repeat (gi_big_quiet_step (fail))
  refine wpQuietIn_nil ?_
  intro _ hw'
  obtain ⟨nq, hw''⟩ := hw'
  subst hw''
  gi_wp2
  have HV3' := Lib.hid (HN.out nq)
  clear HN c1 c2 f1 e1
  generalize World.setCell _ _ _ = w3 at HV3' ⊢
  have hv3 := HV3'.out
  rw [HE.out] at hv3
  have HV3 := Lib.hid hv3
  clear hv3 HV3' HE HV2
  obtain ⟨v3, hw3⟩ : ∃ v3, v3 = (Bl.s2 v2 c d) := ⟨_, rfl⟩
  have HW3 := Lib.hid hw3
  rw [← hw3] at HV3
  clear hw3
  obtain ⟨p, hp⟩ : ∃ p, p = v3.getD b 0 := ⟨_, rfl⟩
  obtain ⟨q, hq⟩ : ∃ q, q = v3.getD c 0 := ⟨_, rfl⟩
  have c1 := HV3.out.cell b hb
  have c2 := HV3.out.cell c hc
  have f1 := HV3.out.free b
  have hpl : p < 4294967296 := by rw [hp]; exact HV3.out.ok.at _
  have hql : q < 4294967296 := by rw [hq]; exact HV3.out.ok.at _
  rw [← hp] at c1
  rw [← hq] at c2
  have hxl := Bl.xor_lt hpl hql
  have e1 := x32 p q hpl hql
  have HN := Lib.hid (fun nq => HV3.out.put nq b (Bl.rot_lt hxl 12))
  have HE := Lib.hid (show v3.set b (Bl.rot (p ^^^ q) 12) = Bl.s1 v3 b c 12 by rw [hp, hq]; rfl)
  clear hpl hql
  generalize p ^^^ q = z at *
  clear hp hq
  go_wp2_with fail
  refine (wpIn_wide (n := 0)).1 ?_
  refine wpIn_region_quiet_tail_lit 16 (by kernel_rfl) (by kernel_rfl) (by kernel_rfl) ?_
  simp only [List.take_succ_cons, List.take_zero, List.drop_succ_cons, List.drop_zero]
  repeat (gi_big_quiet_step ((gi_at_call 99; exact callsIn_wide.2 (Calls.quiet_of (turned_any _ 12 hxl (by decide) _)))))
  refine wpQuietIn_nil ?_
  intro _ hw'
  obtain ⟨nq, hw''⟩ := hw'
  subst hw''
  gi_wp2
  have HV4' := Lib.hid (HN.out nq)
  clear HN c1 c2 f1 e1 hxl
  generalize World.setCell _ _ _ = w4 at HV4' ⊢
  have hv4 := HV4'.out
  rw [HE.out] at hv4
  have HV4 := Lib.hid hv4
  clear hv4 HV4' HE HV3
  obtain ⟨v4, hw4⟩ : ∃ v4, v4 = (Bl.s1 v3 b c 12) := ⟨_, rfl⟩
  have HW4 := Lib.hid hw4
  rw [← hw4] at HV4
  clear hw4
  obtain ⟨p, hp⟩ : ∃ p, p = v4.getD a 0 := ⟨_, rfl⟩
  obtain ⟨q, hq⟩ : ∃ q, q = v4.getD b 0 := ⟨_, rfl⟩
  have c1 := HV4.out.cell a ha
  have c2 := HV4.out.cell b hb
  have f1 := HV4.out.free a
  rw [← hp] at c1
  rw [← hq] at c2
  have e1 := a32 p q
  have e2 := a32 (Bl.add p q) y
  have HN := Lib.hid (fun nq => HV4.out.put nq a (Bl.add_lt (Bl.add p q) y))
  have HE := Lib.hid (show v4.set a (Bl.add (Bl.add p q) y) = Bl.s0 v4 a b y by rw [hp, hq]; rfl)
  clear hp hq
  go_wp2_with fail
  refine (wpIn_wide (n := 0)).1 ?_
  refine wpIn_region_quiet_tail_lit 17 (by kernel_rfl) (by kernel_rfl) (by kernel_rfl) ?_
  simp only [List.take_succ_cons, List.take_zero, List.drop_succ_cons, List.drop_zero]
  repeat (gi_big_quiet_step (fail))
  refine wpQuietIn_nil ?_
  intro _ hw'
  obtain ⟨nq, hw''⟩ := hw'
  subst hw''
  gi_wp2
  have HV5' := Lib.hid (HN.out nq)
  clear HN c1 c2 f1 e1 e2
  generalize World.setCell _ _ _ = w5 at HV5' ⊢
  have hv5 := HV5'.out
  rw [HE.out] at hv5
  have HV5 := Lib.hid hv5
  clear hv5 HV5' HE HV4
  obtain ⟨v5, hw5⟩ : ∃ v5, v5 = (Bl.s0 v4 a b y) := ⟨_, rfl⟩
  have HW5 := Lib.hid hw5
  rw [← hw5] at HV5
  clear hw5
  obtain ⟨p, hp⟩ : ∃ p, p = v5.getD d 0 := ⟨_, rfl⟩
  obtain ⟨q, hq⟩ : ∃ q, q = v5.getD a 0 := ⟨_, rfl⟩
  have c1 := HV5.out.cell d hd
  have c2 := HV5.out.cell a ha
  have f1 := HV5.out.free d
  have hpl : p < 4294967296 := by rw [hp]; exact HV5.out.ok.at _
  have hql : q < 4294967296 := by rw [hq]; exact HV5.out.ok.at _
  rw [← hp] at c1
  rw [← hq] at c2
  have hxl := Bl.xor_lt hpl hql
  have e1 := x32 p q hpl hql
  have HN := Lib.hid (fun nq => HV5.out.put nq d (Bl.rot_lt hxl 8))
  have HE := Lib.hid (show v5.set d (Bl.rot (p ^^^ q) 8) = Bl.s1 v5 d a 8 by rw [hp, hq]; rfl)
  clear hpl hql
  generalize p ^^^ q = z at *
  clear hp hq
  go_wp2_with fail
  refine (wpIn_wide (n := 0)).1 ?_
  refine wpIn_region_quiet_tail_lit 16 (by kernel_rfl) (by kernel_rfl) (by kernel_rfl) ?_
  simp only [List.take_succ_cons, List.take_zero, List.drop_succ_cons, List.drop_zero]
  repeat (gi_big_quiet_step ((gi_at_call 99; exact callsIn_wide.2 (Calls.quiet_of (turned_any _ 8 hxl (by decide) _)))))
  refine wpQuietIn_nil ?_
  intro _ hw'
  obtain ⟨nq, hw''⟩ := hw'
  subst hw''
  gi_wp2
  have HV6' := Lib.hid (HN.out nq)
  clear HN c1 c2 f1 e1 hxl
  generalize World.setCell _ _ _ = w6 at HV6' ⊢
  have hv6 := HV6'.out
  rw [HE.out] at hv6
  have HV6 := Lib.hid hv6
  clear hv6 HV6' HE HV5
  obtain ⟨v6, hw6⟩ : ∃ v6, v6 = (Bl.s1 v5 d a 8) := ⟨_, rfl⟩
  have HW6 := Lib.hid hw6
  rw [← hw6] at HV6
  clear hw6
  obtain ⟨p, hp⟩ : ∃ p, p = v6.getD c 0 := ⟨_, rfl⟩
  obtain ⟨q, hq⟩ : ∃ q, q = v6.getD d 0 := ⟨_, rfl⟩
  have c1 := HV6.out.cell c hc
  have c2 := HV6.out.cell d hd
  have f1 := HV6.out.free c
  rw [← hp] at c1
  rw [← hq] at c2
  have e1 := a32 p q
  have HN := Lib.hid (fun nq => HV6.out.put nq c (Bl.add_lt p q))
  have HE := Lib.hid (show v6.set c (Bl.add p q) = Bl.s2 v6 c d by rw [hp, hq]; rfl)
  clear hp hq
  go_wp2_with fail
  refine (wpIn_wide (n := 0)).1 ?_
  refine wpIn_region_quiet_tail_lit 15 (by kernel_rfl) (by kernel_rfl) (by kernel_rfl) ?_
  simp only [List.take_succ_cons, List.take_zero, List.drop_succ_cons, List.drop_zero]
  repeat (gi_big_quiet_step (fail))
  refine wpQuietIn_nil ?_
  intro _ hw'
  obtain ⟨nq, hw''⟩ := hw'
  subst hw''
  gi_wp2
  have HV7' := Lib.hid (HN.out nq)
  clear HN c1 c2 f1 e1
  generalize World.setCell _ _ _ = w7 at HV7' ⊢
  have hv7 := HV7'.out
  rw [HE.out] at hv7
  have HV7 := Lib.hid hv7
  clear hv7 HV7' HE HV6
  obtain ⟨v7, hw7⟩ : ∃ v7, v7 = (Bl.s2 v6 c d) := ⟨_, rfl⟩
  have HW7 := Lib.hid hw7
  rw [← hw7] at HV7
  clear hw7
  obtain ⟨p, hp⟩ : ∃ p, p = v7.getD b 0 := ⟨_, rfl⟩
  obtain ⟨q, hq⟩ : ∃ q, q = v7.getD c 0 := ⟨_, rfl⟩
  have c1 := HV7.out.cell b hb
  have c2 := HV7.out.cell c hc
  have f1 := HV7.out.free b
  have hpl : p < 4294967296 := by rw [hp]; exact HV7.out.ok.at _
  have hql : q < 4294967296 := by rw [hq]; exact HV7.out.ok.at _
  rw [← hp] at c1
  rw [← hq] at c2
  have hxl := Bl.xor_lt hpl hql
  have e1 := x32 p q hpl hql
  have HN := Lib.hid (fun nq => HV7.out.put nq b (Bl.rot_lt hxl 7))
  have HE := Lib.hid (show v7.set b (Bl.rot (p ^^^ q) 7) = Bl.s1 v7 b c 7 by rw [hp, hq]; rfl)
  clear hpl hql
  generalize p ^^^ q = z at *
  clear hp hq
  go_wp2_with fail
  refine (wpIn_wide (n := 0)).1 ?_
  refine wpIn_region_quiet_tail_lit 16 (by kernel_rfl) (by kernel_rfl) (by kernel_rfl) ?_
  simp only [List.take_succ_cons, List.take_zero, List.drop_succ_cons, List.drop_zero]
  repeat (gi_big_quiet_step ((gi_at_call 99; exact callsIn_wide.2 (Calls.quiet_of (turned_any _ 7 hxl (by decide) _)))))
  refine wpQuietIn_nil ?_
  intro _ hw'
  obtain ⟨nq, hw''⟩ := hw'
  subst hw''
  gi_wp2
  have HV8' := Lib.hid (HN.out nq)
  clear HN c1 c2 f1 e1 hxl
  generalize World.setCell _ _ _ = w8 at HV8' ⊢
  have hv8 := HV8'.out
  rw [HE.out] at hv8
  have HV8 := Lib.hid hv8
  clear hv8 HV8' HE HV7
  obtain ⟨v8, hw8⟩ : ∃ v8, v8 = (Bl.s1 v7 b c 7) := ⟨_, rfl⟩
  have HW8 := Lib.hid hw8
  rw [← hw8] at HV8
  clear hw8
  go_wp2
  go_end0
  refine ⟨rfl, ?_⟩
  have h := HV8.out
  rw [HW8.out, HW7.out, HW6.out, HW5.out, HW4.out, HW3.out, HW2.out, HW1.out] at h
  exact h
end Go.Proofs.Ytdllenoclnmmdaa

namespace Go.Proofs.Ytdllenoclnmmdaa
open Go.RowKit Go.Shelf
attribute [local go_sem] Oper.semAt_some

def z16 : Array Value := cw (List.replicate 16 0)
def z8 : Array Value := cw (List.replicate 8 0)
theorem Try.zero16 : (Try.prog.info? 120).map (·.zero) = some (some (.agg z16)) := by kernel_rfl
theorem Try.zero8 : (Try.prog.info? 102).map (·.zero) = some (some (.agg z8)) := by kernel_rfl
theorem Try.built16 : Try.prog.built 120 [] = some z16 := by kernel_rfl
theorem Try.info16 : (Try.prog.info? 120).map (·.size) = some 16 := by kernel_rfl
theorem Try.info8 : (Try.prog.info? 102).map (·.size) = some 8 := by kernel_rfl
theorem z16_one : z16.all (·.oneCell') = true := cw_one _
theorem z8_one : z8.all (·.oneCell') = true := cw_one _
theorem z16_size : z16.size = 16 := by simp [z16, cw]
theorem z8_size : z8.size = 8 := by simp [z8, cw]
theorem size16 {v : List Nat} (h : Bl.W 16 v) : (cw v).size = 16 := by rw [cw_size]; exact h.len
theorem size8 {v : List Nat} (h : Bl.W 8 v) : (cw v).size = 8 := by rw [cw_size]; exact h.len
/-- eight numbers in a block, the one that was written since -/
structure V8 (w : World) (g : Nat) (v : List Nat) (W : World) : Prop where
  row : BlockAt W g (cw v) 102
  grown : w.grownBy W (some g)
  ok : Bl.W 8 v
theorem V8.cell {w W : World} {g : Nat} {v : List Nat} (h : V8 w g v W) (i : Nat) (hi : i < 8) : W.cell? ⟨g, i, none⟩ = some (.int .u32 (v.getD i 0 : Nat)) := by
  rw [h.row.cell]
  exact cw_at v i (by rw [h.ok.len]; exact hi)
theorem V8.free {w W : World} {g : Nat} {v : List Nat} (h : V8 w g v W) (i : Nat) : W.frozen? ⟨g, i, none⟩ = false := h.row.free i
theorem V8.put {w W : World} {g : Nat} {v : List Nat} (h : V8 w g v W) (nq i : Nat) {x : Nat} (hx : x < 4294967296) : V8 w g (v.set i x) ((W.drewN nq).setCell ⟨g, i, none⟩ (.int .u32 (x : Int))) := by
  refine ⟨?_, grown_setCell h.grown nq i _, h.ok.set i hx⟩
  have hb : BlockAt (W.drewN nq) g (cw v) 102 := h.row
  rw [← cw_set]
  exact hb.set _
theorem V8.put0 {w W : World} {g : Nat} {v : List Nat} (h : V8 w g v W) (i : Nat) {x : Nat} (hx : x < 4294967296) : V8 w g (v.set i x) (W.setCell ⟨g, i, none⟩ (.int .u32 (x : Int))) := h.put 0 i hx
theorem V16.put0 {w W : World} {g : Nat} {v : List Nat} (h : V16 w g v W) (i : Nat) {x : Nat} (hx : x < 4294967296) : V16 w g (v.set i x) (W.setCell ⟨g, i, none⟩ (.int .u32 (x : Int))) := h.put 0 i hx
theorem V16.here {w : World} {g : Nat} {v : List Nat} (h : BlockAt w g (cw v) 120) (k : Bl.W 16 v) : V16 w g v w := ⟨h, gr_refl _ _, k⟩
theorem V8.here {w : World} {g : Nat} {v : List Nat} (h : BlockAt w g (cw v) 102) (k : Bl.W 8 v) : V8 w g v w := ⟨h, gr_refl _ _, k⟩
theorem V16.kept {wo w W : World} {g : Nat} {v : List Nat} (h : V16 w g v W) (k : Kept wo w) (hg : wo.heap.size ≤ g) : Kept wo W := k.gr h.grown (fun _ e => by cases e; exact hg)
theorem V8.kept {wo w W : World} {g : Nat} {v : List Nat} (h : V8 w g v W) (k : Kept wo w) (hg : wo.heap.size ≤ g) : Kept wo W := k.gr h.grown (fun _ e => by cases e; exact hg)
/-- another block stays -/
theorem other_row {w W : World} {g b : Nat} {C : Array Value} {t : TypeId} (h : BlockAt w b C t) (g' : w.grownBy W (some g)) (hne : b ≠ g) : BlockAt W b C t := block_grown h g' (fun e => hne (by cases e; rfl))
theorem sh32 (x r : Nat) : ((x : Int) * 2 ^ (8 * r)) % 4294967296 = ((x * 2 ^ (8 * r) % 4294967296 : Nat) : Int) := by
  rw [show (x : Int) * 2 ^ (8 * r) = ((x * 2 ^ (8 * r) : Nat) : Int) by simp]
  generalize x * 2 ^ (8 * r) = y
  omega
theorem sh32' (x r : Nat) : ((x : Int) * 2 ^ (r * 8)) % 4294967296 = ((x * 2 ^ (8 * r) % 4294967296 : Nat) : Int) := by
  rw [Nat.mul_comm r 8]
  exact sh32 x r
theorem words_at (s : ByteArray) (k : Nat) (h : k < s.size) : Bl.words s.data.toList (k + 1) = Bl.wd (Bl.words s.data.toList k) k s[k].toNat := by
  show Bl.wd _ _ _ = _
  congr 1
  have h' : k < s.data.toList.length := by simpa using h
  rw [List.getD_eq_getElem?_getD, List.getElem?_eq_getElem h']
  rfl
end Go.Proofs.Ytdllenoclnmmdaa

namespace Go.Proofs.Ytdllenoclnmmdaa
open Go.RowKit Go.Shelf
attribute [local go_sem] Oper.semAt_some

/-- a piece of a row, loaded whole -/
theorem run_load_part {P : Program} (w : World) (a : Addr) (ty : TypeId) (cs : Array Value) (d : TypeDesc) (hc : ∀ j v, cs.toList[j]? = some v → w.cell? (a.add j) = some v)
    (hu : P.underlying ty = some d) (hd : (match d with | .struct _ | .array _ _ => true | _ => false) = true) (hi : (P.info? ty).map (·.size) = some cs.size) :
    (loadVar ty a).run P w = .ok (.agg cs) w := by
  have hl : (loadCells a cs.toList.length).run P w = .ok cs.toList.toArray w := run_loadCells_list (P := P) w a cs.toList hc
  cases hq : P.info? ty with
  | none => simp [hq] at hi
  | some i =>
    have hs : i.size = cs.size := by simpa [hq] using hi
    have hagg : (isAgg ty).run P w = .ok true w := by
      unfold isAgg
      rw [Sem.run_bind, run_underlying hu w]
      cases d <;> simp_all
    simp only [Array.length_toList, Array.toArray_toList] at hl
    simp [loadVar, Sem.run_bind, hagg, sizeOf, typeInfo, hq, hs, hl]
theorem wpList_load_part {P : Program} {ops : Array Oper} {rest : List Oper} {o : Oper} {a : Act} {w : World} {Q : Exit → Act → World → Prop} (hgd : o.guard = none) (ty : TypeId) (x : Operand) (ho : o.op = .load ty x)
    (p : Addr) (hx : a.eval x = .pointer (some p)) (cs : Array Value) (d : TypeDesc) (hc : ∀ j v, cs.toList[j]? = some v → w.cell? (p.add j) = some v)
    (hu : P.underlying ty = some d) (hd : (match d with | .struct _ | .array _ _ => true | _ => false) = true) (hi : (P.info? ty).map (·.size) = some cs.size)
    (h : wpList P ops Q rest (a.put o.dst (.agg cs)) w) : wpList P ops Q (o :: rest) a w :=
  wpList_plain hgd fun _ hK => by
    unfold Oper.wp execOp
    simp only [ho, hx, Instr.loadAt, Instr.sureAddr, Sem.run_bind, Sem.run_pure, Result.andThen_ok, run_load_part w p ty cs d hc hu hd hi]
    exact hK _ _ h
theorem wpList_build_at {P : Program} {ops : Array Oper} {rest : List Oper} {o : Oper} {a : Act} {w : World} {Q : Exit → Act → World → Prop} (hgd : o.guard = none) (ty : TypeId) (parts : Array (Nat × Operand)) (ho : o.op = .build ty parts) (cells : Array Value)
    (hf : P.built ty (parts.map fun (i, x) => (i, a.eval x)).toList = some cells) (h : wpList P ops Q rest (a.put o.dst (.agg cells)) w) : wpList P ops Q (o :: rest) a w :=
  wpList_plain hgd fun _ hK => by
    have hr := run_build (P := P) w ty (parts.map fun (i, x) => (i, a.eval x)) cells hf
    unfold Oper.wp execOp
    simp only [ho, hr, Sem.run_bind, Sem.run_pure, Result.andThen_ok]
    exact hK _ _ h
theorem add_none (b o j : Nat) : (⟨b, o, none⟩ : Addr).add j = ⟨b, o + j, none⟩ := by unfold Addr.add; split <;> simp_all
set_option maxRecDepth 100000 in
theorem rbegins_any (w : World) : Calls Try.prog 72 #[] w fun e w' => e = .returned (.agg (cw Bl.begins)) ∧ Kept w w' := by
  go_enter Try.func72, Try.ntmps72
  go_wp2_with (first
    | (with_reducible refine wpList_alloc_block rfl 102 rfl z8 Try.zero8 ?_)
    | (refine wpList_store_block rfl 102 (.tmp 0) (.tmp 1) rfl w.heap.size (cw Bl.begins) z8 102 rfl (by kernel_rfl) (BlockAt.new _ _ _) Try.info8 rfl (cw_one _) ?_))
  refine bodyPost_ret (v := .agg (cw Bl.begins)) ?_ rfl ⟨rfl, ((Kept.refl w).alloc _).setRow (Nat.le_refl _) _⟩
  exact results_cell_row rfl _ _ w.heap.size 102 (cw Bl.begins) (0, 0) _ rfl ((BlockAt.new w z8 _).setRow _) Try.underlying102 rfl Try.info8
def ordV : Array Value := (Bl.orders.flatten.map fun (n : Nat) => Value.int .i64 (n : Int)).toArray
def ord0 : Array Value := Array.replicate 160 (.int .i64 0)
def ordR (r : Nat) : Array Value := ((Bl.orders.getD r []).map fun (n : Nat) => Value.int .i64 (n : Int)).toArray
def row0 : Array Value := Array.replicate 16 (.int .i64 0)
theorem Try.zeroOrd : (Try.prog.info? 122).map (·.zero) = some (some (.agg ord0)) := by kernel_rfl
theorem Try.infoOrd : (Try.prog.info? 122).map (·.size) = some 160 := by kernel_rfl
theorem Try.zeroRow : (Try.prog.info? 121).map (·.zero) = some (some (.agg row0)) := by kernel_rfl
theorem Try.infoRow : (Try.prog.info? 121).map (·.size) = some 16 := by kernel_rfl
theorem ordV_one : ordV.all (·.oneCell') = true := by kernel_rfl
theorem ordV_size : ordV.size = 160 := by kernel_rfl
theorem ordR_one (r : Nat) : (ordR r).all (·.oneCell') = true := by
  rw [Array.all_eq_true]
  intro i h
  simp [ordR, Value.oneCell']
theorem ordR_size (r : Nat) (h : r < 10) : (ordR r).size = 16 := by
  have h2 : ∀ r, r < 10 → (Bl.orders.getD r []).length = 16 := by decide
  simp only [ordR, List.size_toArray, List.length_map]
  exact h2 r h
theorem ordV_at : ∀ r, r < 10 → ∀ j, j < 16 → ordV[16 * r + j]? = (ordR r)[j]? := by
  have h : ∀ r, r < 10 → ∀ j, j < 16 → (Bl.orders.flatten)[16 * r + j]? = (Bl.orders.getD r [])[j]? := by decide
  intro r hr j hj
  simp only [ordV, ordR, List.getElem?_toArray, List.getElem?_map, h r hr j hj]
theorem ordR_at (r j : Nat) (h : r < 10) (hj : j < 16) : (ordR r)[j]? = some (.int .i64 ((Bl.orders.getD r []).getD j 0 : Nat)) := by
  have h2 : ∀ r, r < 10 → (Bl.orders.getD r []).length = 16 := by decide
  have h3 := h2 r h
  have h4 : j < (Bl.orders.getD r []).length := by omega
  rw [List.getD_eq_getElem?_getD (l := Bl.orders.getD r []), List.getElem?_eq_getElem h4]
  simp only [ordR, List.getElem?_toArray, List.getElem?_map, List.getElem?_eq_getElem h4, Option.map_some, Option.getD_some]
set_option maxRecDepth 100000 in
set_option maxHeartbeats 4000000 in
theorem rrows_any (w : World) : Calls Try.prog 90 #[] w fun e w' => e = .returned (.agg ordV) ∧ Kept w w' := by
  go_enter Try.func90, Try.ntmps90
  go_wp2_with (first
    | (with_reducible refine wpList_alloc_block rfl 122 rfl ord0 Try.zeroOrd ?_)
    | (with_reducible refine wpList_build_at (o := ⟨some 1, _, _, _, _, _⟩) rfl 121 _ rfl (ordR 0) (by kernel_rfl) ?_)
    | (with_reducible refine wpList_build_at (o := ⟨some 2, _, _, _, _, _⟩) rfl 121 _ rfl (ordR 1) (by kernel_rfl) ?_)
    | (with_reducible refine wpList_build_at (o := ⟨some 3, _, _, _, _, _⟩) rfl 121 _ rfl (ordR 2) (by kernel_rfl) ?_)
    | (with_reducible refine wpList_build_at (o := ⟨some 4, _, _, _, _, _⟩) rfl 121 _ rfl (ordR 3) (by kernel_rfl) ?_)
    | (with_reducible refine wpList_build_at (o := ⟨some 5, _, _, _, _, _⟩) rfl 121 _ rfl (ordR 4) (by kernel_rfl) ?_)
    | (with_reducible refine wpList_build_at (o := ⟨some 6, _, _, _, _, _⟩) rfl 121 _ rfl (ordR 5) (by kernel_rfl) ?_)
    | (with_reducible refine wpList_build_at (o := ⟨some 7, _, _, _, _, _⟩) rfl 121 _ rfl (ordR 6) (by kernel_rfl) ?_)
    | (with_reducible refine wpList_build_at (o := ⟨some 8, _, _, _, _, _⟩) rfl 121 _ rfl (ordR 7) (by kernel_rfl) ?_)
    | (with_reducible refine wpList_build_at (o := ⟨some 9, _, _, _, _, _⟩) rfl 121 _ rfl (ordR 8) (by kernel_rfl) ?_)
    | (with_reducible refine wpList_build_at (o := ⟨some 10, _, _, _, _, _⟩) rfl 121 _ rfl (ordR 9) (by kernel_rfl) ?_)
    | (with_reducible refine wpList_build_at (o := ⟨some 11, _, _, _, _, _⟩) rfl 122 _ rfl ordV (by kernel_rfl) ?_)
    | (refine wpList_store_block rfl 122 (.tmp 0) (.tmp 11) rfl w.heap.size ordV ord0 122 ?a1 ?a2 ?a3 ?a4 ?a5 ?a6 ?a7))
  case a3 => exact BlockAt.new _ _ _
  case a4 => rw [ordV_size]; exact Try.infoOrd
  case a5 => rw [ordV_size, ord0, Array.size_replicate]
  case a6 => exact ordV_one
  case a7 =>
    have hb := (BlockAt.new w ord0 122).setRow ordV
    have hk := ((Kept.refl w).alloc (.cells ord0 122)).setRow (Nat.le_refl _) ordV
    have hs : (Try.prog.info? 122).map (·.size) = some ordV.size := by rw [ordV_size]; exact Try.infoOrd
    generalize ordV = V at *
    simp only [Act.put, List.setIfInBounds_toArray, List.set_cons_zero, List.set_cons_succ]
    refine bodyPost_ret (v := .agg V) ?_ rfl ⟨rfl, hk⟩
    exact results_cell_row rfl _ _ w.heap.size 122 V (0, 0) _ rfl hb Try.underlying122 rfl hs
end Go.Proofs.Ytdllenoclnmmdaa

namespace Go.Proofs.Ytdllenoclnmmdaa
open Go.RowKit Go.Shelf
attribute [local go_sem] Oper.semAt_some

/-- the sixteen numbers, laid pair by pair -/
def laid (h : List Nat) : Nat → List Nat
  | 0 => List.replicate 16 0
  | k + 1 => ((laid h k).set k (h.getD k 0)).set (k + 8) (Bl.begins.getD k 0)
theorem laid_ok {h : List Nat} (hh : Bl.W 8 h) : ∀ k, Bl.W 16 (laid h k)
  | 0 => Bl.W.zeros 16
  | k + 1 => ((laid_ok hh k).set _ (hh.at _)).set _ (Bl.begins_ok.at _)
theorem laid_all {h : List Nat} (hh : Bl.W 8 h) : laid h 8 = h ++ Bl.begins := by
  obtain ⟨h1, _⟩ := hh
  match h, h1 with
  | [a, b, c, d, e, f, g, i], _ => rfl
theorem inv32 (x : Nat) (hx : x < 4294967296) : bits .xor .u32 IntKind.u32.max (x : Int) = ((Bl.inv x : Nat) : Int) := by
  have h := u32_xor_nat 4294967295 x (by decide) hx
  have e : 4294967295 ^^^ x = Bl.inv x := by
    unfold Bl.inv
    have h2 := BitVec.toNat_xor (BitVec.allOnes 32) (BitVec.ofNat 32 x)
    have h3 := BitVec.toNat_not (x := BitVec.ofNat 32 x)
    rw [← BitVec.allOnes_xor, h2] at h3
    simpa [Nat.mod_eq_of_lt hx] using h3
  rw [← e]
  exact h
theorem V16.drew {w W : World} {g : Nat} {v : List Nat} (h : V16 w g v W) : V16 w g v W.drew := ⟨h.row, gr_trans h.grown (gr_kept ((Kept.refl W).drewN 1) _), h.ok⟩
theorem V8.drew {w W : World} {g : Nat} {v : List Nat} (h : V8 w g v W) : V8 w g v W.drew := ⟨h.row, gr_trans h.grown (gr_kept ((Kept.refl W).drewN 1) _), h.ok⟩
theorem V16.on {w W W' : World} {g : Nat} {v : List Nat} (h : V16 w g v W) (k : Kept W W') : V16 w g v W' := ⟨h.row.kept k, gr_trans h.grown (gr_kept k _), h.ok⟩
theorem V8.on {w W W' : World} {g : Nat} {v : List Nat} (h : V8 w g v W) (k : Kept W W') : V8 w g v W' := ⟨h.row.kept k, gr_trans h.grown (gr_kept k _), h.ok⟩
theorem V16.trans {a b c : World} {g : Nat} {v : List Nat} (h : a.grownBy b (some g)) (k : V16 b g v c) : V16 a g v c := ⟨k.row, gr_trans h k.grown, k.ok⟩
theorem up32 (n : Nat) : (n : Int) % 4294967296 = ((n % 4294967296 : Nat) : Int) := by omega
theorem up32' (n : Nat) : (n : Int) / 4294967296 % 4294967296 = ((n / 4294967296 % 4294967296 : Nat) : Int) := by omega
def mixS (m o v : List Nat) (a b c d i j : Nat) : List Nat := Bl.mix v a b c d (m.getD (o.getD i 0) 0) (m.getD (o.getD j 0) 0)
theorem half8 (m o v : List Nat) : Bl.halfB m o (Bl.halfA m o v 4) 4 = Bl.mix (Bl.mix (Bl.mix (Bl.mix (Bl.mix (Bl.mix (Bl.mix (Bl.mix (v) 0 4 8 12 (m.getD (o.getD 0 0) 0) (m.getD (o.getD 1 0) 0)) 1 5 9 13 (m.getD (o.getD 2 0) 0) (m.getD (o.getD 3 0) 0)) 2 6 10 14 (m.getD (o.getD 4 0) 0) (m.getD (o.getD 5 0) 0)) 3 7 11 15 (m.getD (o.getD 6 0) 0) (m.getD (o.getD 7 0) 0)) 0 5 10 15 (m.getD (o.getD 8 0) 0) (m.getD (o.getD 9 0) 0)) 1 6 11 12 (m.getD (o.getD 10 0) 0) (m.getD (o.getD 11 0) 0)) 2 7 8 13 (m.getD (o.getD 12 0) 0) (m.getD (o.getD 13 0) 0)) 3 4 9 14 (m.getD (o.getD 14 0) 0) (m.getD (o.getD 15 0) 0) := by
  simp only [Bl.halfA, Bl.halfB, Nat.reduceMul, Nat.reduceAdd, Nat.reduceMod, Nat.mul_zero, Nat.zero_add, Nat.add_zero]
theorem rounds_step (m v0 : List Nat) (k : Nat) : Bl.rounds m v0 (k + 1) = Bl.halfB m (Bl.orders.getD k []) (Bl.halfA m (Bl.orders.getD k []) (Bl.rounds m v0 k) 4) 4 := rfl
theorem ord_part {W : World} {po k : Nat} (h : BlockAt W po ordV 122) (hk : k < 10) : ∀ j v, (ordR k).toList[j]? = some v → W.cell? ((⟨po, k * 16, none⟩ : Addr).add j) = some v := by
  intro j v hj
  have hj16 : j < 16 := by
    have h2 := (List.getElem?_eq_some_iff.1 hj).1
    rw [Array.length_toList, ordR_size k hk] at h2
    exact h2
  rw [add_none, h.cell, show k * 16 + j = 16 * k + j by omega, ordV_at k hk j hj16]
  simpa using hj
theorem start_set_f (h : List Nat) (n : Nat) : ((h ++ Bl.begins).set 12 ((h ++ Bl.begins).getD 12 0 ^^^ n % 4294967296)).set 13 ((h ++ Bl.begins).getD 13 0 ^^^ n / 4294967296 % 4294967296) = Bl.start h n false := by
  have e : ((h ++ Bl.begins).set 12 ((h ++ Bl.begins).getD 12 0 ^^^ n % 4294967296)).getD 13 0 = (h ++ Bl.begins).getD 13 0 := by simp [List.getD_eq_getElem?_getD]
  unfold Bl.start
  simp only [Bool.false_eq_true, if_false]
  rw [e]
theorem start_set_t (h : List Nat) (n : Nat) : (((h ++ Bl.begins).set 12 ((h ++ Bl.begins).getD 12 0 ^^^ n % 4294967296)).set 13 ((h ++ Bl.begins).getD 13 0 ^^^ n / 4294967296 % 4294967296)).set 14 (Bl.inv ((h ++ Bl.begins).getD 14 0)) = Bl.start h n true := by
  have e : ((h ++ Bl.begins).set 12 ((h ++ Bl.begins).getD 12 0 ^^^ n % 4294967296)).getD 13 0 = (h ++ Bl.begins).getD 13 0 := by simp [List.getD_eq_getElem?_getD]
  have e2 : (((h ++ Bl.begins).set 12 ((h ++ Bl.begins).getD 12 0 ^^^ n % 4294967296)).set 13 ((h ++ Bl.begins).getD 13 0 ^^^ n / 4294967296 % 4294967296)).getD 14 0 = (h ++ Bl.begins).getD 14 0 := by simp [List.getD_eq_getElem?_getD]
  unfold Bl.start
  simp only [if_true]
  rw [e, e2]
set_option maxRecDepth 100000 in
set_option maxHeartbeats 2000000 in
theorem rblock_any (g : Nat) (h : List Nat) (s : ByteArray) (n : Nat) (last : Bool) (hs : s.size ≤ 64) (hn : n < 18446744073709551616) (w : World) (hv : V8 w g h w) :
    Calls Try.prog 73 #[.pointer (some ⟨g, 0, none⟩), .string s, .int .u64 n, .bool last] w fun e w' => e = .returned (.tuple #[]) ∧ V8 w g (Bl.block h s.data.toList n last) w' := by
  have HV := Lib.hid hv
  have hgw : g < w.heap.size := hv.row.lt
  clear hv
  go_enter Try.func73, Try.ntmps73

  go_upto_region 1 with (with_reducible refine wpList_alloc_block rfl 120 rfl z16 Try.zero16 ?_)
  obtain ⟨w1, hw1⟩ : ∃ w1, w1 = w.alloc (.cells z16 120) := ⟨_, rfl⟩
  rw [← hw1]
  have hk1 : Kept w w1 := by rw [hw1]; exact (Kept.refl w).alloc _
  have hb1 : BlockAt w1 w.heap.size z16 120 := by rw [hw1]; exact BlockAt.new w _ _
  have hz1 : w1.heap.size = w.heap.size + 1 := by rw [hw1]; simp
  obtain ⟨pm, hpm⟩ : ∃ pm, pm = w.heap.size := ⟨_, rfl⟩
  have hgm : g < pm := by omega
  rw [← hpm] at hb1 hz1 ⊢
  have HPM := Lib.hid hpm
  have HV1 := Lib.hid (V16.here (v := List.replicate 16 0) hb1 (Bl.W.zeros 16))
  have HK1 := Lib.hid hk1
  have HZ1 := Lib.hid hz1
  clear hw1 hk1 hb1 hpm hz1
  go_wp2_with fail
  go_loopw [9] (fun i wr => ∃ k : Nat, k ≤ s.size ∧ i = .int .i64 k ∧ V16 w1 pm (Bl.words s.data.toList k) wr) (fun i _ => s.size - (intOf i).toNat)
  case atStart => exact ⟨0, by omega, rfl, HV1.out⟩
  case round =>
    obtain ⟨k, hk, rfl, hv⟩ := hrel
    have HVm := Lib.hid hv
    clear hv
    by_cases hlt : k < s.size
    · as_aux_lemma =>
        have HS := Lib.hid (words_at s k hlt)
        obtain ⟨q, hq⟩ : ∃ q, q = k / 4 := ⟨_, rfl⟩
        obtain ⟨r, hr⟩ : ∃ r, r = k % 4 := ⟨_, rfl⟩
        have hq16 : q < 16 := by omega
        have hr4 : r < 4 := by omega
        have c1 := HVm.out.cell q hq16
        have f1 := HVm.out.free q
        have hml : (Bl.words s.data.toList k).getD q 0 < 4294967296 := HVm.out.ok.at q
        obtain ⟨u, hu⟩ : ∃ u, u = (Bl.words s.data.toList k).getD q 0 := ⟨_, rfl⟩
        rw [← hu] at c1 hml
        have hx := UInt8.toNat_lt s[k]
        have e1 := sh32 s[k].toNat r
        have e2 := o32 u (s[k].toNat * 2 ^ (8 * r) % 4294967296) hml (Nat.mod_lt _ (by decide))
        have hst : ∀ nq, V16 w1 pm (Bl.wd (Bl.words s.data.toList k) k s[k].toNat) ((wr.drewN nq).setCell ⟨pm, q, none⟩ (.int .u32 ((u ||| s[k].toNat * 2 ^ (8 * r) % 4294967296 : Nat) : Int))) := fun nq => by
          have h := HVm.out.put nq q (Bl.or_lt hml (Nat.mod_lt (s[k].toNat * 2 ^ (8 * r)) (by decide)))
          unfold Bl.wd
          rw [← hq, ← hr, ← hu]
          exact h
        have HST := Lib.hid hst
        have hq2 : (k : Int) / 4 = (q : Int) := by omega
        have hr2 : (k : Int) % 4 = (r : Int) := by omega
        clear hst hq hr hu hml
        generalize u ||| s[k].toNat * 2 ^ (8 * r) % 4294967296 = z at *
        generalize s[k].toNat * 2 ^ (8 * r) % 4294967296 = y at *
        go_wp2_with fail
        refine (wpIn_wide (n := 0)).1 ?_
        refine wpIn_region_quiet_tail_lit 16 (by kernel_rfl) (by kernel_rfl) (by kernel_rfl) ?_
        simp only [List.take_succ_cons, List.take_zero, List.drop_succ_cons, List.drop_zero]
        repeat (gi_big_quiet_step (fail))
        refine wpQuietIn_nil ?_
        intro _ hw'
        obtain ⟨nq, hw''⟩ := hw'
        subst hw''
        gi_wp2
        go_wp2
        go_roundw
        case rel => exact ⟨k + 1, by omega, by go_num, by rw [HS.out]; exact HST.out nq⟩
        case measure => simp [intOf]; omega
    · obtain rfl : k = s.size := by omega

      have HK2 := Lib.hid (HVm.out.kept HK1.out (by have := HPM.out; omega))
      have hbm := HVm.out.row
      have hz2 : pm < wr.heap.size := hbm.lt
      obtain ⟨m, hm⟩ : ∃ m, m = Bl.words s.data.toList s.size := ⟨_, rfl⟩
      have hmo : Bl.W 16 m := by rw [hm]; exact Bl.words_ok _ _
      rw [← hm] at hbm
      have HBM := Lib.hid hbm
      have HMO := Lib.hid hmo
      have HM := Lib.hid hm
      clear hbm hmo hm HVm HV1 HK1 HZ1
      go_upto_region 6 with (with_reducible refine wpList_alloc_block rfl 120 rfl z16 Try.zero16 ?_)
      obtain ⟨w3, hw3⟩ : ∃ w3, w3 = wr.alloc (.cells z16 120) := ⟨_, rfl⟩
      rw [← hw3]
      have hk3 : Kept wr w3 := by rw [hw3]; exact (Kept.refl wr).alloc _
      have hb3 : BlockAt w3 wr.heap.size z16 120 := by rw [hw3]; exact BlockAt.new wr _ _
      obtain ⟨pv, hpv⟩ : ∃ pv, pv = wr.heap.size := ⟨_, rfl⟩
      rw [← hpv] at hb3 ⊢
      have hmv : pm < pv := by omega
      have HB3 := Lib.hid hb3
      have HK3 := Lib.hid (HK2.out.trans hk3)
      have HBM3 := Lib.hid (HBM.out.kept hk3)
      clear hw3 hk3 hb3 HBM HK2 hpv hz2
      go_wp2_with fail
      refine (rbegins_any _).mono ?_
      rintro e w4 ⟨rfl, hk4⟩
      have HB4 := Lib.hid (HB3.out.kept hk4)
      have HK4 := Lib.hid (HK3.out.trans hk4)
      have HBM4 := Lib.hid (HBM3.out.kept hk4)
      clear hk4 HB3 HK3 HBM3
      go_wp2_with (first
        | (with_reducible refine wpList_alloc_block rfl 102 rfl z8 Try.zero8 ?_)
        | (refine wpList_store_block rfl 102 (.tmp 11) (.tmp 39) rfl w4.heap.size (cw Bl.begins) z8 102 rfl rfl (BlockAt.new _ _ _) Try.info8 rfl (cw_one _) ?_))
      obtain ⟨w5, hw5⟩ : ∃ w5, w5 = (w4.alloc (.cells z8 102)).setRow w4.heap.size (cw Bl.begins) := ⟨_, rfl⟩
      rw [← hw5]
      have hk5 : Kept w4 w5 := by rw [hw5]; exact ((Kept.refl w4).alloc _).setRow (Nat.le_refl _) _
      have hb5 : BlockAt w5 w4.heap.size (cw Bl.begins) 102 := by rw [hw5]; exact (BlockAt.new w4 _ _).setRow _
      have hvp : pv < w4.heap.size := HB4.out.lt
      obtain ⟨pb, hpb⟩ : ∃ pb, pb = w4.heap.size := ⟨_, rfl⟩
      rw [← hpb] at hb5 hvp ⊢
      have HV5 := Lib.hid (V16.here (v := laid h 0) (HB4.out.kept hk5) (Bl.W.zeros 16))
      have HBB := Lib.hid hb5
      have HK5 := Lib.hid (HK4.out.trans hk5)
      have HBM5 := Lib.hid (HBM4.out.kept hk5)
      have HH5 := Lib.hid (HV.out.row.kept HK5.out)
      clear hw5 hk5 hb5 HB4 HK4 HBM4 hpb
      go_loopw [12] (fun i wx => ∃ k : Nat, k ≤ 8 ∧ i = .int .i64 k ∧ V16 w5 pv (laid h k) wx) (fun i _ => 8 - (intOf i).toNat)
      case atStart => exact ⟨0, by omega, rfl, HV5.out⟩
      case round =>
        obtain ⟨k, hk, rfl, hv⟩ := hrel
        have HVk := Lib.hid hv
        clear hv
        by_cases hlt : k < 8
        · as_aux_lemma =>
            have c1 := (other_row HH5.out HVk.out.grown (by omega)).cell k
            rw [cw_at h k (by rw [HV.out.ok.len]; exact hlt)] at c1
            have c2 := (other_row HBB.out HVk.out.grown (by omega)).cell k
            rw [cw_at _ k (by rw [Bl.begins_ok.len]; exact hlt)] at c2
            have c3 := HVk.out.cell k (by omega)
            have c4 := HVk.out.cell (k + 8) (by omega)
            have f3 := HVk.out.free k
            have f4 := HVk.out.free (k + 8)
            have hst := (HVk.out.put0 k (HV.out.ok.at k)).put0 (k + 8) (Bl.begins_ok.at k)
            rw [show ((laid h k).set k (h.getD k 0)).set (k + 8) (Bl.begins.getD k 0) = laid h (k + 1) from rfl] at hst
            have HST := Lib.hid hst
            clear hst
            generalize h.getD k 0 = x at *
            generalize Bl.begins.getD k 0 = y at *
            go_wp2_with fail
            go_region
            go_wp2
            go_roundw
            case rel => exact ⟨k + 1, by omega, by go_num, HST.out.drew⟩
            case measure => simp [intOf]; omega
        · obtain rfl : k = 8 := by omega

          have hv8 := HVk.out
          rw [laid_all HV.out.ok] at hv8
          have HV8 := Lib.hid hv8
          clear hv8 HVk HV5
          cases last
          · as_aux_lemma =>
              have hsg : IntKind.u32.signed = false := rfl
              have HKP := Lib.hid (HV8.out.kept HK5.out (by have := HPM.out; omega))
              have hgl : g < pv := by omega
              clear HBB
              have c12 := HV8.out.cell 12 (by omega)
              have c13 := HV8.out.cell 13 (by omega)
              have f12 := HV8.out.free 12
              have f13 := HV8.out.free 13
              have u12 := HV8.out.ok.at 12
              have u13 := HV8.out.ok.at 13
              have e1 := up32 n
              have hn2 : n / 4294967296 % 4294967296 = n / 4294967296 := Nat.mod_eq_of_lt (by omega)
              have e3 := x32 _ (n % 4294967296) u12 (Nat.mod_lt _ (by decide))
              have e4 : bits .xor .u32 ((h ++ Bl.begins).getD 13 0 : Nat) ((n : Int) / 4294967296) = (((h ++ Bl.begins).getD 13 0 ^^^ n / 4294967296 % 4294967296 : Nat) : Int) := by
                rw [hn2, show (n : Int) / 4294967296 = ((n / 4294967296 : Nat) : Int) by omega]
                exact x32 _ _ u13 (by omega)
              clear hn2
              have hst := (HV8.out.put0 12 (Bl.xor_lt u12 (Nat.mod_lt n (by decide)))).put0 13 (Bl.xor_lt u13 (Nat.mod_lt (n / 4294967296) (by decide)))
              rw [start_set_f h n] at hst
              have HST := Lib.hid hst
              clear hst u12 u13
              generalize (h ++ Bl.begins).getD 12 0 ^^^ n % 4294967296 = y12 at *
              generalize (h ++ Bl.begins).getD 13 0 ^^^ n / 4294967296 % 4294967296 = y13 at *
              generalize (h ++ Bl.begins).getD 12 0 = y12a at *
              generalize (h ++ Bl.begins).getD 13 0 = y13a at *
              generalize n % 4294967296 = n1 at *
              go_wp2_with fail
              refine (rrows_any _).mono ?_
              rintro e w6 ⟨rfl, hk6⟩
              have HV6 := Lib.hid (HST.out.on hk6)
              clear hk6 HST HV8 c12 c13 f12 f13 e1 e3 e4
              have HBM6 := Lib.hid (other_row HBM5.out HV6.out.grown (by omega))
              have HH6 := Lib.hid (other_row HH5.out HV6.out.grown (by omega))
              have HK6 := Lib.hid (HV6.out.kept HK5.out (by have := HPM.out; omega))
              clear HBM5 HH5 HK5 HKP hsg
              go_wp2_with (first
                | (with_reducible refine wpList_alloc_block rfl 122 rfl ord0 Try.zeroOrd ?_)
                | (refine wpList_store_block rfl 122 (.tmp 13) (.tmp 75) rfl w6.heap.size ordV ord0 122 rfl rfl (BlockAt.new _ _ _) (by rw [ordV_size]; exact Try.infoOrd) (by rw [ordV_size, ord0, Array.size_replicate]) ordV_one ?_))
              obtain ⟨w7, hw7⟩ : ∃ w7, w7 = (w6.alloc (.cells ord0 122)).setRow w6.heap.size ordV := ⟨_, rfl⟩
              rw [← hw7]
              have hk7 : Kept w6 w7 := by rw [hw7]; exact ((Kept.refl w6).alloc _).setRow (Nat.le_refl _) _
              have hb7 : BlockAt w7 w6.heap.size ordV 122 := by rw [hw7]; exact (BlockAt.new w6 _ _).setRow _
              have hvo : pv < w6.heap.size := HV6.out.row.lt
              obtain ⟨po, hpo⟩ : ∃ po, po = w6.heap.size := ⟨_, rfl⟩
              rw [← hpo] at hb7 hvo ⊢
              obtain ⟨v0, hv0⟩ : ∃ v0, v0 = Bl.start h n false := ⟨_, rfl⟩
              have HV0 := Lib.hid hv0
              have hv7 := V16.here (HV6.out.row.kept hk7) HV6.out.ok
              rw [← hv0] at hv7
              have HV7 := Lib.hid hv7
              have HO7 := Lib.hid hb7
              have HK7 := Lib.hid (HK6.out.trans hk7)
              have HBM7 := Lib.hid (HBM6.out.kept hk7)
              have HH7 := Lib.hid (HH6.out.kept hk7)
              clear hw7 hk7 hb7 HV6 HBM6 HH6 HK6 hpo hv0 hv7
              go_wp2_with fail
              go_loopw [14] (fun i wx => ∃ k : Nat, k ≤ 10 ∧ i = .int .i64 k ∧ V16 w7 pv (Bl.rounds m v0 k) wx) (fun i _ => 10 - (intOf i).toNat)
              case atStart => exact ⟨0, by omega, rfl, HV7.out⟩
              case round =>
                obtain ⟨k, hk, rfl, hv⟩ := hrel
                have HVk := Lib.hid hv
                clear hv
                by_cases hlt : k < 10
                · as_aux_lemma =>
                    have HOk := Lib.hid (other_row HO7.out HVk.out.grown (by omega))
                    have HBk := Lib.hid (other_row HBM7.out HVk.out.grown (by omega))
                    go_wp2_with (first
                      | (with_reducible refine wpList_alloc_block rfl 121 rfl row0 Try.zeroRow ?_)
                      | (refine wpList_load_part rfl 121 (.tmp 81) rfl ⟨po, k * 16, none⟩ rfl (ordR k) _ (ord_part HOk.out hlt) Try.underlying121 rfl (by rw [ordR_size k hlt]; exact Try.infoRow) ?_)
                      | (refine wpList_store_block rfl 121 (.tmp 15) (.tmp 82) rfl wr.heap.size (ordR k) row0 121 rfl rfl (BlockAt.new _ _ _) (by rw [ordR_size k hlt]; exact Try.infoRow) (by rw [ordR_size k hlt, row0, Array.size_replicate]) (ordR_one k) ?_))
                    obtain ⟨wb, hwb⟩ : ∃ wb, wb = (wr.alloc (.cells row0 121)).setRow wr.heap.size (ordR k) := ⟨_, rfl⟩
                    rw [← hwb]
                    have hkb : Kept wr wb := by rw [hwb]; exact ((Kept.refl wr).alloc _).setRow (Nat.le_refl _) _
                    have hrb : BlockAt wb wr.heap.size (ordR k) 121 := by rw [hwb]; exact (BlockAt.new wr _ _).setRow _
                    have hor : po < wr.heap.size := HOk.out.lt
                    obtain ⟨pr, hpr⟩ : ∃ pr, pr = wr.heap.size := ⟨_, rfl⟩
                    rw [← hpr] at hrb hor ⊢
                    obtain ⟨x0, hx0⟩ : ∃ x0, x0 = Bl.rounds m v0 k := ⟨_, rfl⟩
                    have HX0 := Lib.hid hx0
                    have hg7 := gr_trans HVk.out.grown (gr_kept hkb (some pv))
                    have hv0 := V16.here (HVk.out.row.kept hkb) HVk.out.ok
                    rw [← hx0] at hv0
                    have HVx0 := Lib.hid hv0
                    have HRb := Lib.hid hrb
                    have HBb := Lib.hid (HBk.out.kept hkb)
                    have HG7 := Lib.hid hg7
                    clear hwb hkb hrb hpr hx0 hg7 hv0 HOk HBk
                    simp only [Act.put, List.setIfInBounds_toArray, List.set_cons_zero, List.set_cons_succ]
                    have hr0 := other_row HRb.out HVx0.out.grown (by omega)
                    have hm0 := other_row HBb.out HVx0.out.grown (by omega)
                    have c1 := hr0.cell 0
                    rw [ordR_at k 0 hlt (by omega)] at c1
                    have c2 := hr0.cell 1
                    rw [ordR_at k 1 hlt (by omega)] at c2
                    have c3 := hm0.cell ((Bl.orders.getD k []).getD 0 0)
                    rw [cw_at m _ (by rw [HMO.out.len]; exact Bl.order_lt k 0)] at c3
                    have c4 := hm0.cell ((Bl.orders.getD k []).getD 1 0)
                    rw [cw_at m _ (by rw [HMO.out.len]; exact Bl.order_lt k 1)] at c4
                    have l1 := Bl.order_lt k 0
                    have l2 := Bl.order_lt k 1
                    clear hr0 hm0
                    obtain ⟨x1, hz0⟩ : ∃ y, y = mixS m (Bl.orders.getD k []) x0 0 4 8 12 0 1 := ⟨_, rfl⟩
                    have HX1 := Lib.hid hz0
                    have hy0 := hz0
                    rw [mixS] at hy0
                    clear hz0
                    have HC := Lib.hid (fun nq => rmix_any pv x0 0 4 8 12 (m.getD ((Bl.orders.getD k []).getD 0 0) 0) (m.getD ((Bl.orders.getD k []).getD 1 0) 0) (by decide) (by decide) (by decide) (by decide) (wb.drewN nq) (V16.here (HVx0.out.row.kept ((Kept.refl _).drewN nq)) HVx0.out.ok))
                    rw [← hy0] at HC
                    clear hy0
                    generalize m.getD ((Bl.orders.getD k []).getD 0 0) 0 = p1 at *
                    generalize m.getD ((Bl.orders.getD k []).getD 1 0) 0 = p2 at *
                    generalize (Bl.orders.getD k []).getD 0 0 = q1 at *
                    generalize (Bl.orders.getD k []).getD 1 0 = q2 at *
                    go_wp2_with fail
                    refine (wpIn_wide (n := 0)).1 ?_
                    refine wpIn_region_quiet_tail_lit 8 (by kernel_rfl) (by kernel_rfl) (by kernel_rfl) ?_
                    simp only [List.take_succ_cons, List.take_zero, List.drop_succ_cons, List.drop_zero]
                    repeat (gi_big_quiet_step (fail))
                    refine wpQuietIn_nil ?_
                    intro _ hw'
                    obtain ⟨nq, hw''⟩ := hw'
                    subst hw''
                    gi_wp2_with fail
                    refine callsIn_wide.2 ((HC.out nq).mono ?_)
                    rintro e w10 ⟨rfl, hw⟩
                    have HVx1 := Lib.hid (V16.trans (gr_trans HVx0.out.grown (gr_kept ((Kept.refl _).drewN nq) _)) hw)
                    clear hw HC c1 c2 c3 c4 l1 l2 HVx0
                    gi_wp2
                    have hr1 := other_row HRb.out HVx1.out.grown (by omega)
                    have hm1 := other_row HBb.out HVx1.out.grown (by omega)
                    have c1 := hr1.cell 2
                    rw [ordR_at k 2 hlt (by omega)] at c1
                    have c2 := hr1.cell 3
                    rw [ordR_at k 3 hlt (by omega)] at c2
                    have c3 := hm1.cell ((Bl.orders.getD k []).getD 2 0)
                    rw [cw_at m _ (by rw [HMO.out.len]; exact Bl.order_lt k 2)] at c3
                    have c4 := hm1.cell ((Bl.orders.getD k []).getD 3 0)
                    rw [cw_at m _ (by rw [HMO.out.len]; exact Bl.order_lt k 3)] at c4
                    have l1 := Bl.order_lt k 2
                    have l2 := Bl.order_lt k 3
                    clear hr1 hm1
                    obtain ⟨x2, hz1⟩ : ∃ y, y = mixS m (Bl.orders.getD k []) x1 1 5 9 13 2 3 := ⟨_, rfl⟩
                    have HX2 := Lib.hid hz1
                    have hy1 := hz1
                    rw [mixS] at hy1
                    clear hz1
                    have HC := Lib.hid (fun nq => rmix_any pv x1 1 5 9 13 (m.getD ((Bl.orders.getD k []).getD 2 0) 0) (m.getD ((Bl.orders.getD k []).getD 3 0) 0) (by decide) (by decide) (by decide) (by decide) (w10.drewN nq) (V16.here (HVx1.out.row.kept ((Kept.refl _).drewN nq)) HVx1.out.ok))
                    rw [← hy1] at HC
                    clear hy1
                    generalize m.getD ((Bl.orders.getD k []).getD 2 0) 0 = p1 at *
                    generalize m.getD ((Bl.orders.getD k []).getD 3 0) 0 = p2 at *
                    generalize (Bl.orders.getD k []).getD 2 0 = q1 at *
                    generalize (Bl.orders.getD k []).getD 3 0 = q2 at *
                    go_wp2_with fail
                    refine (wpIn_wide (n := 0)).1 ?_
                    refine wpIn_region_quiet_tail_lit 8 (by kernel_rfl) (by kernel_rfl) (by kernel_rfl) ?_
                    simp only [List.take_succ_cons, List.take_zero, List.drop_succ_cons, List.drop_zero]
                    repeat (gi_big_quiet_step (fail))
                    refine wpQuietIn_nil ?_
                    intro _ hw'
                    obtain ⟨nq, hw''⟩ := hw'
                    subst hw''
                    gi_wp2_with fail
                    refine callsIn_wide.2 ((HC.out nq).mono ?_)
                    rintro e w11 ⟨rfl, hw⟩
                    have HVx2 := Lib.hid (V16.trans (gr_trans HVx1.out.grown (gr_kept ((Kept.refl _).drewN nq) _)) hw)
                    clear hw HC c1 c2 c3 c4 l1 l2 HVx1
                    gi_wp2
                    have hr2 := other_row HRb.out HVx2.out.grown (by omega)
                    have hm2 := other_row HBb.out HVx2.out.grown (by omega)
                    have c1 := hr2.cell 4
                    rw [ordR_at k 4 hlt (by omega)] at c1
                    have c2 := hr2.cell 5
                    rw [ordR_at k 5 hlt (by omega)] at c2
                    have c3 := hm2.cell ((Bl.orders.getD k []).getD 4 0)
                    rw [cw_at m _ (by rw [HMO.out.len]; exact Bl.order_lt k 4)] at c3
                    have c4 := hm2.cell ((Bl.orders.getD k []).getD 5 0)
                    rw [cw_at m _ (by rw [HMO.out.len]; exact Bl.order_lt k 5)] at c4
                    have l1 := Bl.order_lt k 4
                    have l2 := Bl.order_lt k 5
                    clear hr2 hm2
                    obtain ⟨x3, hz2⟩ : ∃ y, y = mixS m (Bl.orders.getD k []) x2 2 6 10 14 4 5 := ⟨_, rfl⟩
                    have HX3 := Lib.hid hz2
                    have hy2 := hz2
                    rw [mixS] at hy2
                    clear hz2
                    have HC := Lib.hid (fun nq => rmix_any pv x2 2 6 10 14 (m.getD ((Bl.orders.getD k []).getD 4 0) 0) (m.getD ((Bl.orders.getD k []).getD 5 0) 0) (by decide) (by decide) (by decide) (by decide) (w11.drewN nq) (V16.here (HVx2.out.row.kept ((Kept.refl _).drewN nq)) HVx2.out.ok))
                    rw [← hy2] at HC
                    clear hy2
                    generalize m.getD ((Bl.orders.getD k []).getD 4 0) 0 = p1 at *
                    generalize m.getD ((Bl.orders.getD k []).getD 5 0) 0 = p2 at *
                    generalize (Bl.orders.getD k []).getD 4 0 = q1 at *
                    generalize (Bl.orders.getD k []).getD 5 0 = q2 at *
                    go_wp2_with fail
                    refine (wpIn_wide (n := 0)).1 ?_
                    refine wpIn_region_quiet_tail_lit 8 (by kernel_rfl) (by kernel_rfl) (by kernel_rfl) ?_
                    simp only [List.take_succ_cons, List.take_zero, List.drop_succ_cons, List.drop_zero]
                    repeat (gi_big_quiet_step (fail))
                    refine wpQuietIn_nil ?_
                    intro _ hw'
                    obtain ⟨nq, hw''⟩ := hw'
                    subst hw''
                    gi_wp2_with fail
                    refine callsIn_wide.2 ((HC.out nq).mono ?_)
                    rintro e w12 ⟨rfl, hw⟩
                    have HVx3 := Lib.hid (V16.trans (gr_trans HVx2.out.grown (gr_kept ((Kept.refl _).drewN nq) _)) hw)
                    clear hw HC c1 c2 c3 c4 l1 l2 HVx2
                    gi_wp2
                    have hr3 := other_row HRb.out HVx3.out.grown (by omega)
                    have hm3 := other_row HBb.out HVx3.out.grown (by omega)
                    have c1 := hr3.cell 6
                    rw [ordR_at k 6 hlt (by omega)] at c1
                    have c2 := hr3.cell 7
                    rw [ordR_at k 7 hlt (by omega)] at c2
                    have c3 := hm3.cell ((Bl.orders.getD k []).getD 6 0)
                    rw [cw_at m _ (by rw [HMO.out.len]; exact Bl.order_lt k 6)] at c3
                    have c4 := hm3.cell ((Bl.orders.getD k []).getD 7 0)
                    rw [cw_at m _ (by rw [HMO.out.len]; exact Bl.order_lt k 7)] at c4
                    have l1 := Bl.order_lt k 6
                    have l2 := Bl.order_lt k 7
                    clear hr3 hm3
                    obtain ⟨x4, hz3⟩ : ∃ y, y = mixS m (Bl.orders.getD k []) x3 3 7 11 15 6 7 := ⟨_, rfl⟩
                    have HX4 := Lib.hid hz3
                    have hy3 := hz3
                    rw [mixS] at hy3
                    clear hz3
                    have HC := Lib.hid (fun nq => rmix_any pv x3 3 7 11 15 (m.getD ((Bl.orders.getD k []).getD 6 0) 0) (m.getD ((Bl.orders.getD k []).getD 7 0) 0) (by decide) (by decide) (by decide) (by decide) (w12.drewN nq) (V16.here (HVx3.out.row.kept ((Kept.refl _).drewN nq)) HVx3.out.ok))
                    rw [← hy3] at HC
                    clear hy3
                    generalize m.getD ((Bl.orders.getD k []).getD 6 0) 0 = p1 at *
                    generalize m.getD ((Bl.orders.getD k []).getD 7 0) 0 = p2 at *
                    generalize (Bl.orders.getD k []).getD 6 0 = q1 at *
                    generalize (Bl.orders.getD k []).getD 7 0 = q2 at *
                    go_wp2_with fail
                    refine (wpIn_wide (n := 0)).1 ?_
                    refine wpIn_region_quiet_tail_lit 8 (by kernel_rfl) (by kernel_rfl) (by kernel_rfl) ?_
                    simp only [List.take_succ_cons, List.take_zero, List.drop_succ_cons, List.drop_zero]
                    repeat (gi_big_quiet_step (fail))
                    refine wpQuietIn_nil ?_
                    intro _ hw'
                    obtain ⟨nq, hw''⟩ := hw'
                    subst hw''
                    gi_wp2_with fail
                    refine callsIn_wide.2 ((HC.out nq).mono ?_)
                    rintro e w13 ⟨rfl, hw⟩
                    have HVx4 := Lib.hid (V16.trans (gr_trans HVx3.out.grown (gr_kept ((Kept.refl _).drewN nq) _)) hw)
                    clear hw HC c1 c2 c3 c4 l1 l2 HVx3
                    gi_wp2
                    have hr4 := other_row HRb.out HVx4.out.grown (by omega)
                    have hm4 := other_row HBb.out HVx4.out.grown (by omega)
                    have c1 := hr4.cell 8
                    rw [ordR_at k 8 hlt (by omega)] at c1
                    have c2 := hr4.cell 9
                    rw [ordR_at k 9 hlt (by omega)] at c2
                    have c3 := hm4.cell ((Bl.orders.getD k []).getD 8 0)
                    rw [cw_at m _ (by rw [HMO.out.len]; exact Bl.order_lt k 8)] at c3
                    have c4 := hm4.cell ((Bl.orders.getD k []).getD 9 0)
                    rw [cw_at m _ (by rw [HMO.out.len]; exact Bl.order_lt k 9)] at c4
                    have l1 := Bl.order_lt k 8
                    have l2 := Bl.order_lt k 9
                    clear hr4 hm4
                    obtain ⟨x5, hz4⟩ : ∃ y, y = mixS m (Bl.orders.getD k []) x4 0 5 10 15 8 9 := ⟨_, rfl⟩
                    have HX5 := Lib.hid hz4
                    have hy4 := hz4
                    rw [mixS] at hy4
                    clear hz4
                    have HC := Lib.hid (fun nq => rmix_any pv x4 0 5 10 15 (m.getD ((Bl.orders.getD k []).getD 8 0) 0) (m.getD ((Bl.orders.getD k []).getD 9 0) 0) (by decide) (by decide) (by decide) (by decide) (w13.drewN nq) (V16.here (HVx4.out.row.kept ((Kept.refl _).drewN nq)) HVx4.out.ok))
                    rw [← hy4] at HC
                    clear hy4
                    generalize m.getD ((Bl.orders.getD k []).getD 8 0) 0 = p1 at *
                    generalize m.getD ((Bl.orders.getD k []).getD 9 0) 0 = p2 at *
                    generalize (Bl.orders.getD k []).getD 8 0 = q1 at *
                    generalize (Bl.orders.getD k []).getD 9 0 = q2 at *
                    go_wp2_with fail
                    refine (wpIn_wide (n := 0)).1 ?_
                    refine wpIn_region_quiet_tail_lit 8 (by kernel_rfl) (by kernel_rfl) (by kernel_rfl) ?_
                    simp only [List.take_succ_cons, List.take_zero, List.drop_succ_cons, List.drop_zero]
                    repeat (gi_big_quiet_step (fail))
                    refine wpQuietIn_nil ?_
                    intro _ hw'
                    obtain ⟨nq, hw''⟩ := hw'
                    subst hw''
                    gi_wp2_with fail
                    refine callsIn_wide.2 ((HC.out nq).mono ?_)
                    rintro e w14 ⟨rfl, hw⟩
                    have HVx5 := Lib.hid (V16.trans (gr_trans HVx4.out.grown (gr_kept ((Kept.refl _).drewN nq) _)) hw)
                    clear hw HC c1 c2 c3 c4 l1 l2 HVx4
                    gi_wp2
                    have hr5 := other_row HRb.out HVx5.out.grown (by omega)
                    have hm5 := other_row HBb.out HVx5.out.grown (by omega)
                    have c1 := hr5.cell 10
                    rw [ordR_at k 10 hlt (by omega)] at c1
                    have c2 := hr5.cell 11
                    rw [ordR_at k 11 hlt (by omega)] at c2
                    have c3 := hm5.cell ((Bl.orders.getD k []).getD 10 0)
                    rw [cw_at m _ (by rw [HMO.out.len]; exact Bl.order_lt k 10)] at c3
                    have c4 := hm5.cell ((Bl.orders.getD k []).getD 11 0)
                    rw [cw_at m _ (by rw [HMO.out.len]; exact Bl.order_lt k 11)] at c4
                    have l1 := Bl.order_lt k 10
                    have l2 := Bl.order_lt k 11
                    clear hr5 hm5
                    obtain ⟨x6, hz5⟩ : ∃ y, y = mixS m (Bl.orders.getD k []) x5 1 6 11 12 10 11 := ⟨_, rfl⟩
                    have HX6 := Lib.hid hz5
                    have hy5 := hz5
                    rw [mixS] at hy5
                    clear hz5
                    have HC := Lib.hid (fun nq => rmix_any pv x5 1 6 11 12 (m.getD ((Bl.orders.getD k []).getD 10 0) 0) (m.getD ((Bl.orders.getD k []).getD 11 0) 0) (by decide) (by decide) (by decide) (by decide) (w14.drewN nq) (V16.here (HVx5.out.row.kept ((Kept.refl _).drewN nq)) HVx5.out.ok))
                    rw [← hy5] at HC
                    clear hy5
                    generalize m.getD ((Bl.orders.getD k []).getD 10 0) 0 = p1 at *
                    generalize m.getD ((Bl.orders.getD k []).getD 11 0) 0 = p2 at *
                    generalize (Bl.orders.getD k []).getD 10 0 = q1 at *
                    generalize (Bl.orders.getD k []).getD 11 0 = q2 at *
                    go_wp2_with fail
                    refine (wpIn_wide (n := 0)).1 ?_
                    refine wpIn_region_quiet_tail_lit 8 (by kernel_rfl) (by kernel_rfl) (by kernel_rfl) ?_
                    simp only [List.take_succ_cons, List.take_zero, List.drop_succ_cons, List.drop_zero]
                    repeat (gi_big_quiet_step (fail))
                    refine wpQuietIn_nil ?_
                    intro _ hw'
                    obtain ⟨nq, hw''⟩ := hw'
                    subst hw''
                    gi_wp2_with fail
                    refine callsIn_wide.2 ((HC.out nq).mono ?_)
                    rintro e w15 ⟨rfl, hw⟩
                    have HVx6 := Lib.hid (V16.trans (gr_trans HVx5.out.grown (gr_kept ((Kept.refl _).drewN nq) _)) hw)
                    clear hw HC c1 c2 c3 c4 l1 l2 HVx5
                    gi_wp2
                    have hr6 := other_row HRb.out HVx6.out.grown (by omega)
                    have hm6 := other_row HBb.out HVx6.out.grown (by omega)
                    have c1 := hr6.cell 12
                    rw [ordR_at k 12 hlt (by omega)] at c1
                    have c2 := hr6.cell 13
                    rw [ordR_at k 13 hlt (by omega)] at c2
                    have c3 := hm6.cell ((Bl.orders.getD k []).getD 12 0)
                    rw [cw_at m _ (by rw [HMO.out.len]; exact Bl.order_lt k 12)] at c3
                    have c4 := hm6.cell ((Bl.orders.getD k []).getD 13 0)
                    rw [cw_at m _ (by rw [HMO.out.len]; exact Bl.order_lt k 13)] at c4
                    have l1 := Bl.order_lt k 12
                    have l2 := Bl.order_lt k 13
                    clear hr6 hm6
                    obtain ⟨x7, hz6⟩ : ∃ y, y = mixS m (Bl.orders.getD k []) x6 2 7 8 13 12 13 := ⟨_, rfl⟩
                    have HX7 := Lib.hid hz6
                    have hy6 := hz6
                    rw [mixS] at hy6
                    clear hz6
                    have HC := Lib.hid (fun nq => rmix_any pv x6 2 7 8 13 (m.getD ((Bl.orders.getD k []).getD 12 0) 0) (m.getD ((Bl.orders.getD k []).getD 13 0) 0) (by decide) (by decide) (by decide) (by decide) (w15.drewN nq) (V16.here (HVx6.out.row.kept ((Kept.refl _).drewN nq)) HVx6.out.ok))
                    rw [← hy6] at HC
                    clear hy6
                    generalize m.getD ((Bl.orders.getD k []).getD 12 0) 0 = p1 at *
                    generalize m.getD ((Bl.orders.getD k []).getD 13 0) 0 = p2 at *
                    generalize (Bl.orders.getD k []).getD 12 0 = q1 at *
                    generalize (Bl.orders.getD k []).getD 13 0 = q2 at *
                    go_wp2_with fail
                    refine (wpIn_wide (n := 0)).1 ?_
                    refine wpIn_region_quiet_tail_lit 8 (by kernel_rfl) (by kernel_rfl) (by kernel_rfl) ?_
                    simp only [List.take_succ_cons, List.take_zero, List.drop_succ_cons, List.drop_zero]
                    repeat (gi_big_quiet_step (fail))
                    refine wpQuietIn_nil ?_
                    intro _ hw'
                    obtain ⟨nq, hw''⟩ := hw'
                    subst hw''
                    gi_wp2_with fail
                    refine callsIn_wide.2 ((HC.out nq).mono ?_)
                    rintro e w16 ⟨rfl, hw⟩
                    have HVx7 := Lib.hid (V16.trans (gr_trans HVx6.out.grown (gr_kept ((Kept.refl _).drewN nq) _)) hw)
                    clear hw HC c1 c2 c3 c4 l1 l2 HVx6
                    gi_wp2
                    have hr7 := other_row HRb.out HVx7.out.grown (by omega)
                    have hm7 := other_row HBb.out HVx7.out.grown (by omega)
                    have c1 := hr7.cell 14
                    rw [ordR_at k 14 hlt (by omega)] at c1
                    have c2 := hr7.cell 15
                    rw [ordR_at k 15 hlt (by omega)] at c2
                    have c3 := hm7.cell ((Bl.orders.getD k []).getD 14 0)
                    rw [cw_at m _ (by rw [HMO.out.len]; exact Bl.order_lt k 14)] at c3
                    have c4 := hm7.cell ((Bl.orders.getD k []).getD 15 0)
                    rw [cw_at m _ (by rw [HMO.out.len]; exact Bl.order_lt k 15)] at c4
                    have l1 := Bl.order_lt k 14
                    have l2 := Bl.order_lt k 15
                    clear hr7 hm7
                    obtain ⟨x8, hz7⟩ : ∃ y, y = mixS m (Bl.orders.getD k []) x7 3 4 9 14 14 15 := ⟨_, rfl⟩
                    have HX8 := Lib.hid hz7
                    have hy7 := hz7
                    rw [mixS] at hy7
                    clear hz7
                    have HC := Lib.hid (fun nq => rmix_any pv x7 3 4 9 14 (m.getD ((Bl.orders.getD k []).getD 14 0) 0) (m.getD ((Bl.orders.getD k []).getD 15 0) 0) (by decide) (by decide) (by decide) (by decide) (w16.drewN nq) (V16.here (HVx7.out.row.kept ((Kept.refl _).drewN nq)) HVx7.out.ok))
                    rw [← hy7] at HC
                    clear hy7
                    generalize m.getD ((Bl.orders.getD k []).getD 14 0) 0 = p1 at *
                    generalize m.getD ((Bl.orders.getD k []).getD 15 0) 0 = p2 at *
                    generalize (Bl.orders.getD k []).getD 14 0 = q1 at *
                    generalize (Bl.orders.getD k []).getD 15 0 = q2 at *
                    go_wp2_with fail
                    refine (wpIn_wide (n := 0)).1 ?_
                    refine wpIn_region_quiet_tail_lit 8 (by kernel_rfl) (by kernel_rfl) (by kernel_rfl) ?_
                    simp only [List.take_succ_cons, List.take_zero, List.drop_succ_cons, List.drop_zero]
                    repeat (gi_big_quiet_step (fail))
                    refine wpQuietIn_nil ?_
                    intro _ hw'
                    obtain ⟨nq, hw''⟩ := hw'
                    subst hw''
                    gi_wp2_with fail
                    refine callsIn_wide.2 ((HC.out nq).mono ?_)
                    rintro e w17 ⟨rfl, hw⟩
                    have HVx8 := Lib.hid (V16.trans (gr_trans HVx7.out.grown (gr_kept ((Kept.refl _).drewN nq) _)) hw)
                    clear hw HC c1 c2 c3 c4 l1 l2 HVx7
                    gi_wp2
                    go_wp2
                    go_roundw
                    case rel =>
                      refine ⟨k + 1, by omega, by go_num, ?_⟩
                      have hv := HVx8.out
                      rw [HX8.out, HX7.out, HX6.out, HX5.out, HX4.out, HX3.out, HX2.out, HX1.out, HX0.out] at hv
                      rw [rounds_step, half8]
                      simp only [mixS] at hv
                      exact V16.trans HG7.out hv
                    case measure => simp [intOf]; omega
                · obtain rfl : k = 10 := by omega
                  have HH9 := Lib.hid (other_row HH7.out HVk.out.grown (by omega))
                  have HK9 := Lib.hid (HVk.out.kept HK7.out (by have := HPM.out; omega))
                  obtain ⟨v, hv⟩ : ∃ v, v = Bl.rounds m v0 10 := ⟨_, rfl⟩
                  have HVV := Lib.hid hv
                  have hv9 := HVk.out
                  rw [← hv] at hv9
                  have HV9 := Lib.hid hv9
                  clear hv hv9 HVk HV7 HO7 HBM7 HH7 HK7
                  go_wp2_with fail
                  go_loopw [16] (fun i wx => ∃ k : Nat, k ≤ 8 ∧ i = .int .i64 k ∧ V8 wr g (Bl.fin h v k) wx) (fun i _ => 8 - (intOf i).toNat)
                  case atStart => exact ⟨0, by omega, rfl, V8.here HH9.out HV.out.ok⟩
                  case round =>
                    obtain ⟨k, hk, rfl, hv⟩ := hrel
                    have HVk := Lib.hid hv
                    clear hv
                    by_cases hlt : k < 8
                    · as_aux_lemma =>
                        have hpr := other_row HV9.out.row HVk.out.grown (by omega)
                        have c1 := HVk.out.cell k (by omega)
                        have f1 := HVk.out.free k
                        have c2 := hpr.cell k
                        rw [cw_at _ _ (by rw [HV9.out.ok.len]; omega)] at c2
                        have c3 := hpr.cell (k + 8)
                        rw [cw_at _ _ (by rw [HV9.out.ok.len]; omega)] at c3
                        have l1 := HVk.out.ok.at k
                        have l2 := HV9.out.ok.at k
                        have l3 := HV9.out.ok.at (k + 8)
                        have e1 := x32 _ _ l1 l2
                        have e2 := x32 _ _ (Bl.xor_lt l1 l2) l3
                        have hst : ∀ nq, V8 _ g (Bl.fin h v (k + 1)) ((wr.drewN nq).setCell ⟨g, k, none⟩ (.int .u32 (((Bl.fin h v k).getD k 0 ^^^ v.getD k 0 ^^^ v.getD (k + 8) 0 : Nat) : Int))) := fun nq => by
                          have q := HVk.out.put nq k (Bl.xor_lt (Bl.xor_lt l1 l2) l3)
                          rw [show (Bl.fin h v k).set k ((Bl.fin h v k).getD k 0 ^^^ v.getD k 0 ^^^ v.getD (k + 8) 0) = Bl.fin h v (k + 1) by rw [Nat.add_comm k 8]; rfl] at q
                          exact q
                        have HST := Lib.hid hst
                        clear hst hpr l1 l2 l3
                        generalize (Bl.fin h v k).getD k 0 ^^^ v.getD k 0 ^^^ v.getD (k + 8) 0 = z at *
                        generalize (Bl.fin h v k).getD k 0 ^^^ v.getD k 0 = y at *
                        generalize v.getD (k + 8) 0 = x3 at *
                        generalize v.getD k 0 = x2 at *
                        generalize (Bl.fin h v k).getD k 0 = x1 at *
                        go_wp2_with fail
                        refine (wpIn_wide (n := 0)).1 ?_
                        refine wpIn_region_quiet_tail_lit 18 (by kernel_rfl) (by kernel_rfl) (by kernel_rfl) ?_
                        simp only [List.take_succ_cons, List.take_zero, List.drop_succ_cons, List.drop_zero]
                        repeat (gi_big_quiet_step (fail))
                        refine wpQuietIn_nil ?_
                        intro _ hw'
                        obtain ⟨nq, hw''⟩ := hw'
                        subst hw''
                        gi_wp2
                        go_wp2
                        go_roundw
                        case rel => exact ⟨k + 1, by omega, by go_num, HST.out nq⟩
                        case measure => simp [intOf]; omega
                    · obtain rfl : k = 8 := by omega
                      go_wp2
                      go_end0
                      refine ⟨rfl, ?_⟩
                      have hf := HVk.out
                      rw [HVV.out, HV0.out, HM.out] at hf
                      exact ⟨hf.row, gr_trans (gr_kept HK9.out (some g)) hf.grown, hf.ok⟩
          · as_aux_lemma =>
              have hsg : IntKind.u32.signed = false := rfl
              have HKP := Lib.hid (HV8.out.kept HK5.out (by have := HPM.out; omega))
              have hgl : g < pv := by omega
              clear HBB
              have c12 := HV8.out.cell 12 (by omega)
              have c13 := HV8.out.cell 13 (by omega)
              have f12 := HV8.out.free 12
              have f13 := HV8.out.free 13
              have u12 := HV8.out.ok.at 12
              have u13 := HV8.out.ok.at 13
              have e1 := up32 n
              have hn2 : n / 4294967296 % 4294967296 = n / 4294967296 := Nat.mod_eq_of_lt (by omega)
              have e3 := x32 _ (n % 4294967296) u12 (Nat.mod_lt _ (by decide))
              have e4 : bits .xor .u32 ((h ++ Bl.begins).getD 13 0 : Nat) ((n : Int) / 4294967296) = (((h ++ Bl.begins).getD 13 0 ^^^ n / 4294967296 % 4294967296 : Nat) : Int) := by
                rw [hn2, show (n : Int) / 4294967296 = ((n / 4294967296 : Nat) : Int) by omega]
                exact x32 _ _ u13 (by omega)
              clear hn2
              have c14 := HV8.out.cell 14 (by omega)
              have f14 := HV8.out.free 14
              have e5 := inv32 _ (HV8.out.ok.at 14)
              have hst := (HV8.out.put0 12 (Bl.xor_lt u12 (Nat.mod_lt n (by decide)))).put0 13 (Bl.xor_lt u13 (Nat.mod_lt (n / 4294967296) (by decide)))
              have hst := hst.put0 14 (Bl.inv_lt ((h ++ Bl.begins).getD 14 0))
              rw [start_set_t h n] at hst
              have HST := Lib.hid hst
              clear hst u12 u13
              generalize (h ++ Bl.begins).getD 12 0 ^^^ n % 4294967296 = y12 at *
              generalize (h ++ Bl.begins).getD 13 0 ^^^ n / 4294967296 % 4294967296 = y13 at *
              generalize Bl.inv ((h ++ Bl.begins).getD 14 0) = y14 at *
              generalize (h ++ Bl.begins).getD 14 0 = y14a at *
              generalize (h ++ Bl.begins).getD 12 0 = y12a at *
              generalize (h ++ Bl.begins).getD 13 0 = y13a at *
              generalize n % 4294967296 = n1 at *
              go_wp2_with fail
              refine (rrows_any _).mono ?_
              rintro e w6 ⟨rfl, hk6⟩
              have HV6 := Lib.hid (HST.out.on hk6)
              clear hk6 HST HV8 c12 c13 f12 f13 e1 e3 e4 c14 f14 e5
              have HBM6 := Lib.hid (other_row HBM5.out HV6.out.grown (by omega))
              have HH6 := Lib.hid (other_row HH5.out HV6.out.grown (by omega))
              have HK6 := Lib.hid (HV6.out.kept HK5.out (by have := HPM.out; omega))
              clear HBM5 HH5 HK5 HKP hsg
              go_wp2_with (first
                | (with_reducible refine wpList_alloc_block rfl 122 rfl ord0 Try.zeroOrd ?_)
                | (refine wpList_store_block rfl 122 (.tmp 13) (.tmp 75) rfl w6.heap.size ordV ord0 122 rfl rfl (BlockAt.new _ _ _) (by rw [ordV_size]; exact Try.infoOrd) (by rw [ordV_size, ord0, Array.size_replicate]) ordV_one ?_))
              obtain ⟨w7, hw7⟩ : ∃ w7, w7 = (w6.alloc (.cells ord0 122)).setRow w6.heap.size ordV := ⟨_, rfl⟩
              rw [← hw7]
              have hk7 : Kept w6 w7 := by rw [hw7]; exact ((Kept.refl w6).alloc _).setRow (Nat.le_refl _) _
              have hb7 : BlockAt w7 w6.heap.size ordV 122 := by rw [hw7]; exact (BlockAt.new w6 _ _).setRow _
              have hvo : pv < w6.heap.size := HV6.out.row.lt
              obtain ⟨po, hpo⟩ : ∃ po, po = w6.heap.size := ⟨_, rfl⟩
              rw [← hpo] at hb7 hvo ⊢
              obtain ⟨v0, hv0⟩ : ∃ v0, v0 = Bl.start h n true := ⟨_, rfl⟩
              have HV0 := Lib.hid hv0
              have hv7 := V16.here (HV6.out.row.kept hk7) HV6.out.ok
              rw [← hv0] at hv7
              have HV7 := Lib.hid hv7
              have HO7 := Lib.hid hb7
              have HK7 := Lib.hid (HK6.out.trans hk7)
              have HBM7 := Lib.hid (HBM6.out.kept hk7)
              have HH7 := Lib.hid (HH6.out.kept hk7)
              clear hw7 hk7 hb7 HV6 HBM6 HH6 HK6 hpo hv0 hv7
              go_wp2_with fail
              go_loopw [14] (fun i wx => ∃ k : Nat, k ≤ 10 ∧ i = .int .i64 k ∧ V16 w7 pv (Bl.rounds m v0 k) wx) (fun i _ => 10 - (intOf i).toNat)
              case atStart => exact ⟨0, by omega, rfl, HV7.out⟩
              case round =>
                obtain ⟨k, hk, rfl, hv⟩ := hrel
                have HVk := Lib.hid hv
                clear hv
                by_cases hlt : k < 10
                · as_aux_lemma =>
                    have HOk := Lib.hid (other_row HO7.out HVk.out.grown (by omega))
                    have HBk := Lib.hid (other_row HBM7.out HVk.out.grown (by omega))
                    go_wp2_with (first
                      | (with_reducible refine wpList_alloc_block rfl 121 rfl row0 Try.zeroRow ?_)
                      | (refine wpList_load_part rfl 121 (.tmp 81) rfl ⟨po, k * 16, none⟩ rfl (ordR k) _ (ord_part HOk.out hlt) Try.underlying121 rfl (by rw [ordR_size k hlt]; exact Try.infoRow) ?_)
                      | (refine wpList_store_block rfl 121 (.tmp 15) (.tmp 82) rfl wr.heap.size (ordR k) row0 121 rfl rfl (BlockAt.new _ _ _) (by rw [ordR_size k hlt]; exact Try.infoRow) (by rw [ordR_size k hlt, row0, Array.size_replicate]) (ordR_one k) ?_))
                    obtain ⟨wb, hwb⟩ : ∃ wb, wb = (wr.alloc (.cells row0 121)).setRow wr.heap.size (ordR k) := ⟨_, rfl⟩
                    rw [← hwb]
                    have hkb : Kept wr wb := by rw [hwb]; exact ((Kept.refl wr).alloc _).setRow (Nat.le_refl _) _
                    have hrb : BlockAt wb wr.heap.size (ordR k) 121 := by rw [hwb]; exact (BlockAt.new wr _ _).setRow _
                    have hor : po < wr.heap.size := HOk.out.lt
                    obtain ⟨pr, hpr⟩ : ∃ pr, pr = wr.heap.size := ⟨_, rfl⟩
                    rw [← hpr] at hrb hor ⊢
                    obtain ⟨x0, hx0⟩ : ∃ x0, x0 = Bl.rounds m v0 k := ⟨_, rfl⟩
                    have HX0 := Lib.hid hx0
                    have hg7 := gr_trans HVk.out.grown (gr_kept hkb (some pv))
                    have hv0 := V16.here (HVk.out.row.kept hkb) HVk.out.ok
                    rw [← hx0] at hv0
                    have HVx0 := Lib.hid hv0
                    have HRb := Lib.hid hrb
                    have HBb := Lib.hid (HBk.out.kept hkb)
                    have HG7 := Lib.hid hg7
                    clear hwb hkb hrb hpr hx0 hg7 hv0 HOk HBk
                    simp only [Act.put, List.setIfInBounds_toArray, List.set_cons_zero, List.set_cons_succ]
                    have hr0 := other_row HRb.out HVx0.out.grown (by omega)
                    have hm0 := other_row HBb.out HVx0.out.grown (by omega)
                    have c1 := hr0.cell 0
                    rw [ordR_at k 0 hlt (by omega)] at c1
                    have c2 := hr0.cell 1
                    rw [ordR_at k 1 hlt (by omega)] at c2
                    have c3 := hm0.cell ((Bl.orders.getD k []).getD 0 0)
                    rw [cw_at m _ (by rw [HMO.out.len]; exact Bl.order_lt k 0)] at c3
                    have c4 := hm0.cell ((Bl.orders.getD k []).getD 1 0)
                    rw [cw_at m _ (by rw [HMO.out.len]; exact Bl.order_lt k 1)] at c4
                    have l1 := Bl.order_lt k 0
                    have l2 := Bl.order_lt k 1
                    clear hr0 hm0
                    obtain ⟨x1, hz0⟩ : ∃ y, y = mixS m (Bl.orders.getD k []) x0 0 4 8 12 0 1 := ⟨_, rfl⟩
                    have HX1 := Lib.hid hz0
                    have hy0 := hz0
                    rw [mixS] at hy0
                    clear hz0
                    have HC := Lib.hid (fun nq => rmix_any pv x0 0 4 8 12 (m.getD ((Bl.orders.getD k []).getD 0 0) 0) (m.getD ((Bl.orders.getD k []).getD 1 0) 0) (by decide) (by decide) (by decide) (by decide) (wb.drewN nq) (V16.here (HVx0.out.row.kept ((Kept.refl _).drewN nq)) HVx0.out.ok))
                    rw [← hy0] at HC
                    clear hy0
                    generalize m.getD ((Bl.orders.getD k []).getD 0 0) 0 = p1 at *
                    generalize m.getD ((Bl.orders.getD k []).getD 1 0) 0 = p2 at *
                    generalize (Bl.orders.getD k []).getD 0 0 = q1 at *
                    generalize (Bl.orders.getD k []).getD 1 0 = q2 at *
                    go_wp2_with fail
                    refine (wpIn_wide (n := 0)).1 ?_
                    refine wpIn_region_quiet_tail_lit 8 (by kernel_rfl) (by kernel_rfl) (by kernel_rfl) ?_
                    simp only [List.take_succ_cons, List.take_zero, List.drop_succ_cons, List.drop_zero]
                    repeat (gi_big_quiet_step (fail))
                    refine wpQuietIn_nil ?_
                    intro _ hw'
                    obtain ⟨nq, hw''⟩ := hw'
                    subst hw''
                    gi_wp2_with fail
                    refine callsIn_wide.2 ((HC.out nq).mono ?_)
                    rintro e w10 ⟨rfl, hw⟩
                    have HVx1 := Lib.hid (V16.trans (gr_trans HVx0.out.grown (gr_kept ((Kept.refl _).drewN nq) _)) hw)
                    clear hw HC c1 c2 c3 c4 l1 l2 HVx0
                    gi_wp2
                    have hr1 := other_row HRb.out HVx1.out.grown (by omega)
                    have hm1 := other_row HBb.out HVx1.out.grown (by omega)
                    have c1 := hr1.cell 2
                    rw [ordR_at k 2 hlt (by omega)] at c1
                    have c2 := hr1.cell 3
                    rw [ordR_at k 3 hlt (by omega)] at c2
                    have c3 := hm1.cell ((Bl.orders.getD k []).getD 2 0)
                    rw [cw_at m _ (by rw [HMO.out.len]; exact Bl.order_lt k 2)] at c3
                    have c4 := hm1.cell ((Bl.orders.getD k []).getD 3 0)
                    rw [cw_at m _ (by rw [HMO.out.len]; exact Bl.order_lt k 3)] at c4
                    have l1 := Bl.order_lt k 2
                    have l2 := Bl.order_lt k 3
                    clear hr1 hm1
                    obtain ⟨x2, hz1⟩ : ∃ y, y = mixS m (Bl.orders.getD k []) x1 1 5 9 13 2 3 := ⟨_, rfl⟩
                    have HX2 := Lib.hid hz1
                    have hy1 := hz1
                    rw [mixS] at hy1
                    clear hz1
                    have HC := Lib.hid (fun nq => rmix_any pv x1 1 5 9 13 (m.getD ((Bl.orders.getD k []).getD 2 0) 0) (m.getD ((Bl.orders.getD k []).getD 3 0) 0) (by decide) (by decide) (by decide) (by decide) (w10.drewN nq) (V16.here (HVx1.out.row.kept ((Kept.refl _).drewN nq)) HVx1.out.ok))
                    rw [← hy1] at HC
                    clear hy1
                    generalize m.getD ((Bl.orders.getD k []).getD 2 0) 0 = p1 at *
                    generalize m.getD ((Bl.orders.getD k []).getD 3 0) 0 = p2 at *
                    generalize (Bl.orders.getD k []).getD 2 0 = q1 at *
                    generalize (Bl.orders.getD k []).getD 3 0 = q2 at *
                    go_wp2_with fail
                    refine (wpIn_wide (n := 0)).1 ?_
                    refine wpIn_region_quiet_tail_lit 8 (by kernel_rfl) (by kernel_rfl) (by kernel_rfl) ?_
                    simp only [List.take_succ_cons, List.take_zero, List.drop_succ_cons, List.drop_zero]
                    repeat (gi_big_quiet_step (fail))
                    refine wpQuietIn_nil ?_
                    intro _ hw'
                    obtain ⟨nq, hw''⟩ := hw'
                    subst hw''
                    gi_wp2_with fail
                    refine callsIn_wide.2 ((HC.out nq).mono ?_)
                    rintro e w11 ⟨rfl, hw⟩
                    have HVx2 := Lib.hid (V16.trans (gr_trans HVx1.out.grown (gr_kept ((Kept.refl _).drewN nq) _)) hw)
                    clear hw HC c1 c2 c3 c4 l1 l2 HVx1
                    gi_wp2
                    have hr2 := other_row HRb.out HVx2.out.grown (by omega)
                    have hm2 := other_row HBb.out HVx2.out.grown (by omega)
                    have c1 := hr2.cell 4
                    rw [ordR_at k 4 hlt (by omega)] at c1
                    have c2 := hr2.cell 5
                    rw [ordR_at k 5 hlt (by omega)] at c2
                    have c3 := hm2.cell ((Bl.orders.getD k []).getD 4 0)
                    rw [cw_at m _ (by rw [HMO.out.len]; exact Bl.order_lt k 4)] at c3
                    have c4 := hm2.cell ((Bl.orders.getD k []).getD 5 0)
                    rw [cw_at m _ (by rw [HMO.out.len]; exact Bl.order_lt k 5)] at c4
                    have l1 := Bl.order_lt k 4
                    have l2 := Bl.order_lt k 5
                    clear hr2 hm2
                    obtain ⟨x3, hz2⟩ : ∃ y, y = mixS m (Bl.orders.getD k []) x2 2 6 10 14 4 5 := ⟨_, rfl⟩
                    have HX3 := Lib.hid hz2
                    have hy2 := hz2
                    rw [mixS] at hy2
                    clear hz2
                    have HC := Lib.hid (fun nq => rmix_any pv x2 2 6 10 14 (m.getD ((Bl.orders.getD k []).getD 4 0) 0) (m.getD ((Bl.orders.getD k []).getD 5 0) 0) (by decide) (by decide) (by decide) (by decide) (w11.drewN nq) (V16.here (HVx2.out.row.kept ((Kept.refl _).drewN nq)) HVx2.out.ok))
                    rw [← hy2] at HC
                    clear hy2
                    generalize m.getD ((Bl.orders.getD k []).getD 4 0) 0 = p1 at *
                    generalize m.getD ((Bl.orders.getD k []).getD 5 0) 0 = p2 at *
                    generalize (Bl.orders.getD k []).getD 4 0 = q1 at *
                    generalize (Bl.orders.getD k []).getD 5 0 = q2 at *
                    go_wp2_with fail
                    refine (wpIn_wide (n := 0)).1 ?_
                    refine wpIn_region_quiet_tail_lit 8 (by kernel_rfl) (by kernel_rfl) (by kernel_rfl) ?_
                    simp only [List.take_succ_cons, List.take_zero, List.drop_succ_cons, List.drop_zero]
                    repeat (gi_big_quiet_step (fail))
                    refine wpQuietIn_nil ?_
                    intro _ hw'
                    obtain ⟨nq, hw''⟩ := hw'
                    subst hw''
                    gi_wp2_with fail
                    refine callsIn_wide.2 ((HC.out nq).mono ?_)
                    rintro e w12 ⟨rfl, hw⟩
                    have HVx3 := Lib.hid (V16.trans (gr_trans HVx2.out.grown (gr_kept ((Kept.refl _).drewN nq) _)) hw)
                    clear hw HC c1 c2 c3 c4 l1 l2 HVx2
                    gi_wp2
                    have hr3 := other_row HRb.out HVx3.out.grown (by omega)
                    have hm3 := other_row HBb.out HVx3.out.grown (by omega)
                    have c1 := hr3.cell 6
                    rw [ordR_at k 6 hlt (by omega)] at c1
                    have c2 := hr3.cell 7
                    rw [ordR_at k 7 hlt (by omega)] at c2
                    have c3 := hm3.cell ((Bl.orders.getD k []).getD 6 0)
                    rw [cw_at m _ (by rw [HMO.out.len]; exact Bl.order_lt k 6)] at c3
                    have c4 := hm3.cell ((Bl.orders.getD k []).getD 7 0)
                    rw [cw_at m _ (by rw [HMO.out.len]; exact Bl.order_lt k 7)] at c4
                    have l1 := Bl.order_lt k 6
                    have l2 := Bl.order_lt k 7
                    clear hr3 hm3
                    obtain ⟨x4, hz3⟩ : ∃ y, y = mixS m (Bl.orders.getD k []) x3 3 7 11 15 6 7 := ⟨_, rfl⟩
                    have HX4 := Lib.hid hz3
                    have hy3 := hz3
                    rw [mixS] at hy3
                    clear hz3
                    have HC := Lib.hid (fun nq => rmix_any pv x3 3 7 11 15 (m.getD ((Bl.orders.getD k []).getD 6 0) 0) (m.getD ((Bl.orders.getD k []).getD 7 0) 0) (by decide) (by decide) (by decide) (by decide) (w12.drewN nq) (V16.here (HVx3.out.row.kept ((Kept.refl _).drewN nq)) HVx3.out.ok))
                    rw [← hy3] at HC
                    clear hy3
                    generalize m.getD ((Bl.orders.getD k []).getD 6 0) 0 = p1 at *
                    generalize m.getD ((Bl.orders.getD k []).getD 7 0) 0 = p2 at *
                    generalize (Bl.orders.getD k []).getD 6 0 = q1 at *
                    generalize (Bl.orders.getD k []).getD 7 0 = q2 at *
                    go_wp2_with fail
                    refine (wpIn_wide (n := 0)).1 ?_
                    refine wpIn_region_quiet_tail_lit 8 (by kernel_rfl) (by kernel_rfl) (by kernel_rfl) ?_
                    simp only [List.take_succ_cons, List.take_zero, List.drop_succ_cons, List.drop_zero]
                    repeat (gi_big_quiet_step (fail))
                    refine wpQuietIn_nil ?_
                    intro _ hw'
                    obtain ⟨nq, hw''⟩ := hw'
                    subst hw''
                    gi_wp2_with fail
                    refine callsIn_wide.2 ((HC.out nq).mono ?_)
                    rintro e w13 ⟨rfl, hw⟩
                    have HVx4 := Lib.hid (V16.trans (gr_trans HVx3.out.grown (gr_kept ((Kept.refl _).drewN nq) _)) hw)
                    clear hw HC c1 c2 c3 c4 l1 l2 HVx3
                    gi_wp2
                    have hr4 := other_row HRb.out HVx4.out.grown (by omega)
                    have hm4 := other_row HBb.out HVx4.out.grown (by omega)
                    have c1 := hr4.cell 8
                    rw [ordR_at k 8 hlt (by omega)] at c1
                    have c2 := hr4.cell 9
                    rw [ordR_at k 9 hlt (by omega)] at c2
                    have c3 := hm4.cell ((Bl.orders.getD k []).getD 8 0)
                    rw [cw_at m _ (by rw [HMO.out.len]; exact Bl.order_lt k 8)] at c3
                    have c4 := hm4.cell ((Bl.orders.getD k []).getD 9 0)
                    rw [cw_at m _ (by rw [HMO.out.len]; exact Bl.order_lt k 9)] at c4
                    have l1 := Bl.order_lt k 8
                    have l2 := Bl.order_lt k 9
                    clear hr4 hm4
                    obtain ⟨x5, hz4⟩ : ∃ y, y = mixS m (Bl.orders.getD k []) x4 0 5 10 15 8 9 := ⟨_, rfl⟩
                    have HX5 := Lib.hid hz4
                    have hy4 := hz4
                    rw [mixS] at hy4
                    clear hz4
                    have HC := Lib.hid (fun nq => rmix_any pv x4 0 5 10 15 (m.getD ((Bl.orders.getD k []).getD 8 0) 0) (m.getD ((Bl.orders.getD k []).getD 9 0) 0) (by decide) (by decide) (by decide) (by decide) (w13.drewN nq) (V16.here (HVx4.out.row.kept ((Kept.refl _).drewN nq)) HVx4.out.ok))
                    rw [← hy4] at HC
                    clear hy4
                    generalize m.getD ((Bl.orders.getD k []).getD 8 0) 0 = p1 at *
                    generalize m.getD ((Bl.orders.getD k []).getD 9 0) 0 = p2 at *
                    generalize (Bl.orders.getD k []).getD 8 0 = q1 at *
                    generalize (Bl.orders.getD k []).getD 9 0 = q2 at *
                    go_wp2_with fail
                    refine (wpIn_wide (n := 0)).1 ?_
                    refine wpIn_region_quiet_tail_lit 8 (by kernel_rfl) (by kernel_rfl) (by kernel_rfl) ?_
                    simp only [List.take_succ_cons, List.take_zero, List.drop_succ_cons, List.drop_zero]
                    repeat (gi_big_quiet_step (fail))
                    refine wpQuietIn_nil ?_
                    intro _ hw'
                    obtain ⟨nq, hw''⟩ := hw'
                    subst hw''
                    gi_wp2_with fail
                    refine callsIn_wide.2 ((HC.out nq).mono ?_)
                    rintro e w14 ⟨rfl, hw⟩
                    have HVx5 := Lib.hid (V16.trans (gr_trans HVx4.out.grown (gr_kept ((Kept.refl _).drewN nq) _)) hw)
                    clear hw HC c1 c2 c3 c4 l1 l2 HVx4
                    gi_wp2
                    have hr5 := other_row HRb.out HVx5.out.grown (by omega)
                    have hm5 := other_row HBb.out HVx5.out.grown (by omega)
                    have c1 := hr5.cell 10
                    rw [ordR_at k 10 hlt (by omega)] at c1
                    have c2 := hr5.cell 11
                    rw [ordR_at k 11 hlt (by omega)] at c2
                    have c3 := hm5.cell ((Bl.orders.getD k []).getD 10 0)
                    rw [cw_at m _ (by rw [HMO.out.len]; exact Bl.order_lt k 10)] at c3
                    have c4 := hm5.cell ((Bl.orders.getD k []).getD 11 0)
                    rw [cw_at m _ (by rw [HMO.out.len]; exact Bl.order_lt k 11)] at c4
                    have l1 := Bl.order_lt k 10
                    have l2 := Bl.order_lt k 11
                    clear hr5 hm5
                    obtain ⟨x6, hz5⟩ : ∃ y, y = mixS m (Bl.orders.getD k []) x5 1 6 11 12 10 11 := ⟨_, rfl⟩
                    have HX6 := Lib.hid hz5
                    have hy5 := hz5
                    rw [mixS] at hy5
                    clear hz5
                    have HC := Lib.hid (fun nq => rmix_any pv x5 1 6 11 12 (m.getD ((Bl.orders.getD k []).getD 10 0) 0) (m.getD ((Bl.orders.getD k []).getD 11 0) 0) (by decide) (by decide) (by decide) (by decide) (w14.drewN nq) (V16.here (HVx5.out.row.kept ((Kept.refl _).drewN nq)) HVx5.out.ok))
                    rw [← hy5] at HC
                    clear hy5
                    generalize m.getD ((Bl.orders.getD k []).getD 10 0) 0 = p1 at *
                    generalize m.getD ((Bl.orders.getD k []).getD 11 0) 0 = p2 at *
                    generalize (Bl.orders.getD k []).getD 10 0 = q1 at *
                    generalize (Bl.orders.getD k []).getD 11 0 = q2 at *
                    go_wp2_with fail
                    refine (wpIn_wide (n := 0)).1 ?_
                    refine wpIn_region_quiet_tail_lit 8 (by kernel_rfl) (by kernel_rfl) (by kernel_rfl) ?_
                    simp only [List.take_succ_cons, List.take_zero, List.drop_succ_cons, List.drop_zero]
                    repeat (gi_big_quiet_step (fail))
                    refine wpQuietIn_nil ?_
                    intro _ hw'
                    obtain ⟨nq, hw''⟩ := hw'
                    subst hw''
                    gi_wp2_with fail
                    refine callsIn_wide.2 ((HC.out nq).mono ?_)
                    rintro e w15 ⟨rfl, hw⟩
                    have HVx6 := Lib.hid (V16.trans (gr_trans HVx5.out.grown (gr_kept ((Kept.refl _).drewN nq) _)) hw)
                    clear hw HC c1 c2 c3 c4 l1 l2 HVx5
                    gi_wp2
                    have hr6 := other_row HRb.out HVx6.out.grown (by omega)
                    have hm6 := other_row HBb.out HVx6.out.grown (by omega)
                    have c1 := hr6.cell 12
                    rw [ordR_at k 12 hlt (by omega)] at c1
                    have c2 := hr6.cell 13
                    rw [ordR_at k 13 hlt (by omega)] at c2
                    have c3 := hm6.cell ((Bl.orders.getD k []).getD 12 0)
                    rw [cw_at m _ (by rw [HMO.out.len]; exact Bl.order_lt k 12)] at c3
                    have c4 := hm6.cell ((Bl.orders.getD k []).getD 13 0)
                    rw [cw_at m _ (by rw [HMO.out.len]; exact Bl.order_lt k 13)] at c4
                    have l1 := Bl.order_lt k 12
                    have l2 := Bl.order_lt k 13
                    clear hr6 hm6
                    obtain ⟨x7, hz6⟩ : ∃ y, y = mixS m (Bl.orders.getD k []) x6 2 7 8 13 12 13 := ⟨_, rfl⟩
                    have HX7 := Lib.hid hz6
                    have hy6 := hz6
                    rw [mixS] at hy6
                    clear hz6
                    have HC := Lib.hid (fun nq => rmix_any pv x6 2 7 8 13 (m.getD ((Bl.orders.getD k []).getD 12 0) 0) (m.getD ((Bl.orders.getD k []).getD 13 0) 0) (by decide) (by decide) (by decide) (by decide) (w15.drewN nq) (V16.here (HVx6.out.row.kept ((Kept.refl _).drewN nq)) HVx6.out.ok))
                    rw [← hy6] at HC
                    clear hy6
                    generalize m.getD ((Bl.orders.getD k []).getD 12 0) 0 = p1 at *
                    generalize m.getD ((Bl.orders.getD k []).getD 13 0) 0 = p2 at *
                    generalize (Bl.orders.getD k []).getD 12 0 = q1 at *
                    generalize (Bl.orders.getD k []).getD 13 0 = q2 at *
                    go_wp2_with fail
                    refine (wpIn_wide (n := 0)).1 ?_
                    refine wpIn_region_quiet_tail_lit 8 (by kernel_rfl) (by kernel_rfl) (by kernel_rfl) ?_
                    simp only [List.take_succ_cons, List.take_zero, List.drop_succ_cons, List.drop_zero]
                    repeat (gi_big_quiet_step (fail))
                    refine wpQuietIn_nil ?_
                    intro _ hw'
                    obtain ⟨nq, hw''⟩ := hw'
                    subst hw''
                    gi_wp2_with fail
                    refine callsIn_wide.2 ((HC.out nq).mono ?_)
                    rintro e w16 ⟨rfl, hw⟩
                    have HVx7 := Lib.hid (V16.trans (gr_trans HVx6.out.grown (gr_kept ((Kept.refl _).drewN nq) _)) hw)
                    clear hw HC c1 c2 c3 c4 l1 l2 HVx6
                    gi_wp2
                    have hr7 := other_row HRb.out HVx7.out.grown (by omega)
                    have hm7 := other_row HBb.out HVx7.out.grown (by omega)
                    have c1 := hr7.cell 14
                    rw [ordR_at k 14 hlt (by omega)] at c1
                    have c2 := hr7.cell 15
                    rw [ordR_at k 15 hlt (by omega)] at c2
                    have c3 := hm7.cell ((Bl.orders.getD k []).getD 14 0)
                    rw [cw_at m _ (by rw [HMO.out.len]; exact Bl.order_lt k 14)] at c3
                    have c4 := hm7.cell ((Bl.orders.getD k []).getD 15 0)
                    rw [cw_at m _ (by rw [HMO.out.len]; exact Bl.order_lt k 15)] at c4
                    have l1 := Bl.order_lt k 14
                    have l2 := Bl.order_lt k 15
                    clear hr7 hm7
                    obtain ⟨x8, hz7⟩ : ∃ y, y = mixS m (Bl.orders.getD k []) x7 3 4 9 14 14 15 := ⟨_, rfl⟩
                    have HX8 := Lib.hid hz7
                    have hy7 := hz7
                    rw [mixS] at hy7
                    clear hz7
                    have HC := Lib.hid (fun nq => rmix_any pv x7 3 4 9 14 (m.getD ((Bl.orders.getD k []).getD 14 0) 0) (m.getD ((Bl.orders.getD k []).getD 15 0) 0) (by decide) (by decide) (by decide) (by decide) (w16.drewN nq) (V16.here (HVx7.out.row.kept ((Kept.refl _).drewN nq)) HVx7.out.ok))
                    rw [← hy7] at HC
                    clear hy7
                    generalize m.getD ((Bl.orders.getD k []).getD 14 0) 0 = p1 at *
                    generalize m.getD ((Bl.orders.getD k []).getD 15 0) 0 = p2 at *
                    generalize (Bl.orders.getD k []).getD 14 0 = q1 at *
                    generalize (Bl.orders.getD k []).getD 15 0 = q2 at *
                    go_wp2_with fail
                    refine (wpIn_wide (n := 0)).1 ?_
                    refine wpIn_region_quiet_tail_lit 8 (by kernel_rfl) (by kernel_rfl) (by kernel_rfl) ?_
                    simp only [List.take_succ_cons, List.take_zero, List.drop_succ_cons, List.drop_zero]
                    repeat (gi_big_quiet_step (fail))
                    refine wpQuietIn_nil ?_
                    intro _ hw'
                    obtain ⟨nq, hw''⟩ := hw'
                    subst hw''
                    gi_wp2_with fail
                    refine callsIn_wide.2 ((HC.out nq).mono ?_)
                    rintro e w17 ⟨rfl, hw⟩
                    have HVx8 := Lib.hid (V16.trans (gr_trans HVx7.out.grown (gr_kept ((Kept.refl _).drewN nq) _)) hw)
                    clear hw HC c1 c2 c3 c4 l1 l2 HVx7
                    gi_wp2
                    go_wp2
                    go_roundw
                    case rel =>
                      refine ⟨k + 1, by omega, by go_num, ?_⟩
                      have hv := HVx8.out
                      rw [HX8.out, HX7.out, HX6.out, HX5.out, HX4.out, HX3.out, HX2.out, HX1.out, HX0.out] at hv
                      rw [rounds_step, half8]
                      simp only [mixS] at hv
                      exact V16.trans HG7.out hv
                    case measure => simp [intOf]; omega
                · obtain rfl : k = 10 := by omega
                  have HH9 := Lib.hid (other_row HH7.out HVk.out.grown (by omega))
                  have HK9 := Lib.hid (HVk.out.kept HK7.out (by have := HPM.out; omega))
                  obtain ⟨v, hv⟩ : ∃ v, v = Bl.rounds m v0 10 := ⟨_, rfl⟩
                  have HVV := Lib.hid hv
                  have hv9 := HVk.out
                  rw [← hv] at hv9
                  have HV9 := Lib.hid hv9
                  clear hv hv9 HVk HV7 HO7 HBM7 HH7 HK7
                  go_wp2_with fail
                  go_loopw [16] (fun i wx => ∃ k : Nat, k ≤ 8 ∧ i = .int .i64 k ∧ V8 wr g (Bl.fin h v k) wx) (fun i _ => 8 - (intOf i).toNat)
                  case atStart => exact ⟨0, by omega, rfl, V8.here HH9.out HV.out.ok⟩
                  case round =>
                    obtain ⟨k, hk, rfl, hv⟩ := hrel
                    have HVk := Lib.hid hv
                    clear hv
                    by_cases hlt : k < 8
                    · as_aux_lemma =>
                        have hpr := other_row HV9.out.row HVk.out.grown (by omega)
                        have c1 := HVk.out.cell k (by omega)
                        have f1 := HVk.out.free k
                        have c2 := hpr.cell k
                        rw [cw_at _ _ (by rw [HV9.out.ok.len]; omega)] at c2
                        have c3 := hpr.cell (k + 8)
                        rw [cw_at _ _ (by rw [HV9.out.ok.len]; omega)] at c3
                        have l1 := HVk.out.ok.at k
                        have l2 := HV9.out.ok.at k
                        have l3 := HV9.out.ok.at (k + 8)
                        have e1 := x32 _ _ l1 l2
                        have e2 := x32 _ _ (Bl.xor_lt l1 l2) l3
                        have hst : ∀ nq, V8 _ g (Bl.fin h v (k + 1)) ((wr.drewN nq).setCell ⟨g, k, none⟩ (.int .u32 (((Bl.fin h v k).getD k 0 ^^^ v.getD k 0 ^^^ v.getD (k + 8) 0 : Nat) : Int))) := fun nq => by
                          have q := HVk.out.put nq k (Bl.xor_lt (Bl.xor_lt l1 l2) l3)
                          rw [show (Bl.fin h v k).set k ((Bl.fin h v k).getD k 0 ^^^ v.getD k 0 ^^^ v.getD (k + 8) 0) = Bl.fin h v (k + 1) by rw [Nat.add_comm k 8]; rfl] at q
                          exact q
                        have HST := Lib.hid hst
                        clear hst hpr l1 l2 l3
                        generalize (Bl.fin h v k).getD k 0 ^^^ v.getD k 0 ^^^ v.getD (k + 8) 0 = z at *
                        generalize (Bl.fin h v k).getD k 0 ^^^ v.getD k 0 = y at *
                        generalize v.getD (k + 8) 0 = x3 at *
                        generalize v.getD k 0 = x2 at *
                        generalize (Bl.fin h v k).getD k 0 = x1 at *
                        go_wp2_with fail
                        refine (wpIn_wide (n := 0)).1 ?_
                        refine wpIn_region_quiet_tail_lit 18 (by kernel_rfl) (by kernel_rfl) (by kernel_rfl) ?_
                        simp only [List.take_succ_cons, List.take_zero, List.drop_succ_cons, List.drop_zero]
                        repeat (gi_big_quiet_step (fail))
                        refine wpQuietIn_nil ?_
                        intro _ hw'
                        obtain ⟨nq, hw''⟩ := hw'
                        subst hw''
                        gi_wp2
                        go_wp2
                        go_roundw
                        case rel => exact ⟨k + 1, by omega, by go_num, HST.out nq⟩
                        case measure => simp [intOf]; omega
                    · obtain rfl : k = 8 := by omega
                      go_wp2
                      go_end0
                      refine ⟨rfl, ?_⟩
                      have hf := HVk.out
                      rw [HVV.out, HV0.out, HM.out] at hf
                      exact ⟨hf.row, gr_trans (gr_kept HK9.out (some g)) hf.grown, hf.ok⟩
end Go.Proofs.Ytdllenoclnmmdaa

namespace Go.Proofs.Ytdllenoclnmmdaa
open Go.RowKit Go.Shelf
attribute [local go_sem] Oper.semAt_some

/-- a text's digest, as a text -/
def dg (l : List UInt8) : ByteArray := ⟨(Bl.digest l).toArray⟩
theorem dg_size (l : List UInt8) : (dg l).size = 32 := by
  show (Bl.digest l).toArray.size = 32
  rw [List.size_toArray, Bl.digest_length]
theorem extract_cut (s : ByteArray) (a b : Nat) : (s.extract a b).data.toList = Bl.cut s.data.toList a b := by
  unfold Bl.cut
  rw [ByteArray.data_extract, Array.toList_extract, List.extract_eq_take_drop, List.drop_take]
theorem bytes_all (H : List Nat) : (List.replicate 32 (0 : UInt8)).mapIdx (fun i _ => Bl.byteOf H i) = Bl.bytes H := by
  apply List.ext_getElem
  · simp [Bl.bytes]
  · intro i h1 h2
    rw [List.getElem_mapIdx]
    show Bl.byteOf H i = ((List.range 32).map (Bl.byteOf H))[i]'(by simpa [Bl.bytes] using h2)
    rw [List.getElem_map, List.getElem_range]
theorem byte_of (H : List Nat) (j : Nat) : ((H.getD (j / 4) 0 : Nat) : Int) / 2 ^ (8 * (j % 4)) % 256 = ((Bl.byteOf H j).toNat : Int) := by
  unfold Bl.byteOf
  generalize 8 * (j % 4) = e
  generalize H.getD (j / 4) 0 = x
  rw [show ((x : Nat) : Int) / 2 ^ e = ((x / 2 ^ e : Nat) : Int) by simp]
  generalize x / 2 ^ e = y
  rw [UInt8.toNat_ofNat']
  omega
set_option maxRecDepth 100000 in
set_option maxHeartbeats 2000000 in
theorem rdigest_any (s : ByteArray) (hs : s.size ≤ 9223372036854775807) (w : World) :
    Calls Try.prog 58 #[.string s] w fun e w' => e = .returned (.string (dg s.data.toList)) ∧ Kept w w' := by
  go_enter Try.func58, Try.ntmps58
  go_wp2_with fail
  refine (rbegins_any _).mono ?_
  rintro e w1 ⟨rfl, hk1⟩
  go_upto_region 2 with (first
    | (with_reducible refine wpList_alloc_block rfl 102 rfl z8 Try.zero8 ?_)
    | (refine wpList_store_block rfl 102 (.tmp 3) (.tmp 7) rfl w1.heap.size (cw Bl.begins) z8 102 rfl rfl (BlockAt.new _ _ _) Try.info8 rfl (cw_one _) ?_))
  obtain ⟨w2, hw2⟩ : ∃ w2, w2 = (w1.alloc (.cells z8 102)).setRow w1.heap.size (cw Bl.begins) := ⟨_, rfl⟩
  rw [← hw2]
  have hk2 : Kept w w2 := by rw [hw2]; exact (hk1.alloc _).setRow (hk1.size) _
  have hb2 : BlockAt w2 w1.heap.size (cw Bl.begins) 102 := by rw [hw2]; exact (BlockAt.new w1 _ _).setRow _
  obtain ⟨pb, hpb⟩ : ∃ pb, pb = w1.heap.size := ⟨_, rfl⟩
  have hpw : w.heap.size ≤ pb := by rw [hpb]; exact hk1.size
  rw [← hpb] at hb2 ⊢
  have hv2 := V8.here hb2 Bl.begins_ok
  have c0 := hv2.cell 0 (by omega)
  have f0 := hv2.free 0
  have e1 : bits .xor .u32 (Bl.begins.getD 0 0 : Nat) 16842784 = ((Bl.begins.getD 0 0 ^^^ 16842784 : Nat) : Int) := x32 _ 16842784 (Bl.begins_ok.at 0) (by decide)
  have HST := Lib.hid (show V8 w2 pb Bl.h0 _ from hv2.put0 0 (Bl.xor_lt (Bl.begins_ok.at 0) (by decide : 16842784 < 4294967296)))
  have HK2 := Lib.hid hk2
  clear hw2 hk2 hb2 hpb hv2 hk1
  generalize Bl.begins.getD 0 0 ^^^ 16842784 = z at *
  generalize Bl.begins.getD 0 0 = y at *
  go_upto_region 3 with fail
  generalize w2.setCell _ _ = w3 at HST ⊢
  have HK3 := Lib.hid (HST.out.kept HK2.out hpw)
  have HV3 := Lib.hid (V8.here HST.out.row HST.out.ok)
  clear HST HK2 c0 f0 e1
  go_wp2_with fail
  go_loopw [4] (fun i wx => ∃ k at_ : Nat, Hid (at_ = 64 * k) ∧ k ≤ Bl.ahead s.size ∧ i = .int .i64 at_ ∧ V8 w3 pb (Bl.sums s.data.toList k) wx) (fun i _ => s.size - (intOf i).toNat)
  case atStart => exact ⟨0, 0, Lib.hid rfl, by omega, rfl, HV3.out⟩
  case round =>
    obtain ⟨k, at_, hat, hk, rfl, hv⟩ := hrel
    have HVk := Lib.hid hv
    clear hv
    by_cases hlt : k < Bl.ahead s.size
    · as_aux_lemma =>
        obtain ⟨u, hu⟩ : ∃ u, u = at_ + 64 := ⟨_, rfl⟩
        have hi8 : (at_ : Int) + 64 = (u : Int) := by omega
        have hau : at_ ≤ u := by omega
        have hul : u ≤ s.size := by have h := hat.out; unfold Bl.ahead at hlt; omega
        have hd1 : decide (64 < (s.size : Int) - (at_ : Int)) = true := decide_eq_true (by have h := hat.out; unfold Bl.ahead at hlt; omega)
        have hc : Calls Try.prog 73 #[.pointer (some ⟨pb, 0, none⟩), .string (s.extract at_ u), .int .u64 u, .bool false] wr fun e w' => e = .returned (.tuple #[]) ∧ V8 wr pb (Bl.sums s.data.toList (k + 1)) w' := by
          have q := rblock_any pb (Bl.sums s.data.toList k) (s.extract at_ u) u false (by rw [ByteArray.size_extract]; omega) (by omega) wr (V8.here HVk.out.row HVk.out.ok)
          rw [extract_cut] at q
          rw [hu, hat.out] at q
          rw [hu, hat.out]
          exact q
        have HC := Lib.hid hc
        have HAT := Lib.hid (show u = 64 * (k + 1) by have h := hat.out; omega)
        have HUL := Lib.hid hul
        clear hc hat hu
        go_wp2_with fail
        refine HC.out.mono ?_
        rintro e w5 ⟨rfl, hw⟩
        have HVn := Lib.hid (V8.mk hw.row (gr_trans HVk.out.grown hw.grown) hw.ok)
        clear hw HC HVk
        go_wp2
        go_roundw
        case rel => exact ⟨k + 1, u, HAT, by omega, by go_num, HVn.out⟩
        case measure => simp [intOf]; omega
    · obtain ⟨l0, hl0⟩ : ∃ l0, l0 = s.size := ⟨_, rfl⟩
      obtain rfl : k = Bl.ahead s.size := by omega
      have hd1 : decide (64 < (s.size : Int) - (at_ : Int)) = false := decide_eq_false (by have h := hat.out; unfold Bl.ahead at h; omega)
      have hal : at_ ≤ s.size := by have h := hat.out; unfold Bl.ahead at h; omega
      obtain ⟨H, hH⟩ : ∃ H, H = Bl.block (Bl.sums s.data.toList (Bl.ahead s.size)) (s.data.toList.drop at_) s.size true := ⟨_, rfl⟩
      have hc : Calls Try.prog 73 #[.pointer (some ⟨pb, 0, none⟩), .string (s.extract at_ s.size), .int .u64 s.size, .bool true] wr fun e w' => e = .returned (.tuple #[]) ∧ V8 wr pb H w' := by
        have q := rblock_any pb (Bl.sums s.data.toList (Bl.ahead s.size)) (s.extract at_ s.size) s.size true (by rw [ByteArray.size_extract]; have h := hat.out; unfold Bl.ahead at h; omega) (by omega) wr (V8.here HVk.out.row HVk.out.ok)
        rw [extract_cut, show Bl.cut s.data.toList at_ s.size = s.data.toList.drop at_ by unfold Bl.cut; rw [List.take_of_length_le (by simp)], ← hH] at q
        exact q
      have HC := Lib.hid hc
      have HDG := Lib.hid (show Bl.bytes H = Bl.digest s.data.toList by rw [hH, hat.out]; unfold Bl.digest; simp only [Array.length_toList]; rfl)
      clear hc hH hat hl0
      go_wp2_with fail
      refine HC.out.mono ?_
      rintro e w5 ⟨rfl, hw⟩
      have HK5 := Lib.hid (hw.kept (HVk.out.kept HK3.out hpw) hpw)
      have HV5 := Lib.hid (V8.here hw.row hw.ok)
      clear hw HC HVk HV3
      have hpl : pb < w5.heap.size := HV5.out.row.lt
      have hmk : ∀ w : World, (Instr.makeSlice 70 (.int .i64 32) (.int .i64 32)).run Try.prog w = .ok (.slice (some ⟨w.heap.size, 0, none⟩) 32 32) (w.alloc (.cells (madeCells #[.int .u8 0] 32) 5)) := makeB 32 (by decide)
      have HBF := Lib.hid (madeB w5 32)
      go_upto_region 9 with (fail)
      have HK6 := Lib.hid (HK5.out.alloc (.cells (madeCells #[.int .u8 0] 32) 5))
      have HV6 := Lib.hid (HV5.out.on ((Kept.refl _).alloc (.cells (madeCells #[.int .u8 0] 32) 5)))
      obtain ⟨pd, hpd⟩ : ∃ pd, pd = w5.heap.size := ⟨_, rfl⟩
      rw [← hpd] at HBF hpl ⊢
      clear hmk HK5 HV5 hpd
      generalize w5.alloc (.cells (madeCells #[.int .u8 0] 32) 5) = w6 at *
      go_wp2_with fail
      go_loopw [6] (fun i wx => ∃ k : Nat, k ≤ 32 ∧ i = .int .i64 k ∧ Buf wx pd (upto (fun i _ => Bl.byteOf H i) (List.replicate 32 0) k) ∧ w6.grownBy wx (some pd)) (fun i _ => 32 - (intOf i).toNat)
      case atStart => exact ⟨0, by omega, rfl, by rw [upto_zero]; exact HBF.out, gr_refl _ _⟩
      case round =>
        obtain ⟨k, hk, rfl, hbf, hgr⟩ := hrel
        have HB := Lib.hid hbf
        have HG := Lib.hid hgr
        clear hbf hgr
        have hln : (upto (fun i _ => Bl.byteOf H i) (List.replicate 32 (0 : UInt8)) k).length = 32 := by rw [upto_length, List.length_replicate]
        by_cases hlt : k < 32
        · as_aux_lemma =>
            have e1 := byte_of H k
            have f1 := HB.out.free k (by rw [hln]; exact hlt)
            obtain ⟨z0, c0⟩ : ∃ z0, wr.cell? ⟨pd, k, none⟩ = some z0 := ⟨_, HB.out.cell k (by rw [hln]; exact hlt)⟩
            obtain ⟨q, hq⟩ : ∃ q, q = k / 4 := ⟨_, rfl⟩
            obtain ⟨r, hr⟩ : ∃ r, r = k % 4 := ⟨_, rfl⟩
            have hq8 : q < 8 := by omega
            have hr4 : r < 4 := by omega
            have c1 := (other_row HV6.out.row HG.out (by omega)).cell q
            rw [cw_at _ _ (by rw [HV6.out.ok.len]; exact hq8)] at c1
            have hst : ∀ nq, Buf ((wr.drewN nq).setCell ⟨pd, k, none⟩ (.int .u8 ((Bl.byteOf H k).toNat : Int))) pd (upto (fun i _ => Bl.byteOf H i) (List.replicate 32 (0 : UInt8)) (k + 1)) := fun nq => by
              have q := (HB.out.kept ((Kept.refl _).drewN nq)).set k (by rw [hln]; exact hlt) (Bl.byteOf H k)
              have q2 := upto_set (fun i _ => Bl.byteOf H i) (List.replicate 32 (0 : UInt8)) k (by simpa using hlt)
              rw [q2] at q
              exact q
            have HST := Lib.hid hst
            have hgr : ∀ nq, w6.grownBy ((wr.drewN nq).setCell ⟨pd, k, none⟩ (.int .u8 ((Bl.byteOf H k).toNat : Int))) (some pd) := fun nq => grown_setCell HG.out nq k _
            have HGR := Lib.hid hgr
            have hq2 : (k : Int) / 4 = (q : Int) := by omega
            have hr2 : (k : Int) % 4 = (r : Int) := by omega
            rw [← hq, ← hr] at e1
            have hul := HV6.out.ok.at q
            clear hst hgr hq hr hln
            generalize H.getD q 0 = u at *
            generalize Bl.byteOf H k = y at *
            go_wp2
            go_roundw
            case rel => exact ⟨k + 1, by omega, by go_num, HST.out 0, HGR.out 0⟩
            case measure => simp [intOf]; omega
        · obtain rfl : k = 32 := by omega
          have hcv := HB.out.string (P := Try.prog) 70 9 5 Try.underlying70 Try.underlying5 Try.underlying9 32
          rw [hln, upto_all _ _ _ (by simp), bytes_all, HDG.out] at hcv
          have hcv2 : (convert 70 9 (.slice (some ⟨pd, 0, none⟩) 32 32)).run Try.prog wr = .ok (.string (dg s.data.toList)) wr := hcv
          have HK9 := Lib.hid (HK6.out.gr HG.out (fun _ e => by cases e; omega))
          clear hcv hln HB HG
          obtain ⟨D, hD⟩ : ∃ D, D = dg s.data.toList := ⟨_, rfl⟩
          have HD := Lib.hid hD
          rw [← hD] at hcv2
          clear hD
          go_wp2
          go_ret
          exact ⟨by rw [← HD.out]; rfl, HK9.out⟩
end Go.Proofs.Ytdllenoclnmmdaa

