/- BLAKE2s-256 as plain numbers: lists of numbers below 2^32 (nothing of the program, no conditions). -/
namespace Go.Proofs.YtdllenoclnmmdaaDoor.Bl
def add (x y : Nat) : Nat := (x + y) % 4294967296
def rot (x n : Nat) : Nat := x / 2 ^ n ||| x * 2 ^ (32 - n) % 4294967296
theorem add_lt (x y : Nat) : add x y < 4294967296 := Nat.mod_lt _ (by decide)
theorem add_assoc (x y z : Nat) : add (add x y) z = add x (add y z) := by unfold add; omega
theorem xor_lt {x y : Nat} (hx : x < 4294967296) (hy : y < 4294967296) : x ^^^ y < 4294967296 := Nat.xor_lt_two_pow (n := 32) hx hy
theorem or_lt {x y : Nat} (hx : x < 4294967296) (hy : y < 4294967296) : x ||| y < 4294967296 := Nat.or_lt_two_pow (n := 32) hx hy
theorem rot_lt {x : Nat} (hx : x < 4294967296) (n : Nat) : rot x n < 4294967296 :=
  or_lt (Nat.lt_of_le_of_lt (Nat.div_le_self _ _) hx) (Nat.mod_lt _ (by decide))
/-- so many numbers, each below 2^32 -/
structure W (n : Nat) (v : List Nat) : Prop where
  len : v.length = n
  lt : ∀ x ∈ v, x < 4294967296
theorem W.at {n : Nat} {v : List Nat} (h : W n v) (i : Nat) : v.getD i 0 < 4294967296 := by
  rw [List.getD_eq_getElem?_getD]
  rcases Nat.lt_or_ge i v.length with k | k
  · rw [List.getElem?_eq_getElem k]; exact h.lt _ (List.getElem_mem k)
  · rw [List.getElem?_eq_none k]; decide
theorem W.set {n : Nat} {v : List Nat} (h : W n v) (i : Nat) {x : Nat} (hx : x < 4294967296) : W n (v.set i x) :=
  ⟨by rw [List.length_set]; exact h.len, fun y hy => by
    rcases List.mem_or_eq_of_mem_set hy with k | k
    · exact h.lt _ k
    · rw [k]; exact hx⟩
theorem W.zeros (n : Nat) : W n (List.replicate n 0) := ⟨by simp, fun x hx => by rw [List.eq_of_mem_replicate hx]; decide⟩
theorem getD_set (v : List Nat) (i j x : Nat) (hi : i < v.length) : (v.set i x).getD j 0 = if i = j then x else v.getD j 0 := by
  by_cases h : i = j
  · subst h; simp [List.getD_eq_getElem?_getD, hi]
  · simp [List.getD_eq_getElem?_getD, h]
/-! two numbers turned into four of sixteen -/
def s0 (v : List Nat) (a b : Nat) (x : Nat) : List Nat := v.set a (add (add (v.getD a 0) (v.getD b 0)) x)
def s1 (v : List Nat) (d a n : Nat) : List Nat := v.set d (rot (v.getD d 0 ^^^ v.getD a 0) n)
def s2 (v : List Nat) (c d : Nat) : List Nat := v.set c (add (v.getD c 0) (v.getD d 0))
theorem s0_ok {n : Nat} {v : List Nat} (h : W n v) (a b x : Nat) : W n (s0 v a b x) := h.set _ (add_lt _ _)
theorem s1_ok {n : Nat} {v : List Nat} (h : W n v) (d a k : Nat) : W n (s1 v d a k) := h.set _ (rot_lt (xor_lt (h.at _) (h.at _)) _)
theorem s2_ok {n : Nat} {v : List Nat} (h : W n v) (c d : Nat) : W n (s2 v c d) := h.set _ (add_lt _ _)
def mix (v : List Nat) (a b c d x y : Nat) : List Nat :=
  s1 (s2 (s1 (s0 (s1 (s2 (s1 (s0 v a b x) d a 16) c d) b c 12) a b y) d a 8) c d) b c 7
theorem mix_ok {n : Nat} {v : List Nat} (h : W n v) (a b c d x y : Nat) : W n (mix v a b c d x y) :=
  s1_ok (s2_ok (s1_ok (s0_ok (s1_ok (s2_ok (s1_ok (s0_ok h _ _ _) _ _ _) _ _) _ _ _) _ _ _) _ _ _) _ _) _ _ _
/-! a block's rounds -/
def orders : List (List Nat) := [
  [0, 1, 2, 3, 4, 5, 6, 7, 8, 9, 10, 11, 12, 13, 14, 15],
  [14, 10, 4, 8, 9, 15, 13, 6, 1, 12, 0, 2, 11, 7, 5, 3],
  [11, 8, 12, 0, 5, 2, 15, 13, 10, 14, 3, 6, 7, 1, 9, 4],
  [7, 9, 3, 1, 13, 12, 11, 14, 2, 6, 5, 10, 4, 0, 15, 8],
  [9, 0, 5, 7, 2, 4, 10, 15, 14, 1, 11, 12, 6, 8, 3, 13],
  [2, 12, 6, 10, 0, 11, 8, 3, 4, 13, 7, 5, 15, 14, 1, 9],
  [12, 5, 1, 15, 14, 13, 4, 10, 0, 7, 6, 3, 9, 2, 8, 11],
  [13, 11, 7, 14, 12, 1, 3, 9, 5, 0, 15, 4, 8, 6, 2, 10],
  [6, 15, 14, 9, 11, 3, 0, 8, 12, 2, 13, 7, 1, 4, 10, 5],
  [10, 2, 8, 4, 7, 6, 1, 5, 15, 11, 9, 14, 3, 12, 13, 0]]
def begins : List Nat := [1779033703, 3144134277, 1013904242, 2773480762, 1359893119, 2600822924, 528734635, 1541459225]
theorem begins_ok : W 8 begins := ⟨rfl, by decide⟩
theorem order_lt (r i : Nat) : (orders.getD r []).getD i 0 < 16 := by
  have h : ∀ l ∈ orders, ∀ x ∈ l, x < 16 := by decide
  rw [List.getD_eq_getElem?_getD, List.getD_eq_getElem?_getD]
  rcases Nat.lt_or_ge r orders.length with k | k
  · rw [List.getElem?_eq_getElem k]
    rcases Nat.lt_or_ge i orders[r].length with q | q
    · simp only [Option.getD_some]; rw [List.getElem?_eq_getElem q]; exact h _ (List.getElem_mem k) _ (List.getElem_mem q)
    · simp only [Option.getD_some]; rw [List.getElem?_eq_none q]; decide
  · rw [List.getElem?_eq_none k]; simp
def halfA (m o v : List Nat) : Nat → List Nat
  | 0 => v
  | k + 1 => mix (halfA m o v k) k (4 + k) (8 + k) (12 + k) (m.getD (o.getD (2 * k) 0) 0) (m.getD (o.getD (2 * k + 1) 0) 0)
def halfB (m o v : List Nat) : Nat → List Nat
  | 0 => v
  | k + 1 => mix (halfB m o v k) k (4 + (k + 1) % 4) (8 + (k + 2) % 4) (12 + (k + 3) % 4) (m.getD (o.getD (8 + 2 * k) 0) 0) (m.getD (o.getD (9 + 2 * k) 0) 0)
theorem halfA_ok {m o v : List Nat} (h : W 16 v) : ∀ k, W 16 (halfA m o v k)
  | 0 => h
  | k + 1 => mix_ok (halfA_ok h k) ..
theorem halfB_ok {m o v : List Nat} (h : W 16 v) : ∀ k, W 16 (halfB m o v k)
  | 0 => h
  | k + 1 => mix_ok (halfB_ok h k) ..
def rounds (m v : List Nat) : Nat → List Nat
  | 0 => v
  | r + 1 => halfB m (orders.getD r []) (halfA m (orders.getD r []) (rounds m v r) 4) 4
theorem rounds_ok {m v : List Nat} (h : W 16 v) : ∀ k, W 16 (rounds m v k)
  | 0 => h
  | k + 1 => halfB_ok (halfA_ok (rounds_ok h k) _) _
/-! a block's numbers -/
def wd (m : List Nat) (i x : Nat) : List Nat := m.set (i / 4) (m.getD (i / 4) 0 ||| x * 2 ^ (8 * (i % 4)) % 4294967296)
def words (l : List UInt8) : Nat → List Nat
  | 0 => List.replicate 16 0
  | k + 1 => wd (words l k) k (l.getD k 0).toNat
theorem wd_ok {n : Nat} {m : List Nat} (h : W n m) (i x : Nat) : W n (wd m i x) := h.set _ (or_lt (h.at _) (Nat.mod_lt _ (by decide)))
theorem words_ok (l : List UInt8) : ∀ k, W 16 (words l k)
  | 0 => W.zeros 16
  | k + 1 => wd_ok (words_ok l k) ..
/-- the sixteen numbers ahead of the rounds -/
def inv (x : Nat) : Nat := 4294967295 - x
theorem inv_lt (x : Nat) : inv x < 4294967296 := by unfold inv; omega
def start (h : List Nat) (n : Nat) (last : Bool) : List Nat :=
  let v := h ++ begins
  let v := v.set 12 (v.getD 12 0 ^^^ n % 4294967296)
  let v := v.set 13 (v.getD 13 0 ^^^ n / 4294967296 % 4294967296)
  if last then v.set 14 (inv (v.getD 14 0)) else v
theorem both_ok {m n : Nat} {v u : List Nat} (h : W m v) (k : W n u) : W (m + n) (v ++ u) :=
  ⟨by rw [List.length_append, h.len, k.len], fun x hx => by rcases List.mem_append.1 hx with q | q; exact h.lt _ q; exact k.lt _ q⟩
theorem start_ok {h : List Nat} (hh : W 8 h) (n : Nat) (last : Bool) : W 16 (start h n last) := by
  unfold start
  have h1 := both_ok hh begins_ok
  have h2 := h1.set 12 (xor_lt (h1.at 12) (Nat.mod_lt n (by decide)))
  have h3 := h2.set 13 (xor_lt (h2.at 13) (Nat.mod_lt (n / 4294967296) (by decide)))
  cases last
  · exact h3
  · exact h3.set 14 (inv_lt _)
/-- what the sums come to, number by number -/
def fin (h v : List Nat) : Nat → List Nat
  | 0 => h
  | k + 1 => (fin h v k).set k ((fin h v k).getD k 0 ^^^ v.getD k 0 ^^^ v.getD (8 + k) 0)
theorem fin_ok {h v : List Nat} (hh : W 8 h) (hv : W 16 v) : ∀ k, W 8 (fin h v k)
  | 0 => hh
  | k + 1 => (fin_ok hh hv k).set _ (xor_lt (xor_lt ((fin_ok hh hv k).at _) (hv.at _)) (hv.at _))
/-- a block turned in -/
def block (h : List Nat) (l : List UInt8) (n : Nat) (last : Bool) : List Nat := fin h (rounds (words l l.length) (start h n last) 10) 8
theorem block_ok {h : List Nat} (hh : W 8 h) (l : List UInt8) (n : Nat) (last : Bool) : W 8 (block h l n last) := fin_ok hh (rounds_ok (start_ok hh _ _) _) _
/-- a text's bytes from one to another -/
def cut (l : List UInt8) (a b : Nat) : List UInt8 := (l.take b).drop a
/-- the sums behind so many whole blocks -/
def h0 : List Nat := begins.set 0 (begins.getD 0 0 ^^^ 16842784)
theorem h0_ok : W 8 h0 := begins_ok.set 0 (by decide)
def sums (l : List UInt8) : Nat → List Nat
  | 0 => h0
  | k + 1 => block (sums l k) (cut l (64 * k) (64 * k + 64)) (64 * k + 64) false
theorem sums_ok (l : List UInt8) : ∀ k, W 8 (sums l k)
  | 0 => h0_ok
  | k + 1 => block_ok (sums_ok l k) ..
/-- the whole blocks ahead of the last one -/
def ahead (n : Nat) : Nat := (n - 1) / 64
/-- the eight numbers' bytes -/
def byteOf (h : List Nat) (i : Nat) : UInt8 := UInt8.ofNat (h.getD (i / 4) 0 / 2 ^ (8 * (i % 4)) % 256)
def bytes (h : List Nat) : List UInt8 := (List.range 32).map (byteOf h)
def digest (l : List UInt8) : List UInt8 := bytes (block (sums l (ahead l.length)) (l.drop (64 * ahead l.length)) l.length true)
theorem digest_length (l : List UInt8) : (digest l).length = 32 := by simp [digest, bytes]
end Go.Proofs.YtdllenoclnmmdaaDoor.Bl
