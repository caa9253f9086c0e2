/- The letters of a digest: digest.Hex and the reference's (texts of at most 6000 bytes). -/
import Derived.Test.YtldfamccobcpjaaDoorBl13
import Derived.Deep.RegionLaw
namespace Go.Proofs.YtldfamccobcpjaaDoor
open Go.RowKit Go.Shelf
attribute [local go_sem] Oper.semAt_some

def LET : ByteArray := ⟨#[48, 49, 50, 51, 52, 53, 54, 55, 56, 57, 97, 98, 99, 100, 101, 102]⟩
def ltr (q : Nat) : UInt8 := LET.data.toList.getD q 0
def hexL : List UInt8 → List UInt8
  | [] => []
  | b :: l => ltr (b.toNat / 16) :: ltr (b.toNat % 16) :: hexL l
theorem hexL_length : ∀ l : List UInt8, (hexL l).length = 2 * l.length
  | [] => rfl
  | b :: l => by simp only [hexL, List.length_cons, hexL_length l]; omega
theorem hexL_append : ∀ a b : List UInt8, hexL (a ++ b) = hexL a ++ hexL b
  | [], _ => rfl
  | x :: a, b => by simp only [List.cons_append, hexL, hexL_append a b]
theorem hexL_take (l : List UInt8) (k : Nat) (hk : k < l.length) : hexL (l.take (k + 1)) = hexL (l.take k) ++ [ltr (l[k].toNat / 16), ltr (l[k].toNat % 16)] := by
  rw [List.take_succ_eq_append_getElem hk, hexL_append]
  rfl
def hexB (s : ByteArray) : ByteArray := ⟨(hexL s.data.toList).toArray⟩
theorem hexB_size (s : ByteArray) : (hexB s).size = 2 * s.size := by
  show (hexL s.data.toList).toArray.size = _
  rw [List.size_toArray, hexL_length, Array.length_toList]
  rfl
theorem index_let (q : Nat) (hq : q < 16) (w : World) : (Instr.index 9 (.string ⟨#[48, 49, 50, 51, 52, 53, 54, 55, 56, 57, 97, 98, 99, 100, 101, 102]⟩) (.int .u8 q)).run Tryd.prog w = .ok (.int .u8 ((ltr q).toNat : Int)) w := by
  rw [run_index_string _ _ _ _ _ Tryd.underlying9, dif_pos ⟨by omega, by show (q : Int) < 16; omega⟩]
  have h : ∀ q, (h : q < 16) → (ByteArray.mk #[48, 49, 50, 51, 52, 53, 54, 55, 56, 57, 97, 98, 99, 100, 101, 102])[q]'h = ltr q := by decide
  congr 2
  have := h q hq
  simp only [Int.toNat_natCast]
  rw [this]
theorem and_15 (x : Nat) (hx : x < 256) : bits .and .u8 (x : Int) 15 = ((x % 16 : Nat) : Int) := by
  rw [show (15 : Int) = ((15 : Nat) : Int) from rfl, u8_and_nat x 15 hx (by decide)]
  congr 1
  exact Nat.and_two_pow_sub_one_eq_mod x 4
theorem two_cells (w : World) (x0 x1 : Value) (t : TypeId) : ∀ j u, [x0, x1][j]? = some u → (w.alloc (.cells #[x0, x1] t)).cell? ((⟨w.heap.size, 0, none⟩ : Addr).add j) = some u := by
  intro j u hj
  rw [add_none, Nat.zero_add, cell_new]
  match j, hj with
  | 0, hj => simpa using hj
  | 1, hj => simpa using hj
  | n + 2, hj => simp at hj
/-- append to an own row, as one step of a region that draws -/
theorem step_append_own {P : Program} {ops : Array Oper} {o : Oper} {a : Act} {w : World} {K : Act → World → Prop} {Q : Exit → Act → World → Prop} {E : Prop} (hgd : o.guard = none) (s x : Operand) (t : TypeId)
    (ho : o.op = .call { callee := .builtin .append, args := #[s, x], argTypes := #[t, t] })
    (base : Nat) (e : TypeId) (i : TypeInfo) (z : Value) (size bytes : Nat) (ht : P.underlying t = some (.slice e)) (hi : P.info? e = some i) (hz : i.zero = some z)
    (hsize : i.size = size) (hby : i.bytes = bytes) (hzs : z.cells.size = size) (hsz : 0 < size)
    (v : Value) (n : Nat) (xs : List Value) (hs : a.eval s = v) (hown : w.ownsRow base e size v n xs)
    (ad : Addr) (m c : Nat) (news : List Value) (hx : a.eval x = .slice (some ad) m c) (hl : news.length = m * size) (hnews : ∀ j u, news[j]? = some u → w.cell? (ad.add j) = some u) (h1 : ∀ u ∈ news, u.oneCell' = true)
    (h63 : n + m ≤ maxLen) (hbytes : (n + m) * bytes ≤ 140737488355328) (hbase : base ≤ w.heap.size)
    (h : ∀ v' w', w'.ownsRow base e size v' (n + m) (xs ++ news) → w.grownBy w' v.ownBlock → K (a.put o.dst v') w') :
    if Region.wanted o (yielded ops a.tmps) = true then Oper.wp P o a w K Q else E := by
  have hw : Region.wanted o (yielded ops a.tmps) = true := by simp [Region.wanted, hgd]
  rw [if_pos hw]
  obtain ⟨v', w', hr, h2, h3, h4, h5⟩ := run_append_own_at (P := P) w base t o.type e i z size bytes ht hi hz hsize hby hzs hsz v n xs hown ad m c news hl hnews h1 h63 hbytes hbase
  unfold Oper.wp execOp
  simp only [ho, resolve, invoke, builtin, Sem.run_bind, Sem.run_pure, Result.andThen_ok, List.map_toArray, List.map_cons, List.map_nil, hs, hx, hr]
  exact h v' w' h2 h3
/-- the ways of a region all end in one frame, but for what an append handed back -/
theorem wp_told_own {P : Program} {n : Nat} {c : Code} {K : Act → World → Prop} {Q : Exit → Act → World → Prop} {a : Act} {w : World} {A : Value → Act} (R : Value → World → Prop)
    (h : ∀ K' : Act → World → Prop, (∀ v w', R v w' → K' (A v) w') → c.wp P (Exit.inBlock n (Exit.then K' Q)) a w) (k : ∀ v w', R v w' → K (A v) w') : c.wp P (Exit.inBlock n (Exit.then K Q)) a w := h K k
set_option maxRecDepth 100000 in
set_option maxHeartbeats 4000000 in
theorem rhex_any (s : ByteArray) (hs : s.size ≤ 6000) (w : World) :
    Calls Tryd.prog 19 #[.string s] w fun e w' => e = .returned (.string (hexB s)) ∧ Kept w w' := by
  obtain ⟨i0, hi, hz0, hz1, hz2⟩ := info_parts Tryd.infoB8
  have HI := Lib.hid (And.intro hi (And.intro hz0 (And.intro hz1 hz2)))
  clear hi hz0 hz1 hz2
  go_enter Tryd.func19, Tryd.ntmps19
  go_wp2_with fail
  go_loopw [4, 5] (fun v i wx => ∃ k m : Nat, Hid (m = 2 * k) ∧ k ≤ s.size ∧ i = .int .i64 k ∧ wx.ownsRow w.heap.size 5 1 v m (bv (hexL (s.data.toList.take k))) ∧ Kept w wx) (fun _ i _ => s.size - (intOf i).toNat)
  case atStart => exact ⟨0, 0, Lib.hid rfl, by omega, rfl, ⟨rfl, .inl ⟨rfl, rfl⟩⟩, Kept.refl _⟩
  case round =>
    obtain ⟨k, m, hm, hk, rfl, hown, hkw⟩ := hrel
    have HOW := Lib.hid hown
    have HKW := Lib.hid hkw
    have hm6 : m ≤ 12000 := by have := hm.out; omega
    clear hown hkw
    by_cases hlt : k < s.size
    · all_goals
        have hkl : k < s.data.toList.length := by rw [Array.length_toList]; exact hlt
        have HT := Lib.hid (hexL_take s.data.toList k hkl)
        have hx := UInt8.toNat_lt s[k]
        have hl2 : s.data.toList[k] = s[k] := by rw [Array.getElem_toList]; rfl
        rw [hl2] at HT
        obtain ⟨q, hq⟩ : ∃ q, q = s[k].toNat / 16 := ⟨_, rfl⟩
        obtain ⟨r, hr⟩ : ∃ r, r = s[k].toNat % 16 := ⟨_, rfl⟩
        have e1 : ((s[k].toNat : Nat) : Int) / 16 = (q : Int) := by rw [hq]; omega
        have e2 : bits .and .u8 ((s[k].toNat : Nat) : Int) 15 = (r : Int) := by rw [hr]; exact and_15 _ hx
        have i1 := index_let q (by omega)
        have i2 := index_let r (by omega)
        rw [← hq, ← hr] at HT
        have HM := Lib.hid (show m + 2 = 2 * (k + 1) by have := hm.out; omega)
        generalize ltr q = y0 at *
        generalize ltr r = y1 at *
        clear hm hl2 hq hr
        obtain ⟨a9, c9, hv9⟩ := slice_of_own1 HOW.out
        subst hv9
        have k3 : Kept wr (wr.alloc (.cells #[.int .u8 (y0.toNat : Int), .int .u8 (y1.toNat : Int)] 5)).drew := ((Kept.refl wr).alloc _).drew
        have HO3 := Lib.hid (own_kept HOW.out k3)
        have HK3 := Lib.hid (HKW.out.trans k3)
        have h3z := HK3.out.size
        clear k3
        go_wp2_with fail
        apply wp_told_own (fun v' w9 => w9.ownsRow w.heap.size 5 1 v' (m + 2) (bv (hexL (s.data.toList.take k)) ++ [.int .u8 (y0.toNat : Int), .int .u8 (y1.toNat : Int)]) ∧ Kept w w9)
        · intro K2 hK2
          go_region_law (refine step_append_own rfl (.tmp 12) (.tmp 25) 29 rfl w.heap.size 5 i0 (.int .u8 0) 1 1 Tryd.underlying29 HI.out.1 HI.out.2.1 HI.out.2.2.1 HI.out.2.2.2 rfl (by decide) _ _ _ rfl HO3.out ⟨wr.heap.size, 0, none⟩ 2 2 [.int .u8 (y0.toNat : Int), .int .u8 (y1.toNat : Int)] rfl rfl (two_cells wr _ _ _) (by intro u hu; simp at hu; rcases hu with rfl | rfl <;> rfl) (by unfold maxLen; omega) (by omega) (by omega) ?_; intro v' w9 hown9 hgrow; have hkk9 := kept_gr1 HK3.out hgrow (fun g e => (HO3.out.lt g e).1) (Nat.le_refl _); clear hgrow)
          all_goals exact hK2 _ _ ⟨hown9, hkk9⟩
        · rintro v' w9 ⟨hown9, hkk9⟩
          have HO9 := Lib.hid hown9
          have HK9 := Lib.hid hkk9
          clear hown9 hkk9
          conv => arg 1; whnf
          simp only [List.setIfInBounds_toArray, List.set_cons_zero, List.set_cons_succ]
          go_wp2
          go_roundw
          case rel => exact ⟨k + 1, m + 2, HM, by omega, by go_num, by rw [HT.out, bv_append]; exact HO9.out, HK9.out⟩
          case measure => simp [intOf]; omega
    · obtain rfl : k = s.size := by omega
      have hcv := own_string HOW.out (by rw [hexL_length, List.length_take, Array.length_toList, hm.out]; show 2 * min s.size s.size = _; omega)
      rw [List.take_of_length_le (by rw [Array.length_toList]; exact Nat.le_refl _)] at hcv
      obtain ⟨a9, c9, hv9⟩ := slice_of_own1 HOW.out
      subst hv9
      obtain ⟨D, hD⟩ : ∃ D, D = hexB s := ⟨_, rfl⟩
      have HD := Lib.hid hD
      rw [show (⟨(hexL s.data.toList).toArray⟩ : ByteArray) = D from hD.symm] at hcv
      clear hD hm
      go_wp2
      go_ret
      exact ⟨by rw [← HD.out]; rfl, HKW.out⟩
set_option maxRecDepth 100000 in
set_option maxHeartbeats 4000000 in
theorem hex_good (s : ByteArray) (hs : s.size = 32) (w : World) :
    Calls Tryd.prog 20 #[.string s] w fun e w' => e = .returned (.tuple #[.string (hexB s), .int .i64 0]) ∧ Kept w w' := by
  obtain ⟨i0, hi, hz0, hz1, hz2⟩ := info_parts Tryd.infoB8
  have HI := Lib.hid (And.intro hi (And.intro hz0 (And.intro hz1 hz2)))
  clear hi hz0 hz1 hz2
  go_enter Tryd.func20, Tryd.ntmps20
  have hd1 : ((s.size : Int) != 32) = false := by rw [bne_eq_false_iff_eq]; omega
  go_upto_region 4 with (fail)
  have HE1 := Lib.hid (BlockAt.new w #[] 5)
  have HK1 := Lib.hid ((Kept.refl w).alloc (.cells #[] 5))
  obtain ⟨pe, hpe⟩ : ∃ pe, pe = w.heap.size := ⟨_, rfl⟩
  generalize w.alloc (.cells #[] 5) = w1 at *
  rw [← hpe] at HE1 ⊢
  have HO1 := Lib.hid (show w1.ownsRow w.heap.size 5 1 (.slice (some ⟨pe, 0, none⟩) 0 0) 0 (bv (hexL (s.data.toList.take 0))) from ⟨rfl, .inr ⟨pe, 0, #[], rfl, Nat.le_of_eq hpe.symm, HE1.out, Nat.le_refl _, by unfold maxLen; omega, rfl, rfl⟩⟩)
  clear hpe HE1
  go_wp2_with fail
  go_loopw [4, 12] (fun v i wx => ∃ k m : Nat, Hid (m = 2 * k) ∧ k ≤ s.size ∧ i = .int .i64 k ∧ wx.ownsRow w.heap.size 5 1 v m (bv (hexL (s.data.toList.take k))) ∧ Kept w wx) (fun _ i _ => s.size - (intOf i).toNat)
  case atStart => exact ⟨0, 0, Lib.hid rfl, by omega, rfl, HO1.out, HK1.out⟩
  case round =>
    obtain ⟨k, m, hm, hk, rfl, hown, hkw⟩ := hrel
    have HOW := Lib.hid hown
    have HKW := Lib.hid hkw
    have hm6 : m ≤ 12000 := by have := hm.out; omega
    clear hown hkw
    by_cases hlt : k < s.size
    · all_goals
        have hkl : k < s.data.toList.length := by rw [Array.length_toList]; exact hlt
        have HT := Lib.hid (hexL_take s.data.toList k hkl)
        have hx := UInt8.toNat_lt s[k]
        have hl2 : s.data.toList[k] = s[k] := by rw [Array.getElem_toList]; rfl
        rw [hl2] at HT
        obtain ⟨q, hq⟩ : ∃ q, q = s[k].toNat / 16 := ⟨_, rfl⟩
        obtain ⟨r, hr⟩ : ∃ r, r = s[k].toNat % 16 := ⟨_, rfl⟩
        have e1 : ((s[k].toNat : Nat) : Int) / 16 = (q : Int) := by rw [hq]; omega
        have e2 : bits .and .u8 ((s[k].toNat : Nat) : Int) 15 = (r : Int) := by rw [hr]; exact and_15 _ hx
        have i1 := index_let q (by omega)
        have i2 := index_let r (by omega)
        rw [← hq, ← hr] at HT
        have HM := Lib.hid (show m + 2 = 2 * (k + 1) by have := hm.out; omega)
        generalize ltr q = y0 at *
        generalize ltr r = y1 at *
        clear hm hl2 hq hr
        obtain ⟨a9, c9, hv9⟩ := slice_of_own1 HOW.out
        subst hv9
        have k3 : Kept wr (wr.alloc (.cells #[.int .u8 (y0.toNat : Int), .int .u8 (y1.toNat : Int)] 5)).drew := ((Kept.refl wr).alloc _).drew
        have HO3 := Lib.hid (own_kept HOW.out k3)
        have HK3 := Lib.hid (HKW.out.trans k3)
        have h3z := HK3.out.size
        clear k3
        go_wp2_with fail
        apply wp_told_own (fun v' w9 => w9.ownsRow w.heap.size 5 1 v' (m + 2) (bv (hexL (s.data.toList.take k)) ++ [.int .u8 (y0.toNat : Int), .int .u8 (y1.toNat : Int)]) ∧ Kept w w9)
        · intro K2 hK2
          go_region_law (refine step_append_own rfl (.tmp 15) (.tmp 26) 29 rfl w.heap.size 5 i0 (.int .u8 0) 1 1 Tryd.underlying29 HI.out.1 HI.out.2.1 HI.out.2.2.1 HI.out.2.2.2 rfl (by decide) _ _ _ rfl HO3.out ⟨wr.heap.size, 0, none⟩ 2 2 [.int .u8 (y0.toNat : Int), .int .u8 (y1.toNat : Int)] rfl rfl (two_cells wr _ _ _) (by intro u hu; simp at hu; rcases hu with rfl | rfl <;> rfl) (by unfold maxLen; omega) (by omega) (by omega) ?_; intro v' w9 hown9 hgrow; have hkk9 := kept_gr1 HK3.out hgrow (fun g e => (HO3.out.lt g e).1) (Nat.le_refl _); clear hgrow)
          all_goals exact hK2 _ _ ⟨hown9, hkk9⟩
        · rintro v' w9 ⟨hown9, hkk9⟩
          have HO9 := Lib.hid hown9
          have HK9 := Lib.hid hkk9
          clear hown9 hkk9
          conv => arg 1; whnf
          simp only [List.setIfInBounds_toArray, List.set_cons_zero, List.set_cons_succ]
          go_wp2
          go_roundw
          case rel => exact ⟨k + 1, m + 2, HM, by omega, by go_num, by rw [HT.out, bv_append]; exact HO9.out, HK9.out⟩
          case measure => simp [intOf]; omega
    · obtain rfl : k = s.size := by omega
      have hcv := own_string HOW.out (by rw [hexL_length, List.length_take, Array.length_toList, hm.out]; show 2 * min s.size s.size = _; omega)
      rw [List.take_of_length_le (by rw [Array.length_toList]; exact Nat.le_refl _)] at hcv
      obtain ⟨a9, c9, hv9⟩ := slice_of_own1 HOW.out
      subst hv9
      obtain ⟨D, hD⟩ : ∃ D, D = hexB s := ⟨_, rfl⟩
      have HD := Lib.hid hD
      rw [show (⟨(hexL s.data.toList).toArray⟩ : ByteArray) = D from hD.symm] at hcv
      clear hD hm
      go_wp2
      go_ret2
      exact ⟨by rw [← HD.out]; rfl, HKW.out⟩
set_option maxRecDepth 100000 in
theorem hex_bad (s : ByteArray) (hs : s.size ≠ 32) (w : World) :
    Calls Tryd.prog 20 #[.string s] w fun e w' => e = .returned (.tuple #[.string ⟨#[]⟩, .int .i64 1]) ∧ Kept w w' := by
  have hd1 : ((s.size : Int) != 32) = true := by rw [bne_iff_ne]; omega
  go_enter Tryd.func20, Tryd.ntmps20
  go_wp2
  go_ret2
  exact ⟨rfl, Kept.refl _⟩
end Go.Proofs.YtldfamccobcpjaaDoor
