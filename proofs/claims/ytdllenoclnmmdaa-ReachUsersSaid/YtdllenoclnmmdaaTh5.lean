/- Things against things, copies of them, what they weigh (no conditions but that lengths fit). -/
import Derived.Test.YtdllenoclnmmdaaTh4
namespace Go.Proofs.Ytdllenoclnmmdaa
open Go.RowKit Go.Shelf
attribute [local go_sem] Oper.semAt_some

set_option maxRecDepth 100000 in
set_option maxHeartbeats 1000000 in
theorem eq_things (a a' : Option Addr) (l cap cap' : Nat) (ts : List Th) (w : World) (h : ThsIn w a l ts) (h' : ThsIn w a' l ts) :
    Calls Try.prog 31 #[.slice a l cap, .slice a' l cap'] w fun e w' => e = .returned (.bool true) ∧ Kept w w' := by
  have hle := h.le
  have HS := Lib.hid h
  have HS' := Lib.hid h'
  clear h h'
  go_enter Try.func31, Try.ntmps31
  go_wp2_with fail
  go_loopw [5] (fun i wr => ∃ k : Nat, k ≤ l ∧ i = .int .i64 k ∧ Kept w wr) (fun i _ => l - (intOf i).toNat)
  case atStart => exact ⟨0, by omega, rfl, Kept.refl _⟩
  case round =>
    obtain ⟨k, hk, rfl, hK⟩ := hrel
    have HK := Lib.hid hK
    clear hK
    by_cases hlt : k < l
    · have hd1 : decide (k < l) = true := decide_eq_true hlt
      obtain ⟨b, off, rfl, hc⟩ := HS.out.at (by omega)
      obtain ⟨b', off', rfl, hc'⟩ := HS'.out.at (by omega)
      obtain ⟨c0, c1, c2⟩ := hc k hlt _ HK.out
      obtain ⟨c0', c1', c2'⟩ := hc' k hlt _ HK.out
      generalize ts.getD k th00 = x at c0 c1 c2 c0' c1' c2'
      obtain ⟨xd, xt, xm⟩ := x
      dsimp only at c0 c1 c2 c0' c1' c2'
      clear hc hc'
      have hs1 : (xd.toList == xd.toList) = true := by simp
      have hs2 : (xt.toList == xt.toList) = true := by simp
      go_wp2_with fail
      go_quiet (fail)
      go_wp2_with fail
      go_roundw
      case rel => exact ⟨k + 1, by omega, by go_num, HK.out.drewN nq⟩
      case measure => simp [intOf]; omega
    · obtain rfl : k = l := by omega
      have hd1 : decide (k < k) = false := decide_eq_false (by omega)
      go_wp2
      go_ret
      exact ⟨rfl, HK.out⟩
def thC (x : Th) : List Value := [.string x.d, .string x.t, .bool x.m]
theorem Try.infoTh : (Try.prog.info? 65).map (fun i => (i.zero, i.size, i.bytes)) = some (some (.agg #[.string ByteArray.empty, .string ByteArray.empty, .bool false]), 3, 40) := by kernel_rfl
theorem thC_at : ∀ (ts : List Th) (i : Nat), i < ts.length → (ts.flatMap thC)[i * 3]? = some (.string (ts.getD i th00).d) ∧ (ts.flatMap thC)[i * 3 + 1]? = some (.string (ts.getD i th00).t) ∧ (ts.flatMap thC)[i * 3 + 2]? = some (.bool (ts.getD i th00).m)
  | [], i, h => by simp at h
  | x :: r, 0, _ => ⟨rfl, rfl, rfl⟩
  | x :: r, i + 1, h => by
    have := thC_at r i (by simpa using h)
    rw [show (i + 1) * 3 = i * 3 + 3 by omega]
    simpa [List.flatMap_cons, thC, List.getD] using this
theorem thC_len (ts : List Th) : (ts.flatMap thC).length = ts.length * 3 := by
  induction ts with
  | nil => rfl
  | cons x r ih => rw [List.flatMap_cons, List.length_append, ih]; simp [thC]; omega
/-- a row of one's own of things reads as them -/
theorem ths_own {w : World} {base l : Nat} {v : Value} {ts : List Th} (ho : w.ownsRow base 65 3 v l (ts.flatMap thC)) (hl : ts.length = l) (hf : l ≤ 3518437208883) (hs : ∀ x ∈ ts, x.d.size ≤ 140737488351232 ∧ x.t.size ≤ 140737488351232) :
    ∃ a cap, v = .slice a l cap ∧ ThsIn w a l ts := by
  rcases ho.2 with ⟨rfl, rfl⟩ | ⟨g, cap, cur, rfl, hb, hg, hn, hm, _⟩
  · exact ⟨none, 0, rfl, hl, by omega, hs, 0, 0, fun h => absurd h (Nat.lt_irrefl 0), fun i hi => absurd hi (Nat.not_lt_zero i)⟩
  · refine ⟨_, cap, rfl, hl, hf, hs, g, 0, fun _ => rfl, fun i hi => ?_⟩
    obtain ⟨h0, h1, h2⟩ := thC_at ts i (by omega)
    refine ⟨(ho.lt g rfl).2, ?_, ?_, ?_⟩
    · rw [Nat.zero_add, ho.cellAt _ (by omega), h0]
    · rw [Nat.zero_add, ho.cellAt _ (by omega), h1]
    · rw [Nat.zero_add, ho.cellAt _ (by omega), h2]
theorem thC_snoc (ts : List Th) (k : Nat) (h : k < ts.length) : (ts.take (k + 1)).flatMap thC = (ts.take k).flatMap thC ++ thC (ts.getD k th00) := by
  rw [List.take_succ_eq_append_getElem h, List.flatMap_append]
  simp [List.getD, h]
theorem info_th (P : Program) (h : (P.info? 65).map (fun i => (i.zero, i.size, i.bytes)) = some (some (.agg #[.string ByteArray.empty, .string ByteArray.empty, .bool false]), 3, 40)) :
    ∃ i0, P.info? 65 = some i0 ∧ i0.zero = some (.agg #[.string ByteArray.empty, .string ByteArray.empty, .bool false]) ∧ i0.size = 3 ∧ i0.bytes = 40 := by
  obtain ⟨i0, hi, he⟩ := Option.map_eq_some_iff.1 h
  simp only [Prod.mk.injEq] at he
  exact ⟨i0, hi, he.1, he.2.1, he.2.2⟩
theorem thC_new (w : World) (x : Th) (t : TypeId) : ∀ j u, (thC x)[j]? = some u → (w.alloc (.cells #[.string x.d, .string x.t, .bool x.m] t)).cell? ((⟨w.heap.size, 0, none⟩ : Addr).add j) = some u := by
  intro j u hj
  rw [show (⟨w.heap.size, 0, none⟩ : Addr).add j = ⟨w.heap.size, j, none⟩ by unfold Addr.add; split <;> simp_all, cell_new]
  match j, hj with
  | 0, hj => exact hj
  | 1, hj => exact hj
  | 2, hj => exact hj
  | j + 3, hj => simp [thC] at hj
set_option maxRecDepth 100000 in
set_option maxHeartbeats 1000000 in
theorem copy_things (a : Option Addr) (l cap : Nat) (ts : List Th) (w : World) (h : ThsIn w a l ts) :
    Calls Try.prog 21 #[.slice a l cap] w fun e w' => ∃ a' cap', e = .returned (.slice a' l cap') ∧ w'.ownsRow w.heap.size 65 3 (.slice a' l cap') l (ts.flatMap thC) ∧ Kept w w' := by
  obtain ⟨i0, hi, hz0, hz1, hz2⟩ := info_th Try.prog Try.infoTh
  have hle := h.le
  have HS := Lib.hid h
  have HL := Lib.hid h.len_eq
  have HI := Lib.hid (And.intro hi (And.intro hz0 (And.intro hz1 hz2)))
  clear h hi hz0 hz1 hz2
  go_enter Try.func21, Try.ntmps21
  go_wp2_with fail
  go_loopw [3, 4] (fun v i wr => ∃ k : Nat, k ≤ l ∧ i = .int .i64 k ∧ wr.ownsRow w.heap.size 65 3 v k ((ts.take k).flatMap thC) ∧ Kept w wr) (fun _ i _ => l - (intOf i).toNat)
  case atStart => exact ⟨0, by omega, rfl, World.ownsRow_nil _ _ _ _, Kept.refl _⟩
  case round =>
    rename Value => v3
    obtain ⟨k, hk, rfl, ho, hkr⟩ := hrel
    have HK := Lib.hid hkr
    have HO := Lib.hid ho
    clear hkr
    by_cases hlt : k < l
    · have hd1 : decide (k < l) = true := decide_eq_true hlt
      obtain ⟨av, cv, rfl⟩ := slice_of_own1 ho
      obtain ⟨b, off, rfl, hc⟩ := HS.out.at (by omega)
      obtain ⟨c0, c1, c2⟩ := hc k hlt _ HK.out
      have HSN := Lib.hid (thC_snoc ts k (by rw [HL.out]; exact hlt))
      obtain ⟨x, hx⟩ : ∃ x, x = ts.getD k th00 := ⟨_, rfl⟩
      rw [← hx] at c0 c1 c2 HSN
      have hsz : w.heap.size ≤ wr.heap.size := HK.out.size
      clear hc hx ho
      go_wp2_with (at_builtin; refine wpList_append_own_at _ rfl _ _ 46 rfl w.heap.size 65 i0 (.agg #[.string ByteArray.empty, .string ByteArray.empty, .bool false]) 3 40 Try.underlying46 HI.out.1 HI.out.2.1 HI.out.2.2.1 HI.out.2.2.2 rfl (by decide) _ _ _ rfl (own_kept HO.out ((Kept.refl wr).alloc _)) ⟨wr.heap.size, 0, none⟩ 1 1 (thC x) rfl rfl ?c1 ?c2 ?c3 ?c4 ?c5 ?_)
      case c1 => exact thC_new wr x _
      case c2 => intro u hu; simp [thC] at hu; rcases hu with rfl | rfl | rfl <;> rfl
      case c3 => unfold maxLen; omega
      case c4 => omega
      case c5 => simp; omega
      intro v' w' hown hgr _ _
      have HK2 := Lib.hid (kept_gr (HK.out.alloc _) hgr (fun q e => (HO.out.lt q e).1))
      rw [← HSN.out] at hown
      have HO2 := Lib.hid hown
      clear hown hgr
      go_wp2_with fail
      go_roundw
      case rel => exact ⟨k + 1, by omega, by go_num, HO2.out, HK2.out⟩
      case measure => simp [intOf]; omega
    · obtain rfl : l = k := by omega
      have hd1 : decide (l < l) = false := decide_eq_false (by omega)
      obtain ⟨av, cv, rfl⟩ := slice_of_own1 ho
      have HE := Lib.hid (show (ts.take l).flatMap thC = ts.flatMap thC by rw [List.take_of_length_le (by rw [HL.out]; omega)])
      clear ho
      go_wp2_with fail
      go_ret
      exact ⟨_, _, rfl, by rw [← HE.out]; exact HO.out, HK.out⟩
/-- how much things are, as the program reckons it: beyond a million it stops -/
def wtT (ts : List Th) (l : Nat) : Nat → Int
  | 0 => l
  | k + 1 => if wtT ts l k < 1048576 then wtT ts l k + ((ts.getD k th00).d.size : Int) + ((ts.getD k th00).t.size : Int) else wtT ts l k
theorem wtT_stays (ts : List Th) (l k : Nat) (h : ¬ wtT ts l k < 1048576) : ∀ j, wtT ts l (k + j) = wtT ts l k
  | 0 => rfl
  | j + 1 => by
    have ih := wtT_stays ts l k h j
    show (if wtT ts l (k + j) < 1048576 then _ else wtT ts l (k + j)) = _
    rw [ih, if_neg h]
theorem wtT_bd (ts : List Th) (l : Nat) (hl : l ≤ 3518437208883) (h : ∀ q, (ts.getD q th00).d.size ≤ 140737488351232 ∧ (ts.getD q th00).t.size ≤ 140737488351232) : ∀ k, (l : Int) ≤ wtT ts l k ∧ wtT ts l k ≤ 562949953421312
  | 0 => ⟨Int.le_refl _, by show (l : Int) ≤ _; omega⟩
  | k + 1 => by
    have ih := wtT_bd ts l hl h k
    have hk := h k
    show (l : Int) ≤ (if wtT ts l k < 1048576 then _ else wtT ts l k) ∧ (if wtT ts l k < 1048576 then _ else wtT ts l k) ≤ 562949953421312
    split <;> omega
def wtA (ts : List Th) : Int := wtT ts ts.length ts.length
theorem ths_small {ts : List Th} (h : ∀ x ∈ ts, x.d.size ≤ 140737488351232 ∧ x.t.size ≤ 140737488351232) (q : Nat) : (ts.getD q th00).d.size ≤ 140737488351232 ∧ (ts.getD q th00).t.size ≤ 140737488351232 := by
  by_cases hq : q < ts.length
  · exact h _ (by simp [List.getD, hq])
  · have : ts.getD q th00 = th00 := by simp [List.getD, Nat.not_lt.1 hq]
    rw [this]
    decide
theorem ThsIn.wt {W : World} {a : Option Addr} {l : Nat} {ts : List Th} (h : ThsIn W a l ts) : (l : Int) ≤ wtA ts ∧ wtA ts ≤ 562949953421312 := by
  unfold wtA
  rw [h.len_eq]
  exact wtT_bd ts l h.le (ths_small h.sizes) l
set_option maxRecDepth 100000 in
set_option maxHeartbeats 1000000 in
theorem things_wt (a : Option Addr) (l cap : Nat) (ts : List Th) (w : World) (h : ThsIn w a l ts) :
    Calls Try.prog 47 #[.slice a l cap] w fun e w' => e = .returned (.int .i64 (wtA ts)) ∧ Kept w w' := by
  have hle := h.le
  have HS := Lib.hid h
  have HB := Lib.hid (wtT_bd ts l h.le (ths_small h.sizes))
  have HE := Lib.hid (show wtA ts = wtT ts l l by unfold wtA; rw [h.len_eq])
  have HZ := Lib.hid (ths_small h.sizes)
  rw [HE.out]
  clear h HE
  go_enter Try.func47, Try.ntmps47
  go_wp2_with fail
  go_loopw [3, 4] (fun m i wr => ∃ k : Nat, k ≤ l ∧ i = .int .i64 k ∧ m = .int .i64 (wtT ts l k) ∧ Kept w wr) (fun _ i _ => l - (intOf i).toNat)
  case atStart => exact ⟨0, by omega, rfl, rfl, Kept.refl _⟩
  case round =>
    obtain ⟨k, hk, rfl, rfl, hkr⟩ := hrel
    have HK := Lib.hid hkr
    clear hkr
    by_cases hlt : k < l
    · have hd1 : decide (k < l) = true := decide_eq_true hlt
      have HST := Lib.hid (wtT_stays ts l k)
      have HSU := Lib.hid (show wtT ts l (k + 1) = if wtT ts l k < 1048576 then wtT ts l k + ((ts.getD k th00).d.size : Int) + ((ts.getD k th00).t.size : Int) else wtT ts l k from rfl)
      have hbd := HB.out k
      have hzk := HZ.out k
      generalize wtT ts l k = T at HST HSU hbd ⊢
      obtain ⟨b, off, rfl, hc⟩ := HS.out.at (by omega)
      obtain ⟨c0, c1, c2⟩ := hc k hlt _ HK.out
      generalize ts.getD k th00 = x at c0 c1 c2 HSU hzk
      clear hc
      by_cases hn : T < 1048576
      · have hd2 : decide (T < 1048576) = true := decide_eq_true hn
        have hw1 : IntKind.i64.wrap (T + (x.d.size : Int)) = T + (x.d.size : Int) := IntWalk.i64_in _ (by omega)
        have hw2 : IntKind.i64.wrap (T + (x.d.size : Int) + (x.t.size : Int)) = T + (x.d.size : Int) + (x.t.size : Int) := IntWalk.i64_in _ (by omega)
        go_wp2_with fail
        go_quiet (fail)
        clear hw1 hw2
        go_wp2_with fail
        go_roundw
        case rel => exact ⟨k + 1, by omega, by go_num, by rw [HSU.out, if_pos hn], HK.out.drewN nq⟩
        case measure => simp [intOf]; omega
      · have hd2 : decide (T < 1048576) = false := decide_eq_false hn
        go_wp2
        go_ret
        refine ⟨?_, HK.out⟩
        have := HST.out hn (l - k)
        rw [show k + (l - k) = l by omega] at this
        show Ending.returned (.int .i64 T) = _
        rw [this]
    · obtain rfl : l = k := by omega
      have hd1 : decide (l < l) = false := decide_eq_false (by omega)
      go_wp2
      go_ret
      exact ⟨rfl, HK.out⟩
end Go.Proofs.Ytdllenoclnmmdaa
