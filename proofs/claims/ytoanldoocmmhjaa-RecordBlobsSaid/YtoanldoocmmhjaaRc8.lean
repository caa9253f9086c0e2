/- What record's parse reads, as plain mathematics (no conditions). -/
import Derived.Test.YtoanldoocmmhjaaRc7
namespace Go.Proofs.Ytoanldoocmmhjaa
open Go.RowKit
/-- what is left to be read, and whether more was asked for -/
abbrev St := ByteArray × Bool
def pv (n : Nat) (s : St) : Nat := numL (rdT s.1 n).data.toList
def pt (n : Nat) (s : St) : ByteArray := rdT s.1 n
def ps (n : Nat) (s : St) : St := (rdS s.1 n, rdB s.1 s.2 n)
theorem ps_size (n : Nat) (s : St) : (ps n s).1.size ≤ s.1.size := rdS_size _ _
def pList : Nat → St → List Int × St
  | 0, s => ([], s)
  | n + 1, s => if s.2 then ([], s) else (((pv 4 s : Nat) : Int) :: (pList n (ps 4 s)).1, (pList n (ps 4 s)).2)
def pSlots : Nat → St → List (Int × Int) × St
  | 0, s => ([], s)
  | n + 1, s => if s.2 then ([], s) else ((sgn (pv 4 s), sgn (pv 4 (ps 4 s))) :: (pSlots n (ps 4 (ps 4 s))).1, (pSlots n (ps 4 (ps 4 s))).2)
def pI (k : Int) (s : St) : Int × St := if Rc.fI k then (((pv 4 s : Nat) : Int), ps 4 s) else (0, s)
def pN (k : Int) (s : St) : ByteArray × St := if Rc.fN k then (pt (pv 1 s) (ps 1 s), ps (pv 1 s) (ps 1 s)) else (ByteArray.empty, s)
def pD (k : Int) (s : St) : ByteArray × St := if Rc.fD k then (pt 32 s, ps 32 s) else (ByteArray.empty, s)
def pL (k : Int) (s : St) : List Int × St := if Rc.fL k then pList (pv 4 s) ((ps 4 s).1, (ps 4 s).2 || decide (2000 < pv 4 s)) else ([], s)
def pS (k : Int) (s : St) : List (Int × Int) × St := if Rc.fS k then pSlots (pv 1 s) (ps 1 s) else ([], s)
/-- a record, kind by kind -/
def parseK (k : Int) (s : St) : Rec × St :=
  (⟨k, (pI k s).1, (pN k (pI k s).2).1, (pD k (pN k (pI k s).2).2).1, (pL k (pD k (pN k (pI k s).2).2).2).1, (pS k (pL k (pD k (pN k (pI k s).2).2).2).2).1⟩, (pS k (pL k (pD k (pN k (pI k s).2).2).2).2).2)
def parse (s : St) : Rec × St := parseK (pv 1 s) (ps 1 s)
theorem pList_length : ∀ (n : Nat) (s : St), (pList n s).1.length ≤ n
  | 0, s => Nat.le_refl _
  | n + 1, s => by
    unfold pList
    split
    · simp
    · have := pList_length n (ps 4 s); simp; omega
theorem pSlots_length : ∀ (n : Nat) (s : St), (pSlots n s).1.length ≤ n
  | 0, s => Nat.le_refl _
  | n + 1, s => by
    unfold pSlots
    split
    · simp
    · have := pSlots_length n (ps 4 (ps 4 s)); simp; omega
theorem pv_lt (n : Nat) (s : St) (h : n ≤ 4) : pv n s < 4294967296 := numL_rd s.1 n h
theorem pv1_lt (s : St) : pv 1 s < 256 := by
  have h1 := numL_lt (rdT s.1 1).data.toList
  have h2 : (rdT s.1 1).data.toList.length ≤ 1 := by
    have := (rdT_size s.1 1).1
    have e : (rdT s.1 1).data.toList.length = (rdT s.1 1).size := by simp
    omega
  have h3 : 256 ^ (rdT s.1 1).data.toList.length ≤ 256 ^ 1 := Nat.pow_le_pow_right (by decide) h2
  show numL _ < 256
  omega
/-- strings.Clone: the same bytes -/
theorem clone_any (s : ByteArray) (w : World) (h : s.size ≤ 281474976710656) : Calls Try.prog 50 #[.string s] w fun e w' => e = .returned (.string s) ∧ Kept w w' := by
  go_enter Try.func50, Try.ntmps50
  go_wp2_with fail
  refine (Try.stringslite_Clone s _ h).mono ?_
  rintro e w1 ⟨rfl, hk⟩
  have HK := Lib.hid (show Kept w w1 from hk)
  clear hk
  go_wp2
  go_ret
  exact ⟨rfl, HK.out⟩
theorem sext {w : World} {p : Nat} {a b : ByteArray} {c d : Bool} {t : TypeId} (h : BlockAt w p #[.string a, .bool c] t) (e : (a, c) = (b, d)) : BlockAt w p #[.string b, .bool d] t := by
  simp only [Prod.mk.injEq] at e
  rw [← e.1, ← e.2]
  exact h
/-- an append of one number, as a step of a region that draws its order -/
theorem step_append_int {P : Program} {w : World} {ops : Array Oper} {o : Oper} {a : Act} {K : Act → World → Prop} {Q : Exit → Act → World → Prop} {E : Prop} (hgd : o.guard = none) (s x : Operand) (t : TypeId)
    (ho : o.op = .call { callee := .builtin .append, args := #[s, x], argTypes := #[t, t] }) (e : TypeId) (i : TypeInfo) (ht : P.underlying t = some (.slice e)) (hi : P.info? e = some i) (hz : i.zero = some (.int .i64 0)) (hsize : i.size = 1) (hby : i.bytes = 8)
    (base : Nat) (v : Value) (n : Nat) (xs : List Int) (hs : a.eval s = v) (hown : w.ownsRow base e 1 v n (xs.map (Value.int .i64))) (b : Nat) (y : Int) (hx : a.eval x = .slice (some ⟨b, 0, none⟩) 1 1) (hb : BlockAt w b #[.int .i64 y] e) (hn : n ≤ 10000000000) (hbase : base ≤ w.heap.size)
    (h : ∀ v' w', w'.ownsRow base e 1 v' (n + 1) ((xs ++ [y]).map (Value.int .i64)) → w.grownBy w' v.ownBlock → K (a.put o.dst v') w') : if Region.wanted o (yielded ops a.tmps) = true then Oper.wp P o a w K Q else E := by
  have hw : Region.wanted o (yielded ops a.tmps) = true := by simp [Region.wanted, hgd]
  rw [if_pos hw]
  refine wp_append_own w s x t ho base e i (.int .i64 0) 1 8 ht hi hz hsize hby rfl (by decide) v n _ hs hown ⟨b, 0, none⟩ 1 1 [.int .i64 y] hx rfl (fun j u hj => ?_) (fun u hu => ?_) (by unfold maxLen; omega) (by omega) hbase (fun v' w' h1 h2 _ => h v' w' ?_ h2)
  · match j, hj with
    | 0, hj => simp at hj; subst hj; simpa [Addr.add] using hb.cell 0
  · simp at hu; subst hu; rfl
  · rw [List.map_append]; exact h1
theorem own_hi {w : World} {base : Nat} {e : TypeId} {s n : Nat} {v : Value} {xs : List Value} (h : w.ownsRow base e s v n xs) {k : Nat} (hk : k < base) : some k ≠ v.ownBlock := fun he => by
  have := (h.lt k he.symm).1
  omega
/-- slots, as cells -/
def sv (l : List (Int × Int)) : List Value := l.flatMap fun x => [Value.int .i64 x.1, Value.int .i64 x.2]
theorem sv_append (a b : List (Int × Int)) : sv (a ++ b) = sv a ++ sv b := by unfold sv; rw [List.flatMap_append]
theorem sv_length : ∀ l : List (Int × Int), (sv l).length = l.length * 2
  | [] => rfl
  | x :: l => by
    have h := sv_length l
    have e : sv (x :: l) = .int .i64 x.1 :: .int .i64 x.2 :: sv l := rfl
    rw [e]
    simp only [List.length_cons, h]
    omega
theorem sv_get : ∀ (l : List (Int × Int)) (i : Nat), i < l.length → (sv l)[i * 2]? = some (.int .i64 (l.getD i (0, 0)).1) ∧ (sv l)[i * 2 + 1]? = some (.int .i64 (l.getD i (0, 0)).2)
  | x :: l, 0, _ => ⟨rfl, rfl⟩
  | x :: l, i + 1, h => by
    have ih := sv_get l i (by simpa using h)
    have e : sv (x :: l) = .int .i64 x.1 :: .int .i64 x.2 :: sv l := rfl
    rw [e, show (i + 1) * 2 = i * 2 + 1 + 1 by omega]
    simpa using ih
theorem ints_of_own {w : World} {base l : Nat} {e : TypeId} {v : Value} {xs : List Int} (ho : w.ownsRow base e 1 v l (xs.map (Value.int .i64))) (hl : xs.length = l) (hw : ∀ x ∈ xs, 0 ≤ x ∧ x < 4294967296) :
    ∃ a cap, v = .slice a l cap ∧ IntsIn w .i64 a l xs := by
  have wf : ∀ x ∈ xs, (Lit.int .i64 x).wf = true := fun x hx => WalkArith.wf_i64 (by have := hw x hx; omega)
  rcases ho.2 with ⟨rfl, rfl⟩ | ⟨g, cap, cur, rfl, hb, hg, hn, hm, _⟩
  · obtain rfl : xs = [] := List.length_eq_zero_iff.1 hl
    exact ⟨none, 0, rfl, IntsIn.nil _ _ _⟩
  · refine ⟨_, cap, rfl, hl, by unfold maxLen at hm; omega, wf, g, 0, fun _ => rfl, fun i hi => ⟨(ho.lt g rfl).2, ?_⟩⟩
    rw [Nat.zero_add, ho.cellAt i (by omega)]
    have hi' : i < xs.length := by omega
    simp [List.getD, hi']
theorem slots_of_own {w : World} {base l : Nat} {e : TypeId} {v : Value} {xs : List (Int × Int)} (ho : w.ownsRow base e 2 v l (sv xs)) (hl : xs.length = l) (hw : ∀ x ∈ xs, (-2147483648 ≤ x.1 ∧ x.1 ≤ 2147483647) ∧ (-2147483648 ≤ x.2 ∧ x.2 ≤ 2147483647)) :
    ∃ a cap, v = .slice a l cap ∧ SlotsIn w a l xs := by
  have wf : ∀ x ∈ xs, (-9223372036854775808 ≤ x.1 ∧ x.1 ≤ 9223372036854775807) ∧ (-9223372036854775808 ≤ x.2 ∧ x.2 ≤ 9223372036854775807) := fun x hx => by have := hw x hx; omega
  rcases ho.2 with ⟨rfl, rfl⟩ | ⟨g, cap, cur, rfl, hb, hg, hn, hm, _⟩
  · obtain rfl : xs = [] := List.length_eq_zero_iff.1 hl
    exact ⟨none, 0, rfl, SlotsIn.nil _ _⟩
  · refine ⟨_, cap, rfl, hl, by unfold maxLen at hm; omega, wf, g, 0, fun _ => rfl, fun i hi => ⟨(ho.lt g rfl).2, ?_, ?_⟩⟩
    · rw [Nat.zero_add, ho.cellAt (i * 2) (by omega)]
      exact (sv_get xs i (by omega)).1
    · rw [Nat.zero_add, ho.cellAt (i * 2 + 1) (by omega)]
      exact (sv_get xs i (by omega)).2
theorem ints_at2 {w : World} {base l cap : Nat} {e : TypeId} {a : Option Addr} {xs : List Int} (ho : w.ownsRow base e 1 (.slice a l cap) l (xs.map (Value.int .i64))) (hl : xs.length = l) (hw : ∀ x ∈ xs, 0 ≤ x ∧ x < 4294967296) : IntsIn w .i64 a l xs := by
  obtain ⟨a', c', h, hI⟩ := ints_of_own ho hl hw
  simp only [Value.slice.injEq] at h
  obtain ⟨rfl, _, rfl⟩ := h
  exact hI
theorem slots_at1 {w : World} {base l cap : Nat} {e : TypeId} {a : Option Addr} {xs : List (Int × Int)} (ho : w.ownsRow base e 2 (.slice a l cap) l (sv xs)) (hl : xs.length = l) (hw : ∀ x ∈ xs, (-2147483648 ≤ x.1 ∧ x.1 ≤ 2147483647) ∧ (-2147483648 ≤ x.2 ∧ x.2 ≤ 2147483647)) : SlotsIn w a l xs := by
  obtain ⟨a', c', h, hI⟩ := slots_of_own ho hl hw
  simp only [Value.slice.injEq] at h
  obtain ⟨rfl, _, rfl⟩ := h
  exact hI
/-- an append of one slot, as a step of a region that draws its order -/
theorem step_append_slot {P : Program} {w : World} {ops : Array Oper} {o : Oper} {a : Act} {K : Act → World → Prop} {Q : Exit → Act → World → Prop} {E : Prop} (hgd : o.guard = none) (s x : Operand) (t : TypeId)
    (ho : o.op = .call { callee := .builtin .append, args := #[s, x], argTypes := #[t, t] }) (e : TypeId) (i : TypeInfo) (ht : P.underlying t = some (.slice e)) (hi : P.info? e = some i) (hz : i.zero = some (.agg #[.int .i64 0, .int .i64 0])) (hsize : i.size = 2) (hby : i.bytes = 16)
    (base : Nat) (v : Value) (n : Nat) (xs : List (Int × Int)) (hs : a.eval s = v) (hown : w.ownsRow base e 2 v n (sv xs)) (b : Nat) (d p : Int) (hx : a.eval x = .slice (some ⟨b, 0, none⟩) 1 1) (hb : BlockAt w b #[.int .i64 d, .int .i64 p] e) (hn : n ≤ 1000000000) (hbase : base ≤ w.heap.size)
    (h : ∀ v' w', w'.ownsRow base e 2 v' (n + 1) (sv (xs ++ [(d, p)])) → w.grownBy w' v.ownBlock → K (a.put o.dst v') w') : if Region.wanted o (yielded ops a.tmps) = true then Oper.wp P o a w K Q else E := by
  have hw : Region.wanted o (yielded ops a.tmps) = true := by simp [Region.wanted, hgd]
  rw [if_pos hw]
  refine wp_append_own w s x t ho base e i (.agg #[.int .i64 0, .int .i64 0]) 2 16 ht hi hz hsize hby rfl (by decide) v n _ hs hown ⟨b, 0, none⟩ 1 1 [.int .i64 d, .int .i64 p] hx rfl (fun j u hj => ?_) (fun u hu => ?_) (by unfold maxLen; omega) (by omega) hbase (fun v' w' h1 h2 _ => h v' w' ?_ h2)
  · match j, hj with
    | 0, hj => simp at hj; subst hj; simpa [Addr.add] using hb.cell 0
    | 1, hj => simp at hj; subst hj; simpa [Addr.add] using hb.cell 1
  · simp at hu
    rcases hu with rfl | rfl
    · rfl
    · rfl
  · rw [sv_append]; exact h1
theorem Try.infoSlot : (Try.prog.info? 57).map (fun i => (i.zero, i.size, i.bytes)) = some (some (.agg #[.int .i64 0, .int .i64 0]), 2, 16) := by kernel_rfl
theorem Try.infoRec : (Try.prog.info? 31).map (·.size) = some 6 := by kernel_rfl
theorem one6 (a b : Int) (c d : ByteArray) (e : Option Addr) (f g : Nat) (h : Option Addr) (i j : Nat) : (#[Value.int .i64 a, .int .i64 b, .string c, .string d, .slice e f g, .slice h i j] : Array Value).all (·.oneCell') = true := by simp [Value.oneCell']
/-- what parse tells -/
def ParseP (p : Nat) (w : World) (r : Rec × St) (e : Ending) (w' : World) : Prop := ∃ al cl az cz, e = .returned (.agg (recCells r.1 al r.1.list.length cl az r.1.slots.length cz)) ∧ (∀ (W : World) (row : Option Nat), (∀ g, row = some g → g < w.heap.size) → w'.grownBy W row → RecIn W r.1 al r.1.list.length az r.1.slots.length) ∧ BlockAt w' p #[.string r.2.1, .bool r.2.2] 63 ∧ w.grownBy w' (some p)
/-- what the loop over slots has read, what is left of it -/
structure SRel (xs : List (Int × Int)) (m j : Nat) (s : St) (goal : List (Int × Int) × St) : Prop where
  len : xs.length = m
  le : m + j ≤ 256
  size : s.1.size ≤ 140737488351232
  wf : ∀ x ∈ xs, (-2147483648 ≤ x.1 ∧ x.1 ≤ 2147483647) ∧ (-2147483648 ≤ x.2 ∧ x.2 ≤ 2147483647)
  eq : goal = (xs ++ (pSlots j s).1, (pSlots j s).2)
theorem SRel.start {vl : Nat} {s : St} (h : vl < 256) (hs : s.1.size ≤ 140737488351232) : SRel [] 0 vl s (pSlots vl s) := ⟨rfl, by omega, hs, fun x hx => (by cases hx), by simp⟩
theorem SRel.step {xs : List (Int × Int)} {m j : Nat} {a : ByteArray} {g : List (Int × Int) × St} (h : SRel xs m (j + 1) (a, false) g) : SRel (xs ++ [(sgn (pv 4 (a, false)), sgn (pv 4 (ps 4 (a, false))))]) (m + 1) j (ps 4 (ps 4 (a, false))) g := by
  refine ⟨by rw [List.length_append, h.len]; rfl, by have := h.le; omega, by have := ps_size 4 (a, false); have := ps_size 4 (ps 4 (a, false)); have := h.size; dsimp only at *; omega, fun x hx => ?_, ?_⟩
  · rcases List.mem_append.1 hx with hx | hx
    · exact h.wf x hx
    · obtain rfl : x = (sgn (pv 4 (a, false)), sgn (pv 4 (ps 4 (a, false)))) := by simpa using hx
      exact ⟨sgn_bounds _ (pv_lt 4 _ (by omega)), sgn_bounds _ (pv_lt 4 _ (by omega))⟩
  · rw [h.eq]
    simp [pSlots]
theorem SRel.done0 {xs : List (Int × Int)} {m : Nat} {s : St} {g : List (Int × Int) × St} (h : SRel xs m 0 s g) : g = (xs, s) := by rw [h.eq]; simp [pSlots]
theorem SRel.doneT {xs : List (Int × Int)} {m j : Nat} {a : ByteArray} {g : List (Int × Int) × St} (h : SRel xs m j (a, true) g) : g = (xs, (a, true)) := by
  rw [h.eq]
  cases j <;> simp [pSlots]
/-- rows of unlike elements lie in unlike blocks -/
theorem ne_types {w : World} {b1 b2 s1 s2 n1 n2 : Nat} {e1 e2 : TypeId} {v1 v2 : Value} {x1 x2 : List Value} (h1 : w.ownsRow b1 e1 s1 v1 n1 x1) (h2 : w.ownsRow b2 e2 s2 v2 n2 x2) (hne : e1 ≠ e2) : v1.ownBlock = none ∨ v1.ownBlock ≠ v2.ownBlock := by
  rcases h1.2 with ⟨rfl, _⟩ | ⟨g, cap, cur, rfl, hb, hg, _⟩
  · exact .inl rfl
  · right
    rcases h2.2 with ⟨rfl, _⟩ | ⟨g2, cap2, cur2, rfl, hb2, hg2, _⟩
    · simp [Value.ownBlock]
    · intro he
      have : g = g2 := by simpa [Value.ownBlock] using he
      subst this
      rw [hg] at hg2
      simp only [Option.some.injEq, Obj.cells.injEq] at hg2
      exact hne hg2.2.1
theorem own_gr2 {w w' : World} {base : Nat} {e : TypeId} {s n : Nat} {v : Value} {xs : List Value} {row : Option Nat} (h : w.ownsRow base e s v n xs) (g : w.grownBy w' row) (hne : v.ownBlock = none ∨ v.ownBlock ≠ row) : w'.ownsRow base e s v n xs := h.kept g hne
/-- what the loop over a list's numbers has read, what is left of it -/
structure LRel (xs : List Int) (m j : Nat) (s : St) (goal : List Int × St) : Prop where
  len : xs.length = m
  le : m + j ≤ 4294967296
  size : s.1.size ≤ 140737488351232
  wf : ∀ x ∈ xs, 0 ≤ x ∧ x < 4294967296
  eq : goal = (xs ++ (pList j s).1, (pList j s).2)
theorem LRel.start {vl : Nat} {s : St} (h : vl < 4294967296) (hs : s.1.size ≤ 140737488351232) : LRel [] 0 vl s (pList vl s) := ⟨rfl, by omega, hs, fun x hx => (by cases hx), by simp⟩
theorem LRel.step {xs : List Int} {m j : Nat} {a : ByteArray} {g : List Int × St} (h : LRel xs m (j + 1) (a, false) g) : LRel (xs ++ [((pv 4 (a, false) : Nat) : Int)]) (m + 1) j (ps 4 (a, false)) g := by
  refine ⟨by rw [List.length_append, h.len]; rfl, by have := h.le; omega, by have := ps_size 4 (a, false); have := h.size; dsimp only at *; omega, fun x hx => ?_, ?_⟩
  · rcases List.mem_append.1 hx with hx | hx
    · exact h.wf x hx
    · obtain rfl : x = ((pv 4 (a, false) : Nat) : Int) := by simpa using hx
      have := pv_lt 4 (a, false) (by omega)
      omega
  · rw [h.eq]
    simp [pList]
theorem LRel.done0 {xs : List Int} {m : Nat} {s : St} {g : List Int × St} (h : LRel xs m 0 s g) : g = (xs, s) := by rw [h.eq]; simp [pList]
theorem LRel.doneT {xs : List Int} {m j : Nat} {a : ByteArray} {g : List Int × St} (h : LRel xs m j (a, true) g) : g = (xs, (a, true)) := by
  rw [h.eq]
  cases j <;> simp [pList]
end Go.Proofs.Ytoanldoocmmhjaa
