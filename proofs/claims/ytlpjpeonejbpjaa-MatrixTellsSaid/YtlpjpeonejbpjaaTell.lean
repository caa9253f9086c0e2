/- What the law MatrixTells asks of a matrix that is any: its rank, its inverse, its rows, told as functions of its bytes (no conditions but lengths within capacities). -/
import Derived.Test.YtlpjpeonejbpjaaAsk3
import Derived.SizedLaws
import Derived.Test.YtlpjpeonejbpjaaMatLaw
import Derived.Test.YtlpjpeonejbpjaaRefPick
import Derived.Test.YtlpjpeonejbpjaaSquare3
import Derived.Laws.BitsLemmas
namespace Go.Proofs.Ytlpjpeonejbpjaa
open Go.ChangeShapes Go.WideShapes Go.ChangeAt Go.RowKit Go.Joins Go.Deep

/-- the numbers of each matrix take no more than the reach -/
def MsZ (W : World) (a : Option Addr) (len : Nat) : Prop := ∀ b off, a = some ⟨b, off, none⟩ → ∀ i, i < len → ∀ x l cap, W.cell? ⟨b, off + i * 3 + 2, none⟩ = some (.slice x l cap) → l ≤ 140737488351232
theorem MsZ.kept {W W' : World} {a : Option Addr} {len : Nat} (hm : MsIn W a len) (h : MsZ W a len) (k : Kept W W') : MsZ W' a len := fun b off ha i hi x l cap hc => by
  obtain ⟨b', off', ha', hcs⟩ := hm.cells
  have e := ha' (by omega)
  rw [ha] at e
  cases e
  obtain ⟨r, c, x2, l2, cap2, zs, h1, h2, h3, h4, _⟩ := hcs i hi
  have h5 := k.cell h1 h4
  rw [hc] at h5
  cases h5
  exact h b off ha i hi _ _ _ h4
theorem weightsAll_in {H : Type} {P : Program} {e : TypeId} : ∀ {l : List (DataW H)} {d : DataW H}, d ∈ l → ∀ n ∈ d.weights P e, n ∈ DataW.weightsAll P e l
  | d' :: r, d, hd, n, hn => by
    simp only [DataW.weightsAll, List.mem_append]
    rcases List.mem_cons.1 hd with rfl | h
    · exact Or.inl hn
    · exact Or.inr (weightsAll_in h n hn)
theorem Try.bytesU8 : Try.prog.bytesOf 5 = 1 := by kernel_rfl
/-- a slice's own weight -/
theorem slice_sized {H : Type} {enc : TypeId × Value → H} {P : Program} {W : World} {fuel : Nat} {t e : TypeId} {a : Option Addr} {l cap : Nat} {y : DataW H × List MemPlace} (ht : P.underlying t = some (.slice e))
    (h : DataW.trod enc P W 0 (fun _ => true) true fuel t [.slice a l cap] = some y) (hz : ∀ n ∈ y.1.weights P t, n ≤ reachBytes) : l * P.bytesOf e ≤ reachBytes := by
  rcases open_slice ht h with ⟨hcs, _⟩ | ⟨a', len, cap', m, n, D, Pl, hcs, _, hl, _, _, hx, _⟩
  · simp only [List.cons.injEq, and_true, Value.slice.injEq] at hcs
    obtain ⟨_, rfl, _⟩ := hcs
    simp
  · simp only [List.cons.injEq, and_true, Value.slice.injEq] at hcs
    obtain ⟨_, rfl, _⟩ := hcs
    have h1 := hz (((List.range l).map D).length + ((List.range (m - l)).map fun j => D (l + j)).length |> (· * P.bytesOf e)) (by rw [hx]; simp [DataW.weights, ht])
    have h2 : l ≤ ((List.range l).map D).length + ((List.range (m - l)).map fun j => D (l + j)).length := by simp
    exact Nat.le_trans (Nat.mul_le_mul_right _ h2) h1
set_option maxRecDepth 100000 in
theorem ms_sized {H : Type} {enc : TypeId × Value → H} {W : World} {fuel : Nat} {a : Option Addr} {len cap : Nat} {y : DataW H × List MemPlace}
    (h0 : DataW.trod enc Try.prog W 0 (fun _ => true) true fuel 45 [.slice a len cap] = some y) (hz : ∀ n ∈ y.1.weights Try.prog 45, n ≤ reachBytes) : MsZ W a len := by
  rcases open_slice_structs Try.underlying45 Try.underlying50 (by kernel_rfl) Try.cellsMat h0 with ⟨hcs, _⟩ | ⟨a', len', cap', m, D, Pl, hcs, _, hl, hm, hmm, hx, hf⟩
  · simp only [List.cons.injEq, and_true, Value.slice.injEq] at hcs
    obtain ⟨_, rfl, _⟩ := hcs
    intro b off _ i hi
    omega
  · simp only [List.cons.injEq, and_true, Value.slice.injEq] at hcs
    obtain ⟨rfl, rfl, rfl⟩ := hcs
    simp only [if_true] at hmm
    subst hmm
    intro b off ha i hi x l cp hc
    cases ha
    obtain ⟨ys, n, hD, _, _, hfj⟩ := hf i (by omega)
    obtain ⟨v2, y2, hc2, hy2, ht2⟩ := hfj 2 _ rfl
    rw [add_plain] at hc2
    simp only [List.size_toArray, List.length_cons, List.length_nil, Nat.reduceAdd, ← Nat.add_assoc] at hc2
    rw [hc] at hc2
    cases hc2
    have hmem : ∀ q ∈ y2.1.weights Try.prog 44, q ≤ reachBytes := fun q hq => by
      refine hz q ?_
      rw [hx]
      simp only [DataW.weights, Try.underlying45, List.mem_cons, List.mem_append]
      refine Or.inr (Or.inl (weightsAll_in (d := D i) (List.mem_map.2 ⟨i, List.mem_range.2 hi, rfl⟩) q ?_))
      rw [hD]
      simp only [DataW.weights, Try.underlying50]
      refine DataW.weights_mem_each (j := 2) (t := 44) (d := y2.1) (by rfl) ?_ q hq
      rw [List.getElem?_map, hy2]
      rfl
    have := slice_sized Try.underlying44 ht2 hmem
    rw [Try.bytesU8] at this
    unfold reachBytes at this
    omega
set_option maxRecDepth 100000 in
theorem askM_sized {H : Type} {enc : TypeId × Value → H} {W : World} {base : Nat} {v : Value} {d : DataW H} {p : List MemPlace} (hv : Value.okWide Try.prog W .any base 47 v)
    (h : DataW.Trod enc Try.prog W 0 (fun _ => true) true 47 v d p) (hz : ∀ n ∈ d.weights Try.prog 47, n ≤ reachBytes) : ∃ am lm cm an ln cn zs al ll cl ss, AskM W v am lm cm an ln cn zs al ll cl ss ∧ MsZ W am lm := by
  obtain ⟨v0, v1, v2, y0, y1, y2, m, rfl, rfl, rfl, hy0, hy1, hy2⟩ := open_agg3 Try.underlying47 (by kernel_rfl) Try.cellsAsk3 hv h
  obtain ⟨am, lm, cm, rfl, h1, h2⟩ := ms_in hy0
  obtain ⟨an, ln, cn, zs, rfl, h3, h4⟩ := ints_in Try.underlying41 Try.underlying3 Try.cellsInt hy1
  obtain ⟨al, ll, cl, ss, rfl, h5, h6⟩ := strs_in_cap Try.underlying22 Try.underlying9 Try.cellsStr hy2
  refine ⟨am, lm, cm, an, ln, cn, zs, al, ll, cl, ss, ⟨rfl, h2, h4, h6, h1, h3, h5⟩, ms_sized hy0 fun n hn => hz n ?_⟩
  simp only [DataW.weights, Try.underlying47]
  exact DataW.weights_mem_each (j := 0) (t := 45) (d := y0.1) (by rfl) (by rfl) n hn

open Go.RowKit

/-- a slice of one's own, that reads as these bytes -/
structure Own1 (w0 w : World) (a : Option Addr) (l : Nat) (H : Nat → Nat) : Prop where
  by_ : ByIn w a l H
  nil : l = 0 → a = none
  blk : 0 < l → ∃ g o F, a = some ⟨g, o, none⟩ ∧ w0.heap.size ≤ g ∧ Mat w g o 1 l F ∧ Bt F
theorem Own1.none (w0 w : World) (H : Nat → Nat) : Own1 w0 w none 0 H := ⟨ByIn.empty _ _ _, fun _ => rfl, fun h => absurd h (Nat.lt_irrefl 0)⟩
theorem mat_row {w : World} {b o r c : Nat} {F : Nat → Nat → Nat} (h : Mat w b o r c F) : Mat w b o 1 (r * c) (fun _ k => flat c F k) := by
  refine ⟨h.blk, fun i k hi hk => ?_⟩
  have hc : 0 < c := Nat.pos_of_ne_zero (fun e => by rw [e] at hk; simp at hk)
  have h1 : k / c < r := (Nat.div_lt_iff_lt_mul hc).2 hk
  have h2 := Nat.mod_lt k hc
  have h4 := h.cell (k / c) (k % c) h1 h2
  rw [Nat.add_assoc, Nat.div_add_mod'] at h4
  have hi0 : i = 0 := by omega
  subst hi0
  simpa [flat] using h4
theorem Own1.mat {w0 w : World} {b o r c : Nat} {F : Nat → Nat → Nat} (h : Mat w b o r c F) (hF : Bt F) (hb : w0.heap.size ≤ b) (hp : 0 < r * c) : Own1 w0 w (some ⟨b, o, .none⟩) (r * c) (flat c F) :=
  ⟨h.cell.flat, fun e => by omega, fun _ => ⟨b, o, _, rfl, hb, mat_row h, fun i j => hF _ _⟩⟩
theorem Own1.kept {w0 w w' : World} {a : Option Addr} {l : Nat} {H : Nat → Nat} (h : Own1 w0 w a l H) (k : Kept w w') : Own1 w0 w' a l H :=
  ⟨h.by_.kept k, h.nil, fun hl => by obtain ⟨g, o, F, h1, h2, h3, h4⟩ := h.blk hl; exact ⟨g, o, F, h1, h2, h3.kept k, h4⟩⟩
/-- a matrix that may be, off its bytes -/
theorem mat_by {w : World} {r c : Int} {x : Option Addr} {l : Nat} {H : Nat → Nat} (he : matE r c l = 0) (h : ByIn w x l H) :
    ∃ (r' c' b off : Nat), r = r' ∧ c = c' ∧ l = r' * c' ∧ x = some ⟨b, off, none⟩ ∧ (1 ≤ r' ∧ r' ≤ 16) ∧ (1 ≤ c' ∧ c' ≤ 16) ∧ MatR w b off r' c' (rect c' H) := by
  have hB : matB r c l = true := by
    cases hb : matB r c l
    · rw [matE_bad hb] at he
      cases he
    · rfl
  unfold matB at hB
  simp only [Bool.and_eq_true, decide_eq_true_eq] at hB
  obtain ⟨⟨h1, h2⟩, h3⟩ := hB
  have h1 := sideB_bounds h1
  have h2 := sideB_bounds h2
  obtain ⟨r', rfl⟩ : ∃ r' : Nat, r = r' := ⟨r.toNat, by omega⟩
  obtain ⟨c', rfl⟩ : ∃ c' : Nat, c = c' := ⟨c.toNat, by omega⟩
  have hl : l = r' * c' := by exact_mod_cast h3
  subst hl
  obtain ⟨b, off, hx, hm⟩ := h.rect (Nat.mul_pos (by omega) (by omega))
  exact ⟨r', c', b, off, rfl, rfl, rfl, hx, by omega, by omega, hm⟩
theorem rect_bt {H : Nat → Nat} (h : ∀ k, H k < 256) (c : Nat) : Bt (rect c H) := fun _ _ => h _
/-- the rank that is told -/
def tRank (r c : Int) (l : Nat) (H : Nat → Nat) : Nat := if matE r c l = 0 then rankF r.toNat c.toNat (rect c.toNat H) else 0
/-- is there an inverse? -/
def invOk (r c : Int) (l : Nat) (H : Nat → Nat) : Prop := matE r c l = 0 ∧ r = c ∧ rankF r.toNat r.toNat (rect r.toNat H) = r.toNat
instance (r c : Int) (l : Nat) (H : Nat → Nat) : Decidable (invOk r c l H) := by unfold invOk; infer_instance
def tInvE (r c : Int) (l : Nat) (H : Nat → Nat) : Int := if invOk r c l H then 0 else if matE r c l = 0 ∧ r = c then 3 else 1
def tInvN (r c : Int) (l : Nat) (H : Nat → Nat) : Nat := if invOk r c l H then r.toNat else 0
def tInvH (r : Int) (H : Nat → Nat) : Nat → Nat := flat r.toNat (invF r.toNat (rect r.toNat H))
/-- may these rows be picked? -/
def pkOk (r c : Int) (l ll : Nat) (zs : List Int) : Prop := matE r c l = 0 ∧ sideB (ll : Int) = true ∧ pickOk r.toNat zs
def pickB (r : Nat) (zs : List Int) : Bool := zs.all fun z => decide (0 ≤ z) && decide (z < r)
theorem pickB_iff (r : Nat) (zs : List Int) : pickB r zs = true ↔ pickOk r zs := by
  unfold pickB pickOk
  rw [List.all_eq_true]
  constructor
  · intro h i hi
    have h1 := h (zs.getD i 0) (by rw [List.getD_eq_getElem?_getD, List.getElem?_eq_getElem hi]; exact List.getElem_mem _)
    simpa using h1
  · intro h z hz
    obtain ⟨i, hi, rfl⟩ := List.getElem_of_mem hz
    have h1 := h i hi
    rw [List.getD_eq_getElem?_getD, List.getElem?_eq_getElem hi] at h1
    simpa using h1
instance (r : Nat) (zs : List Int) : Decidable (pickOk r zs) := decidable_of_iff _ (pickB_iff r zs)
instance (r c : Int) (l ll : Nat) (zs : List Int) : Decidable (pkOk r c l ll zs) := by unfold pkOk; infer_instance
def tPkE (r c : Int) (l ll : Nat) (zs : List Int) : Int := if pkOk r c l ll zs then 0 else 1
def tPkR (r c : Int) (l ll : Nat) (zs : List Int) : Nat := if pkOk r c l ll zs then ll else 0
def tPkC (r c : Int) (l ll : Nat) (zs : List Int) : Nat := if pkOk r c l ll zs then c.toNat else 0
def tPkH (c : Int) (H : Nat → Nat) (zs : List Int) : Nat → Nat := flat c.toNat (pickF (rect c.toNat H) zs)
theorem rank_all (r c : Int) (a : Option Addr) (l cap : Nat) (H : Nat → Nat) (hH : ∀ k, H k < 256) (w : World) (h : ByIn w a l H) :
    Calls Try.prog 34 #[.agg #[.int .i64 r, .int .i64 c, .slice a l cap]] w fun e w' => e = .returned (.tuple #[.int .i64 (tRank r c l H : Nat), .int .i64 (matE r c l)]) ∧ Kept w w' := by
  by_cases hE : matE r c l = 0
  · obtain ⟨r', c', b, off, rfl, rfl, rfl, rfl, hr, hc, hm⟩ := mat_by hE h
    refine (rank_any r' c' b off cap (rect c' H) hr hc (rect_bt hH c') w hm).mono ?_
    rintro e w' ⟨rfl, hk⟩
    refine ⟨?_, hk⟩
    unfold tRank
    rw [if_pos hE, hE, Int.toNat_natCast, Int.toNat_natCast, rank_red]
  · refine (rank_bad r c a l cap hE w).mono ?_
    rintro e w' ⟨rfl, hk⟩
    refine ⟨?_, hk⟩
    unfold tRank
    rw [if_neg hE, (matE_01 r c l).resolve_left hE]
    rfl
theorem invert_all (r c : Int) (a : Option Addr) (l cap : Nat) (H : Nat → Nat) (hH : ∀ k, H k < 256) (hl : l ≤ cap) (w : World) (h : ByIn w a l H) :
    Calls Try.prog 35 #[.agg #[.int .i64 r, .int .i64 c, .slice a l cap]] w fun e w' => ∃ ax, e = .returned (.tuple #[.agg #[.int .i64 (tInvN r c l H : Nat), .int .i64 (tInvN r c l H : Nat), .slice ax (tInvN r c l H * tInvN r c l H) (tInvN r c l H * tInvN r c l H)], .int .i64 (tInvE r c l H)]) ∧
      Own1 w w' ax (tInvN r c l H * tInvN r c l H) (tInvH r H) ∧ Kept w w' := by
  by_cases hs : matE r c l = 0 ∧ r = c
  · obtain ⟨hE, rfl⟩ := hs
    obtain ⟨r', c', b, off, rfl, hrc, rfl, rfl, hr, hc, hm⟩ := mat_by hE h
    have hrc : r' = c' := by omega
    subst hrc
    refine (invert_any r' b off cap (rect r' H) hr hl (rect_bt hH r') w hm).mono ?_
    rintro e w' ⟨h1, h2, hk⟩
    by_cases hR : rankF r' r' (rect r' H) = r'
    · obtain ⟨bi, oi, rfl, hbi, hmi⟩ := h1 hR
      have hok : invOk (r' : Int) (r' : Int) (r' * r') H := ⟨hE, rfl, by simpa using hR⟩
      refine ⟨some ⟨bi, oi, none⟩, ?_, ?_, hk⟩
      · unfold tInvN tInvE
        rw [if_pos hok, if_pos hok, Int.toNat_natCast]
      · unfold tInvN tInvH
        rw [if_pos hok, Int.toNat_natCast]
        exact Own1.mat hmi (invF_bt (rect_bt hH r') r') hbi (Nat.mul_pos (by omega) (by omega))
    · have hno : ¬ invOk (r' : Int) (r' : Int) (r' * r') H := fun h => hR (by simpa using h.2.2)
      refine ⟨none, ?_, ?_, hk⟩
      · rw [h2 hR]
        unfold tInvN tInvE
        rw [if_neg hno, if_neg hno, if_pos ⟨hE, rfl⟩]
        rfl
      · unfold tInvN
        rw [if_neg hno]
        exact Own1.none _ _ _
  · have hno : ¬ invOk r c l H := fun h => hs ⟨h.1, h.2.1⟩
    refine (invert_bad r c a l cap (by
      by_cases hE : matE r c l = 0
      · exact .inr (fun e => hs ⟨hE, e⟩)
      · exact .inl hE) w).mono ?_
    rintro e w' ⟨rfl, hk⟩
    refine ⟨none, ?_, ?_, hk⟩
    · unfold tInvN tInvE
      rw [if_neg hno, if_neg hno, if_neg hs]
      rfl
    · unfold tInvN
      rw [if_neg hno]
      exact Own1.none _ _ _
theorem pickF_bt {F : Nat → Nat → Nat} (h : Bt F) (zs : List Int) : Bt (pickF F zs) := fun _ _ => h _ _
theorem pick_all (r c : Int) (a al : Option Addr) (l cap ll lcap : Nat) (zs : List Int) (H : Nat → Nat) (hH : ∀ k, H k < 256) (hl : l ≤ cap) (w : World) (h : ByIn w a l H) (hz : IntsIn w .i64 al ll zs) :
    Calls Try.prog 36 #[.agg #[.int .i64 r, .int .i64 c, .slice a l cap], .slice al ll lcap] w fun e w' => ∃ ay, e = .returned (.tuple #[.agg #[.int .i64 (tPkR r c l ll zs : Nat), .int .i64 (tPkC r c l ll zs : Nat), .slice ay (tPkR r c l ll zs * tPkC r c l ll zs) (tPkR r c l ll zs * tPkC r c l ll zs)], .int .i64 (tPkE r c l ll zs)]) ∧
      Own1 w w' ay (tPkR r c l ll zs * tPkC r c l ll zs) (tPkH c H zs) ∧ Kept w w' := by
  by_cases hs : matE r c l = 0 ∧ sideB (ll : Int) = true
  · obtain ⟨hE, hll⟩ := hs
    obtain ⟨r', c', b, off, rfl, rfl, rfl, rfl, hr, hc, hm⟩ := mat_by hE h
    have hb := sideB_bounds hll
    have hlen := hz.len_eq
    refine (pick_any r' c' b off cap al ll lcap zs (rect c' H) hr hc (by omega) hl w hm hz).mono ?_
    rintro e w' ⟨h1, h2, hk⟩
    by_cases hP : pickOk r' zs
    · obtain ⟨bi, oi, rfl, hbi, hmi⟩ := h1 hP
      have hok : pkOk (r' : Int) (c' : Int) (r' * c') ll zs := ⟨hE, hll, by simpa using hP⟩
      refine ⟨some ⟨bi, oi, none⟩, ?_, ?_, hk⟩
      · unfold tPkR tPkC tPkE
        rw [if_pos hok, if_pos hok, if_pos hok, Int.toNat_natCast, hlen]
      · unfold tPkR tPkC tPkH
        rw [if_pos hok, if_pos hok, Int.toNat_natCast, ← hlen]
        exact Own1.mat hmi (pickF_bt (rect_bt hH c') zs) hbi (Nat.mul_pos (by omega) (by omega))
    · have hno : ¬ pkOk (r' : Int) (c' : Int) (r' * c') ll zs := fun h => hP (by simpa using h.2.2)
      refine ⟨none, ?_, ?_, hk⟩
      · rw [h2 hP]
        unfold tPkR tPkC tPkE
        rw [if_neg hno, if_neg hno, if_neg hno]
        rfl
      · unfold tPkR tPkC
        rw [if_neg hno, if_neg hno]
        exact Own1.none _ _ _
  · have hno : ¬ pkOk r c l ll zs := fun h => hs ⟨h.1, h.2.1⟩
    refine (pick_bad r c a al l cap ll lcap (by
      by_cases hE : matE r c l = 0
      · exact .inr (by simpa using fun e => hs ⟨hE, e⟩)
      · exact .inl hE) w).mono ?_
    rintro e w' ⟨rfl, hk⟩
    refine ⟨none, ?_, ?_, hk⟩
    · unfold tPkR tPkC tPkE
      rw [if_neg hno, if_neg hno, if_neg hno]
      rfl
    · unfold tPkR tPkC
      rw [if_neg hno, if_neg hno]
      exact Own1.none _ _ _
set_option maxRecDepth 100000 in
theorem one_bad (n : Int) (h : sideB n = false) (w : World) : Calls Try.prog 45 #[.int .i64 n] w fun e w' => e = .returned (.tuple #[.agg #[.int .i64 0, .int .i64 0, .slice none 0 0], .int .i64 1]) ∧ Kept w w' := by
  have HS := Lib.hid h
  have HR := Lib.hid (BlockAt.new w #[.int .i64 0, .int .i64 0, .slice none 0 0] 50)
  clear h
  go_enter Try.func45, Try.ntmps45
  go_wp2_with fail
  refine (side_any _ _).mono ?_
  rintro e w' ⟨rfl, rfl⟩
  rw [HS.out]
  go_wp2_with (refine wpList_store_block rfl 50 (.tmp 2) (.tmp 10) rfl _ #[.int .i64 0, .int .i64 0, .slice none 0 0] #[.int .i64 0, .int .i64 0, .slice none 0 0] 50 rfl rfl HR.out Try.infoMat rfl (one3 _ _ _ _ _) ?_)
  refine bodyPost_ret (v := .tuple #[.agg #[.int .i64 0, .int .i64 0, .slice none 0 0], .int .i64 1]) ?_ rfl ⟨rfl, ((Kept.refl w).alloc _).setRow (by omega) _⟩
  exact results_row_tmp rfl _ _ w.heap.size 50 #[.int .i64 0, .int .i64 0, .slice none 0 0] _ rfl (HR.out.setRow _) Try.underlying50 rfl Try.infoMat _ rfl
set_option maxRecDepth 100000 in
set_option maxHeartbeats 1000000 in
theorem spoil_any (g o l cap : Nat) (F : Nat → Nat → Nat) (hF : Bt F) (hl : l ≤ 100000) (w : World) (h : Mat w g o 1 l F) :
    Calls Try.prog 44 #[.slice (some ⟨g, o, none⟩) l cap] w fun e w' => (∃ u, e = .returned u) ∧ w.grownBy w' (some g) := by
  have HM := Lib.hid h
  clear h
  go_enter Try.func44, Try.ntmps44
  go_wp2_with fail
  go_loopw [2] (fun i wr => ∃ (k : Nat) (G : Nat → Nat → Nat), k ≤ l ∧ i = .int .i64 k ∧ Bt G ∧ Mat wr g o 1 l G ∧ w.grownBy wr (some g)) (fun i _ => l - (intOf i).toNat)
  case atStart => exact ⟨0, F, by omega, rfl, hF, HM.out, grown_refl _ _⟩
  case round =>
    obtain ⟨k, G, hk, rfl, hG, hm, hg⟩ := hrel
    by_cases hlt : k < l
    · have hcell := hm.cell 0 k (by omega) hlt
      have hfree := hm.free (o + k)
      have hset := fun v => hm.set (i := 0) (j := k) (by omega) hlt v
      simp only [Nat.zero_mul, Nat.add_zero] at hcell hset
      obtain ⟨V, hV, hVe⟩ := wrap_u8 (((G 0 k : Nat) : Int) + 1)
      have HSET := Lib.hid hset
      have HG := Lib.hid hg
      have HGB := Lib.hid hG
      rw [IntKind.wrap_u8] at hVe
      generalize G 0 k = x at hcell hVe
      clear hm hg hset hG
      go_wp2_with fail
      go_roundw
      case rel => exact ⟨k + 1, _, by omega, by go_num, upd_bt HGB.out hV, HSET.out V, grown_trans HG.out (grown_set _ _ _ _)⟩
      case measure => simp [intOf]; omega
    · have HG := Lib.hid hg
      clear hm hg
      go_wp2
      go_end0
      exact ⟨⟨_, rfl⟩, HG.out⟩
theorem spoil_nil (cap : Nat) (a : Option Addr) (w : World) : Calls Try.prog 44 #[.slice a 0 cap] w fun e w' => (∃ u, e = .returned u) ∧ Kept w w' := by
  go_enter Try.func44, Try.ntmps44
  go_wp2_with fail
  go_loopw [2] (fun i wr => i = .int .i64 0 ∧ w = wr) (fun _ _ => 0)
  case atStart => exact ⟨rfl, rfl⟩
  case round =>
    obtain ⟨rfl, rfl⟩ := hrel
    go_wp2
    go_end0
    exact ⟨⟨_, rfl⟩, Kept.refl _⟩
end Go.Proofs.Ytlpjpeonejbpjaa
