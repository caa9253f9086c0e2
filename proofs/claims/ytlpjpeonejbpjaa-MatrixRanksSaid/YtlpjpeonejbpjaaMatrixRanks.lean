/- The walk of the law MatrixRanks: it answers true and changes nothing that was there (no conditions). -/
import Derived.Test.YtlpjpeonejbpjaaTwoSq
import Derived.Test.YtlpjpeonejbpjaaRefTm
import Derived.Test.YtlpjpeonejbpjaaMatRk
import Derived.Test.YtlpjpeonejbpjaaWake3
import Derived.Laws.OwnMore
import Derived.Deep.DeepCutAuto
namespace Go.Proofs.Ytlpjpeonejbpjaa
open Go.ChangeShapes Go.WideShapes Go.ChangeAt Go.RowKit Go.Joins

def LJ6 (k : Nat) (bx : Value) (wr : World) (a0 : Act) (L : Nat → Prop) (a : Act) (w : World) : Prop := ∃ v4 v5 v22 v23 v24 v25 v26 v27,
  a = ((((((((a0.put (some 5) v4).put (some 6) v5).put (some 24) v22).put (some 25) v23).put (some 26) v24).put (some 27) v25).put (some 28) v26).put (some 29) v27) ∧ LF k bx wr L w v4 v5 v22 v23 v24 v25 v26 v27
theorem within_n (x : Int) (n : Nat) (hn : 1 ≤ n ∧ n ≤ 16) (w : World) : Calls Try.prog 28 #[.int .i64 x, .int .i64 n] w fun e w' => ∃ m : Nat, m < n ∧ e = .returned (.int .i64 m) ∧ w = w' := by
  have hu : IntKind.u64.wrap (n : Int) = (n : Int) := by rw [IntKind.wrap_u64]; omega
  have hne : ((n : Int) == 0) = false := by rw [beq_eq_false_iff_ne]; omega
  have h0 : 0 ≤ IntKind.u64.wrap x := by rw [IntKind.wrap_u64]; omega
  go_enter Try.func28, Try.ntmps28
  go_wp2
  go_ret
  have h1 := Int.emod_nonneg (IntKind.u64.wrap x) (show (n : Int) ≠ 0 by omega)
  have h2 := Int.emod_lt_of_pos (IntKind.u64.wrap x) (show (0 : Int) < (n : Int) by omega)
  have h3 : wrap64 (IntKind.u64.wrap x % (n : Int)) = IntKind.u64.wrap x % (n : Int) := by
    unfold wrap64
    omega
  refine ⟨(IntKind.u64.wrap x % (n : Int)).toNat, by omega, ?_, rfl⟩
  rw [Int.toNat_of_nonneg h1]
  show Ending.returned (.int .i64 (wrap64 (IntKind.u64.wrap x % (n : Int)))) = _
  rw [h3]
theorem square_n (am an al : Option Addr) (lm cm ln cn ll cl n : Nat) (z : Int) (hn : 1 ≤ n ∧ n ≤ 8) (hz : 0 ≤ z ∧ z ≤ 9) (w : World) (hm : MsIn w am lm) :
    Calls Try.prog 53 #[.agg #[.slice am lm cm, .slice an ln cn, .slice al ll cl], .int .i64 n, .int .i64 z] w
      fun e w' => ∃ b off F, e = .returned (.agg #[.int .i64 n, .int .i64 n, .slice (some ⟨b, off, none⟩) (n * n) (n * n)]) ∧ w.heap.size ≤ b ∧ Bt F ∧ Mat w' b off n n F ∧ Kept w w' := by
  obtain ⟨y, rfl⟩ : ∃ y : Nat, z = y := ⟨z.toNat, by omega⟩
  exact square_any am an al lm cm ln cn ll cl n y hn (by omega) w hm
/-- the worlds of two stores in turn -/
structure RkW (w0 w1 w2 : World) (L : Nat → Prop) (w : World) : Prop where
  d : L 13 → L 1
  e : L 15 → L 7 ∧ L 13
  s0 : ¬ L 13 → w = w0
  s1 : L 13 → ¬ L 15 → w = w1
  s2 : L 15 → w = w2
theorem RkW.more {w0 w1 w2 w : World} {L L' : Nat → Prop} {i : Nat} (h : RkW w0 w1 w2 L w) (hi : 13 ≠ i ∧ 15 ≠ i) (hL : ∀ j, L' j ↔ (j = i ∨ L j)) : RkW w0 w1 w2 L' w := by
  have h7 : L' 13 ↔ L 13 := by rw [hL]; exact ⟨fun h => h.resolve_left hi.1, .inr⟩
  have h9 : L' 15 ↔ L 15 := by rw [hL]; exact ⟨fun h => h.resolve_left hi.2, .inr⟩
  exact ⟨fun x => (hL 1).2 (.inr (h.d (h7.1 x))), fun x => ⟨(hL 7).2 (.inr (h.e (h9.1 x)).1), h7.2 (h.e (h9.1 x)).2⟩, fun x => h.s0 (fun y => x (h7.2 y)), fun x y => h.s1 (h7.1 x) (fun z => y (h9.2 z)), fun x => h.s2 (h9.1 x)⟩
theorem RkW.before {w0 w1 w2 w : World} {L : Nat → Prop} (h : RkW w0 w1 w2 L w) (h9 : ¬ L 15) : w = w0 ∨ w = w1 := by
  by_cases h7 : L 13
  · exact .inr (h.s1 h7 h9)
  · exact .inl (h.s0 h7)
theorem RkW.first {w0 w1 w2 w : World} {L L' : Nat → Prop} (h : RkW w0 w1 w2 L w) (ho : ¬ L 13) (h1 : L 1) (hL : ∀ j, L' j ↔ (j = 13 ∨ L j)) : RkW w0 w1 w2 L' w1 := by
  have h7 : L' 13 := (hL 13).2 (.inl rfl)
  have h9 : ¬ L' 15 := fun x => ho (h.e (((hL 15).1 x).resolve_left (by decide))).2
  exact ⟨fun _ => (hL 1).2 (.inr h1), fun x => absurd x h9, fun x => absurd h7 x, fun _ _ => rfl, fun x => absurd x h9⟩
theorem RkW.second {w0 w1 w2 w : World} {L L' : Nat → Prop} (h : RkW w0 w1 w2 L w) (h13 : L 13) (h7 : L 7) (hL : ∀ j, L' j ↔ (j = 15 ∨ L j)) : RkW w0 w1 w2 L' w2 := by
  have h7' : L' 13 := (hL 13).2 (.inr h13)
  have h9 : L' 15 := (hL 15).2 (.inl rfl)
  exact ⟨fun _ => (hL 1).2 (.inr (h.d h13)), fun _ => ⟨(hL 7).2 (.inr h7), h7'⟩, fun x => absurd h7' x, fun _ x => absurd h9 x, fun _ => rfl⟩
/-- what the round's two matrices are -/
def RanksCut (wr : World) (n : Nat) (s t : Value) (wx : World) : Prop := ∃ (b4 b5 ba oa bb ob : Nat) (A B : Nat → Nat → Nat), s = .pointer (some ⟨b4, 0, none⟩) ∧ t = .pointer (some ⟨b5, 0, none⟩) ∧ b4 ≠ b5 ∧ wr.heap.size ≤ b4 ∧ wr.heap.size ≤ b5 ∧
  BlockAt wx b4 #[.int .i64 n, .int .i64 n, .slice (some ⟨ba, oa, none⟩) (n * n) (n * n)] 50 ∧ BlockAt wx b5 #[.int .i64 n, .int .i64 n, .slice (some ⟨bb, ob, none⟩) (n * n) (n * n)] 50 ∧
  Bt A ∧ Bt B ∧ Mat wx ba oa n n A ∧ Mat wx bb ob n n B ∧ Kept wr wx
/-- fewer of a matrix' numbers, read as other rows -/
theorem mat_less {w : World} {b o n r c : Nat} {F : Nat → Nat → Nat} (h : MatR w b o n n F) (hrc : r * c ≤ n * n) : MatR w b o r c (rect c (flat n F)) := fun i j hi hj => by
  have hk : i * c + j < n * n := Nat.lt_of_lt_of_le (idx_lt hi hj) hrc
  have hn : 0 < n := Nat.pos_of_ne_zero (fun e => by rw [e] at hk; simp at hk)
  have h1 : (i * c + j) / n < n := (Nat.div_lt_iff_lt_mul hn).2 hk
  have h2 := Nat.mod_lt (i * c + j) hn
  have h4 := h ((i * c + j) / n) ((i * c + j) % n) h1 h2
  rw [Nat.add_assoc, Nat.div_add_mod'] at h4
  rw [Nat.add_assoc]
  exact h4
set_option maxRecDepth 100000 in
set_option maxHeartbeats 4000000 in
theorem matrixRanks_walk {W : World} {v : Value} {am : Option Addr} {lm cm : Nat} {an : Option Addr} {ln cn : Nat} {zs : List Int} {al : Option Addr} {ll cl : Nat} {ss : List ByteArray} (h : AskM W v am lm cm an ln cn zs al ll cl ss) :
    Calls Try.prog 12 #[v] W fun e W' => e = .returned (.bool true) ∧ Below W.heap.size W W' := by
  obtain ⟨rfl, hM, hN, hS, hcaps⟩ := h
  have hle := hM.le
  have k1 : Kept W (W.alloc (.cells #[.slice am lm cm, .slice an ln cn, .slice al ll cl] 47)) := (Kept.refl W).alloc _
  have HB := Lib.hid (BlockAt.new W #[.slice am lm cm, .slice an ln cn, .slice al ll cl] 47)
  have HM := Lib.hid (hM.kept k1)
  have HS := Lib.hid (hS.kept k1)
  have HK1 := Lib.hid k1
  clear hM hN hS hcaps k1
  go_enter Try.func12, Try.ntmps12
  go_wp2_with fail
  generalize W.alloc (.cells #[.slice am lm cm, .slice an ln cn, .slice al ll cl] 47) = w0 at *
  refine (heavy3_any am an al lm cm ln cn ll cl ss w0 HM.out HS.out).mono ?_
  rintro e w1 ⟨⟨bv, rfl⟩, hk⟩
  have HB1 := Lib.hid (HB.out.kept hk)
  have HM1 := Lib.hid (HM.out.kept hk)
  have HK2 := Lib.hid (HK1.out.trans hk)
  clear hk HB HM HS HK1
  cases bv
  case true =>
    go_wp2
    go_ret
    exact ⟨rfl, HK2.out⟩
  go_wp2_with fail
  go_loopw [3] (fun i wr => ∃ k : Nat, 1 ≤ k ∧ k ≤ 9 ∧ i = .int .i64 k ∧ Kept w1 wr) (fun i _ => 9 - (intOf i).toNat)
  case atStart => exact ⟨1, by omega, by omega, rfl, Kept.refl _⟩
  case round =>
    obtain ⟨k, hk1, hk, rfl, hK⟩ := hrel
    have hBr := HB1.out.kept hK
    have HMr := Lib.hid (HM1.out.kept hK)
    have HK := Lib.hid (HK2.out.trans hK)
    have HKr := Lib.hid hK
    obtain ⟨a0, a1, a2⟩ := box3 hBr
    have HBr := Lib.hid hBr
    clear hK hBr
    by_cases h5 : k ≤ 8
    · have hd5 : decide ((k : Int) ≤ 8) = true := decide_eq_true (by omega)
      go_wp2_with fail
      refine (within_n _ k (by omega) _).mono ?_
      rintro e w' ⟨m, hm, rfl, rfl⟩
      have hf1 : (1 : Int) + (m : Int) = ((m + 1 : Nat) : Int) := by omega
      have hkn : 1 ≤ k ∧ k ≤ 8 := by omega
      have HKn := Lib.hid hkn
      clear hkn
      obtain ⟨f, hf⟩ : ∃ f, m + 1 = f := ⟨_, rfl⟩
      rw [hf] at hf1
      have hfk : 1 ≤ f ∧ f ≤ k := by omega
      clear hf
      go_wp2_with fail
      go_cut [5, 6] from 24 to 30 (fun s t wx => RanksCut wr k s t wx)
      case first =>
        clear a0 a1 a2
        refine wp_region_inv1 (LJ6 k (.agg #[.slice am lm cm, .slice an ln cn, .slice al ll cl]) wr) (by kernel_rfl) (by kernel_rfl) ?hh0 ?hhs ?hhe
        case hh0 =>
          intro L hL
          refine ⟨u5, u6, u24, u25, u26, u27, u28, u29, by simp only [Act.put, List.setIfInBounds_toArray, List.set_cons_zero, List.set_cons_succ], (Kept.refl wr).drew, fun h => absurd h (hL _ (by decide)), fun h => absurd h (hL _ (by decide)), fun h => absurd h (hL _ (by decide)), fun h => absurd h (hL _ (by decide)), fun h => absurd h (hL _ (by decide)), fun h => absurd h (hL _ (by decide)), fun h => absurd h (hL _ (by decide)), fun h => absurd h (hL _ (by decide)), fun h => absurd h (hL _ (by decide)), fun h => absurd h (hL _ (by decide)), fun h => absurd h (hL _ (by decide)), fun h => absurd h (hL _ (by decide))⟩
        case hhs =>
          rintro L L' a w i o K ⟨v4, v5, v22, v23, v24, v25, v26, v27, rfl, hF⟩ ho hopen hdep hL hK
          obtain ⟨x0, x1, x2⟩ := box3 (HBr.out.kept hF.kp)
          match i, ho with
          | 0, ho =>
            simp only [List.getElem?_toArray, List.getElem?_cons_zero, Option.some.injEq] at ho
            subst ho
            rw [if_pos (wanted_none rfl _)]
            simp only [Act.put, List.setIfInBounds_toArray, List.set_cons_zero, List.set_cons_succ]
            go_simp
            exact hK _ _ ⟨v4, v5, .agg #[.slice am lm cm, .slice an ln cn, .slice al ll cl], v23, v24, v25, v26, v27, by simp only [Act.put, List.setIfInBounds_toArray, List.set_cons_zero, List.set_cons_succ], hF.more 0 (by decide) hL (Kept.refl _) (.inl ⟨rfl, rfl⟩) (.inr ⟨by decide, rfl⟩) (.inr ⟨by decide, rfl⟩) (.inr ⟨by decide, rfl⟩) (.inr ⟨by decide, rfl⟩) (.inr ⟨by decide, rfl⟩) (.inr ⟨by decide, rfl⟩) (.inr ⟨by decide, rfl⟩)⟩
          | 1, ho =>
            simp only [List.getElem?_toArray, List.getElem?_cons_zero, List.getElem?_cons_succ, Option.some.injEq] at ho
            subst ho
            rw [if_pos (wanted_none rfl _)]
            simp only [Act.put, List.setIfInBounds_toArray, List.set_cons_zero, List.set_cons_succ]
            go_simp
            exact hK _ _ ⟨v4, v5, v22, .int .i64 k, v24, v25, v26, v27, by simp only [Act.put, List.setIfInBounds_toArray, List.set_cons_zero, List.set_cons_succ], hF.more 1 (by decide) hL (Kept.refl _) (.inr ⟨by decide, rfl⟩) (.inl ⟨rfl, rfl⟩) (.inr ⟨by decide, rfl⟩) (.inr ⟨by decide, rfl⟩) (.inr ⟨by decide, rfl⟩) (.inr ⟨by decide, rfl⟩) (.inr ⟨by decide, rfl⟩) (.inr ⟨by decide, rfl⟩)⟩
          | 2, ho =>
            simp only [List.getElem?_toArray, List.getElem?_cons_zero, List.getElem?_cons_succ, Option.some.injEq] at ho
            subst ho
            rw [if_pos (wanted_none rfl _)]
            simp only [Act.put, List.setIfInBounds_toArray, List.set_cons_zero, List.set_cons_succ]
            have e0 := hF.f0 (hdep 0 (by kernel_rfl))
            have e1 := hF.f1 (hdep 1 (by kernel_rfl))
            subst e0 e1
            go_simp
            refine (square_n am an al lm cm ln cn ll cl k _ HKn.out (by decide) _ (HMr.out.kept hF.kp)).mono ?_
            rintro e w' ⟨b, off, F, rfl, hb, hF2, hM, hk⟩
            exact hK _ _ ⟨v4, v5, _, _, mt k b off, v25, v26, v27, by simp only [Act.put, List.setIfInBounds_toArray, List.set_cons_zero, List.set_cons_succ], hF.more 2 (by decide) hL hk (.inr ⟨by decide, rfl⟩) (.inr ⟨by decide, rfl⟩) (.inl ⟨rfl, b, off, F, rfl, hF2, hM⟩) (.inr ⟨by decide, rfl⟩) (.inr ⟨by decide, rfl⟩) (.inr ⟨by decide, rfl⟩) (.inr ⟨by decide, rfl⟩) (.inr ⟨by decide, rfl⟩)⟩
          | 3, ho =>
            simp only [List.getElem?_toArray, List.getElem?_cons_zero, List.getElem?_cons_succ, Option.some.injEq] at ho
            subst ho
            rw [if_pos (wanted_none rfl _)]
            simp only [Act.put, List.setIfInBounds_toArray, List.set_cons_zero, List.set_cons_succ]
            go_simp
            exact hK _ _ ⟨v4, v5, v22, v23, v24, .agg #[.slice am lm cm, .slice an ln cn, .slice al ll cl], v26, v27, by simp only [Act.put, List.setIfInBounds_toArray, List.set_cons_zero, List.set_cons_succ], hF.more 3 (by decide) hL (Kept.refl _) (.inr ⟨by decide, rfl⟩) (.inr ⟨by decide, rfl⟩) (.inr ⟨by decide, rfl⟩) (.inl ⟨rfl, rfl⟩) (.inr ⟨by decide, rfl⟩) (.inr ⟨by decide, rfl⟩) (.inr ⟨by decide, rfl⟩) (.inr ⟨by decide, rfl⟩)⟩
          | 4, ho =>
            simp only [List.getElem?_toArray, List.getElem?_cons_zero, List.getElem?_cons_succ, Option.some.injEq] at ho
            subst ho
            rw [if_pos (wanted_none rfl _)]
            simp only [Act.put, List.setIfInBounds_toArray, List.set_cons_zero, List.set_cons_succ]
            go_simp
            exact hK _ _ ⟨v4, v5, v22, v23, v24, v25, .int .i64 k, v27, by simp only [Act.put, List.setIfInBounds_toArray, List.set_cons_zero, List.set_cons_succ], hF.more 4 (by decide) hL (Kept.refl _) (.inr ⟨by decide, rfl⟩) (.inr ⟨by decide, rfl⟩) (.inr ⟨by decide, rfl⟩) (.inr ⟨by decide, rfl⟩) (.inl ⟨rfl, rfl⟩) (.inr ⟨by decide, rfl⟩) (.inr ⟨by decide, rfl⟩) (.inr ⟨by decide, rfl⟩)⟩
          | 5, ho =>
            simp only [List.getElem?_toArray, List.getElem?_cons_zero, List.getElem?_cons_succ, Option.some.injEq] at ho
            subst ho
            rw [if_pos (wanted_none rfl _)]
            simp only [Act.put, List.setIfInBounds_toArray, List.set_cons_zero, List.set_cons_succ]
            have e0 := hF.f3 (hdep 3 (by kernel_rfl))
            have e1 := hF.f4 (hdep 4 (by kernel_rfl))
            subst e0 e1
            go_simp
            refine (square_n am an al lm cm ln cn ll cl k _ HKn.out (by decide) _ (HMr.out.kept hF.kp)).mono ?_
            rintro e w' ⟨b, off, F, rfl, hb, hF2, hM, hk⟩
            exact hK _ _ ⟨v4, v5, v22, v23, v24, _, _, mt k b off, by simp only [Act.put, List.setIfInBounds_toArray, List.set_cons_zero, List.set_cons_succ], hF.more 5 (by decide) hL hk (.inr ⟨by decide, rfl⟩) (.inr ⟨by decide, rfl⟩) (.inr ⟨by decide, rfl⟩) (.inr ⟨by decide, rfl⟩) (.inr ⟨by decide, rfl⟩) (.inl ⟨rfl, b, off, F, rfl, hF2, hM⟩) (.inr ⟨by decide, rfl⟩) (.inr ⟨by decide, rfl⟩)⟩
          | 6, ho =>
            simp only [List.getElem?_toArray, List.getElem?_cons_zero, List.getElem?_cons_succ, Option.some.injEq] at ho
            subst ho
            rw [if_pos (wanted_none rfl _)]
            simp only [Act.put, List.setIfInBounds_toArray, List.set_cons_zero, List.set_cons_succ]
            go_simp
            exact hK _ _ ⟨.pointer (some ⟨w.heap.size, 0, none⟩), v5, v22, v23, v24, v25, v26, v27, by simp only [Act.put, List.setIfInBounds_toArray, List.set_cons_zero, List.set_cons_succ], hF.more 6 (by decide) hL ((Kept.refl _).alloc _) (.inr ⟨by decide, rfl⟩) (.inr ⟨by decide, rfl⟩) (.inr ⟨by decide, rfl⟩) (.inr ⟨by decide, rfl⟩) (.inr ⟨by decide, rfl⟩) (.inr ⟨by decide, rfl⟩) (.inl ⟨rfl, ⟨_, rfl, hF.kp.size, fun _ => BlockAt.new _ _ _, fun h => absurd (hF.f86 (((hL 8).1 h).resolve_left (by decide))) hopen⟩, fun h e => by
              obtain ⟨q, e1, e2⟩ := (hF.f7 h).lt
              rw [e1] at e
              cases e
              omega⟩) (.inr ⟨by decide, rfl⟩)⟩
          | 7, ho =>
            simp only [List.getElem?_toArray, List.getElem?_cons_zero, List.getElem?_cons_succ, Option.some.injEq] at ho
            subst ho
            rw [if_pos (wanted_none rfl _)]
            simp only [Act.put, List.setIfInBounds_toArray, List.set_cons_zero, List.set_cons_succ]
            go_simp
            exact hK _ _ ⟨v4, .pointer (some ⟨w.heap.size, 0, none⟩), v22, v23, v24, v25, v26, v27, by simp only [Act.put, List.setIfInBounds_toArray, List.set_cons_zero, List.set_cons_succ], hF.more 7 (by decide) hL ((Kept.refl _).alloc _) (.inr ⟨by decide, rfl⟩) (.inr ⟨by decide, rfl⟩) (.inr ⟨by decide, rfl⟩) (.inr ⟨by decide, rfl⟩) (.inr ⟨by decide, rfl⟩) (.inr ⟨by decide, rfl⟩) (.inr ⟨by decide, rfl⟩) (.inl ⟨rfl, ⟨_, rfl, hF.kp.size, fun _ => BlockAt.new _ _ _, fun h => absurd (hF.f97 (((hL 9).1 h).resolve_left (by decide))) hopen⟩, fun h e => by
              obtain ⟨q, e1, e2⟩ := (hF.f6 h).lt
              rw [e1] at e
              cases e
              omega⟩)⟩
          | 8, ho =>
            simp only [List.getElem?_toArray, List.getElem?_cons_zero, List.getElem?_cons_succ, Option.some.injEq] at ho
            subst ho
            rw [if_pos (wanted_none rfl _)]
            simp only [Act.put, List.setIfInBounds_toArray, List.set_cons_zero, List.set_cons_succ]
            have hg67 := hF.f67 (hdep 6 (by kernel_rfl)) (hdep 7 (by kernel_rfl))
            have hd6 := hdep 6 (by kernel_rfl)
            have hd7 := hdep 7 (by kernel_rfl)
            obtain ⟨b, o, A, e0, hA, hM⟩ := hF.f2 (hdep 2 (by kernel_rfl))
            obtain ⟨b4, e1, hb4, hz, _⟩ := hF.f6 hd6
            have hz := hz hopen
            have hgr := grown3 w b4 (.int .i64 k) (.int .i64 k) (.slice (some ⟨b, o, none⟩) (k * k) (k * k))
            have hS3 := set3 hz (.int .i64 k) (.int .i64 k) (.slice (some ⟨b, o, none⟩) (k * k) (k * k))
            have hne : b ≠ b4 := by
              obtain ⟨cs, hb⟩ := hM.blk
              exact ne_types hb hz (by decide)
            have hM3 := hM.grown hgr (fun e => hne (Option.some.inj e))
            have old : ∀ {j}, L' j → j ≠ 8 → L j := fun {j} hj hne => ((hL j).1 hj).resolve_left hne
            have hF' : LF k (.agg #[.slice am lm cm, .slice an ln cn, .slice al ll cl]) wr L' (((w.setCell ⟨b4, 0, none⟩ (.int .i64 k)).setCell ⟨b4, 1, none⟩ (.int .i64 k)).setCell ⟨b4, 2, none⟩ (.slice (some ⟨b, o, none⟩) (k * k) (k * k))) v4 v5 v22 v23 v24 v25 v26 v27 :=
              ⟨Kept.grown hF.kp hgr (fun q e => by cases e; exact hb4), fun x => hF.f0 (old x (by decide)), fun x => hF.f1 (old x (by decide)), fun x => (hF.f2 (old x (by decide))).grown hz hgr, fun x => hF.f3 (old x (by decide)), fun x => hF.f4 (old x (by decide)), fun x => (hF.f5 (old x (by decide))).grown hz hgr,
                fun _ => ⟨b4, e1, hb4, fun h => absurd ((hL 8).2 (.inl rfl)) h, fun _ => ⟨b, o, A, hS3, hA, hM3⟩⟩, fun x => Vr.grown ⟨fun y => old y (by decide), fun y => (hL 9).2 (.inr y)⟩ (hF.f7 (old x (by decide))) (fun e => hg67 (e1.trans e.symm)) hz hgr, fun _ _ => hg67, fun _ => (hL 6).2 (.inr hd6), fun _ => (hL 7).2 (.inr hd7), fun _ => (hL 8).2 (.inl rfl)⟩
            have HF' := Lib.hid hF'
            obtain ⟨z0, z1, z2⟩ := box3 hz
            have zf0 := hz.free 0
            have zf1 := hz.free 1
            have zf2 := hz.free 2
            clear hF' hS3 hM3 hgr hM hA hne hF
            subst e0 e1
            go_simp
            exact hK _ _ ⟨_, _, _, _, _, _, _, _, by simp only [Act.put, List.setIfInBounds_toArray, List.set_cons_zero, List.set_cons_succ], HF'.out⟩
          | 9, ho =>
            simp only [List.getElem?_toArray, List.getElem?_cons_zero, List.getElem?_cons_succ, Option.some.injEq] at ho
            subst ho
            rw [if_pos (wanted_none rfl _)]
            simp only [Act.put, List.setIfInBounds_toArray, List.set_cons_zero, List.set_cons_succ]
            have hg67 := hF.f67 (hdep 6 (by kernel_rfl)) (hdep 7 (by kernel_rfl))
            have hd6 := hdep 6 (by kernel_rfl)
            have hd7 := hdep 7 (by kernel_rfl)
            have hd8 := hdep 8 (by kernel_rfl)
            obtain ⟨b, o, A, e0, hA, hM⟩ := hF.f5 (hdep 5 (by kernel_rfl))
            obtain ⟨b4, e1, hb4, hz, _⟩ := hF.f7 hd7
            have hz := hz hopen
            have hgr := grown3 w b4 (.int .i64 k) (.int .i64 k) (.slice (some ⟨b, o, none⟩) (k * k) (k * k))
            have hS3 := set3 hz (.int .i64 k) (.int .i64 k) (.slice (some ⟨b, o, none⟩) (k * k) (k * k))
            have hne : b ≠ b4 := by
              obtain ⟨cs, hb⟩ := hM.blk
              exact ne_types hb hz (by decide)
            have hM3 := hM.grown hgr (fun e => hne (Option.some.inj e))
            have old : ∀ {j}, L' j → j ≠ 9 → L j := fun {j} hj hne => ((hL j).1 hj).resolve_left hne
            have hF' : LF k (.agg #[.slice am lm cm, .slice an ln cn, .slice al ll cl]) wr L' (((w.setCell ⟨b4, 0, none⟩ (.int .i64 k)).setCell ⟨b4, 1, none⟩ (.int .i64 k)).setCell ⟨b4, 2, none⟩ (.slice (some ⟨b, o, none⟩) (k * k) (k * k))) v4 v5 v22 v23 v24 v25 v26 v27 :=
              ⟨Kept.grown hF.kp hgr (fun q e => by cases e; exact hb4), fun x => hF.f0 (old x (by decide)), fun x => hF.f1 (old x (by decide)), fun x => (hF.f2 (old x (by decide))).grown hz hgr, fun x => hF.f3 (old x (by decide)), fun x => hF.f4 (old x (by decide)), fun x => (hF.f5 (old x (by decide))).grown hz hgr,
                fun x => Vr.grown ⟨fun y => old y (by decide), fun y => (hL 8).2 (.inr y)⟩ (hF.f6 (old x (by decide))) (fun e => hg67 (e.trans e1.symm)) hz hgr, fun _ => ⟨b4, e1, hb4, fun h => absurd ((hL 9).2 (.inl rfl)) h, fun _ => ⟨b, o, A, hS3, hA, hM3⟩⟩, fun _ _ => hg67, fun _ => (hL 6).2 (.inr hd6), fun _ => (hL 7).2 (.inr hd7), fun _ => (hL 8).2 (.inr hd8)⟩
            have HF' := Lib.hid hF'
            obtain ⟨z0, z1, z2⟩ := box3 hz
            have zf0 := hz.free 0
            have zf1 := hz.free 1
            have zf2 := hz.free 2
            clear hF' hS3 hM3 hgr hM hA hne hF
            subst e0 e1
            go_simp
            exact hK _ _ ⟨_, _, _, _, _, _, _, _, by simp only [Act.put, List.setIfInBounds_toArray, List.set_cons_zero, List.set_cons_succ], HF'.out⟩
          | n + 10, ho => simp at ho
        case hhe =>
          rintro L a w ⟨v4, v5, v22, v23, v24, v25, v26, v27, rfl, hF⟩ hall
          have hne := hF.f67 (hall 6 (by decide)) (hall 7 (by decide))
          obtain ⟨b4, e4, s4, _, hd4⟩ := hF.f6 (hall 6 (by decide))
          obtain ⟨b5, e5, s5, _, hd5'⟩ := hF.f7 (hall 7 (by decide))
          obtain ⟨ba, oa, A, h1, h2, h3⟩ := hd4 (hall 8 (by decide))
          obtain ⟨bb, ob, B, h4, h5, h6⟩ := hd5' (hall 9 (by decide))
          have hfin : RanksCut wr k v4 v5 w := ⟨b4, b5, ba, oa, bb, ob, A, B, e4, e5, fun e => hne (by rw [e4, e5, e]), s4, s5, h1, h4, h2, h5, h3, h6, hF.kp⟩
          clear hd4 hd5' h1 h2 h3 h4 h5 h6 e4 e5 hall
          simp only [Act.put, List.setIfInBounds_toArray, List.set_cons_zero, List.set_cons_succ]
          go_wp2_with fail
          go_meet
          exact hfin
      case rest =>
        obtain ⟨b5, b6, ba, oa, bb, ob, A, B, rfl, rfl, hne, hs5, hs6, hb5, hb6, hA, hB, hmA, hmB, hkc⟩ := hcut
        have hne' : b6 ≠ b5 := fun e => hne e.symm
        obtain ⟨x0, x1, x2⟩ := box3 hb5
        obtain ⟨y0, y1, y2⟩ := box3 hb6
        have hx1 := hb5.free 1
        have g1 := grown_set wc b5 1 (.int .i64 f)
        have h51 : BlockAt (wc.setCell ⟨b5, 1, none⟩ (.int .i64 f)) b5 #[.int .i64 k, .int .i64 f, .slice (some ⟨ba, oa, none⟩) (k * k) (k * k)] 50 := hb5.set (i := 1) (.int .i64 f)
        have h61 := hb6.grown g1 (by simp; omega)
        obtain ⟨z0, z1, z2⟩ := box3 h61
        have hz0 := h61.free 0
        have g2 := grown_set (wc.setCell ⟨b5, 1, none⟩ (.int .i64 f)) b6 0 (.int .i64 f)
        have h52 := h51.grown g2 (by simp; omega)
        have h62 : BlockAt ((wc.setCell ⟨b5, 1, none⟩ (.int .i64 f)).setCell ⟨b6, 0, none⟩ (.int .i64 f)) b6 #[.int .i64 f, .int .i64 k, .slice (some ⟨bb, ob, none⟩) (k * k) (k * k)] 50 := h61.set (i := 0) (.int .i64 f)
        have hmA2 := (hmA.grownT g1 hb5 (by decide)).grownT g2 h61 (by decide)
        have hmB2 := (hmB.grownT g1 hb5 (by decide)).grownT g2 h61 (by decide)
        have hkc2 : Kept wr _ := (Kept.grown hkc g1 (fun q e => by cases e; omega)).grown g2 (fun q e => by cases e; omega)
        have H52 := Lib.hid h52
        have H62 := Lib.hid h62
        have HMA2 := Lib.hid hmA2.cell
        have HMAB := Lib.hid (And.intro hmA2 hmB2)
        have HMB2 := Lib.hid hmB2.cell
        have HKC2 := Lib.hid hkc2
        have HA := Lib.hid hA
        have HB := Lib.hid hB
        clear h51 h61 h52 h62 hmA hmB hmA2 hmB2 hkc hkc2 hb5 hb6 hA hB g1 g2 a0 a1 a2
        go_wp2_with fail
        generalize (wc.setCell _ _).setCell _ _ = w at *
        clear x0 x1 x2 y0 y1 y2 z0 z1 z2 hx1 hz0
        obtain ⟨a50, a51, a52⟩ := box3 (H52.out.kept (Kept.refl w).drew)
        have hkk : k * k ≤ 64 := Nat.le_trans (Nat.mul_le_mul HKn.out.2 HKn.out.2) (by decide)
        have hkf : k * f ≤ k * k := Nat.mul_le_mul_left k hfk.2
        have hfk2 : f * k ≤ k * k := Nat.mul_le_mul_right k hfk.2
        have HRA := Lib.hid (mat_less HMA2.out hkf)
        have HRB := Lib.hid (mat_less HMB2.out hfk2)
        have hm1 := mul_cast k f
        have hm2 := mul_cast f k
        have h5d := H52.out.kept (Kept.refl w).drew
        have h6d := H62.out.kept (Kept.refl w).drew
        have g1 := grown_set w.drew b5 2 (.slice (some ⟨ba, oa, none⟩) (k * f) (k * k))
        have h51 : BlockAt (w.drew.setCell ⟨b5, 2, none⟩ (.slice (some ⟨ba, oa, none⟩) (k * f) (k * k))) b5 #[.int .i64 k, .int .i64 f, .slice (some ⟨ba, oa, none⟩) (k * f) (k * k)] 50 := h5d.set (i := 2) _
        have h61 := h6d.grown g1 (by simp; omega)
        have g2 := grown_set (w.drew.setCell ⟨b5, 2, none⟩ (.slice (some ⟨ba, oa, none⟩) (k * f) (k * k))) b6 2 (.slice (some ⟨bb, ob, none⟩) (f * k) (k * k))
        have H53 := Lib.hid (h51.grown g2 (by simp; omega))
        have h62 : BlockAt ((w.drew.setCell ⟨b5, 2, none⟩ (.slice (some ⟨ba, oa, none⟩) (k * f) (k * k))).setCell ⟨b6, 2, none⟩ (.slice (some ⟨bb, ob, none⟩) (f * k) (k * k))) b6 #[.int .i64 f, .int .i64 k, .slice (some ⟨bb, ob, none⟩) (f * k) (k * k)] 50 := h61.set (i := 2) _
        have H63 := Lib.hid h62
        have hba : ba ≠ b5 ∧ ba ≠ b6 := by
          obtain ⟨cA, hcA⟩ := HMAB.out.1.blk
          exact ⟨ne_of_types hcA H52.out (by decide), ne_of_types hcA H62.out (by decide)⟩
        have hbb : bb ≠ b5 ∧ bb ≠ b6 := by
          obtain ⟨cB, hcB⟩ := HMAB.out.2.blk
          exact ⟨ne_of_types hcB H52.out (by decide), ne_of_types hcB H62.out (by decide)⟩
        have HRA2 := Lib.hid (((HRA.out.kept (Kept.refl w).drew).grown g1 (by simp; omega)).grown g2 (by simp; omega))
        have HRB2 := Lib.hid (((HRB.out.kept (Kept.refl w).drew).grown g1 (by simp; omega)).grown g2 (by simp; omega))
        have HKE := Lib.hid (Kept.grown (Kept.grown (HKC2.out.trans (Kept.refl w).drew) g1 (fun q e => by cases e; omega)) g2 (fun q e => by cases e; omega))
        have HA2 := Lib.hid (box3 h5d).2.2
        have HAF := Lib.hid (h5d.free 2)
        have HB2 := Lib.hid (box3 h6d).2.2
        have HB21 := Lib.hid (box3 h61).2.2
        have HBF := Lib.hid (h61.free 2)
        clear h5d h6d g1 h51 h61 g2 h62 a50 a51 a52 hba hbb HRA HRB HMA2 HMB2 HMAB H52 H62 HKC2
        generalize hN : k * k = N at *
        generalize hnf : k * f = nf at *
        generalize hfn : f * k = fn at *
        have HN' := Lib.hid hN
        have Hnf := Lib.hid hnf
        have Hfn := Lib.hid hfn
        clear hN hnf hfn
        have wn := wrap_i64_nat nf (by omega)
        have wf := wrap_i64_nat fn (by omega)
        let val : Nat → Value := fun j => ([.pointer (some ⟨b5, 2, none⟩), .slice (some ⟨ba, oa, none⟩) N N, .int .i64 k, .int .i64 f, .int .i64 nf, .slice (some ⟨ba, oa, none⟩) nf N, .pointer (some ⟨b6, 2, none⟩), .slice (some ⟨bb, ob, none⟩) N N, .int .i64 f, .int .i64 k, .int .i64 fn, .slice (some ⟨bb, ob, none⟩) fn N, .pointer (some ⟨b5, 2, none⟩), undef, .pointer (some ⟨b6, 2, none⟩)] : List Value).getD j undef
        refine wp_region_inv1 (fun a0 L a w' => ∃ V : Nat → Value, a = ((((((((((((((a0.put (some 34) (V 0)).put (some 35) (V 1)).put (some 36) (V 2)).put (some 37) (V 3)).put (some 38) (V 4)).put (some 39) (V 5)).put (some 40) (V 6)).put (some 41) (V 7)).put (some 42) (V 8)).put (some 43) (V 9)).put (some 44) (V 10)).put (some 45) (V 11)).put (some 46) (V 12)).put (some 47) (V 14)) ∧ (∀ j, L j → j ≠ 13 → j ≠ 15 → V j = val j) ∧ RkW w.drew (w.drew.setCell ⟨b5, 2, none⟩ (.slice (some ⟨ba, oa, none⟩) nf N)) ((w.drew.setCell ⟨b5, 2, none⟩ (.slice (some ⟨ba, oa, none⟩) nf N)).setCell ⟨b6, 2, none⟩ (.slice (some ⟨bb, ob, none⟩) fn N)) L w') (by kernel_rfl) (by kernel_rfl) ?eh0 ?ehs ?ehe
        case eh0 =>
          intro L hL
          exact ⟨fun j => ([u34, u35, u36, u37, u38, u39, u40, u41, u42, u43, u44, u45, u46, undef, u47] : List Value).getD j undef, by simp only [Act.put, List.setIfInBounds_toArray, List.set_cons_zero, List.set_cons_succ]; rfl, fun j hj _ _ => by
            by_cases h : j < 16
            · exact absurd hj (hL j h)
            · simp [val, show ¬ j < 15 by omega], ⟨fun h => absurd h (hL 13 (by decide)), fun h => absurd h (hL 15 (by decide)), fun _ => rfl, fun h => absurd h (hL 13 (by decide)), fun h => absurd h (hL 15 (by decide))⟩⟩
        case ehs =>
          rintro L L' a w' i op K ⟨V, rfl, hV, hW⟩ ho hopen hdep hL hK
          have vok : ∀ j, L' j → j ≠ 13 → j ≠ 15 → vset V i (val i) j = val j := fun j hj h1 h2 => by
            by_cases e : j = i
            · subst e; exact vset_same _ _ _
            · rw [vset_other _ _ e]; exact hV j (((hL j).1 hj).resolve_left e) h1 h2
          have VOK := Lib.hid vok
          clear vok
          match i, ho with
          | 0, ho =>
            simp only [List.getElem?_toArray, List.getElem?_cons_zero, Option.some.injEq] at ho
            have HWW := Lib.hid hW
            clear hV hW
            subst ho
            rw [if_pos (wanted_free rfl _)]
            simp only [Act.put, List.setIfInBounds_toArray, List.set_cons_zero, List.set_cons_succ]
            go_simp
            exact hK _ _ ⟨vset V 0 (val 0), by simp only [Act.put, List.setIfInBounds_toArray, List.set_cons_zero, List.set_cons_succ, vset, Nat.reduceEqDiff, if_true, if_false]; rfl, VOK.out, HWW.out.more (by decide) hL⟩
          | 1, ho =>
            simp only [List.getElem?_toArray, List.getElem?_cons_zero, List.getElem?_cons_succ, Option.some.injEq] at ho
            have e0 : V 0 = .pointer (some ⟨b5, 2, none⟩) := hV 0 (hdep 0 (by rw [← ho]; kernel_rfl)) (by decide) (by decide)
            have hw := hW.s0 (fun h => hopen (hW.d h))
            have hc : w'.cell? ⟨b5, 2, none⟩ = some (.slice (some ⟨ba, oa, none⟩) N N) := by rw [hw]; exact HA2.out
            clear hw
            have HWW := Lib.hid hW
            clear hV hW
            subst ho
            rw [if_pos (wanted_free rfl _)]
            simp only [Act.put, List.setIfInBounds_toArray, List.set_cons_zero, List.set_cons_succ, e0]
            go_simp
            exact hK _ _ ⟨vset V 1 (val 1), by simp only [Act.put, List.setIfInBounds_toArray, List.set_cons_zero, List.set_cons_succ, vset, Nat.reduceEqDiff, if_true, if_false, e0]; rfl, VOK.out, HWW.out.more (by decide) hL⟩
          | 2, ho =>
            simp only [List.getElem?_toArray, List.getElem?_cons_zero, List.getElem?_cons_succ, Option.some.injEq] at ho
            have HWW := Lib.hid hW
            clear hV hW
            subst ho
            rw [if_pos (wanted_free rfl _)]
            simp only [Act.put, List.setIfInBounds_toArray, List.set_cons_zero, List.set_cons_succ]
            go_simp
            exact hK _ _ ⟨vset V 2 (val 2), by simp only [Act.put, List.setIfInBounds_toArray, List.set_cons_zero, List.set_cons_succ, vset, Nat.reduceEqDiff, if_true, if_false]; rfl, VOK.out, HWW.out.more (by decide) hL⟩
          | 3, ho =>
            simp only [List.getElem?_toArray, List.getElem?_cons_zero, List.getElem?_cons_succ, Option.some.injEq] at ho
            have HWW := Lib.hid hW
            clear hV hW
            subst ho
            rw [if_pos (wanted_free rfl _)]
            simp only [Act.put, List.setIfInBounds_toArray, List.set_cons_zero, List.set_cons_succ]
            go_simp
            exact hK _ _ ⟨vset V 3 (val 3), by simp only [Act.put, List.setIfInBounds_toArray, List.set_cons_zero, List.set_cons_succ, vset, Nat.reduceEqDiff, if_true, if_false]; rfl, VOK.out, HWW.out.more (by decide) hL⟩
          | 4, ho =>
            simp only [List.getElem?_toArray, List.getElem?_cons_zero, List.getElem?_cons_succ, Option.some.injEq] at ho
            have e2 : V 2 = .int .i64 k := hV 2 (hdep 2 (by rw [← ho]; kernel_rfl)) (by decide) (by decide)
            have e3 : V 3 = .int .i64 f := hV 3 (hdep 3 (by rw [← ho]; kernel_rfl)) (by decide) (by decide)
            have HWW := Lib.hid hW
            clear hV hW
            subst ho
            rw [if_pos (wanted_free rfl _)]
            simp only [Act.put, List.setIfInBounds_toArray, List.set_cons_zero, List.set_cons_succ, e2, e3]
            go_simp
            exact hK _ _ ⟨vset V 4 (val 4), by simp only [Act.put, List.setIfInBounds_toArray, List.set_cons_zero, List.set_cons_succ, vset, Nat.reduceEqDiff, if_true, if_false, e2, e3]; rfl, VOK.out, HWW.out.more (by decide) hL⟩
          | 5, ho =>
            simp only [List.getElem?_toArray, List.getElem?_cons_zero, List.getElem?_cons_succ, Option.some.injEq] at ho
            have e1 : V 1 = .slice (some ⟨ba, oa, none⟩) N N := hV 1 (hdep 1 (by rw [← ho]; kernel_rfl)) (by decide) (by decide)
            have e4 : V 4 = .int .i64 nf := hV 4 (hdep 4 (by rw [← ho]; kernel_rfl)) (by decide) (by decide)
            have HWW := Lib.hid hW
            clear hV hW
            subst ho
            rw [if_pos (wanted_free rfl _)]
            simp only [Act.put, List.setIfInBounds_toArray, List.set_cons_zero, List.set_cons_succ, e1, e4]
            go_simp
            exact hK _ _ ⟨vset V 5 (val 5), by simp only [Act.put, List.setIfInBounds_toArray, List.set_cons_zero, List.set_cons_succ, vset, Nat.reduceEqDiff, if_true, if_false, e1, e4]; rfl, VOK.out, HWW.out.more (by decide) hL⟩
          | 6, ho =>
            simp only [List.getElem?_toArray, List.getElem?_cons_zero, List.getElem?_cons_succ, Option.some.injEq] at ho
            have HWW := Lib.hid hW
            clear hV hW
            subst ho
            rw [if_pos (wanted_free rfl _)]
            simp only [Act.put, List.setIfInBounds_toArray, List.set_cons_zero, List.set_cons_succ]
            go_simp
            exact hK _ _ ⟨vset V 6 (val 6), by simp only [Act.put, List.setIfInBounds_toArray, List.set_cons_zero, List.set_cons_succ, vset, Nat.reduceEqDiff, if_true, if_false]; rfl, VOK.out, HWW.out.more (by decide) hL⟩
          | 7, ho =>
            simp only [List.getElem?_toArray, List.getElem?_cons_zero, List.getElem?_cons_succ, Option.some.injEq] at ho
            have e6 : V 6 = .pointer (some ⟨b6, 2, none⟩) := hV 6 (hdep 6 (by rw [← ho]; kernel_rfl)) (by decide) (by decide)
            have hc : w'.cell? ⟨b6, 2, none⟩ = some (.slice (some ⟨bb, ob, none⟩) N N) := by
              rcases hW.before (fun h => hopen (hW.e h).1) with hw | hw
              · rw [hw]; exact HB2.out
              · rw [hw]; exact HB21.out
            have HWW := Lib.hid hW
            clear hV hW
            subst ho
            rw [if_pos (wanted_free rfl _)]
            simp only [Act.put, List.setIfInBounds_toArray, List.set_cons_zero, List.set_cons_succ, e6]
            go_simp
            exact hK _ _ ⟨vset V 7 (val 7), by simp only [Act.put, List.setIfInBounds_toArray, List.set_cons_zero, List.set_cons_succ, vset, Nat.reduceEqDiff, if_true, if_false, e6]; rfl, VOK.out, HWW.out.more (by decide) hL⟩
          | 8, ho =>
            simp only [List.getElem?_toArray, List.getElem?_cons_zero, List.getElem?_cons_succ, Option.some.injEq] at ho
            have HWW := Lib.hid hW
            clear hV hW
            subst ho
            rw [if_pos (wanted_free rfl _)]
            simp only [Act.put, List.setIfInBounds_toArray, List.set_cons_zero, List.set_cons_succ]
            go_simp
            exact hK _ _ ⟨vset V 8 (val 8), by simp only [Act.put, List.setIfInBounds_toArray, List.set_cons_zero, List.set_cons_succ, vset, Nat.reduceEqDiff, if_true, if_false]; rfl, VOK.out, HWW.out.more (by decide) hL⟩
          | 9, ho =>
            simp only [List.getElem?_toArray, List.getElem?_cons_zero, List.getElem?_cons_succ, Option.some.injEq] at ho
            have HWW := Lib.hid hW
            clear hV hW
            subst ho
            rw [if_pos (wanted_free rfl _)]
            simp only [Act.put, List.setIfInBounds_toArray, List.set_cons_zero, List.set_cons_succ]
            go_simp
            exact hK _ _ ⟨vset V 9 (val 9), by simp only [Act.put, List.setIfInBounds_toArray, List.set_cons_zero, List.set_cons_succ, vset, Nat.reduceEqDiff, if_true, if_false]; rfl, VOK.out, HWW.out.more (by decide) hL⟩
          | 10, ho =>
            simp only [List.getElem?_toArray, List.getElem?_cons_zero, List.getElem?_cons_succ, Option.some.injEq] at ho
            have e8 : V 8 = .int .i64 f := hV 8 (hdep 8 (by rw [← ho]; kernel_rfl)) (by decide) (by decide)
            have e9 : V 9 = .int .i64 k := hV 9 (hdep 9 (by rw [← ho]; kernel_rfl)) (by decide) (by decide)
            have HWW := Lib.hid hW
            clear hV hW
            subst ho
            rw [if_pos (wanted_free rfl _)]
            simp only [Act.put, List.setIfInBounds_toArray, List.set_cons_zero, List.set_cons_succ, e8, e9]
            go_simp
            exact hK _ _ ⟨vset V 10 (val 10), by simp only [Act.put, List.setIfInBounds_toArray, List.set_cons_zero, List.set_cons_succ, vset, Nat.reduceEqDiff, if_true, if_false, e8, e9]; rfl, VOK.out, HWW.out.more (by decide) hL⟩
          | 11, ho =>
            simp only [List.getElem?_toArray, List.getElem?_cons_zero, List.getElem?_cons_succ, Option.some.injEq] at ho
            have e7 : V 7 = .slice (some ⟨bb, ob, none⟩) N N := hV 7 (hdep 7 (by rw [← ho]; kernel_rfl)) (by decide) (by decide)
            have e10 : V 10 = .int .i64 fn := hV 10 (hdep 10 (by rw [← ho]; kernel_rfl)) (by decide) (by decide)
            have HWW := Lib.hid hW
            clear hV hW
            subst ho
            rw [if_pos (wanted_free rfl _)]
            simp only [Act.put, List.setIfInBounds_toArray, List.set_cons_zero, List.set_cons_succ, e7, e10]
            go_simp
            exact hK _ _ ⟨vset V 11 (val 11), by simp only [Act.put, List.setIfInBounds_toArray, List.set_cons_zero, List.set_cons_succ, vset, Nat.reduceEqDiff, if_true, if_false, e7, e10]; rfl, VOK.out, HWW.out.more (by decide) hL⟩
          | 12, ho =>
            simp only [List.getElem?_toArray, List.getElem?_cons_zero, List.getElem?_cons_succ, Option.some.injEq] at ho
            have HWW := Lib.hid hW
            clear hV hW
            subst ho
            rw [if_pos (wanted_free rfl _)]
            simp only [Act.put, List.setIfInBounds_toArray, List.set_cons_zero, List.set_cons_succ]
            go_simp
            exact hK _ _ ⟨vset V 12 (val 12), by simp only [Act.put, List.setIfInBounds_toArray, List.set_cons_zero, List.set_cons_succ, vset, Nat.reduceEqDiff, if_true, if_false]; rfl, VOK.out, HWW.out.more (by decide) hL⟩
          | 13, ho =>
            simp only [List.getElem?_toArray, List.getElem?_cons_zero, List.getElem?_cons_succ, Option.some.injEq] at ho
            have e12 : V 12 = .pointer (some ⟨b5, 2, none⟩) := hV 12 (hdep 12 (by rw [← ho]; kernel_rfl)) (by decide) (by decide)
            have e5 : V 5 = .slice (some ⟨ba, oa, none⟩) nf N := hV 5 (hdep 5 (by rw [← ho]; kernel_rfl)) (by decide) (by decide)
            have hw := hW.s0 hopen
            have l1 := hdep 1 (by rw [← ho]; kernel_rfl)
            have hc : w'.cell? ⟨b5, 2, none⟩ = some (.slice (some ⟨ba, oa, none⟩) N N) := by rw [hw]; exact HA2.out
            have hf : w'.frozen? ⟨b5, 2, none⟩ = false := by rw [hw]; exact HAF.out
            have HW := Lib.hid hw
            have HN := Lib.hid (hW.first hopen l1 hL)
            clear hw
            have HWW := Lib.hid hW
            clear hV hW
            subst ho
            rw [if_pos (wanted_free rfl _)]
            simp only [Act.put, List.setIfInBounds_toArray, List.set_cons_zero, List.set_cons_succ, e12, e5]
            go_simp
            exact hK _ _ ⟨vset V 13 (val 13), by simp only [Act.put, List.setIfInBounds_toArray, List.set_cons_zero, List.set_cons_succ, vset, Nat.reduceEqDiff, if_false, e12, e5], VOK.out, by rw [HW.out]; exact HN.out⟩
          | 14, ho =>
            simp only [List.getElem?_toArray, List.getElem?_cons_zero, List.getElem?_cons_succ, Option.some.injEq] at ho
            have HWW := Lib.hid hW
            clear hV hW
            subst ho
            rw [if_pos (wanted_free rfl _)]
            simp only [Act.put, List.setIfInBounds_toArray, List.set_cons_zero, List.set_cons_succ]
            go_simp
            exact hK _ _ ⟨vset V 14 (val 14), by simp only [Act.put, List.setIfInBounds_toArray, List.set_cons_zero, List.set_cons_succ, vset, Nat.reduceEqDiff, if_true, if_false]; rfl, VOK.out, HWW.out.more (by decide) hL⟩
          | 15, ho =>
            simp only [List.getElem?_toArray, List.getElem?_cons_zero, List.getElem?_cons_succ, Option.some.injEq] at ho
            have e14 : V 14 = .pointer (some ⟨b6, 2, none⟩) := hV 14 (hdep 14 (by rw [← ho]; kernel_rfl)) (by decide) (by decide)
            have e11 : V 11 = .slice (some ⟨bb, ob, none⟩) fn N := hV 11 (hdep 11 (by rw [← ho]; kernel_rfl)) (by decide) (by decide)
            have l13 := hdep 13 (by rw [← ho]; kernel_rfl)
            have l7 := hdep 7 (by rw [← ho]; kernel_rfl)
            have hw := hW.s1 l13 hopen
            have hc : w'.cell? ⟨b6, 2, none⟩ = some (.slice (some ⟨bb, ob, none⟩) N N) := by rw [hw]; exact HB21.out
            have hf : w'.frozen? ⟨b6, 2, none⟩ = false := by rw [hw]; exact HBF.out
            have HW := Lib.hid hw
            have HN := Lib.hid (hW.second l13 l7 hL)
            clear hw
            have HWW := Lib.hid hW
            clear hV hW
            subst ho
            rw [if_pos (wanted_free rfl _)]
            simp only [Act.put, List.setIfInBounds_toArray, List.set_cons_zero, List.set_cons_succ, e14, e11]
            go_simp
            exact hK _ _ ⟨vset V 15 (val 15), by simp only [Act.put, List.setIfInBounds_toArray, List.set_cons_zero, List.set_cons_succ, vset, Nat.reduceEqDiff, if_false, e14, e11], VOK.out, by rw [HW.out]; exact HN.out⟩
          | n + 16, ho => simp at ho
        case ehe =>
          rintro L a w' ⟨V, rfl, _, hW⟩ hall
          have hw := hW.s2 (hall 15 (by decide))
          subst hw
          have hN := HN'.out
          have hnf := Hnf.out
          have hfn := Hfn.out
          clear hW hm1 hm2 wn wf HA2 HAF HB2 HB21 HBF
          subst hN hnf hfn
          obtain ⟨a50, a51, a52⟩ := box3 H53.out
          obtain ⟨a60, a61, a62⟩ := box3 H63.out
          simp only [Act.put, List.setIfInBounds_toArray, List.set_cons_zero, List.set_cons_succ]
          generalize (w.drew.setCell _ _).setCell _ _ = w2 at *
          have hk16 : 1 ≤ k ∧ k ≤ 16 := by have := HKn.out; omega
          have hA' : Bt (rect f (flat k A)) := fun i j => HA.out _ _
          have hB' : Bt (rect k (flat k B)) := fun i j => HB.out _ _
          go_wp2_with fail
          refine (rtimes k f k ba oa (k * k) bb ob (k * k) (rect f (flat k A)) (rect k (flat k B)) hk16 (by omega) hk16 hA' hB' w2 HRA2.out HRB2.out).mono ?_
          rintro e w3 ⟨g, rfl, _, hmg, hk3⟩
          have hbM := mulM_bt hA' f (rect k (flat k B))
          have hfew := rank_product (r := k) (c := k) hA' hB' hbM (fun _ _ _ _ => rfl)
          generalize mulM f (rect f (flat k A)) (rect k (flat k B)) = M at *
          have hrr := rank_red k k M
          have hle := redTo_le k M k
          have HG := Lib.hid (hmg.cell.kept ((Kept.refl w3).alloc (.cells #[.int .i64 k, .int .i64 k, .slice (some ⟨g, 0, none⟩) (k * k) (k * k)] 50)))
          have HX := Lib.hid (BlockAt.new w3 #[.int .i64 k, .int .i64 k, .slice (some ⟨g, 0, none⟩) (k * k) (k * k)] 50)
          have HK4 := Lib.hid (HKE.out.trans (Kept.trans hk3 ((Kept.refl w3).alloc (.cells #[.int .i64 k, .int .i64 k, .slice (some ⟨g, 0, none⟩) (k * k) (k * k)] 50))))
          clear hmg hk3 HRA2 HRB2 HKE H53 H63 a50 a51 a52 a60 a61 a62 hA' hB'
          go_wp2_with fail
          generalize w3.alloc (.cells #[.int .i64 k, .int .i64 k, .slice (some ⟨g, 0, none⟩) (k * k) (k * k)] 50) = w4 at *
          generalize w3.heap.size = b7 at *
          refine (rank_any k k g 0 (k * k) M hk16 hk16 hbM w4 HG.out).mono ?_
          rintro e w5 ⟨rfl, hk5⟩
          have HG5 := Lib.hid (HG.out.kept hk5)
          have HX5 := Lib.hid (HX.out.kept hk5)
          have HK5 := Lib.hid (HK4.out.trans hk5)
          obtain ⟨x0, x1, x2⟩ := box3 HX5.out
          have hrrk := fun w hm => rrank k k g 0 (k * k) M hk16 hk16 hbM w hm
          rw [hrr] at hrrk
          have HRR := Lib.hid hrrk
          clear hk5 HG HX HK4 hrrk hrr
          generalize (redTo k M k).1 = R at *
          have hdR : decide ((f : Int) < (R : Int)) = false := decide_eq_false (by omega)
          go_wp2_with (go_at_call 41; refine (num3_any _ _).mono ?_; rintro e w' ⟨rfl, rfl⟩)
          refine (HRR.out _ HG5.out).mono ?_
          rintro e w6 ⟨rfl, hk6⟩
          have HK6 := Lib.hid ((HKr.out.trans HK5.out).trans hk6)
          clear hk6 HK5 HG5 HX5 HRR x0 x1 x2
          have hne0 : ((R : Int) != (R : Int)) = false := by simp
          go_wp2_with fail
          go_roundw
          case rel => exact ⟨k + 1, by omega, by omega, by go_num, HK6.out⟩
          case measure => simp [intOf]; omega
    · have hd5 : decide ((k : Int) ≤ 8) = false := decide_eq_false (by omega)
      go_wp2_with fail
      refine (wakes3_any _).mono ?_
      rintro e w2 ⟨rfl, hk2⟩
      go_wp2
      go_ret
      exact ⟨rfl, HK.out.trans hk2⟩
end Go.Proofs.Ytlpjpeonejbpjaa
