/- cut.Lanes and the reference's, by what they answer. -/
import Derived.Test.YtlncjheifkbomaaCutR
import Derived.Test.YtlncjheifkbomaaBts
import Derived.Maps.OwnIn
namespace Go.Proofs.Ytlncjheifkbomaa
open Go.RowKit Go.Shelf
attribute [local go_sem] Oper.semAt_some
theorem kept_gr1 {base : Nat} {W a b : World} {row : Option Nat} (h : Below base W a) (g : a.grownBy b row) (hr : ∀ k, row = some k → base ≤ k) (hb : base ≤ W.heap.size := by omega) : Below base W b :=
  ⟨g.os.trans h.os, g.tape.trans h.tape, g.output.trans h.output, Nat.le_trans h.size g.size, fun k hk => (g.block k (by have := h.size; omega) (fun e => by have := hr k e.symm; omega)).trans (h.block k hk)⟩
theorem own_own1 {A B : World} {base : Nat} {e : TypeId} {s n : Nat} {v : Value} {xs : List Value} {row : Option Nat} (h : A.ownsRow base e s v n xs) (g : A.grownBy B row) (hr : row ≠ v.ownBlock) : B.ownsRow base e s v n xs :=
  h.kept g (by
    cases hv : v.ownBlock with
    | none => exact .inl rfl
    | some k => exact .inr fun e => hr (by rw [hv, e]))
theorem slice_of_own1 {w : World} {base : Nat} {e : TypeId} {s n : Nat} {v : Value} {xs : List Value} (h : w.ownsRow base e s v n xs) : ∃ a cap, v = .slice a n cap := by
  obtain ⟨h1, ⟨rfl, rfl⟩ | ⟨g, cap, cur, rfl, hg, _, h3, _⟩⟩ := h
  · exact ⟨none, 0, rfl⟩
  · exact ⟨_, cap, rfl⟩
/-- so many bytes 0 -/
def zb (n : Nat) : ByteArray := ⟨(List.replicate n (0 : UInt8)).toArray⟩
theorem zb_size (n : Nat) : (zb n).size = n := by show (List.replicate n (0 : UInt8)).toArray.size = n; simp
/-- a text, filled up -/
def padS (t : ByteArray) (p : Nat) : ByteArray := t ++ zb (p - t.size)
theorem padS_size (t : ByteArray) (p : Nat) (h : t.size ≤ p) : (padS t p).size = p := by unfold padS; rw [ByteArray.size_append, zb_size]; omega
theorem repeat_zb (n : Nat) : (⟨(Lib.repeatL (⟨#[0]⟩ : ByteArray).data.toList n).toArray⟩ : ByteArray) = zb n := by
  have h := Lib.repeatL_replicate 0 1 n
  rw [Nat.mul_one] at h
  unfold zb
  rw [← h]
  rfl
/-- the lanes of a stripe's text -/
def lns (t : ByteArray) (k s : Nat) : List ByteArray := pcs (padS t (k * s)) s
theorem nP_mul (k s : Nat) (hs : 1 ≤ s) : nP (k * s) s = k := by
  unfold nP
  rw [Nat.add_sub_assoc hs, Nat.add_comm, Nat.add_mul_div_right _ _ (by omega), Nat.div_eq_of_lt (by omega)]
  omega
theorem lns_length (t : ByteArray) (k s : Nat) (hs : 1 ≤ s) (h : t.size ≤ k * s) : (lns t k s).length = k := by
  unfold lns
  rw [pcs_length, padS_size _ _ h, nP_mul k s hs]
set_option maxRecDepth 100000 in
set_option maxHeartbeats 4000000 in
theorem lanes_good (k m s : Int) (t : ByteArray) (hs : shpB k m s = true) (ht : 1 ≤ t.size ∧ (t.size : Int) ≤ k * s) (wo : World) :
    Calls Try.prog 21 #[.agg #[.int .i64 k, .int .i64 m, .int .i64 s], .string t] wo fun e w' => ∃ a cap, e = .returned (.tuple #[.slice a k.toNat cap, .int .i64 0]) ∧ k.toNat ≤ cap ∧ StrsIn w' a k.toNat (lns t k.toNat s.toNat) ∧ Kept wo w' := by
  have hb := ks_bounds hs
  obtain ⟨h1, h2, h3, h4, h5, h6⟩ := shpB_true hs
  obtain ⟨kn, hK⟩ : ∃ kn : Nat, k = kn := ⟨k.toNat, by omega⟩
  obtain ⟨n, hn⟩ : ∃ n : Nat, s = n := ⟨s.toNat, by omega⟩
  obtain ⟨q, hq⟩ : ∃ q : Nat, q = kn * n := ⟨_, rfl⟩
  have hks : k * s = (q : Int) := by rw [hK, hn, hq]; simp
  obtain ⟨d, hd⟩ : ∃ d : Nat, d = q - t.size := ⟨_, rfl⟩
  obtain ⟨u, hu⟩ : ∃ u : ByteArray, u = padS t q := ⟨_, rfl⟩
  obtain ⟨z, hz⟩ : ∃ z : ByteArray, z = zb d := ⟨_, rfl⟩
  have htq : t.size ≤ q := by omega
  have hq2 : q ≤ 960 := by omega
  have hus : u.size = q := by rw [hu]; exact padS_size t q htq
  have hn1 : 1 ≤ n := by omega
  have hn2 : n ≤ 120 := by omega
  have hnk : nP u.size n = kn := by rw [hus, hq]; exact nP_mul kn n hn1
  have hE : shpE k m s = 0 := by unfold shpE; rw [if_pos hs]
  have hck := fun w => code_check k m s w
  rw [hE] at hck
  have HCK := Lib.hid hck
  have hwh := fun w => whole_any k m s q ⟨h1, h2⟩ ⟨h5, h6⟩ hks w
  have HWH := Lib.hid hwh
  have HREP := Lib.hid (fun w => (Try.strings_Repeat ⟨#[0]⟩ d w (by omega) (by show 1 * d ≤ _; omega)))
  rw [repeat_zb, ← hz] at HREP
  have HPI := Lib.hid (fun w => pieces_any u (n : Int) w)
  have hsub : (q : Int) - (t.size : Int) = (d : Int) ∧ IntKind.i64.wrap (d : Int) = (d : Int) := ⟨by omega, IntWalk.i64_in _ (by omega)⟩
  have hA : ∀ w : World, (Op.stringOp .add t z).run Try.prog w = .ok (.string u) w := fun w => by
    rw [hu]; unfold padS; rw [← hd, ← hz]
    exact run_string_add_sum _ _ _ (by rw [hz, zb_size]; omega)
  have hT : k.toNat = kn ∧ s.toNat = n := by rw [hK, hn]; exact ⟨rfl, rfl⟩
  rw [hT.1, hT.2]
  have hlan : lns t kn n = pcs u n := by unfold lns; rw [← hq, hu]
  rw [hlan]
  have HLAN := Lib.hid hnk
  have hd1 : decide ((t.size : Int) < 1) = false := decide_eq_false (by omega)
  have hd2 : decide (q < t.size) = false := decide_eq_false (by omega)
  obtain ⟨i0, hi, hz0, hz1, hz2⟩ := info_parts Try.infoStr
  have HI := Lib.hid (And.intro hi (And.intro hz0 (And.intro hz1 hz2)))
  clear hi hz0 hz1 hz2 hlan hT hu hz hE hck hwh hks hb hs h1 h2 h3 h4 h5 h6 hq hnk
  subst hn
  subst hK
  clear hd
  have HSUB := Lib.hid (And.intro hsub (And.intro hA (And.intro hus ht)))
  have ht1 : 1 ≤ t.size := ht.1
  clear hsub hA hus ht
  refine callsIn_wide.1 (callsIn_of_wp_marks (n := 8) Try.func21 rfl trivial ?_ rfl)
  simp only [Try.ntmps21, List.size_toArray, List.length_nil, List.length_cons, Nat.reduceAdd, Nat.reduceSub, Array.replicate_succ, Array.replicate_zero, List.push_toArray, List.append_toArray, List.nil_append, List.cons_append]
  refine wpIn_wide.2 ?_
  have HK0 := Lib.hid ((Kept.refl wo).alloc (.cells #[.int .i64 kn, .int .i64 m, .int .i64 n] 31))
  have HB0 := Lib.hid (BlockAt.new wo #[.int .i64 kn, .int .i64 m, .int .i64 n] 31)
  go_wp2_with fail
  generalize wo.alloc (.cells #[.int .i64 kn, .int .i64 m, .int .i64 n] 31) = w1 at *
  obtain ⟨a0, a1, a2⟩ := box3c HB0.out
  go_wp2_with fail
  refine (HCK.out _).mono ?_
  rintro e w2 ⟨rfl, hk2⟩
  have HK1 := Lib.hid (HK0.out.trans hk2)
  have HB1 := Lib.hid (HB0.out.kept hk2)
  clear a0 a1 a2 hk2
  obtain ⟨a0, a1, a2⟩ := box3c HB1.out
  go_wp2_with fail
  refine (HWH.out _).mono ?_
  rintro e w3 ⟨rfl, hk3⟩
  have HK2 := Lib.hid (HK1.out.trans hk3)
  have HBT := Lib.hid (HB1.out.kept hk3)
  clear a0 a1 a2 hk3
  go_upto_region 4 with (fail)
  have hg1 := (BlockAt.new w3 #[] 9).kept ((Kept.refl _).alloc (.cells #[.slice (some ⟨w3.heap.size, 0, none⟩) 0 0] 23))
  have hp1 := BlockAt.new1 w3 #[.slice (some ⟨w3.heap.size, 0, none⟩) 0 0] 23 (.cells #[] 9)
  have k12 : Kept w3 ((w3.alloc (.cells #[] 9)).alloc (.cells #[.slice (some ⟨w3.heap.size, 0, none⟩) 0 0] 23)) := ((Kept.refl _).alloc _).alloc _
  have hz1 : w3.heap.size + 2 = ((w3.alloc (.cells #[] 9)).alloc (.cells #[.slice (some ⟨w3.heap.size, 0, none⟩) 0 0] 23)).heap.size := by simp
  have HBS := Lib.hid (HBT.out.kept k12)
  have hz2 : wo.heap.size < w3.heap.size := HBT.out.lt
  generalize hwa : (w3.alloc (.cells #[] 9)).alloc (.cells #[.slice (some ⟨w3.heap.size, 0, none⟩) 0 0] 23) = wa at *
  clear hwa
  generalize w3.heap.size = p at *
  have hz0 : p + 2 ≤ wa.heap.size := by omega
  clear ht1 htq
  obtain ⟨⟨hsub, hsub2⟩, hA, hus, ht⟩ := HSUB.out
  refine Pj.wp_region_step (fun a0 L a w => ∃ V : Nat → Value, a = Pj.puts [(24, 0), (25, 1), (26, 2), (27, 3), (28, 4), (29, 5), (30, 6), (31, 7), (32, 8), (33, 9), (34, 10)] V a0 ∧ Pj.J wa [Pj.Is (.string t), Pj.Is (.agg #[.int .i64 (kn : Int), .int .i64 m, .int .i64 (n : Int)]), Pj.Is (.int .i64 (q : Int)), Pj.Is (.string t), Pj.Is (.int .i64 (t.size : Int)), Pj.Is (.int .i64 (d : Int)), Pj.Is (.string z), Pj.Is (.string u), Pj.Is (.pointer (some ⟨wo.heap.size, 2, none⟩)), Pj.Is (.int .i64 (n : Int)), (fun w v => ∃ x, v = .func (.func 49) #[] #[.pointer (some ⟨x, 0, none⟩), .pointer (some ⟨x + 1, 0, none⟩)] ∧ p + 2 ≤ x ∧ BlockAt w x #[.string u] 9 ∧ BlockAt w (x + 1) #[.int .i64 (n : Int)] 3)] L V w) (by as_aux_lemma => kernel_rfl) (by as_aux_lemma => kernel_rfl) ?eh0 ?ehs ?ehe
  case eh0 =>
    intro L hL
    exact ⟨_, Pj.puts_self _ (fun j => ([24, 25, 26, 27, 28, 29, 30, 31, 32, 33, 34] : List Nat).getD j 0) [0, 1, 2, 3, 4, 5, 6, 7, 8, 9, 10], Pj.J.none (n := 11) (Nat.le_refl _) hL ((Kept.refl _).drew)⟩
  case ehs =>
    rintro L L' a w i op K ⟨V, rfl, hJ⟩ ho hopen hdep hL hK
    have hP : Pj.AllStay [Pj.Is (.string t), Pj.Is (.agg #[.int .i64 (kn : Int), .int .i64 m, .int .i64 (n : Int)]), Pj.Is (.int .i64 (q : Int)), Pj.Is (.string t), Pj.Is (.int .i64 (t.size : Int)), Pj.Is (.int .i64 (d : Int)), Pj.Is (.string z), Pj.Is (.string u), Pj.Is (.pointer (some ⟨wo.heap.size, 2, none⟩)), Pj.Is (.int .i64 (n : Int)), (fun w v => ∃ x, v = .func (.func 49) #[] #[.pointer (some ⟨x, 0, none⟩), .pointer (some ⟨x + 1, 0, none⟩)] ∧ p + 2 ≤ x ∧ BlockAt w x #[.string u] 9 ∧ BlockAt w (x + 1) #[.int .i64 (n : Int)] 3)] := ⟨Pj.Is.stays _, Pj.Is.stays _, Pj.Is.stays _, Pj.Is.stays _, Pj.Is.stays _, Pj.Is.stays _, Pj.Is.stays _, Pj.Is.stays _, Pj.Is.stays _, Pj.Is.stays _, fun _ _ _ ⟨x, e, h1, h2, h3⟩ k => ⟨x, e, h1, h2.kept k, h3.kept k⟩, trivial⟩
    have HP := Lib.hid hP
    clear hP
    match i, ho with
    | 0, ho =>
      simp only [List.getElem?_toArray, List.getElem?_cons_zero, Option.some.injEq] at ho
      have HJ := Lib.hid hJ
      clear hJ
      subst ho
      refine Pj.Step.free rfl ?_
      simp only [Pj.puts, List.foldl_cons, List.foldl_nil, Act.put, List.setIfInBounds_toArray, List.set_cons_zero, List.set_cons_succ]
      go_simp
      exact hK _ _ ⟨Pj.vset V 0 (.string t), by simp only [Pj.puts, List.foldl_cons, List.foldl_nil, Act.put, List.setIfInBounds_toArray, List.set_cons_zero, List.set_cons_succ, Pj.vset, Nat.reduceEqDiff, if_true, if_false], HJ.out.more HP.out hL (Kept.refl _) (rfl)⟩
    | 1, ho =>
      simp only [List.getElem?_toArray, List.getElem?_cons_zero, List.getElem?_cons_succ, Option.some.injEq] at ho
      obtain ⟨b0, b1, b2⟩ := box3c (HBS.out.kept hJ.kp)
      have HJ := Lib.hid hJ
      clear hJ
      subst ho
      refine Pj.Step.free rfl ?_
      simp only [Pj.puts, List.foldl_cons, List.foldl_nil, Act.put, List.setIfInBounds_toArray, List.set_cons_zero, List.set_cons_succ]
      go_simp
      exact hK _ _ ⟨Pj.vset V 1 (.agg #[.int .i64 (kn : Int), .int .i64 m, .int .i64 (n : Int)]), by simp only [Pj.puts, List.foldl_cons, List.foldl_nil, Act.put, List.setIfInBounds_toArray, List.set_cons_zero, List.set_cons_succ, Pj.vset, Nat.reduceEqDiff, if_true, if_false], HJ.out.more HP.out hL (Kept.refl _) (rfl)⟩
    | 2, ho =>
      simp only [List.getElem?_toArray, List.getElem?_cons_zero, List.getElem?_cons_succ, Option.some.injEq] at ho
      have e1 : V 1 = .agg #[.int .i64 (kn : Int), .int .i64 m, .int .i64 (n : Int)] := hJ.h 1 (hdep 1 (by rw [← ho]; kernel_rfl))
      have HJ := Lib.hid hJ
      clear hJ
      subst ho
      refine Pj.Step.free rfl ?_
      simp only [Pj.puts, List.foldl_cons, List.foldl_nil, Act.put, List.setIfInBounds_toArray, List.set_cons_zero, List.set_cons_succ, e1]
      go_simp
      refine (HWH.out _).mono ?_
      rintro e w' ⟨rfl, hk9⟩
      exact hK _ _ ⟨Pj.vset V 2 (.int .i64 (q : Int)), by simp only [Pj.puts, List.foldl_cons, List.foldl_nil, Act.put, List.setIfInBounds_toArray, List.set_cons_zero, List.set_cons_succ, Pj.vset, Nat.reduceEqDiff, if_true, if_false, e1], HJ.out.more HP.out hL (hk9) (rfl)⟩
    | 3, ho =>
      simp only [List.getElem?_toArray, List.getElem?_cons_zero, List.getElem?_cons_succ, Option.some.injEq] at ho
      have HJ := Lib.hid hJ
      clear hJ
      subst ho
      refine Pj.Step.free rfl ?_
      simp only [Pj.puts, List.foldl_cons, List.foldl_nil, Act.put, List.setIfInBounds_toArray, List.set_cons_zero, List.set_cons_succ]
      go_simp
      exact hK _ _ ⟨Pj.vset V 3 (.string t), by simp only [Pj.puts, List.foldl_cons, List.foldl_nil, Act.put, List.setIfInBounds_toArray, List.set_cons_zero, List.set_cons_succ, Pj.vset, Nat.reduceEqDiff, if_true, if_false], HJ.out.more HP.out hL (Kept.refl _) (rfl)⟩
    | 4, ho =>
      simp only [List.getElem?_toArray, List.getElem?_cons_zero, List.getElem?_cons_succ, Option.some.injEq] at ho
      have e3 : V 3 = .string t := hJ.h 3 (hdep 3 (by rw [← ho]; kernel_rfl))
      have HJ := Lib.hid hJ
      clear hJ
      subst ho
      refine Pj.Step.free rfl ?_
      simp only [Pj.puts, List.foldl_cons, List.foldl_nil, Act.put, List.setIfInBounds_toArray, List.set_cons_zero, List.set_cons_succ, e3]
      go_simp
      exact hK _ _ ⟨Pj.vset V 4 (.int .i64 (t.size : Int)), by simp only [Pj.puts, List.foldl_cons, List.foldl_nil, Act.put, List.setIfInBounds_toArray, List.set_cons_zero, List.set_cons_succ, Pj.vset, Nat.reduceEqDiff, if_true, if_false, e3], HJ.out.more HP.out hL (Kept.refl _) (rfl)⟩
    | 5, ho =>
      simp only [List.getElem?_toArray, List.getElem?_cons_zero, List.getElem?_cons_succ, Option.some.injEq] at ho
      have e2 : V 2 = .int .i64 (q : Int) := hJ.h 2 (hdep 2 (by rw [← ho]; kernel_rfl))
      have e4 : V 4 = .int .i64 (t.size : Int) := hJ.h 4 (hdep 4 (by rw [← ho]; kernel_rfl))
      have HJ := Lib.hid hJ
      clear hJ
      subst ho
      refine Pj.Step.free rfl ?_
      simp only [Pj.puts, List.foldl_cons, List.foldl_nil, Act.put, List.setIfInBounds_toArray, List.set_cons_zero, List.set_cons_succ, e2, e4]
      go_simp
      exact hK _ _ ⟨Pj.vset V 5 (.int .i64 (d : Int)), by simp only [Pj.puts, List.foldl_cons, List.foldl_nil, Act.put, List.setIfInBounds_toArray, List.set_cons_zero, List.set_cons_succ, Pj.vset, Nat.reduceEqDiff, if_true, if_false, e2, e4], HJ.out.more HP.out hL (Kept.refl _) (rfl)⟩
    | 6, ho =>
      simp only [List.getElem?_toArray, List.getElem?_cons_zero, List.getElem?_cons_succ, Option.some.injEq] at ho
      have e5 : V 5 = .int .i64 (d : Int) := hJ.h 5 (hdep 5 (by rw [← ho]; kernel_rfl))
      have HJ := Lib.hid hJ
      clear hJ
      subst ho
      refine Pj.Step.free rfl ?_
      simp only [Pj.puts, List.foldl_cons, List.foldl_nil, Act.put, List.setIfInBounds_toArray, List.set_cons_zero, List.set_cons_succ, e5]
      go_simp
      refine (HREP.out _).mono ?_
      rintro e w' ⟨rfl, hk9⟩
      exact hK _ _ ⟨Pj.vset V 6 (.string z), by simp only [Pj.puts, List.foldl_cons, List.foldl_nil, Act.put, List.setIfInBounds_toArray, List.set_cons_zero, List.set_cons_succ, Pj.vset, Nat.reduceEqDiff, if_true, if_false, e5], HJ.out.more HP.out hL (hk9) (rfl)⟩
    | 7, ho =>
      simp only [List.getElem?_toArray, List.getElem?_cons_zero, List.getElem?_cons_succ, Option.some.injEq] at ho
      have e0 : V 0 = .string t := hJ.h 0 (hdep 0 (by rw [← ho]; kernel_rfl))
      have e6 : V 6 = .string z := hJ.h 6 (hdep 6 (by rw [← ho]; kernel_rfl))
      have HJ := Lib.hid hJ
      clear hJ
      subst ho
      refine Pj.Step.free rfl ?_
      simp only [Pj.puts, List.foldl_cons, List.foldl_nil, Act.put, List.setIfInBounds_toArray, List.set_cons_zero, List.set_cons_succ, e0, e6]
      go_simp
      exact hK _ _ ⟨Pj.vset V 7 (.string u), by simp only [Pj.puts, List.foldl_cons, List.foldl_nil, Act.put, List.setIfInBounds_toArray, List.set_cons_zero, List.set_cons_succ, Pj.vset, Nat.reduceEqDiff, if_true, if_false, e0, e6], HJ.out.more HP.out hL (Kept.refl _) (rfl)⟩
    | 8, ho =>
      simp only [List.getElem?_toArray, List.getElem?_cons_zero, List.getElem?_cons_succ, Option.some.injEq] at ho
      have HJ := Lib.hid hJ
      clear hJ
      subst ho
      refine Pj.Step.free rfl ?_
      simp only [Pj.puts, List.foldl_cons, List.foldl_nil, Act.put, List.setIfInBounds_toArray, List.set_cons_zero, List.set_cons_succ]
      go_simp
      exact hK _ _ ⟨Pj.vset V 8 (.pointer (some ⟨wo.heap.size, 2, none⟩)), by simp only [Pj.puts, List.foldl_cons, List.foldl_nil, Act.put, List.setIfInBounds_toArray, List.set_cons_zero, List.set_cons_succ, Pj.vset, Nat.reduceEqDiff, if_true, if_false], HJ.out.more HP.out hL (Kept.refl _) (rfl)⟩
    | 9, ho =>
      simp only [List.getElem?_toArray, List.getElem?_cons_zero, List.getElem?_cons_succ, Option.some.injEq] at ho
      have e8 : V 8 = .pointer (some ⟨wo.heap.size, 2, none⟩) := hJ.h 8 (hdep 8 (by rw [← ho]; kernel_rfl))
      obtain ⟨b0, b1, b2⟩ := box3c (HBS.out.kept hJ.kp)
      have HJ := Lib.hid hJ
      clear hJ
      subst ho
      refine Pj.Step.free rfl ?_
      simp only [Pj.puts, List.foldl_cons, List.foldl_nil, Act.put, List.setIfInBounds_toArray, List.set_cons_zero, List.set_cons_succ, e8]
      go_simp
      exact hK _ _ ⟨Pj.vset V 9 (.int .i64 (n : Int)), by simp only [Pj.puts, List.foldl_cons, List.foldl_nil, Act.put, List.setIfInBounds_toArray, List.set_cons_zero, List.set_cons_succ, Pj.vset, Nat.reduceEqDiff, if_true, if_false, e8], HJ.out.more HP.out hL (Kept.refl _) (rfl)⟩
    | 10, ho =>
      simp only [List.getElem?_toArray, List.getElem?_cons_zero, List.getElem?_cons_succ, Option.some.injEq] at ho
      have e7 : V 7 = .string u := hJ.h 7 (hdep 7 (by rw [← ho]; kernel_rfl))
      have e9 : V 9 = .int .i64 (n : Int) := hJ.h 9 (hdep 9 (by rw [← ho]; kernel_rfl))
      have hsz9 := Nat.le_trans hz0 hJ.kp.size
      have HJ := Lib.hid hJ
      clear hJ
      subst ho
      refine Pj.Step.free rfl ?_
      simp only [Pj.puts, List.foldl_cons, List.foldl_nil, Act.put, List.setIfInBounds_toArray, List.set_cons_zero, List.set_cons_succ, e7, e9]
      go_simp
      refine (HPI.out _).mono ?_
      rintro e w' ⟨rfl, hw9⟩
      have hk9 : Kept w w' := by rw [hw9]; exact ((Kept.refl w).alloc _).alloc _
      have hx2 : BlockAt w' w.heap.size #[.string u] 9 := by rw [hw9]; exact (BlockAt.new _ _ _).kept ((Kept.refl _).alloc _)
      have hx3 : BlockAt w' (w.heap.size + 1) #[.int .i64 (n : Int)] 3 := by rw [hw9]; exact BlockAt.new1 _ _ _ _
      clear hw9
      exact hK _ _ ⟨Pj.vset V 10 (.func (.func 49) #[] #[.pointer (some ⟨w.heap.size, 0, none⟩), .pointer (some ⟨w.heap.size + 1, 0, none⟩)]), by simp only [Pj.puts, List.foldl_cons, List.foldl_nil, Act.put, List.setIfInBounds_toArray, List.set_cons_zero, List.set_cons_succ, Pj.vset, Nat.reduceEqDiff, if_true, if_false, e7, e9], HJ.out.more HP.out hL (hk9) (⟨_, rfl, hsz9, hx2, hx3⟩)⟩
    | n + 11, ho => simp at ho
  case ehe =>
    rintro L a w ⟨V, rfl, hJ⟩ hall
    obtain ⟨x, e10, hx1, hx2, hx3⟩ := hJ.h 10 (hall 10 (by decide))
    have HKj := Lib.hid hJ.kp
    clear hJ hall
    simp only [Pj.puts, List.foldl_cons, List.foldl_nil, Act.put, List.setIfInBounds_toArray, List.set_cons_zero, List.set_cons_succ, e10]
    clear e10
    have HGZ := Lib.hid (hg1.kept HKj.out)
    have HPZ := Lib.hid (hp1.kept HKj.out)
    have HKZ := Lib.hid ((HK2.out.trans k12).trans HKj.out)
    have hxl := hx3.lt
    have HX2 := Lib.hid hx2
    have HX3 := Lib.hid hx3
    clear hx2 hx3 hg1 hp1 k12 hz1
    obtain ⟨R, hR⟩ : ∃ R : Nat → Prop, R = fun g => wo.heap.size ≤ g ∧ g ≠ p + 1 ∧ g ≠ x ∧ g ≠ x + 1 := ⟨_, rfl⟩
    have HRP := Lib.hid (show R p by rw [hR]; exact ⟨by omega, by omega, by omega, by omega⟩)
    have HRL := Lib.hid (show ¬ R (p + 1) by rw [hR]; exact fun h => h.2.1 rfl)
    have HRN := Lib.hid (show ∀ g, x + 2 ≤ g → R g by rw [hR]; exact fun g h => ⟨by omega, by omega, by omega, by omega⟩)
    have hrt : ¬ (R x ∨ x = p + 1) := by rw [hR]; exact fun h => by rcases h with h | h; exact h.2.2.1 rfl; omega
    have hrq : ¬ (R (x + 1) ∨ x + 1 = p + 1) := by rw [hR]; exact fun h => by rcases h with h | h; exact h.2.2.2 rfl; omega
    clear hR
    go_wp2
    refine wp_of_in 8 ?_
    refine wpIn_rangeFunc_S rfl (by omega) (gf := 49) (lb := #[.pointer (some ⟨x, 0, none⟩), .pointer (some ⟨x + 1, 0, none⟩)]) rfl trivial (enters_of Try.func49 (by kernel_rfl) rfl)
      (pieces_stops 7 (by omega) (fun g => R g ∨ g = p + 1) u (by omega) n ⟨hn1, by omega⟩ x (x + 1) w hrt hrq HX2.out HX3.out) (CellsBut.refl _) CellsBut.trans CellsBut.putObj (Below.refl _ _) (fun _ => rfl)
      (fun pre W => (∃ v, BlockAt W (p + 1) #[v] 23 ∧ W.ownsRow wo.heap.size 9 1 v pre.length (pre.map fun i => Value.string (pcOf u n i.1)) ∧ ∀ g, v.ownBlock = some g → R g) ∧ (x + 2 ≤ W.heap.size ∧ Below wo.heap.size wo W))
      (fun _ _ _ => False)
      ?hI (fun _ _ _ _ _ hs _ _ => hs) ?h0 ?round ?done ?stop
    case hI =>
      refine OwnFrom.and (Own.from (fun s A B row hs hg hr => ?_) _) (OwnFrom.and (Own.from (fun s A B row hs hg hr => Nat.le_trans hs hg.size) _) (ownFrom_below (Nat.le_refl _) (by omega)))
      obtain ⟨v, h1, h2, h3⟩ := hs
      exact ⟨v, block_own h1 hg hr, own_own h2 hg hr, h3⟩
    case h0 => exact ⟨⟨_, HPZ.out, ⟨rfl, .inr ⟨p, 0, #[], rfl, by omega, HGZ.out, Nat.le_refl _, by unfold maxLen; omega, rfl, rfl⟩⟩, fun g e => by cases e; exact HRP.out⟩, by omega, HKZ.out⟩
    case round =>
      rintro l ⟨i, hi⟩ W K hK
      have HK := Lib.hid hK
      clear hK
      gi_wp2
      refine HK.out _ ?_
      clear HK
      rintro l pre W ⟨⟨v, hpl, hown, hvR⟩, hx2, hB⟩ hlen
      have HB := Lib.hid hB
      have HPL := Lib.hid hpl
      have HOWN := Lib.hid hown
      have HVR := Lib.hid hvR
      have HPR := Lib.hid (show (pre ++ [(⟨i, hi⟩ : { k : Nat // k < nP u.size n })]).map (fun i => Value.string (pcOf u n i.1)) = pre.map (fun i => Value.string (pcOf u n i.1)) ++ [Value.string (pcOf u n i)] by simp)
      have hn : pre.length < 2001 := by
        have h1 : nP u.size n ≤ u.size := Nat.not_lt.1 (fun h => by have := (nP_lt hn1).1 h; have := Nat.le_mul_of_pos_right u.size hn1; omega)
        omega
      clear hpl hown hvR hB
      generalize hps : pre.map (fun i => Value.string (pcOf u n i.1)) = ps at *
      generalize pcOf u n i = ti at *
      have HPS := Lib.hid hps
      clear hps
      have hwl := HB.out.size
      have c := box1 HPL.out
      refine wpIn_block ?_
      gi_wp2_with (gi_at_builtin; refine wpListIn_append_own_at _ rfl _ _ 23 rfl wo.heap.size 9 i0 (.string ByteArray.empty) 1 16 Try.underlying23 HI.out.1 HI.out.2.1 HI.out.2.2.1 HI.out.2.2.2 rfl (by decide) _ _ _ rfl (HOWN.out.alloc _) ⟨W.heap.size, 0, none⟩ 1 1 [.string ti] rfl rfl ?c1 ?c2 ?c3 ?c4 ?c5 ?_)
      case c1 =>
        intro j' u hj'
        match j', hj' with
        | 0, hj' => simp at hj'; subst hj'; simp [Addr.add]
      case c2 => intro u hu; simp at hu; subst hu; rfl
      case c3 => unfold maxLen; omega
      case c4 => omega
      case c5 => simp; omega
      intro v' w9 hown9 hgrow _ hat
      obtain ⟨a9, c9, hv9⟩ := slice_of_own1 hown9
      have kx := (Kept.refl W).alloc (.cells #[.string ti] 9)
      have hown1 := own_kept HOWN.out kx
      have hpl9 := block_grown (HPL.out.kept kx) hgrow (fun e => HRL.out (HVR.out _ e.symm))
      have hR9 : ∀ g, v'.ownBlock = some g → R g := fun g e => by
        rcases hat with h | h
        · exact HVR.out g (h ▸ e)
        · rw [h] at e
          cases e
          exact HRN.out _ (by have := kx.size; omega)
      have hpg : some (p + 1) ≠ v'.ownBlock := fun e => HRL.out (hR9 _ e.symm)
      have hset : w9.grownBy (w9.setCell ⟨p + 1, 0, none⟩ v') (some (p + 1)) := ⟨rfl, rfl, rfl, by simp, fun k _ hne => Below.heap_setCell w9 ⟨p + 1, 0, none⟩ v' k (fun e => hne (by rw [e]))⟩
      have HE1 := Lib.hid ((((others_kept kx).trans (others_own hown1 hgrow))).trans (KeepsOthers.setCell w9 ⟨p + 1, 0, none⟩ v'))
      have HE2 := Lib.hid (((CellsBut.of_kept kx).trans (but_own hgrow (fun j e => Or.inl (HVR.out j e)))).trans (CellsBut.setCell (R := fun j => R j ∨ j = p + 1) (b := p + 1) (i := 0) w9 v' (.inr rfl)))
      have HE3 := Lib.hid (((kept_gr1 (HB.out.trans (Below.mono kx (by omega))) hgrow (fun g e => by have := (HOWN.out.lt g e).1; omega))).setCell (p := ⟨p + 1, 0, none⟩) (by show wo.heap.size ≤ p + 1; omega) v')
      have HE4 := Lib.hid (own_own1 hown9 hset hpg)
      have HE5 := Lib.hid (show BlockAt (w9.setCell ⟨p + 1, 0, none⟩ v') (p + 1) #[v'] 23 by have := hpl9.set (i := 0) v'; simpa using this)
      have HE6 := Lib.hid hR9
      have f0 := hpl9.free 0
      have c0 := box1 hpl9
      have hs9 : W.heap.size ≤ (w9.setCell ⟨p + 1, 0, none⟩ v').heap.size := by have := kx.size; have := hgrow.size; simp only [World.size_setCell]; omega
      subst hv9
      clear hown9 hgrow hat kx hown1 hpl9 hR9 hpg hset
      gi_wp2
      refine ⟨HE1.out, HE2.out, ⟨_, HE5.out, ?_, HE6.out⟩, by omega, HE3.out⟩
      rw [HPR.out, List.length_append]
      simpa using HE4.out
    case done =>
      rintro D ys W hD hys ⟨⟨v, hpl, hown, hvR⟩, hx2, hB⟩ hK
      have hlen : ys.length = nP u.size n := by have := congrArg List.length hys; rw [ixs_length] at this; simpa using this
      have hmap : ys.map (fun i => Value.string (pcOf u n i.1)) = (pcs u n).map Value.string := by
        unfold pcs
        rw [← hys]
        unfold ixs
        rw [List.map_map, List.map_map]
        rfl
      rw [hlen, hmap] at hown
      obtain ⟨a, cap, rfl, hcap, hst⟩ := strs_own hown (pcs_length u n) (fun z hz => by
        unfold pcs at hz
        rw [List.mem_map] at hz
        obtain ⟨i, _, rfl⟩ := hz
        rw [pcOf_size]
        omega)
      have c := box1 hpl
      have HB := Lib.hid hB
      rw [HLAN.out] at hst hcap
      rw [HLAN.out] at c
      have HST := Lib.hid hst
      have HCP := Lib.hid hcap
      clear hpl hown hvR hB hst hmap hlen hys hcap
      go_wp2
      refine ⟨by simp, .inl ⟨_, _, rfl, run_takeDeferred hK, ?_⟩⟩
      have g2 := grown_put W D (.deferred none)
      have k2 : Kept wo (W.putObj D (.deferred none)) := Below.grown HB.out g2 (by have := HB.out.size; simp; omega) (fun k e => by cases e; omega)
      refine ⟨.tuple #[.slice a kn cap, .int .i64 0], ?_, a, cap, rfl, HCP.out, ⟨HST.out.len_eq, HST.out.le, HST.out.sizes, ?_⟩, k2⟩
      · simp [results, Try.f21, go_sem]
      · exact (strs_put HST.out hK rfl).cells
    case stop => rintro _ _ _ _ _ _ h; exact h.elim
set_option maxRecDepth 100000 in
set_option maxHeartbeats 1000000 in
theorem lanes_bad (k m s : Int) (t : ByteArray) (hs : ¬ (shpB k m s = true ∧ 1 ≤ t.size ∧ (t.size : Int) ≤ k * s)) (w : World) :
    Calls Try.prog 21 #[.agg #[.int .i64 k, .int .i64 m, .int .i64 s], .string t] w fun e w' => e = .returned (.tuple #[.slice none 0 0, .int .i64 1]) ∧ Kept w w' := by
  have hck := fun w => code_check k m s w
  have HB := Lib.hid (BlockAt.new w #[.int .i64 k, .int .i64 m, .int .i64 s] 31)
  have HK := Lib.hid ((Kept.refl w).alloc (.cells #[.int .i64 k, .int .i64 m, .int .i64 s] 31))
  by_cases h : shpB k m s = true
  · have hE : shpE k m s = 0 := by unfold shpE; rw [if_pos h]
    rw [hE] at hck
    have HCK := Lib.hid hck
    clear hck hE
    by_cases h0 : 1 ≤ t.size
    · have hb := ks_bounds h
      obtain ⟨h1, h2, h3, h4, h5, h6⟩ := shpB_true h
      obtain ⟨p, hp⟩ : ∃ p, k * s = p := ⟨_, rfl⟩
      have HWH := Lib.hid (fun w => whole_any k m s p ⟨h1, h2⟩ ⟨h5, h6⟩ hp w)
      have hd1 : decide ((t.size : Int) < 1) = false := decide_eq_false (by omega)
      have hd2 : decide (p < (t.size : Int)) = true := decide_eq_true (by rw [hp] at hs; exact Int.not_le.1 (fun e => hs ⟨h, h0, e⟩))
      clear h1 h2 h3 h4 h5 h6 hp hb h h0 hs
      go_enter Try.func21, Try.ntmps21
      go_wp2_with fail
      generalize w.alloc (.cells #[.int .i64 k, .int .i64 m, .int .i64 s] 31) = w1 at *
      obtain ⟨a0, a1, a2⟩ := box3c HB.out
      go_wp2_with fail
      refine (HCK.out _).mono ?_
      rintro e w2 ⟨rfl, hk2⟩
      obtain ⟨b0, b1, b2⟩ := box3c (HB.out.kept hk2)
      have HK2 := Lib.hid (HK.out.trans hk2)
      clear a0 a1 a2 hk2
      go_wp2_with fail
      refine (HWH.out _).mono ?_
      rintro e w3 ⟨rfl, hk3⟩
      have HK3 := Lib.hid (HK2.out.trans hk3)
      clear b0 b1 b2 hk3
      go_wp2
      go_ret2
      exact ⟨rfl, HK3.out⟩
    · have hd1 : decide ((t.size : Int) < 1) = true := decide_eq_true (by omega)
      clear h hs h0
      go_enter Try.func21, Try.ntmps21
      go_wp2_with fail
      generalize w.alloc (.cells #[.int .i64 k, .int .i64 m, .int .i64 s] 31) = w1 at *
      obtain ⟨a0, a1, a2⟩ := box3c HB.out
      go_wp2_with fail
      refine (HCK.out _).mono ?_
      rintro e w2 ⟨rfl, hk2⟩
      have HK2 := Lib.hid (HK.out.trans hk2)
      clear a0 a1 a2 hk2
      go_wp2
      go_ret2
      exact ⟨rfl, HK2.out⟩
  · have hE : shpE k m s = 1 := by unfold shpE; rw [if_neg h]
    rw [hE] at hck
    have HCK := Lib.hid hck
    clear hck hE h hs
    go_enter Try.func21, Try.ntmps21
    go_wp2_with fail
    generalize w.alloc (.cells #[.int .i64 k, .int .i64 m, .int .i64 s] 31) = w1 at *
    obtain ⟨a0, a1, a2⟩ := box3c HB.out
    go_wp2_with fail
    refine (HCK.out _).mono ?_
    rintro e w2 ⟨rfl, hk2⟩
    have HK2 := Lib.hid (HK.out.trans hk2)
    clear a0 a1 a2 hk2
    go_wp2
    go_ret2
    exact ⟨rfl, HK2.out⟩
theorem pcs_takeS (t : ByteArray) (q k : Nat) (h : k < nP t.size q) : ((pcs t q).take (k + 1)).map Value.string = ((pcs t q).take k).map Value.string ++ [Value.string (pcOf t q k)] := by
  rw [pcs_take t q k h, List.map_append]
  rfl
set_option maxRecDepth 100000 in
set_option maxHeartbeats 2000000 in
theorem lanes_ref (k m s : Int) (t : ByteArray) (hs : shpB k m s = true) (ht : (t.size : Int) ≤ k * s) (wo : World) :
    Calls Try.prog 23 #[.agg #[.int .i64 k, .int .i64 m, .int .i64 s], .string t] wo fun e w' => ∃ a cap, e = .returned (.slice a k.toNat cap) ∧ k.toNat ≤ cap ∧ StrsIn w' a k.toNat (lns t k.toNat s.toNat) ∧ Kept wo w' := by
  have hb := ks_bounds hs
  obtain ⟨h1, h2, h3, h4, h5, h6⟩ := shpB_true hs
  obtain ⟨kn, hK⟩ : ∃ kn : Nat, k = kn := ⟨k.toNat, by omega⟩
  obtain ⟨n, hn⟩ : ∃ n : Nat, s = n := ⟨s.toNat, by omega⟩
  obtain ⟨q, hq⟩ : ∃ q : Nat, q = kn * n := ⟨_, rfl⟩
  have hks : k * s = (q : Int) := by rw [hK, hn, hq]; simp
  obtain ⟨d, hd⟩ : ∃ d : Nat, d = q - t.size := ⟨_, rfl⟩
  obtain ⟨u, hu⟩ : ∃ u : ByteArray, u = padS t q := ⟨_, rfl⟩
  obtain ⟨z, hz⟩ : ∃ z : ByteArray, z = zb d := ⟨_, rfl⟩
  have htq : t.size ≤ q := by omega
  have hq2 : q ≤ 960 := by omega
  have hus : u.size = q := by rw [hu]; exact padS_size t q htq
  have hn1 : 1 ≤ n := by omega
  have hn2 : n ≤ 120 := by omega
  have hk8 : kn ≤ 8 := by omega
  have hnk : nP u.size n = kn := by rw [hus, hq]; exact nP_mul kn n hn1
  have hT : k.toNat = kn ∧ s.toNat = n := by rw [hK, hn]; exact ⟨rfl, rfl⟩
  rw [hT.1, hT.2]
  have hlan : lns t kn n = pcs u n := by unfold lns; rw [← hq, hu]
  rw [hlan]
  have hsub : (q : Int) - (t.size : Int) = (d : Int) := by omega
  have hA : ∀ w : World, (Op.stringOp .add t z).run Try.prog w = .ok (.string u) w := fun w => by
    rw [hu]; unfold padS; rw [← hd, ← hz]
    exact run_string_add_sum _ _ _ (by rw [hz, zb_size]; omega)
  have hmul : (kn : Int) * (n : Int) = (q : Int) := by rw [hq]; simp
  have hmk : ∀ w : World, (Instr.makeSlice 55 (.int .i64 d) (.int .i64 d)).run Try.prog w = .ok (.slice (some ⟨w.heap.size, 0, none⟩) d d) (w.alloc (.cells (madeCells #[.int .u8 0] d) 5)) := makeB d (by omega)
  have hbf := fun w => madeB w d
  obtain ⟨i0, hi, hz0, hz1, hz2⟩ := info_parts Try.infoStr
  have HI := Lib.hid (And.intro hi (And.intro hz0 (And.intro hz1 hz2)))
  have HNK := Lib.hid hnk
  have HUS := Lib.hid hus
  have HQ := Lib.hid hq
  subst hn
  subst hK
  have HB := Lib.hid (BlockAt.new wo #[.int .i64 kn, .int .i64 m, .int .i64 n] 31)
  have HK := Lib.hid ((Kept.refl wo).alloc (.cells #[.int .i64 kn, .int .i64 m, .int .i64 n] 31))
  clear hi hz0 hz1 hz2 hlan hT hu hks hb hs h1 h2 h3 h4 h5 h6 hq hnk hd hus ht
  go_enter Try.func23, Try.ntmps23
  go_upto_region 1 with (fail)
  generalize wo.alloc (.cells #[.int .i64 kn, .int .i64 m, .int .i64 n] 31) = w1 at *
  obtain ⟨a0, a1, a2⟩ := box3c HB.out
  have hcv := (hbf w1).string (P := Try.prog) 55 9 5 Try.underlying55 Try.underlying5 Try.underlying9 d
  rw [List.length_replicate, show (⟨(List.replicate d (0 : UInt8)).toArray⟩ : ByteArray) = z by rw [hz]; rfl] at hcv
  clear hbf hz
  go_upto_region 2 with (fail)
  have HK2 := Lib.hid (HK.out.alloc (.cells (madeCells #[.int .u8 0] d) 5))
  have HB2 := Lib.hid (HB.out.kept ((Kept.refl _).alloc (.cells (madeCells #[.int .u8 0] d) 5)))
  generalize w1.alloc (.cells (madeCells #[.int .u8 0] d) 5) = w2 at *
  clear hcv hmk hA hsub htq a0 a1 a2 HB HK
  go_wp2_with fail
  go_loopw [5, 6] (fun v i wr => ∃ j : Nat, j ≤ kn ∧ i = .int .i64 j ∧ wr.ownsRow w2.heap.size 9 1 v j (((pcs u n).take j).map Value.string) ∧ Kept w2 wr) (fun _ i _ => kn - (intOf i).toNat)
  case atStart => exact ⟨0, by omega, rfl, World.ownsRow_nil _ _ _ _, Kept.refl _⟩
  case round =>
    obtain ⟨j, hj, rfl, hown, hk⟩ := hrel
    have HO := Lib.hid hown
    have HKr := Lib.hid hk
    clear hown hk
    obtain ⟨a0, a1, a2⟩ := box3c (HB2.out.kept HKr.out)
    by_cases hlt : j < kn
    · have HT := Lib.hid (pcs_takeS u n j (by rw [HNK.out]; exact hlt))
      obtain ⟨x1, hx1⟩ : ∃ x1 : Nat, x1 = j * n := ⟨_, rfl⟩
      obtain ⟨x2, hx2⟩ : ∃ x2 : Nat, x2 = (j + 1) * n := ⟨_, rfl⟩
      have hx12 : x2 = x1 + n := by rw [hx2, hx1, Nat.succ_mul]
      have hx2q : x2 ≤ q := by rw [hx2, HQ.out]; exact Nat.mul_le_mul_right n (by omega)
      have e1 : (j : Int) * (n : Int) = (x1 : Int) := by rw [hx1]; simp
      have e2 : ((j + 1 : Nat) : Int) * (n : Int) = (x2 : Int) := by rw [hx2]; simp
      obtain ⟨j1, hj1⟩ : ∃ j1 : Nat, j1 = j + 1 := ⟨_, rfl⟩
      rw [← hj1] at e2
      have e3 : (j : Int) + 1 = (j1 : Int) := by omega
      have hpc : pcOf u n j = u.extract x1 x2 := by unfold pcOf; rw [← hx1, HUS.out]; congr 1; omega
      have hs1 : x1 ≤ x2 := by omega
      have hs2 : x2 ≤ u.size := by rw [HUS.out]; exact hx2q
      have HPC := Lib.hid hpc
      have HJ1 := Lib.hid hj1
      clear hx1 hx2 hpc hj1 hx12
      go_wp2_with (at_builtin; refine wpList_append_own_at _ rfl _ _ 23 rfl w2.heap.size 9 i0 (.string ByteArray.empty) 1 16 Try.underlying23 HI.out.1 HI.out.2.1 HI.out.2.2.1 HI.out.2.2.2 rfl (by decide) _ _ _ rfl (HO.out.alloc _) ⟨wr.heap.size, 0, none⟩ 1 1 [.string (u.extract x1 x2)] rfl rfl ?c1 ?c2 ?c3 ?c4 ?c5 ?_)
      case c1 =>
        intro j' u hj'
        match j', hj' with
        | 0, hj' => simp at hj'; subst hj'; simp [Addr.add]
      case c2 => intro u hu; simp at hu; subst hu; rfl
      case c3 => unfold maxLen; omega
      case c4 => omega
      case c5 => have := HKr.out.size; simp; omega
      intro v' w9 hown9 hgrow _ _
      have HO9 := Lib.hid hown9
      have HK9 := Lib.hid (show Kept w2 w9 from kept_gr1 (HKr.out.alloc (.cells #[.string (u.extract x1 x2)] 9)) hgrow (fun g e => (HO.out.lt g e).1) (Nat.le_refl _))
      clear hown9 hgrow a0 a1 a2
      go_wp2
      go_roundw
      case rel => exact ⟨j + 1, by omega, by go_num, by rw [HT.out, HPC.out, List.map_take]; exact HO9.out, HK9.out⟩
      case measure => simp [intOf]; omega
    · obtain rfl : j = kn := by omega
      have hown := HO.out
      rw [List.take_of_length_le (by rw [pcs_length, HNK.out]; omega)] at hown
      obtain ⟨a', cap', rfl, hcl, hst⟩ := strs_own hown (by rw [pcs_length, HNK.out]) (fun x hx => by have := pcs_size u n x hx; rw [HUS.out] at this; omega)
      have HST := Lib.hid hst
      clear hown hst
      go_wp2
      go_ret
      exact ⟨_, _, rfl, hcl, HST.out, HK2.out.trans HKr.out⟩

end Go.Proofs.Ytlncjheifkbomaa

