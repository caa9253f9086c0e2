
/- The reference of package array: Flush (conditions: the array lies as it should; not too many changes). -/
import Derived.Test.YtkfomaoillnehaaAr22
import Derived.Test.YtkfomaoillnehaaJq
namespace Go.Proofs.Ytkfomaoillnehaa
open Go.RowKit
attribute [local go_sem] Oper.semAt_some

theorem flush_ask {S : Arr} {d : Int} (h : askedF S d true ≠ 0) : flushA S d = (S, askedF S d true) := by
  unfold askedF at h ⊢
  cases hT : isThere S d with
  | false => unfold flushA; rw [if_pos hT, if_pos rfl]
  | true =>
    have e : (if true = false then (3 : Int) else if true = false then 1 else serveA S d.toNat) = serveA S d.toNat := by rw [if_neg (by simp), if_neg (by simp)]
    rw [hT, e] at h
    rw [e]
    unfold flushA
    rw [if_neg (by rw [hT]; simp), if_neg h]
theorem flush_done {S : Arr} {d : Int} {x : Dsk} (h : askedF S d true = 0) (hx : S.ds d.toNat = some x) : flushA S d = (chgA (putD S d.toNat (flushD x S.n)), 0) := by
  obtain ⟨h1, h2, h3⟩ := asked_zero h
  unfold flushA
  rw [if_neg (by rw [h1]; simp), if_pos h3, hx]
/-- where the reference's blocks lie, and what they are not -/
theorem RfP.tops {w : World} {p A D E : Nat} {K C : Nat → Nat} {S : Arr} {d : Nat} (h : RfP w p A D E K C S) (hd : d < S.m) : p ≠ K d ∧ p ≠ C d ∧ D ≠ K d ∧ D ≠ C d ∧ E ≠ K d ∧ E ≠ C d ∧ K d ≠ C d := by
  obtain ⟨_, _, _, ha⟩ := h.apart
  obtain ⟨cd, hD⟩ := h.r.drow
  obtain ⟨ce, hE⟩ := h.r.erow
  obtain ⟨G1, hk, _⟩ := h.r.ks d hd
  obtain ⟨G2, hc, _⟩ := h.r.cs d hd
  obtain ⟨c1, hk⟩ := hk.blk
  obtain ⟨c2, hc⟩ := hc.blk
  exact ⟨(ha d hd).1, (ha d hd).2, block_ne hD hk (by decide), block_ne hD hc (by decide), block_ne hE hk (by decide), block_ne hE hc (by decide), h.r.kc d d hd hd⟩
set_option maxRecDepth 100000 in
set_option maxHeartbeats 4000000 in
theorem flush_ar {B : Nat} {w : World} {p A D E : Nat} {K C : Nat → Nat} {S : Arr} (h : RfP w p A D E K C S) (hB : B ≤ p) (hBC : ∀ d, d < S.m → B ≤ K d ∧ B ≤ C d) (hBw : B ≤ w.heap.size) (hg : S.g ≤ 9007199254740992) (hl : S.l ≤ 9223372036854775807) (d : Int) :
    Calls Try.prog 30 #[.pointer (some ⟨p, 0, none⟩), .int .i64 d] w fun e w' => e = .returned (.int .i64 (flushA S d).2) ∧ RfP w' p A D E K C (flushA S d).1 ∧ RfN B w p A D E K C S.m w' K C := by
  have HAS := Lib.hid (asked_ar h d true)
  have HP := Lib.hid h
  have HB := Lib.hid (And.intro hB (And.intro hBC hBw))
  have hm := h.m2
  have hn2 := h.n2
  clear h hB hBC hBw
  by_cases h0 : askedF S d true = 0
  · obtain ⟨hT, _, hs0⟩ := asked_zero h0
    obtain ⟨n, rfl, hn⟩ := there_nat hT
    rw [Int.toNat_natCast] at hs0
    obtain ⟨x, hx⟩ := serve_zero hs0
    have hw := flush_done h0 (by rw [Int.toNat_natCast]; exact hx)
    rw [Int.toNat_natCast] at hw
    rw [hw]
    dsimp only
    rw [h0] at HAS
    have HX := Lib.hid hx
    clear hT h0 hs0 hx hw
    go_enter Try.func30, Try.ntmps30
    go_wp2_with fail
    refine HAS.out.mono ?_
    rintro e w2 ⟨rfl, hk⟩
    have HP2 := Lib.hid (show RfP w2 p A D E K C (putD S n (flushD x 0)) by rw [flushD_zero, putD_self HX.out]; exact HP.out.kept hk)
    have HN2 := Lib.hid (RfN.of_kept (p := p) (A := A) (D := D) (E := E) (K := K) (C := C) (m := S.m) hk HB.out.2.2)
    clear hk HAS
    go_wp2_with fail
    go_loopw [6] (fun t wr => ∃ i : Nat, i ≤ S.n ∧ t = .int .i64 ((i : Nat) : Int) ∧ RfP wr p A D E K C (putD S n (flushD x i)) ∧ RfN B w p A D E K C S.m wr K C) (fun t _ => S.n - (intOf t).toNat)
    case atStart => exact ⟨0, by omega, rfl, HP2.out, HN2.out⟩
    case round =>
      obtain ⟨i, hi, rfl, hp, hnn⟩ := hrel
      have HPI := Lib.hid hp
      have HNI := Lib.hid hnn
      clear hnn HP2 HN2
      obtain ⟨a1, a2, a3, ht⟩ := hp.top
      obtain ⟨c0, c1, c2, c3, c4, c5, c6⟩ := box7r ht
      change wr.cell? ⟨p, 1, none⟩ = some (.int .i64 (S.n : Int)) at c1
      change wr.cell? ⟨p, 3, none⟩ = some (.slice (some ⟨D, 0, none⟩) S.m a2) at c3
      change wr.cell? ⟨p, 4, none⟩ = some (.slice (some ⟨E, 0, none⟩) S.m a3) at c4
      clear ht c0 c2 c5 c6
      by_cases hil : i < S.n
      · have hd1 : decide ((i : Int) < S.n) = true := decide_eq_true (by omega)
        have hx2 : (putD S n (flushD x i)).ds n = some (flushD x i) := upF_same _ _ _
        obtain ⟨kc, l1, hkc⟩ := hp.r.disk n hn
        obtain ⟨cc, l2, hcc⟩ := hp.r.cach n hn
        change wr.cell? ⟨D, n, none⟩ = some (.slice (some ⟨K n, 0, none⟩) S.n kc) at l1
        change wr.cell? ⟨E, n, none⟩ = some (.slice (some ⟨C n, 0, none⟩) S.n cc) at l2
        have tk := hp.r.txk (d := n) hn hx2
        have tc := hp.r.txc (d := n) hn hx2
        have k0 := tk.cell i hil
        have k1 := tk.free i
        have l3 := tc.cell i hil
        have l4 := tc.free i
        rw [show (flushD x i).c i = x.c i from if_neg (by omega)] at l3
        change S.n ≤ kc at hkc
        change S.n ≤ cc at hcc
        obtain ⟨n1, n2, n3, n4, n5, n6, n7⟩ := hp.tops (d := n) hn
        have HNE := Lib.hid (And.intro n1 (And.intro n2 (And.intro n3 (And.intro n4 (And.intro n5 (And.intro n6 n7))))))
        clear hp tk tc hx2 n1 n2 n3 n4 n5 n6 n7
        have HCL := Lib.hid (flushD_clean x i)
        have HDI := Lib.hid (flushD_dirty x i)
        by_cases hz : (x.c i).size = 0
        · have hte := isEmpty_none hz
          have HFE := Lib.hid (HCL.out hz (size_zero hz))
          clear hz HCL HDI
          generalize x.c i = t at *
          go_wp2
          go_roundw
          case rel => exact ⟨i + 1, by omega, by go_num, by rw [HFE.out]; exact HPI.out, HNI.out⟩
          case measure => simp [intOf]; omega
        · have hte := isEmpty_some hz
          have HFE := Lib.hid (HDI.out hz)
          clear hz HCL HDI
          obtain ⟨t, hxt⟩ : ∃ t, t = x.c i := ⟨_, rfl⟩
          rw [← hxt] at hte l3 HFE
          clear hxt
          go_upto_region 8 with (fail)
          have HR := Lib.hid (show ∀ m, m ≤ 2 → (fun W : World => W.cell? ⟨p, 3, none⟩ = some (.slice (some ⟨D, 0, none⟩) S.m a2) ∧ W.cell? ⟨p, 4, none⟩ = some (.slice (some ⟨E, 0, none⟩) S.m a3) ∧ W.cell? ⟨D, n, none⟩ = some (.slice (some ⟨K n, 0, none⟩) S.n kc) ∧ W.cell? ⟨E, n, none⟩ = some (.slice (some ⟨C n, 0, none⟩) S.n cc)) ((fun m => ([wr.drew, (wr.drew.setCell ⟨K n, i, none⟩ (.string t)), ((wr.drew.setCell ⟨K n, i, none⟩ (.string t)).setCell ⟨C n, i, none⟩ (.string ByteArray.empty))] : List World).getD m (((wr.drew.setCell ⟨K n, i, none⟩ (.string t)).setCell ⟨C n, i, none⟩ (.string ByteArray.empty)))) m) from by
            intro m hm
            match m, hm with
            | 0, _ => exact ⟨c3, c4, l1, l2⟩
            | 1, _ => exact ⟨cell_other (i' := i) (u := .string t) c3 HNE.out.1, cell_other (i' := i) (u := .string t) c4 HNE.out.1, cell_other (i' := i) (u := .string t) l1 HNE.out.2.2.1, cell_other (i' := i) (u := .string t) l2 HNE.out.2.2.2.2.1⟩
            | 2, _ => exact ⟨cell_other (i' := i) (u := .string ByteArray.empty) (cell_other (i' := i) (u := .string t) c3 HNE.out.1) HNE.out.2.1, cell_other (i' := i) (u := .string ByteArray.empty) (cell_other (i' := i) (u := .string t) c4 HNE.out.1) HNE.out.2.1, cell_other (i' := i) (u := .string ByteArray.empty) (cell_other (i' := i) (u := .string t) l1 HNE.out.2.2.1) HNE.out.2.2.2.1, cell_other (i' := i) (u := .string ByteArray.empty) (cell_other (i' := i) (u := .string t) l2 HNE.out.2.2.2.2.1) HNE.out.2.2.2.2.2.1⟩
            | m + 3, h => omega)
          have HR2 := Lib.hid (show ∀ m, m ≤ 1 → (fun W : World => W.cell? ⟨C n, i, none⟩ = some (.string t)) ((fun m => ([wr.drew, (wr.drew.setCell ⟨K n, i, none⟩ (.string t)), ((wr.drew.setCell ⟨K n, i, none⟩ (.string t)).setCell ⟨C n, i, none⟩ (.string ByteArray.empty))] : List World).getD m (((wr.drew.setCell ⟨K n, i, none⟩ (.string t)).setCell ⟨C n, i, none⟩ (.string ByteArray.empty)))) m) from by
            intro m hm
            match m, hm with
            | 0, _ => exact l3
            | 1, _ => exact cell_other (i' := i) (u := .string t) l3 (fun e => HNE.out.2.2.2.2.2.2 e.symm)
            | m + 2, h => omega)
          have s3 : (wr.setCell ⟨K n, i, none⟩ (.string t)).cell? ⟨C n, i, none⟩ = some (.string t) := cell_other (i' := i) (u := .string t) l3 (fun e => HNE.out.2.2.2.2.2.2 e.symm)
          clear c3 c4 l1 l2 l3
          refine Pj.wp_region_jq [(32, 0), (33, 1), (34, 2), (35, 3), (36, 4), (37, 5), (38, 6), (39, 7), (40, 8), (41, 9), (42, 10), (43, 11), (44, 12), (45, 13), (46, 14), (47, 15), (48, 16), (49, 17), (50, 18), (51, 19), (52, 20), (53, 21), (54, 22), (55, 23), (56, 24), (57, 25), (58, 26), (59, 28)] (fun j => ([.pointer (some ⟨p, 0, none⟩), .pointer (some ⟨p, 0, none⟩), .pointer (some ⟨p, 3, none⟩), .slice (some ⟨D, 0, none⟩) S.m a2, .int .i64 ((n : Nat) : Int), .pointer (some ⟨D, n, none⟩), .slice (some ⟨K n, 0, none⟩) S.n kc, .int .i64 ((i : Nat) : Int), .pointer (some ⟨p, 0, none⟩), .pointer (some ⟨p, 0, none⟩), .pointer (some ⟨p, 4, none⟩), .slice (some ⟨E, 0, none⟩) S.m a3, .int .i64 ((n : Nat) : Int), .pointer (some ⟨E, n, none⟩), .slice (some ⟨C n, 0, none⟩) S.n cc, .int .i64 ((i : Nat) : Int), .pointer (some ⟨p, 0, none⟩), .pointer (some ⟨p, 0, none⟩), .pointer (some ⟨p, 4, none⟩), .slice (some ⟨E, 0, none⟩) S.m a3, .int .i64 ((n : Nat) : Int), .pointer (some ⟨E, n, none⟩), .slice (some ⟨C n, 0, none⟩) S.n cc, .int .i64 ((i : Nat) : Int), .pointer (some ⟨C n, i, none⟩), .string t, .pointer (some ⟨K n, i, none⟩), undef, .pointer (some ⟨C n, i, none⟩), undef] : List Value).getD j undef) [27, 29] (fun m => ([wr.drew, (wr.drew.setCell ⟨K n, i, none⟩ (.string t)), ((wr.drew.setCell ⟨K n, i, none⟩ (.string t)).setCell ⟨C n, i, none⟩ (.string ByteArray.empty))] : List World).getD m (((wr.drew.setCell ⟨K n, i, none⟩ (.string t)).setCell ⟨C n, i, none⟩ (.string ByteArray.empty)))) (by as_aux_lemma => kernel_rfl) (by as_aux_lemma => kernel_rfl) (by decide) rfl ?eh0 ?ehs ?ehe
          case eh0 => exact ⟨_, Pj.puts_self _ (fun j => ([32, 33, 34, 35, 36, 37, 38, 39, 40, 41, 42, 43, 44, 45, 46, 47, 48, 49, 50, 51, 52, 53, 54, 55, 56, 57, 58, 0, 59, 0] : List Nat).getD j 0) [0, 1, 2, 3, 4, 5, 6, 7, 8, 9, 10, 11, 12, 13, 14, 15, 16, 17, 18, 19, 20, 21, 22, 23, 24, 25, 26, 28]⟩
          case ehs =>
            intro L L' V w iz opz Kq hJ ho hopen hdep hL hKq
            match iz, ho with
            | 0, ho =>
              simp only [List.getElem?_toArray, List.getElem?_cons_zero, Option.some.injEq] at ho
              have HJ := Lib.hid hJ
              clear hJ
              subst ho
              refine Pj.Step.free rfl ?_
              simp only [Pj.puts, List.foldl_cons, List.foldl_nil, Act.put, List.setIfInBounds_toArray, List.set_cons_zero, List.set_cons_succ]
              go_simp
              exact hKq _ _ ⟨Pj.vset V 0 (.pointer (some ⟨p, 0, none⟩)), by simp only [Pj.puts, List.foldl_cons, List.foldl_nil, Act.put, List.setIfInBounds_toArray, List.set_cons_zero, List.set_cons_succ, Pj.vset, Nat.reduceEqDiff, if_true, if_false], HJ.out.more (by decide) hL rfl⟩
            | 1, ho =>
              simp only [List.getElem?_toArray, List.getElem?_cons_zero, List.getElem?_cons_succ, Option.some.injEq] at ho
              have e0 : V 0 = .pointer (some ⟨p, 0, none⟩) := hJ.h 0 (hdep 0 (by rw [← ho]; kernel_rfl)) (by decide)
              have HJ := Lib.hid hJ
              clear hJ
              subst ho
              refine Pj.Step.free rfl ?_
              simp only [Pj.puts, List.foldl_cons, List.foldl_nil, Act.put, List.setIfInBounds_toArray, List.set_cons_zero, List.set_cons_succ, e0]
              go_simp
              exact hKq _ _ ⟨Pj.vset V 1 (.pointer (some ⟨p, 0, none⟩)), by simp only [Pj.puts, List.foldl_cons, List.foldl_nil, Act.put, List.setIfInBounds_toArray, List.set_cons_zero, List.set_cons_succ, Pj.vset, Nat.reduceEqDiff, if_true, if_false, e0], HJ.out.more (by decide) hL rfl⟩
            | 2, ho =>
              simp only [List.getElem?_toArray, List.getElem?_cons_zero, List.getElem?_cons_succ, Option.some.injEq] at ho
              have e1 : V 1 = .pointer (some ⟨p, 0, none⟩) := hJ.h 1 (hdep 1 (by rw [← ho]; kernel_rfl)) (by decide)
              have HJ := Lib.hid hJ
              clear hJ
              subst ho
              refine Pj.Step.free rfl ?_
              simp only [Pj.puts, List.foldl_cons, List.foldl_nil, Act.put, List.setIfInBounds_toArray, List.set_cons_zero, List.set_cons_succ, e1]
              go_simp
              exact hKq _ _ ⟨Pj.vset V 2 (.pointer (some ⟨p, 3, none⟩)), by simp only [Pj.puts, List.foldl_cons, List.foldl_nil, Act.put, List.setIfInBounds_toArray, List.set_cons_zero, List.set_cons_succ, Pj.vset, Nat.reduceEqDiff, if_true, if_false, e1], HJ.out.more (by decide) hL rfl⟩
            | 3, ho =>
              simp only [List.getElem?_toArray, List.getElem?_cons_zero, List.getElem?_cons_succ, Option.some.injEq] at ho
              have e2 : V 2 = .pointer (some ⟨p, 3, none⟩) := hJ.h 2 (hdep 2 (by rw [← ho]; kernel_rfl)) (by decide)
              have hr : (fun W : World => W.cell? ⟨p, 3, none⟩ = some (.slice (some ⟨D, 0, none⟩) S.m a2) ∧ W.cell? ⟨p, 4, none⟩ = some (.slice (some ⟨E, 0, none⟩) S.m a3) ∧ W.cell? ⟨D, n, none⟩ = some (.slice (some ⟨K n, 0, none⟩) S.n kc) ∧ W.cell? ⟨E, n, none⟩ = some (.slice (some ⟨C n, 0, none⟩) S.n cc)) w := hJ.rd (R := fun W => W.cell? ⟨p, 3, none⟩ = some (.slice (some ⟨D, 0, none⟩) S.m a2) ∧ W.cell? ⟨p, 4, none⟩ = some (.slice (some ⟨E, 0, none⟩) S.m a3) ∧ W.cell? ⟨D, n, none⟩ = some (.slice (some ⟨K n, 0, none⟩) S.n kc) ∧ W.cell? ⟨E, n, none⟩ = some (.slice (some ⟨C n, 0, none⟩) S.n cc)) HR.out
              obtain ⟨r0, r1, r2, r3⟩ := hr
              have HJ := Lib.hid hJ
              clear hJ
              subst ho
              refine Pj.Step.free rfl ?_
              simp only [Pj.puts, List.foldl_cons, List.foldl_nil, Act.put, List.setIfInBounds_toArray, List.set_cons_zero, List.set_cons_succ, e2]
              go_simp
              exact hKq _ _ ⟨Pj.vset V 3 (.slice (some ⟨D, 0, none⟩) S.m a2), by simp only [Pj.puts, List.foldl_cons, List.foldl_nil, Act.put, List.setIfInBounds_toArray, List.set_cons_zero, List.set_cons_succ, Pj.vset, Nat.reduceEqDiff, if_true, if_false, e2], HJ.out.more (by decide) hL rfl⟩
            | 4, ho =>
              simp only [List.getElem?_toArray, List.getElem?_cons_zero, List.getElem?_cons_succ, Option.some.injEq] at ho
              have HJ := Lib.hid hJ
              clear hJ
              subst ho
              refine Pj.Step.free rfl ?_
              simp only [Pj.puts, List.foldl_cons, List.foldl_nil, Act.put, List.setIfInBounds_toArray, List.set_cons_zero, List.set_cons_succ]
              go_simp
              exact hKq _ _ ⟨Pj.vset V 4 (.int .i64 ((n : Nat) : Int)), by simp only [Pj.puts, List.foldl_cons, List.foldl_nil, Act.put, List.setIfInBounds_toArray, List.set_cons_zero, List.set_cons_succ, Pj.vset, Nat.reduceEqDiff, if_true, if_false], HJ.out.more (by decide) hL rfl⟩
            | 5, ho =>
              simp only [List.getElem?_toArray, List.getElem?_cons_zero, List.getElem?_cons_succ, Option.some.injEq] at ho
              have e3 : V 3 = .slice (some ⟨D, 0, none⟩) S.m a2 := hJ.h 3 (hdep 3 (by rw [← ho]; kernel_rfl)) (by decide)
              have e4 : V 4 = .int .i64 ((n : Nat) : Int) := hJ.h 4 (hdep 4 (by rw [← ho]; kernel_rfl)) (by decide)
              have HJ := Lib.hid hJ
              clear hJ
              subst ho
              refine Pj.Step.free rfl ?_
              simp only [Pj.puts, List.foldl_cons, List.foldl_nil, Act.put, List.setIfInBounds_toArray, List.set_cons_zero, List.set_cons_succ, e3, e4]
              go_simp
              exact hKq _ _ ⟨Pj.vset V 5 (.pointer (some ⟨D, n, none⟩)), by simp only [Pj.puts, List.foldl_cons, List.foldl_nil, Act.put, List.setIfInBounds_toArray, List.set_cons_zero, List.set_cons_succ, Pj.vset, Nat.reduceEqDiff, if_true, if_false, e3, e4], HJ.out.more (by decide) hL rfl⟩
            | 6, ho =>
              simp only [List.getElem?_toArray, List.getElem?_cons_zero, List.getElem?_cons_succ, Option.some.injEq] at ho
              have e5 : V 5 = .pointer (some ⟨D, n, none⟩) := hJ.h 5 (hdep 5 (by rw [← ho]; kernel_rfl)) (by decide)
              have hr : (fun W : World => W.cell? ⟨p, 3, none⟩ = some (.slice (some ⟨D, 0, none⟩) S.m a2) ∧ W.cell? ⟨p, 4, none⟩ = some (.slice (some ⟨E, 0, none⟩) S.m a3) ∧ W.cell? ⟨D, n, none⟩ = some (.slice (some ⟨K n, 0, none⟩) S.n kc) ∧ W.cell? ⟨E, n, none⟩ = some (.slice (some ⟨C n, 0, none⟩) S.n cc)) w := hJ.rd (R := fun W => W.cell? ⟨p, 3, none⟩ = some (.slice (some ⟨D, 0, none⟩) S.m a2) ∧ W.cell? ⟨p, 4, none⟩ = some (.slice (some ⟨E, 0, none⟩) S.m a3) ∧ W.cell? ⟨D, n, none⟩ = some (.slice (some ⟨K n, 0, none⟩) S.n kc) ∧ W.cell? ⟨E, n, none⟩ = some (.slice (some ⟨C n, 0, none⟩) S.n cc)) HR.out
              obtain ⟨r0, r1, r2, r3⟩ := hr
              have HJ := Lib.hid hJ
              clear hJ
              subst ho
              refine Pj.Step.free rfl ?_
              simp only [Pj.puts, List.foldl_cons, List.foldl_nil, Act.put, List.setIfInBounds_toArray, List.set_cons_zero, List.set_cons_succ, e5]
              go_simp
              exact hKq _ _ ⟨Pj.vset V 6 (.slice (some ⟨K n, 0, none⟩) S.n kc), by simp only [Pj.puts, List.foldl_cons, List.foldl_nil, Act.put, List.setIfInBounds_toArray, List.set_cons_zero, List.set_cons_succ, Pj.vset, Nat.reduceEqDiff, if_true, if_false, e5], HJ.out.more (by decide) hL rfl⟩
            | 7, ho =>
              simp only [List.getElem?_toArray, List.getElem?_cons_zero, List.getElem?_cons_succ, Option.some.injEq] at ho
              have HJ := Lib.hid hJ
              clear hJ
              subst ho
              refine Pj.Step.free rfl ?_
              simp only [Pj.puts, List.foldl_cons, List.foldl_nil, Act.put, List.setIfInBounds_toArray, List.set_cons_zero, List.set_cons_succ]
              go_simp
              exact hKq _ _ ⟨Pj.vset V 7 (.int .i64 ((i : Nat) : Int)), by simp only [Pj.puts, List.foldl_cons, List.foldl_nil, Act.put, List.setIfInBounds_toArray, List.set_cons_zero, List.set_cons_succ, Pj.vset, Nat.reduceEqDiff, if_true, if_false], HJ.out.more (by decide) hL rfl⟩
            | 8, ho =>
              simp only [List.getElem?_toArray, List.getElem?_cons_zero, List.getElem?_cons_succ, Option.some.injEq] at ho
              have HJ := Lib.hid hJ
              clear hJ
              subst ho
              refine Pj.Step.free rfl ?_
              simp only [Pj.puts, List.foldl_cons, List.foldl_nil, Act.put, List.setIfInBounds_toArray, List.set_cons_zero, List.set_cons_succ]
              go_simp
              exact hKq _ _ ⟨Pj.vset V 8 (.pointer (some ⟨p, 0, none⟩)), by simp only [Pj.puts, List.foldl_cons, List.foldl_nil, Act.put, List.setIfInBounds_toArray, List.set_cons_zero, List.set_cons_succ, Pj.vset, Nat.reduceEqDiff, if_true, if_false], HJ.out.more (by decide) hL rfl⟩
            | 9, ho =>
              simp only [List.getElem?_toArray, List.getElem?_cons_zero, List.getElem?_cons_succ, Option.some.injEq] at ho
              have e8 : V 8 = .pointer (some ⟨p, 0, none⟩) := hJ.h 8 (hdep 8 (by rw [← ho]; kernel_rfl)) (by decide)
              have HJ := Lib.hid hJ
              clear hJ
              subst ho
              refine Pj.Step.free rfl ?_
              simp only [Pj.puts, List.foldl_cons, List.foldl_nil, Act.put, List.setIfInBounds_toArray, List.set_cons_zero, List.set_cons_succ, e8]
              go_simp
              exact hKq _ _ ⟨Pj.vset V 9 (.pointer (some ⟨p, 0, none⟩)), by simp only [Pj.puts, List.foldl_cons, List.foldl_nil, Act.put, List.setIfInBounds_toArray, List.set_cons_zero, List.set_cons_succ, Pj.vset, Nat.reduceEqDiff, if_true, if_false, e8], HJ.out.more (by decide) hL rfl⟩
            | 10, ho =>
              simp only [List.getElem?_toArray, List.getElem?_cons_zero, List.getElem?_cons_succ, Option.some.injEq] at ho
              have e9 : V 9 = .pointer (some ⟨p, 0, none⟩) := hJ.h 9 (hdep 9 (by rw [← ho]; kernel_rfl)) (by decide)
              have HJ := Lib.hid hJ
              clear hJ
              subst ho
              refine Pj.Step.free rfl ?_
              simp only [Pj.puts, List.foldl_cons, List.foldl_nil, Act.put, List.setIfInBounds_toArray, List.set_cons_zero, List.set_cons_succ, e9]
              go_simp
              exact hKq _ _ ⟨Pj.vset V 10 (.pointer (some ⟨p, 4, none⟩)), by simp only [Pj.puts, List.foldl_cons, List.foldl_nil, Act.put, List.setIfInBounds_toArray, List.set_cons_zero, List.set_cons_succ, Pj.vset, Nat.reduceEqDiff, if_true, if_false, e9], HJ.out.more (by decide) hL rfl⟩
            | 11, ho =>
              simp only [List.getElem?_toArray, List.getElem?_cons_zero, List.getElem?_cons_succ, Option.some.injEq] at ho
              have e10 : V 10 = .pointer (some ⟨p, 4, none⟩) := hJ.h 10 (hdep 10 (by rw [← ho]; kernel_rfl)) (by decide)
              have hr : (fun W : World => W.cell? ⟨p, 3, none⟩ = some (.slice (some ⟨D, 0, none⟩) S.m a2) ∧ W.cell? ⟨p, 4, none⟩ = some (.slice (some ⟨E, 0, none⟩) S.m a3) ∧ W.cell? ⟨D, n, none⟩ = some (.slice (some ⟨K n, 0, none⟩) S.n kc) ∧ W.cell? ⟨E, n, none⟩ = some (.slice (some ⟨C n, 0, none⟩) S.n cc)) w := hJ.rd (R := fun W => W.cell? ⟨p, 3, none⟩ = some (.slice (some ⟨D, 0, none⟩) S.m a2) ∧ W.cell? ⟨p, 4, none⟩ = some (.slice (some ⟨E, 0, none⟩) S.m a3) ∧ W.cell? ⟨D, n, none⟩ = some (.slice (some ⟨K n, 0, none⟩) S.n kc) ∧ W.cell? ⟨E, n, none⟩ = some (.slice (some ⟨C n, 0, none⟩) S.n cc)) HR.out
              obtain ⟨r0, r1, r2, r3⟩ := hr
              have HJ := Lib.hid hJ
              clear hJ
              subst ho
              refine Pj.Step.free rfl ?_
              simp only [Pj.puts, List.foldl_cons, List.foldl_nil, Act.put, List.setIfInBounds_toArray, List.set_cons_zero, List.set_cons_succ, e10]
              go_simp
              exact hKq _ _ ⟨Pj.vset V 11 (.slice (some ⟨E, 0, none⟩) S.m a3), by simp only [Pj.puts, List.foldl_cons, List.foldl_nil, Act.put, List.setIfInBounds_toArray, List.set_cons_zero, List.set_cons_succ, Pj.vset, Nat.reduceEqDiff, if_true, if_false, e10], HJ.out.more (by decide) hL rfl⟩
            | 12, ho =>
              simp only [List.getElem?_toArray, List.getElem?_cons_zero, List.getElem?_cons_succ, Option.some.injEq] at ho
              have HJ := Lib.hid hJ
              clear hJ
              subst ho
              refine Pj.Step.free rfl ?_
              simp only [Pj.puts, List.foldl_cons, List.foldl_nil, Act.put, List.setIfInBounds_toArray, List.set_cons_zero, List.set_cons_succ]
              go_simp
              exact hKq _ _ ⟨Pj.vset V 12 (.int .i64 ((n : Nat) : Int)), by simp only [Pj.puts, List.foldl_cons, List.foldl_nil, Act.put, List.setIfInBounds_toArray, List.set_cons_zero, List.set_cons_succ, Pj.vset, Nat.reduceEqDiff, if_true, if_false], HJ.out.more (by decide) hL rfl⟩
            | 13, ho =>
              simp only [List.getElem?_toArray, List.getElem?_cons_zero, List.getElem?_cons_succ, Option.some.injEq] at ho
              have e11 : V 11 = .slice (some ⟨E, 0, none⟩) S.m a3 := hJ.h 11 (hdep 11 (by rw [← ho]; kernel_rfl)) (by decide)
              have e12 : V 12 = .int .i64 ((n : Nat) : Int) := hJ.h 12 (hdep 12 (by rw [← ho]; kernel_rfl)) (by decide)
              have HJ := Lib.hid hJ
              clear hJ
              subst ho
              refine Pj.Step.free rfl ?_
              simp only [Pj.puts, List.foldl_cons, List.foldl_nil, Act.put, List.setIfInBounds_toArray, List.set_cons_zero, List.set_cons_succ, e11, e12]
              go_simp
              exact hKq _ _ ⟨Pj.vset V 13 (.pointer (some ⟨E, n, none⟩)), by simp only [Pj.puts, List.foldl_cons, List.foldl_nil, Act.put, List.setIfInBounds_toArray, List.set_cons_zero, List.set_cons_succ, Pj.vset, Nat.reduceEqDiff, if_true, if_false, e11, e12], HJ.out.more (by decide) hL rfl⟩
            | 14, ho =>
              simp only [List.getElem?_toArray, List.getElem?_cons_zero, List.getElem?_cons_succ, Option.some.injEq] at ho
              have e13 : V 13 = .pointer (some ⟨E, n, none⟩) := hJ.h 13 (hdep 13 (by rw [← ho]; kernel_rfl)) (by decide)
              have hr : (fun W : World => W.cell? ⟨p, 3, none⟩ = some (.slice (some ⟨D, 0, none⟩) S.m a2) ∧ W.cell? ⟨p, 4, none⟩ = some (.slice (some ⟨E, 0, none⟩) S.m a3) ∧ W.cell? ⟨D, n, none⟩ = some (.slice (some ⟨K n, 0, none⟩) S.n kc) ∧ W.cell? ⟨E, n, none⟩ = some (.slice (some ⟨C n, 0, none⟩) S.n cc)) w := hJ.rd (R := fun W => W.cell? ⟨p, 3, none⟩ = some (.slice (some ⟨D, 0, none⟩) S.m a2) ∧ W.cell? ⟨p, 4, none⟩ = some (.slice (some ⟨E, 0, none⟩) S.m a3) ∧ W.cell? ⟨D, n, none⟩ = some (.slice (some ⟨K n, 0, none⟩) S.n kc) ∧ W.cell? ⟨E, n, none⟩ = some (.slice (some ⟨C n, 0, none⟩) S.n cc)) HR.out
              obtain ⟨r0, r1, r2, r3⟩ := hr
              have HJ := Lib.hid hJ
              clear hJ
              subst ho
              refine Pj.Step.free rfl ?_
              simp only [Pj.puts, List.foldl_cons, List.foldl_nil, Act.put, List.setIfInBounds_toArray, List.set_cons_zero, List.set_cons_succ, e13]
              go_simp
              exact hKq _ _ ⟨Pj.vset V 14 (.slice (some ⟨C n, 0, none⟩) S.n cc), by simp only [Pj.puts, List.foldl_cons, List.foldl_nil, Act.put, List.setIfInBounds_toArray, List.set_cons_zero, List.set_cons_succ, Pj.vset, Nat.reduceEqDiff, if_true, if_false, e13], HJ.out.more (by decide) hL rfl⟩
            | 15, ho =>
              simp only [List.getElem?_toArray, List.getElem?_cons_zero, List.getElem?_cons_succ, Option.some.injEq] at ho
              have HJ := Lib.hid hJ
              clear hJ
              subst ho
              refine Pj.Step.free rfl ?_
              simp only [Pj.puts, List.foldl_cons, List.foldl_nil, Act.put, List.setIfInBounds_toArray, List.set_cons_zero, List.set_cons_succ]
              go_simp
              exact hKq _ _ ⟨Pj.vset V 15 (.int .i64 ((i : Nat) : Int)), by simp only [Pj.puts, List.foldl_cons, List.foldl_nil, Act.put, List.setIfInBounds_toArray, List.set_cons_zero, List.set_cons_succ, Pj.vset, Nat.reduceEqDiff, if_true, if_false], HJ.out.more (by decide) hL rfl⟩
            | 16, ho =>
              simp only [List.getElem?_toArray, List.getElem?_cons_zero, List.getElem?_cons_succ, Option.some.injEq] at ho
              have HJ := Lib.hid hJ
              clear hJ
              subst ho
              refine Pj.Step.free rfl ?_
              simp only [Pj.puts, List.foldl_cons, List.foldl_nil, Act.put, List.setIfInBounds_toArray, List.set_cons_zero, List.set_cons_succ]
              go_simp
              exact hKq _ _ ⟨Pj.vset V 16 (.pointer (some ⟨p, 0, none⟩)), by simp only [Pj.puts, List.foldl_cons, List.foldl_nil, Act.put, List.setIfInBounds_toArray, List.set_cons_zero, List.set_cons_succ, Pj.vset, Nat.reduceEqDiff, if_true, if_false], HJ.out.more (by decide) hL rfl⟩
            | 17, ho =>
              simp only [List.getElem?_toArray, List.getElem?_cons_zero, List.getElem?_cons_succ, Option.some.injEq] at ho
              have e16 : V 16 = .pointer (some ⟨p, 0, none⟩) := hJ.h 16 (hdep 16 (by rw [← ho]; kernel_rfl)) (by decide)
              have HJ := Lib.hid hJ
              clear hJ
              subst ho
              refine Pj.Step.free rfl ?_
              simp only [Pj.puts, List.foldl_cons, List.foldl_nil, Act.put, List.setIfInBounds_toArray, List.set_cons_zero, List.set_cons_succ, e16]
              go_simp
              exact hKq _ _ ⟨Pj.vset V 17 (.pointer (some ⟨p, 0, none⟩)), by simp only [Pj.puts, List.foldl_cons, List.foldl_nil, Act.put, List.setIfInBounds_toArray, List.set_cons_zero, List.set_cons_succ, Pj.vset, Nat.reduceEqDiff, if_true, if_false, e16], HJ.out.more (by decide) hL rfl⟩
            | 18, ho =>
              simp only [List.getElem?_toArray, List.getElem?_cons_zero, List.getElem?_cons_succ, Option.some.injEq] at ho
              have e17 : V 17 = .pointer (some ⟨p, 0, none⟩) := hJ.h 17 (hdep 17 (by rw [← ho]; kernel_rfl)) (by decide)
              have HJ := Lib.hid hJ
              clear hJ
              subst ho
              refine Pj.Step.free rfl ?_
              simp only [Pj.puts, List.foldl_cons, List.foldl_nil, Act.put, List.setIfInBounds_toArray, List.set_cons_zero, List.set_cons_succ, e17]
              go_simp
              exact hKq _ _ ⟨Pj.vset V 18 (.pointer (some ⟨p, 4, none⟩)), by simp only [Pj.puts, List.foldl_cons, List.foldl_nil, Act.put, List.setIfInBounds_toArray, List.set_cons_zero, List.set_cons_succ, Pj.vset, Nat.reduceEqDiff, if_true, if_false, e17], HJ.out.more (by decide) hL rfl⟩
            | 19, ho =>
              simp only [List.getElem?_toArray, List.getElem?_cons_zero, List.getElem?_cons_succ, Option.some.injEq] at ho
              have e18 : V 18 = .pointer (some ⟨p, 4, none⟩) := hJ.h 18 (hdep 18 (by rw [← ho]; kernel_rfl)) (by decide)
              have hr : (fun W : World => W.cell? ⟨p, 3, none⟩ = some (.slice (some ⟨D, 0, none⟩) S.m a2) ∧ W.cell? ⟨p, 4, none⟩ = some (.slice (some ⟨E, 0, none⟩) S.m a3) ∧ W.cell? ⟨D, n, none⟩ = some (.slice (some ⟨K n, 0, none⟩) S.n kc) ∧ W.cell? ⟨E, n, none⟩ = some (.slice (some ⟨C n, 0, none⟩) S.n cc)) w := hJ.rd (R := fun W => W.cell? ⟨p, 3, none⟩ = some (.slice (some ⟨D, 0, none⟩) S.m a2) ∧ W.cell? ⟨p, 4, none⟩ = some (.slice (some ⟨E, 0, none⟩) S.m a3) ∧ W.cell? ⟨D, n, none⟩ = some (.slice (some ⟨K n, 0, none⟩) S.n kc) ∧ W.cell? ⟨E, n, none⟩ = some (.slice (some ⟨C n, 0, none⟩) S.n cc)) HR.out
              obtain ⟨r0, r1, r2, r3⟩ := hr
              have HJ := Lib.hid hJ
              clear hJ
              subst ho
              refine Pj.Step.free rfl ?_
              simp only [Pj.puts, List.foldl_cons, List.foldl_nil, Act.put, List.setIfInBounds_toArray, List.set_cons_zero, List.set_cons_succ, e18]
              go_simp
              exact hKq _ _ ⟨Pj.vset V 19 (.slice (some ⟨E, 0, none⟩) S.m a3), by simp only [Pj.puts, List.foldl_cons, List.foldl_nil, Act.put, List.setIfInBounds_toArray, List.set_cons_zero, List.set_cons_succ, Pj.vset, Nat.reduceEqDiff, if_true, if_false, e18], HJ.out.more (by decide) hL rfl⟩
            | 20, ho =>
              simp only [List.getElem?_toArray, List.getElem?_cons_zero, List.getElem?_cons_succ, Option.some.injEq] at ho
              have HJ := Lib.hid hJ
              clear hJ
              subst ho
              refine Pj.Step.free rfl ?_
              simp only [Pj.puts, List.foldl_cons, List.foldl_nil, Act.put, List.setIfInBounds_toArray, List.set_cons_zero, List.set_cons_succ]
              go_simp
              exact hKq _ _ ⟨Pj.vset V 20 (.int .i64 ((n : Nat) : Int)), by simp only [Pj.puts, List.foldl_cons, List.foldl_nil, Act.put, List.setIfInBounds_toArray, List.set_cons_zero, List.set_cons_succ, Pj.vset, Nat.reduceEqDiff, if_true, if_false], HJ.out.more (by decide) hL rfl⟩
            | 21, ho =>
              simp only [List.getElem?_toArray, List.getElem?_cons_zero, List.getElem?_cons_succ, Option.some.injEq] at ho
              have e19 : V 19 = .slice (some ⟨E, 0, none⟩) S.m a3 := hJ.h 19 (hdep 19 (by rw [← ho]; kernel_rfl)) (by decide)
              have e20 : V 20 = .int .i64 ((n : Nat) : Int) := hJ.h 20 (hdep 20 (by rw [← ho]; kernel_rfl)) (by decide)
              have HJ := Lib.hid hJ
              clear hJ
              subst ho
              refine Pj.Step.free rfl ?_
              simp only [Pj.puts, List.foldl_cons, List.foldl_nil, Act.put, List.setIfInBounds_toArray, List.set_cons_zero, List.set_cons_succ, e19, e20]
              go_simp
              exact hKq _ _ ⟨Pj.vset V 21 (.pointer (some ⟨E, n, none⟩)), by simp only [Pj.puts, List.foldl_cons, List.foldl_nil, Act.put, List.setIfInBounds_toArray, List.set_cons_zero, List.set_cons_succ, Pj.vset, Nat.reduceEqDiff, if_true, if_false, e19, e20], HJ.out.more (by decide) hL rfl⟩
            | 22, ho =>
              simp only [List.getElem?_toArray, List.getElem?_cons_zero, List.getElem?_cons_succ, Option.some.injEq] at ho
              have e21 : V 21 = .pointer (some ⟨E, n, none⟩) := hJ.h 21 (hdep 21 (by rw [← ho]; kernel_rfl)) (by decide)
              have hr : (fun W : World => W.cell? ⟨p, 3, none⟩ = some (.slice (some ⟨D, 0, none⟩) S.m a2) ∧ W.cell? ⟨p, 4, none⟩ = some (.slice (some ⟨E, 0, none⟩) S.m a3) ∧ W.cell? ⟨D, n, none⟩ = some (.slice (some ⟨K n, 0, none⟩) S.n kc) ∧ W.cell? ⟨E, n, none⟩ = some (.slice (some ⟨C n, 0, none⟩) S.n cc)) w := hJ.rd (R := fun W => W.cell? ⟨p, 3, none⟩ = some (.slice (some ⟨D, 0, none⟩) S.m a2) ∧ W.cell? ⟨p, 4, none⟩ = some (.slice (some ⟨E, 0, none⟩) S.m a3) ∧ W.cell? ⟨D, n, none⟩ = some (.slice (some ⟨K n, 0, none⟩) S.n kc) ∧ W.cell? ⟨E, n, none⟩ = some (.slice (some ⟨C n, 0, none⟩) S.n cc)) HR.out
              obtain ⟨r0, r1, r2, r3⟩ := hr
              have HJ := Lib.hid hJ
              clear hJ
              subst ho
              refine Pj.Step.free rfl ?_
              simp only [Pj.puts, List.foldl_cons, List.foldl_nil, Act.put, List.setIfInBounds_toArray, List.set_cons_zero, List.set_cons_succ, e21]
              go_simp
              exact hKq _ _ ⟨Pj.vset V 22 (.slice (some ⟨C n, 0, none⟩) S.n cc), by simp only [Pj.puts, List.foldl_cons, List.foldl_nil, Act.put, List.setIfInBounds_toArray, List.set_cons_zero, List.set_cons_succ, Pj.vset, Nat.reduceEqDiff, if_true, if_false, e21], HJ.out.more (by decide) hL rfl⟩
            | 23, ho =>
              simp only [List.getElem?_toArray, List.getElem?_cons_zero, List.getElem?_cons_succ, Option.some.injEq] at ho
              have HJ := Lib.hid hJ
              clear hJ
              subst ho
              refine Pj.Step.free rfl ?_
              simp only [Pj.puts, List.foldl_cons, List.foldl_nil, Act.put, List.setIfInBounds_toArray, List.set_cons_zero, List.set_cons_succ]
              go_simp
              exact hKq _ _ ⟨Pj.vset V 23 (.int .i64 ((i : Nat) : Int)), by simp only [Pj.puts, List.foldl_cons, List.foldl_nil, Act.put, List.setIfInBounds_toArray, List.set_cons_zero, List.set_cons_succ, Pj.vset, Nat.reduceEqDiff, if_true, if_false], HJ.out.more (by decide) hL rfl⟩
            | 24, ho =>
              simp only [List.getElem?_toArray, List.getElem?_cons_zero, List.getElem?_cons_succ, Option.some.injEq] at ho
              have e22 : V 22 = .slice (some ⟨C n, 0, none⟩) S.n cc := hJ.h 22 (hdep 22 (by rw [← ho]; kernel_rfl)) (by decide)
              have e23 : V 23 = .int .i64 ((i : Nat) : Int) := hJ.h 23 (hdep 23 (by rw [← ho]; kernel_rfl)) (by decide)
              have HJ := Lib.hid hJ
              clear hJ
              subst ho
              refine Pj.Step.free rfl ?_
              simp only [Pj.puts, List.foldl_cons, List.foldl_nil, Act.put, List.setIfInBounds_toArray, List.set_cons_zero, List.set_cons_succ, e22, e23]
              go_simp
              exact hKq _ _ ⟨Pj.vset V 24 (.pointer (some ⟨C n, i, none⟩)), by simp only [Pj.puts, List.foldl_cons, List.foldl_nil, Act.put, List.setIfInBounds_toArray, List.set_cons_zero, List.set_cons_succ, Pj.vset, Nat.reduceEqDiff, if_true, if_false, e22, e23], HJ.out.more (by decide) hL rfl⟩
            | 25, ho =>
              simp only [List.getElem?_toArray, List.getElem?_cons_zero, List.getElem?_cons_succ, Option.some.injEq] at ho
              have e24 : V 24 = .pointer (some ⟨C n, i, none⟩) := hJ.h 24 (hdep 24 (by rw [← ho]; kernel_rfl)) (by decide)
              have hr : (fun W : World => W.cell? ⟨C n, i, none⟩ = some (.string t)) w := hJ.rdLe hopen 1 (by decide) (by kernel_rfl) (R := fun W => W.cell? ⟨C n, i, none⟩ = some (.string t)) HR2.out
              change w.cell? ⟨C n, i, none⟩ = some (.string t) at hr
              have HJ := Lib.hid hJ
              clear hJ
              subst ho
              refine Pj.Step.free rfl ?_
              simp only [Pj.puts, List.foldl_cons, List.foldl_nil, Act.put, List.setIfInBounds_toArray, List.set_cons_zero, List.set_cons_succ, e24]
              go_simp
              exact hKq _ _ ⟨Pj.vset V 25 (.string t), by simp only [Pj.puts, List.foldl_cons, List.foldl_nil, Act.put, List.setIfInBounds_toArray, List.set_cons_zero, List.set_cons_succ, Pj.vset, Nat.reduceEqDiff, if_true, if_false, e24], HJ.out.more (by decide) hL rfl⟩
            | 26, ho =>
              simp only [List.getElem?_toArray, List.getElem?_cons_zero, List.getElem?_cons_succ, Option.some.injEq] at ho
              have e6 : V 6 = .slice (some ⟨K n, 0, none⟩) S.n kc := hJ.h 6 (hdep 6 (by rw [← ho]; kernel_rfl)) (by decide)
              have e7 : V 7 = .int .i64 ((i : Nat) : Int) := hJ.h 7 (hdep 7 (by rw [← ho]; kernel_rfl)) (by decide)
              have HJ := Lib.hid hJ
              clear hJ
              subst ho
              refine Pj.Step.free rfl ?_
              simp only [Pj.puts, List.foldl_cons, List.foldl_nil, Act.put, List.setIfInBounds_toArray, List.set_cons_zero, List.set_cons_succ, e6, e7]
              go_simp
              exact hKq _ _ ⟨Pj.vset V 26 (.pointer (some ⟨K n, i, none⟩)), by simp only [Pj.puts, List.foldl_cons, List.foldl_nil, Act.put, List.setIfInBounds_toArray, List.set_cons_zero, List.set_cons_succ, Pj.vset, Nat.reduceEqDiff, if_true, if_false, e6, e7], HJ.out.more (by decide) hL rfl⟩
            | 27, ho =>
              simp only [List.getElem?_toArray, List.getElem?_cons_zero, List.getElem?_cons_succ, Option.some.injEq] at ho
              have e26 : V 26 = .pointer (some ⟨K n, i, none⟩) := hJ.h 26 (hdep 26 (by rw [← ho]; kernel_rfl)) (by decide)
              have e25 : V 25 = .string t := hJ.h 25 (hdep 25 (by rw [← ho]; kernel_rfl)) (by decide)
              have hpv : 0 = 0 ∨ L (([27, 29] : List Nat).getD (0 - 1) 0) := .inl rfl
              obtain rfl : w = wr.drew := hJ.at 0 (by decide) rfl hopen hpv
              have HJ := Lib.hid hJ
              clear hJ
              subst ho
              refine Pj.Step.free rfl ?_
              simp only [Pj.puts, List.foldl_cons, List.foldl_nil, Act.put, List.setIfInBounds_toArray, List.set_cons_zero, List.set_cons_succ, e26, e25]
              go_simp
              exact hKq _ _ ⟨Pj.vset V 27 (undef), by simp only [Pj.puts, List.foldl_cons, List.foldl_nil, Act.put, List.setIfInBounds_toArray, List.set_cons_zero, List.set_cons_succ, Pj.vset, Nat.reduceEqDiff, if_false, e26, e25], HJ.out.step 0 (by decide) rfl (by decide) rfl hopen rfl hL hdep hpv rfl⟩
            | 28, ho =>
              simp only [List.getElem?_toArray, List.getElem?_cons_zero, List.getElem?_cons_succ, Option.some.injEq] at ho
              have e14 : V 14 = .slice (some ⟨C n, 0, none⟩) S.n cc := hJ.h 14 (hdep 14 (by rw [← ho]; kernel_rfl)) (by decide)
              have e15 : V 15 = .int .i64 ((i : Nat) : Int) := hJ.h 15 (hdep 15 (by rw [← ho]; kernel_rfl)) (by decide)
              have HJ := Lib.hid hJ
              clear hJ
              subst ho
              refine Pj.Step.free rfl ?_
              simp only [Pj.puts, List.foldl_cons, List.foldl_nil, Act.put, List.setIfInBounds_toArray, List.set_cons_zero, List.set_cons_succ, e14, e15]
              go_simp
              exact hKq _ _ ⟨Pj.vset V 28 (.pointer (some ⟨C n, i, none⟩)), by simp only [Pj.puts, List.foldl_cons, List.foldl_nil, Act.put, List.setIfInBounds_toArray, List.set_cons_zero, List.set_cons_succ, Pj.vset, Nat.reduceEqDiff, if_true, if_false, e14, e15], HJ.out.more (by decide) hL rfl⟩
            | 29, ho =>
              simp only [List.getElem?_toArray, List.getElem?_cons_zero, List.getElem?_cons_succ, Option.some.injEq] at ho
              have e28 : V 28 = .pointer (some ⟨C n, i, none⟩) := hJ.h 28 (hdep 28 (by rw [← ho]; kernel_rfl)) (by decide)
              have hpv : 1 = 0 ∨ L (([27, 29] : List Nat).getD (1 - 1) 0) := .inr (hdep 27 (by rw [← ho]; kernel_rfl))
              obtain rfl : w = (wr.drew.setCell ⟨K n, i, none⟩ (.string t)) := hJ.at 1 (by decide) rfl hopen hpv
              have HJ := Lib.hid hJ
              clear hJ
              subst ho
              refine Pj.Step.free rfl ?_
              simp only [Pj.puts, List.foldl_cons, List.foldl_nil, Act.put, List.setIfInBounds_toArray, List.set_cons_zero, List.set_cons_succ, e28]
              go_simp
              exact hKq _ _ ⟨Pj.vset V 29 (undef), by simp only [Pj.puts, List.foldl_cons, List.foldl_nil, Act.put, List.setIfInBounds_toArray, List.set_cons_zero, List.set_cons_succ, Pj.vset, Nat.reduceEqDiff, if_false, e28], HJ.out.step 1 (by decide) rfl (by decide) rfl hopen rfl hL hdep hpv rfl⟩
            | n + 30, ho => simp at ho
          case ehe =>
            intro V hv
            simp only [Pj.puts, List.foldl_cons, List.foldl_nil, Act.put, List.setIfInBounds_toArray, List.set_cons_zero, List.set_cons_succ]
            clear hv 
            have kd := (Kept.refl wr).drew
            have hq1 := (HPI.out.kept kd).setK (d := n) hn (upF_same _ _ _) i t
            rw [putD_putD] at hq1
            have hq2 := hq1.setC (d := n) hn (upF_same _ _ _) i ByteArray.empty
            rw [putD_putD] at hq2
            dsimp only at hq2
            rw [← HFE.out] at hq2
            have HQ := Lib.hid hq2
            have HNQ := Lib.hid (((HNI.out.trans (RfN.of_kept kd (Nat.le_trans HB.out.2.2 HNI.out.but.size))).trans (RfN.of_one (Below.setCell (Below.refl _ _) (p := ⟨K n, i, none⟩) (HB.out.2.1 n hn).1 (.string t)) (CellsBut.setCell wr.drew (.string t) rfl) (.inr (.inr (.inr (.inr ⟨n, hn, .inl rfl⟩)))))).trans (RfN.of_one (Below.setCell (Below.refl _ _) (p := ⟨C n, i, none⟩) (HB.out.2.1 n hn).2 (.string ByteArray.empty)) (CellsBut.setCell (wr.drew.setCell ⟨K n, i, none⟩ (.string t)) (.string ByteArray.empty) rfl) (.inr (.inr (.inr (.inr ⟨n, hn, .inr rfl⟩))))))
            clear hq1 hq2 kd
            show Exit.inBlock _ _ _ _ ((wr.drew.setCell ⟨K n, i, none⟩ (.string t)).setCell ⟨C n, i, none⟩ (.string ByteArray.empty))
            generalize ((wr.drew.setCell ⟨K n, i, none⟩ (.string t)).setCell ⟨C n, i, none⟩ (.string ByteArray.empty)) = w5 at *
            go_wp2
            go_roundw
            case rel => exact ⟨i + 1, by omega, by go_num, HQ.out, HNQ.out⟩
            case measure => simp [intOf]; omega
      · obtain rfl : i = S.n := by omega
        have hd1 : decide ((S.n : Int) < S.n) = false := decide_eq_false (by omega)
        have HC := Lib.hid (changes_ar hp HB.out.1 hg hl)
        clear hp
        go_wp2_with fail
        refine HC.out.mono ?_
        rintro e w4 ⟨rfl, hp4, hn4⟩
        have HP4 := Lib.hid hp4
        have HN4 := Lib.hid (HNI.out.trans hn4)
        clear hp4 hn4 HC
        go_wp2
        go_ret
        exact ⟨rfl, HP4.out, HN4.out⟩
  · rw [flush_ask h0]
    dsimp only
    have h0b : (askedF S d true == 0) = false := by simpa using h0
    generalize askedF S d true = V at *
    clear h0
    go_enter Try.func30, Try.ntmps30
    go_wp2_with fail
    refine HAS.out.mono ?_
    rintro e w2 ⟨rfl, hk⟩
    have HK := Lib.hid hk
    clear hk HAS
    go_wp2
    go_ret
    exact ⟨rfl, HP.out.kept HK.out, RfN.of_kept HK.out HB.out.2.2⟩
end Go.Proofs.Ytkfomaoillnehaa
