/- silolaw10.only and the laws by it: a script of changed acts is played (no conditions). -/
import Derived.Test.YtkfomaoillnehaaVc
import Derived.Test.YtkfomaoillnehaaAl17
import Derived.Maps.AppendAt
namespace Go.Proofs.Ytkfomaoillnehaa
open Go.RowKit
structure AcX where
  x : Ac
  a : Option Addr
  c : Nat
def ax00 : AcX := ⟨ac00, none, 0⟩
def axC (z : AcX) : List Value := [.int .i64 z.x.k, .int .i64 z.x.d, .int .i64 z.x.s, .int .i64 z.x.n, .string z.x.t, .slice z.a z.x.l.length z.c]
theorem axC_at : ∀ (ts : List AcX) (i : Nat), i < ts.length → (ts.flatMap axC)[i * 6]? = some (.int .i64 (ts.getD i ax00).x.k) ∧ (ts.flatMap axC)[i * 6 + 1]? = some (.int .i64 (ts.getD i ax00).x.d) ∧ (ts.flatMap axC)[i * 6 + 2]? = some (.int .i64 (ts.getD i ax00).x.s) ∧ (ts.flatMap axC)[i * 6 + 3]? = some (.int .i64 (ts.getD i ax00).x.n) ∧ (ts.flatMap axC)[i * 6 + 4]? = some (.string (ts.getD i ax00).x.t) ∧ (ts.flatMap axC)[i * 6 + 5]? = some (.slice (ts.getD i ax00).a (ts.getD i ax00).x.l.length (ts.getD i ax00).c)
  | [], i, h => by simp at h
  | x :: r, 0, _ => ⟨rfl, rfl, rfl, rfl, rfl, rfl⟩
  | x :: r, i + 1, h => by
    have := axC_at r i (by simpa using h)
    rw [show (i + 1) * 6 = i * 6 + 6 by omega]
    simpa [List.flatMap_cons, axC, List.getD] using this
theorem axC_one (ts : List AcX) : ∀ u ∈ ts.flatMap axC, u.oneCell' = true := fun u hu => by
  obtain ⟨x, _, hx⟩ := List.mem_flatMap.1 hu
  simp [axC] at hx
  rcases hx with rfl | rfl | rfl | rfl | rfl | rfl <;> rfl
theorem ax_snoc (qs : List AcX) (x : AcX) : (qs ++ [x]).flatMap axC = qs.flatMap axC ++ axC x := by simp [List.flatMap_append]
/-- what the acts bear -/
def AxOk (W : World) (z : AcX) : Prop := IntsIn W .i64 z.a z.x.l.length z.x.l ∧ z.x.t.size ≤ 140737488355328 ∧ z.x.l.length ≤ 140737488355328 ∧ (-9223372036854775808 ≤ z.x.k ∧ z.x.k ≤ 9223372036854775807) ∧ (-9223372036854775808 ≤ z.x.d ∧ z.x.d ≤ 9223372036854775807) ∧ (-9223372036854775808 ≤ z.x.s ∧ z.x.s ≤ 9223372036854775807) ∧ (-9223372036854775808 ≤ z.x.n ∧ z.x.n ≤ 9223372036854775807)
theorem ax_own {W w : World} {base l : Nat} {v : Value} {ts : List AcX} (ho : w.ownsRow base 37 6 v l (ts.flatMap axC)) (hl : ts.length = l) (hf : l ≤ 1954687338268) (k : Kept W w) (hs : ∀ z ∈ ts, AxOk W z) :
    ∃ a cap, v = .slice a l cap ∧ ActsIn w a l (ts.map (·.x)) := by
  rcases ho.2 with ⟨rfl, rfl⟩ | ⟨g, cap, cur, rfl, hb, hg, hn, hm, _⟩
  · exact ⟨none, 0, rfl, by simpa using hl, by omega, 0, 0, fun h => absurd h (Nat.lt_irrefl 0), fun i hi => absurd hi (Nat.not_lt_zero i)⟩
  · refine ⟨_, cap, rfl, by simpa using hl, hf, g, 0, fun _ => rfl, fun i hi => ?_⟩
    obtain ⟨h0, h1, h2, h3, h4, h5⟩ := axC_at ts i (by omega)
    have hil : i < ts.length := by omega
    have hz := hs (ts.getD i ax00) (by simp [List.getD, hil])
    have hx : (ts.map (·.x)).getD i ac00 = (ts.getD i ax00).x := by simp [List.getD, hil]
    rw [hx]
    generalize ts.getD i ax00 = z at *
    obtain ⟨z1, z2, z3, z4, z5, z6, z7⟩ := hz
    refine ⟨z.a, z.c, z1.kept k, z2, z3, z4, z5, z6, z7, (ho.lt g rfl).2, ?_, ?_, ?_, ?_, ?_, ?_⟩
    · rw [Nat.zero_add, ho.cellAt _ (by omega), h0]
    · rw [Nat.zero_add, ho.cellAt _ (by omega), h1]
    · rw [Nat.zero_add, ho.cellAt _ (by omega), h2]
    · rw [Nat.zero_add, ho.cellAt _ (by omega), h3]
    · rw [Nat.zero_add, ho.cellAt _ (by omega), h4]
    · rw [Nat.zero_add, ho.cellAt _ (by omega), h5]
theorem Try.infoAct : (Try.prog.info? 37).map (fun i => (i.zero, i.size, i.bytes)) = some (some (.agg #[.int .i64 0, .int .i64 0, .int .i64 0, .int .i64 0, .string ByteArray.empty, .slice none 0 0]), 6, 72) := by kernel_rfl
theorem info_act (P : Program) (h : (P.info? 37).map (fun i => (i.zero, i.size, i.bytes)) = some (some (.agg #[.int .i64 0, .int .i64 0, .int .i64 0, .int .i64 0, .string ByteArray.empty, .slice none 0 0]), 6, 72)) :
    ∃ i0, P.info? 37 = some i0 ∧ i0.zero = some (.agg #[.int .i64 0, .int .i64 0, .int .i64 0, .int .i64 0, .string ByteArray.empty, .slice none 0 0]) ∧ i0.size = 6 ∧ i0.bytes = 72 := by
  obtain ⟨i0, hi, he⟩ := Option.map_eq_some_iff.1 h
  simp only [Prod.mk.injEq] at he
  exact ⟨i0, hi, he.1, he.2.1, he.2.2⟩
theorem axC_new (w : World) (z : AcX) (t : TypeId) : ∀ j u, (axC z)[j]? = some u → (w.alloc (.cells #[.int .i64 z.x.k, .int .i64 z.x.d, .int .i64 z.x.s, .int .i64 z.x.n, .string z.x.t, .slice z.a z.x.l.length z.c] t)).cell? ((⟨w.heap.size, 0, none⟩ : Addr).add j) = some u := by
  intro j u hj
  rw [show (⟨w.heap.size, 0, none⟩ : Addr).add j = ⟨w.heap.size, j, none⟩ by unfold Addr.add; split <;> simp_all, cell_new]
  match j, hj with
  | 0, hj => exact hj
  | 1, hj => exact hj
  | 2, hj => exact hj
  | 3, hj => exact hj
  | 4, hj => exact hj
  | 5, hj => exact hj
  | j + 6, hj => simp [axC] at hj
theorem own_nul (w : World) (base : Nat) (e : TypeId) (k : Nat) : w.ownsRow base e k (.slice none 0 0) 0 [] := ⟨by simp, .inl ⟨rfl, rfl⟩⟩
theorem own_far {A B : World} {base g k n : Nat} {C : Array Value} {e t : TypeId} {v : Value} {xs : List Value} (h : A.ownsRow base e k v n xs) (hg : BlockAt A g C t) (ht : t ≠ e) (q : A.grownBy B (some g)) : B.ownsRow base e k v n xs := by
  refine ⟨h.1, ?_⟩
  rcases h.2 with hn | ⟨g', cap, cur, hv, hb, hg', rest⟩
  · exact .inl hn
  · refine .inr ⟨g', cap, cur, hv, hb, (q.block g' (Array.getElem?_eq_some_iff.1 hg').1 (fun e2 => ?_)).trans hg', rest⟩
    obtain rfl : g = g' := (Option.some.inj e2).symm
    have e2 := Eq.trans (Eq.symm (show A.heap[g]? = _ from hg)) hg'
    cases e2
    exact ht rfl
theorem own_shape {w : World} {base k n : Nat} {e : TypeId} {v : Value} {xs : List Value} (h : w.ownsRow base e k v n xs) : ∃ a c, v = .slice a n c := by
  rcases h.2 with ⟨rfl, rfl⟩ | ⟨g, cap, _, rfl, _⟩
  · exact ⟨_, _, rfl⟩
  · exact ⟨_, _, rfl⟩
end Go.Proofs.Ytkfomaoillnehaa
namespace Go.Proofs.Ytkfomaoillnehaa
open Go.RowKit
attribute [local go_sem] Oper.semAt_some
set_option maxRecDepth 100000 in
set_option maxHeartbeats 4000000 in
theorem only10 (m nn : Int) (aO : Option Addr) (len cO : Nat) (os : List Ac) (bk n : Nat) (hn : 0 < n) (hn2 : n ≤ 100) (wo : World) (hm : -9223372036854775808 ≤ m ∧ m ≤ 9223372036854775807) (hnn : -9223372036854775808 ≤ nn ∧ nn ≤ 9223372036854775807) (hO : ActsIn wo aO len os)
    (hks : ∀ i, i < n → ∃ x : Int, (-9223372036854775808 ≤ x ∧ x ≤ 9223372036854775807) ∧ ∀ w9, Kept wo w9 → w9.cell? ⟨bk, i, none⟩ = some (.int .i64 x)) :
    Calls Try.prog 26 #[.agg #[.int .i64 m, .int .i64 nn, .slice aO len cO], .slice (some ⟨bk, 0, none⟩) n n] wo fun e w' => e = .returned (.bool true) ∧ Kept wo w' := by
  have HMD := Lib.hid (fun a c qs w9 (h : ActsIn w9 a len qs) => array_exact m nn a len c qs w9 hm hnn h)
  have HOS := Lib.hid (fun i (hi : i < len) => show ∃ b off, aO = some ⟨b, off, none⟩ ∧ ActCell wo b (off + i * 6) (os.getD i ac00) from by
    obtain ⟨b, off, ha, hc⟩ := hO.cells
    exact ⟨b, off, ha (by omega), hc i hi⟩)
  have HKS := Lib.hid hks
  have hle2 := hO.few
  clear hO hks hm hnn
  have HB := Lib.hid (BlockAt.new wo #[.int .i64 m, .int .i64 nn, .slice aO len cO] 24)
  have HK := Lib.hid ((Kept.refl wo).alloc (.cells #[.int .i64 m, .int .i64 nn, .slice aO len cO] 24))
  have HS1 := Lib.hid (show (wo.alloc (.cells #[.int .i64 m, .int .i64 nn, .slice aO len cO] 24)).heap.size = wo.heap.size + 1 by simp [World.size_alloc])
  go_enter Try.func26, Try.ntmps26
  go_upto_region 1 with (fail)
  generalize wo.alloc (.cells #[.int .i64 m, .int .i64 nn, .slice aO len cO] 24) = w1 at *
  obtain ⟨r0, r1, r2⟩ := box3a HB.out
  go_upto_region 3 with (fail)
  have ka := (Kept.refl w1).alloc (.cells #[.int .i64 m, .int .i64 nn, .slice none 0 0] 24)
  have HP := Lib.hid (BlockAt.new w1 #[.int .i64 m, .int .i64 nn, .slice none 0 0] 24)
  have HK2 := Lib.hid (HK.out.trans ka)
  have HB2 := Lib.hid (HB.out.kept ka)
  clear ka HB HK r0 r1 r2
  have HS2 := Lib.hid (show (w1.alloc (.cells #[.int .i64 m, .int .i64 nn, .slice none 0 0] 24)).heap.size = w1.heap.size + 1 by simp [World.size_alloc])
  generalize w1.alloc (.cells #[.int .i64 m, .int .i64 nn, .slice none 0 0] 24) = w2 at *
  obtain ⟨p, hp⟩ : ∃ p, p = w1.heap.size := ⟨_, rfl⟩
  generalize w1.heap.size = p at *
  have HPO := Lib.hid (show wo.heap.size < p by have := HS1.out; omega)
  have HPB := Lib.hid (show p < w2.heap.size by have := HS2.out; omega)
  clear HS1 HS2
  go_wp2_with fail
  go_loopw [6] (fun kv wr => ∃ (k : Nat) (a : Option Addr) (c : Nat) (qs : List AcX), k ≤ len ∧ kv = .int .i64 k ∧ Hid (qs.length = k) ∧ Hid (∀ z ∈ qs, AxOk wo z) ∧ Hid (BlockAt wr p #[.int .i64 m, .int .i64 nn, .slice a k c] 24) ∧ Hid (wr.ownsRow w2.heap.size 37 6 (.slice a k c) k (qs.flatMap axC)) ∧ Hid (Kept wo wr) ∧ Hid (BlockAt wr wo.heap.size #[.int .i64 m, .int .i64 nn, .slice aO len cO] 24) ∧ Hid (w2.heap.size ≤ wr.heap.size)) (fun kv _ => len - (intOf kv).toNat)
  case atStart => exact ⟨0, none, 0, [], by omega, rfl, Lib.hid rfl, Lib.hid (fun x hx => by cases hx), HP, Lib.hid (own_nul _ _ _ _), HK2, HB2, Lib.hid (Nat.le_refl _)⟩
  case round =>
    clear HP HK2 HB2
    rename World => wr
    obtain ⟨k, a, c, qs, hk, rfl, HL, HQ, HP, HOW, HKR, HBR, HSZ⟩ := hrel
    obtain ⟨r0, r1, r2⟩ := box3a HBR.out
    obtain ⟨s0, s1, s2⟩ := box3a HP.out
    by_cases hlk : k < len
    · have hd1 : decide (k < len) = true := decide_eq_true hlk
      have hd1i : decide ((k : Int) < (len : Int)) = true := decide_eq_true (by omega)
      obtain ⟨bo, of, rfl, hact⟩ := HOS.out k hlk
      obtain ⟨al, cl, q1, q2, q3, q4, q5, q6, q7, q8, e0, e1, e2, e3, e4, e5⟩ := hact
      have c0 := HKR.out.cell q8 e0
      have c1 := HKR.out.cell q8 e1
      have c2 := HKR.out.cell q8 e2
      have c3 := HKR.out.cell q8 e3
      have c4 := HKR.out.cell q8 e4
      have c5 := HKR.out.cell q8 e5
      have HZ := Lib.hid (And.intro q1 (And.intro q2 (And.intro q3 (And.intro q5 (And.intro q6 q7)))))
      clear q1 q2 q3 q4 q5 q6 q7 q8 e0 e1 e2 e3 e4 e5
      generalize os.getD k ac00 = o at *
      obtain ⟨xk, xd, xs9, xn, xt, xl⟩ := o
      dsimp only at c0 c1 c2 c3 c4 c5 HZ
      obtain ⟨mm, hmm⟩ : ∃ mm, mm = k % n := ⟨_, rfl⟩
      have hmn : mm < n := by rw [hmm]; exact Nat.mod_lt _ hn
      have f1 : (k : Int) % (n : Int) = (mm : Int) := by rw [hmm]; simp
      have f1t : (k : Int).tmod (n : Int) = (mm : Int) := by rw [Int.tmod_eq_emod_of_nonneg (by omega)]; exact f1
      have hl1 : ((n : Int) == 0) = false := by rw [beq_eq_false_iff_ne]; omega
      obtain ⟨kd, hkb, hkd⟩ := HKS.out mm hmn
      have d0 := hkd wr HKR.out
      have d1 := hkd (wr.alloc (.cells #[.int .i64 xk, .int .i64 xd, .int .i64 xs9, .int .i64 xn, .string xt, .slice al xl.length cl] 37)) (HKR.out.alloc _)
      have HKB := Lib.hid hkb
      clear hkd hmm hkb
      go_upto_region 8 with (fail)
      clear f1 f1t hl1 d0 d1
      have hn5 := BlockAt.new wr #[.int .i64 kd, .int .i64 xd, .int .i64 xs9, .int .i64 xn, .string xt, .slice al xl.length cl] 37
      have hk5 := (Kept.refl wr).alloc (.cells #[.int .i64 kd, .int .i64 xd, .int .i64 xs9, .int .i64 xn, .string xt, .slice al xl.length cl] 37)
      have HN := Lib.hid (show BlockAt _ _ #[.int .i64 kd, .int .i64 xd, .int .i64 xs9, .int .i64 xn, .string xt, .slice al xl.length cl] _ from hn5)
      have HOx := Lib.hid (own_kept HOW.out hk5)
      have HPx := Lib.hid (HP.out.kept hk5)
      have HBx := Lib.hid (HBR.out.kept hk5)
      have HKx := Lib.hid (HKR.out.trans hk5)
      have HSx := Lib.hid (Nat.le_trans HSZ.out hk5.size)
      clear hn5 hk5 r0 r1 r2 s0 s1 s2 c0 c1 c2 c3 c4 c5 HOW HP HBR HKR HSZ
      generalize wr.alloc (.cells #[.int .i64 kd, .int .i64 xd, .int .i64 xs9, .int .i64 xn, .string xt, .slice al xl.length cl] 37) = w5 at *
      generalize wr.heap.size = pn at *
      obtain ⟨s0, s1, s2⟩ := box3a HPx.out
      obtain ⟨n0, n1, n2, n3, n4, n5⟩ := box6a HN.out
      obtain ⟨i0, hi0⟩ := info_act Try.prog Try.infoAct
      have HI := Lib.hid hi0
      clear hi0
      go_wp2_with (at_builtin; refine wpList_append_own_at _ rfl _ _ 22 rfl w2.heap.size 37 i0 (.agg #[.int .i64 0, .int .i64 0, .int .i64 0, .int .i64 0, .string ByteArray.empty, .slice none 0 0]) 6 72 Try.underlying22 HI.out.1 HI.out.2.1 HI.out.2.2.1 HI.out.2.2.2 rfl (by decide) _ _ _ rfl (own_kept HOx.out ((Kept.refl w5).alloc _)) ⟨w5.heap.size, 0, none⟩ 1 1 (axC ⟨⟨kd, xd, xs9, xn, xt, xl⟩, al, cl⟩) rfl rfl ?c1 ?c2 ?c3 ?c4 ?c5 ?_)
      case c1 => exact axC_new _ ⟨⟨kd, xd, xs9, xn, xt, xl⟩, al, cl⟩ _
      case c2 => exact fun u hu => axC_one [⟨⟨kd, xd, xs9, xn, xt, xl⟩, al, cl⟩] u (by simpa using hu)
      case c3 => unfold maxLen; omega
      case c4 => omega
      case c5 => have := HSx.out; simp; omega
      intro v9 w9 hown hgr _ _
      obtain ⟨a9, c9, rfl⟩ := own_shape hown
      have hrow : ∀ g, (Value.slice a k c).ownBlock = some g → w2.heap.size ≤ g := fun g e => ((own_kept HOx.out ((Kept.refl w5).alloc (.cells #[.int .i64 kd, .int .i64 xd, .int .i64 xs9, .int .i64 xn, .string xt, .slice al xl.length cl] 37))).lt g e).1
      have hne : some p ≠ (Value.slice a k c).ownBlock := fun e => by have := hrow p e.symm; have := HPB.out; omega
      have hnb : some wo.heap.size ≠ (Value.slice a k c).ownBlock := fun e => by have := hrow wo.heap.size e.symm; have := HPB.out; have := HPO.out; omega
      have HP9 := Lib.hid ((HPx.out.kept ((Kept.refl w5).alloc (.cells #[.int .i64 kd, .int .i64 xd, .int .i64 xs9, .int .i64 xn, .string xt, .slice al xl.length cl] 37))).gr hgr hne)
      have HB9 := Lib.hid ((HBx.out.kept ((Kept.refl w5).alloc (.cells #[.int .i64 kd, .int .i64 xd, .int .i64 xs9, .int .i64 xn, .string xt, .slice al xl.length cl] 37))).gr hgr hnb)
      have HK9 := Lib.hid (show Kept wo w9 from Below.grown (HKx.out.alloc (.cells #[.int .i64 kd, .int .i64 xd, .int .i64 xs9, .int .i64 xn, .string xt, .slice al xl.length cl] 37)) hgr (by have := (HKx.out.alloc (.cells #[.int .i64 kd, .int .i64 xd, .int .i64 xs9, .int .i64 xn, .string xt, .slice al xl.length cl] 37)).size; omega) (fun g e => by have := hrow g e; have := HPB.out; have := HPO.out; omega))
      have HO9 := Lib.hid hown
      have HS9 := Lib.hid (show w2.heap.size ≤ w9.heap.size from Nat.le_trans (Nat.le_trans HSx.out ((Kept.refl w5).alloc (.cells #[.int .i64 kd, .int .i64 xd, .int .i64 xs9, .int .i64 xn, .string xt, .slice al xl.length cl] 37)).size) hgr.size)
      clear hrow hne hnb hown hgr s0 s1 s2 n0 n1 n2 n3 n4 n5
      obtain ⟨s0, s1, s2⟩ := box3a HP9.out
      have f4 := HP9.out.free 2
      have HQ2 := Lib.hid (show ∀ z ∈ qs ++ [(⟨⟨kd, xd, xs9, xn, xt, xl⟩, al, cl⟩ : AcX)], AxOk wo z from fun z hz => by
        rcases List.mem_append.1 hz with h1 | h1
        · exact HQ.out z h1
        · cases List.mem_singleton.1 h1
          exact ⟨HZ.out.1, HZ.out.2.1, HZ.out.2.2.1, HKB.out, HZ.out.2.2.2.1, HZ.out.2.2.2.2.1, HZ.out.2.2.2.2.2⟩)
      go_wp2_with fail
      go_roundw
      case rel => exact ⟨k + 1, a9, c9, qs ++ [⟨⟨kd, xd, xs9, xn, xt, xl⟩, al, cl⟩], by omega, by go_num, Lib.hid (by rw [List.length_append, HL.out]; rfl), HQ2, Lib.hid (HP9.out.set (i := 2) (.slice a9 (k + 1) c9)), Lib.hid (by rw [ax_snoc]; exact own_far HO9.out HP9.out (by decide) (gr_set _ _ _ _)), Lib.hid (HK9.out.setCell (Nat.le_of_lt HPO.out) _), Lib.hid (HB9.out.setOther _ (by have := HPO.out; omega)), Lib.hid (by simpa using HS9.out)⟩
      case measure => simp [intOf]; omega
    · obtain rfl : k = len := by omega
      have hd1 : decide (k < k) = false := decide_eq_false (by omega)
      have hd1i : decide ((k : Int) < (k : Int)) = false := decide_eq_false (by omega)
      obtain ⟨_, _, hv, hQ⟩ := ax_own HOW.out HL.out hle2 HKR.out HQ.out
      cases hv
      have HC := Lib.hid (HMD.out a c _ wr hQ)
      clear hQ HMD
      go_wp2_with fail
      refine HC.out.mono ?_
      rintro e w4 ⟨rfl, hk4⟩
      have HK4 := Lib.hid (HKR.out.trans hk4)
      clear hk4
      go_wp2_with fail
      go_ret
      exact ⟨rfl, HK4.out⟩
end Go.Proofs.Ytkfomaoillnehaa
namespace Go.Proofs.Ytkfomaoillnehaa
open Go.RowKit
attribute [local go_sem] Oper.semAt_some
theorem kinds10 {W : World} {b : Nat} {C : Array Value} {t : TypeId} (h : BlockAt W b C t) (n : Nat) (hC : ∀ i, i < n → ∃ x : Int, (-9223372036854775808 ≤ x ∧ x ≤ 9223372036854775807) ∧ C[i]? = some (.int .i64 x)) : ∀ i, i < n → ∃ x : Int, (-9223372036854775808 ≤ x ∧ x ≤ 9223372036854775807) ∧ ∀ w9, Kept W w9 → w9.cell? ⟨b, i, none⟩ = some (.int .i64 x) := fun i hi => by
  obtain ⟨x, hb, hx⟩ := hC i hi
  exact ⟨x, hb, fun w9 k => by rw [(h.kept k).cell]; exact hx⟩
set_option maxRecDepth 100000 in
set_option maxHeartbeats 4000000 in
theorem array_writes (m nn : Int) (a : Option Addr) (len cap : Nat) (xs : List Ac) (W : World) (hm : -9223372036854775808 ≤ m ∧ m ≤ 9223372036854775807) (hn : -9223372036854775808 ≤ nn ∧ nn ≤ 9223372036854775807) (h : ActsIn W a len xs) :
    Calls Try.prog 5 #[.agg #[.int .i64 m, .int .i64 nn, .slice a len cap]] W fun e w' => e = .returned (.bool true) ∧ Kept W w' := by
  have HA := Lib.hid h
  have HM := Lib.hid (And.intro hm hn)
  have c0 := BlockAt.new W #[.int .i64 m, .int .i64 nn, .slice a len cap] 24
  have HK := Lib.hid ((Kept.refl W).alloc (.cells #[.int .i64 m, .int .i64 nn, .slice a len cap] 24))
  clear h hm hn
  go_enter Try.func5, Try.ntmps5
  go_upto_region 1 with (fail)
  generalize W.alloc (.cells #[.int .i64 m, .int .i64 nn, .slice a len cap] 24) = w1 at *
  generalize W.heap.size = q at *
  obtain ⟨a0, a1, a2⟩ := box3a c0
  have HBK := Lib.hid (kinds10 (BlockAt.new w1 #[.int .i64 0, .int .i64 3, .int .i64 3, .int .i64 7, .int .i64 0, .int .i64 9, .int .i64 3, .int .i64 10] 3) 8 (fun i hi => by
    match i, hi with
    | 0, _ => exact ⟨0, by omega, rfl⟩
    | 1, _ => exact ⟨3, by omega, rfl⟩
    | 2, _ => exact ⟨3, by omega, rfl⟩
    | 3, _ => exact ⟨7, by omega, rfl⟩
    | 4, _ => exact ⟨0, by omega, rfl⟩
    | 5, _ => exact ⟨9, by omega, rfl⟩
    | 6, _ => exact ⟨3, by omega, rfl⟩
    | 7, _ => exact ⟨10, by omega, rfl⟩
    | i + 8, hi => omega))
  have HK2 := Lib.hid (HK.out.trans ((Kept.refl w1).alloc (.cells #[.int .i64 0, .int .i64 3, .int .i64 3, .int .i64 7, .int .i64 0, .int .i64 9, .int .i64 3, .int .i64 10] 3)))
  clear c0
  go_wp2_with fail
  refine (only10 m nn a len cap xs w1.heap.size 8 (by decide) (by decide) _ HM.out.1 HM.out.2 (HA.out.below HK2.out (Nat.le_refl _)) HBK.out).mono ?_
  rintro e w2 ⟨rfl, hk⟩
  have HK3 := Lib.hid (HK2.out.trans hk)
  clear hk
  go_wp2
  go_ret
  exact ⟨rfl, HK3.out⟩
set_option maxRecDepth 100000 in
set_option maxHeartbeats 4000000 in
theorem array_crashes (m nn : Int) (a : Option Addr) (len cap : Nat) (xs : List Ac) (W : World) (hm : -9223372036854775808 ≤ m ∧ m ≤ 9223372036854775807) (hn : -9223372036854775808 ≤ nn ∧ nn ≤ 9223372036854775807) (h : ActsIn W a len xs) :
    Calls Try.prog 6 #[.agg #[.int .i64 m, .int .i64 nn, .slice a len cap]] W fun e w' => e = .returned (.bool true) ∧ Kept W w' := by
  have HA := Lib.hid h
  have HM := Lib.hid (And.intro hm hn)
  have c0 := BlockAt.new W #[.int .i64 m, .int .i64 nn, .slice a len cap] 24
  have HK := Lib.hid ((Kept.refl W).alloc (.cells #[.int .i64 m, .int .i64 nn, .slice a len cap] 24))
  clear h hm hn
  go_enter Try.func6, Try.ntmps6
  go_upto_region 1 with (fail)
  generalize W.alloc (.cells #[.int .i64 m, .int .i64 nn, .slice a len cap] 24) = w1 at *
  generalize W.heap.size = q at *
  obtain ⟨a0, a1, a2⟩ := box3a c0
  have HBK := Lib.hid (kinds10 (BlockAt.new w1 #[.int .i64 3, .int .i64 9, .int .i64 3, .int .i64 10, .int .i64 0, .int .i64 11, .int .i64 9, .int .i64 7] 3) 8 (fun i hi => by
    match i, hi with
    | 0, _ => exact ⟨3, by omega, rfl⟩
    | 1, _ => exact ⟨9, by omega, rfl⟩
    | 2, _ => exact ⟨3, by omega, rfl⟩
    | 3, _ => exact ⟨10, by omega, rfl⟩
    | 4, _ => exact ⟨0, by omega, rfl⟩
    | 5, _ => exact ⟨11, by omega, rfl⟩
    | 6, _ => exact ⟨9, by omega, rfl⟩
    | 7, _ => exact ⟨7, by omega, rfl⟩
    | i + 8, hi => omega))
  have HK2 := Lib.hid (HK.out.trans ((Kept.refl w1).alloc (.cells #[.int .i64 3, .int .i64 9, .int .i64 3, .int .i64 10, .int .i64 0, .int .i64 11, .int .i64 9, .int .i64 7] 3)))
  clear c0
  go_wp2_with fail
  refine (only10 m nn a len cap xs w1.heap.size 8 (by decide) (by decide) _ HM.out.1 HM.out.2 (HA.out.below HK2.out (Nat.le_refl _)) HBK.out).mono ?_
  rintro e w2 ⟨rfl, hk⟩
  have HK3 := Lib.hid (HK2.out.trans hk)
  clear hk
  go_wp2
  go_ret
  exact ⟨rfl, HK3.out⟩
set_option maxRecDepth 100000 in
set_option maxHeartbeats 4000000 in
theorem array_faults (m nn : Int) (a : Option Addr) (len cap : Nat) (xs : List Ac) (W : World) (hm : -9223372036854775808 ≤ m ∧ m ≤ 9223372036854775807) (hn : -9223372036854775808 ≤ nn ∧ nn ≤ 9223372036854775807) (h : ActsIn W a len xs) :
    Calls Try.prog 7 #[.agg #[.int .i64 m, .int .i64 nn, .slice a len cap]] W fun e w' => e = .returned (.bool true) ∧ Kept W w' := by
  have HA := Lib.hid h
  have HM := Lib.hid (And.intro hm hn)
  have c0 := BlockAt.new W #[.int .i64 m, .int .i64 nn, .slice a len cap] 24
  have HK := Lib.hid ((Kept.refl W).alloc (.cells #[.int .i64 m, .int .i64 nn, .slice a len cap] 24))
  clear h hm hn
  go_enter Try.func7, Try.ntmps7
  go_upto_region 1 with (fail)
  generalize W.alloc (.cells #[.int .i64 m, .int .i64 nn, .slice a len cap] 24) = w1 at *
  generalize W.heap.size = q at *
  obtain ⟨a0, a1, a2⟩ := box3a c0
  have HBK := Lib.hid (kinds10 (BlockAt.new w1 #[.int .i64 3, .int .i64 7, .int .i64 12, .int .i64 0, .int .i64 13, .int .i64 3, .int .i64 14, .int .i64 0] 3) 8 (fun i hi => by
    match i, hi with
    | 0, _ => exact ⟨3, by omega, rfl⟩
    | 1, _ => exact ⟨7, by omega, rfl⟩
    | 2, _ => exact ⟨12, by omega, rfl⟩
    | 3, _ => exact ⟨0, by omega, rfl⟩
    | 4, _ => exact ⟨13, by omega, rfl⟩
    | 5, _ => exact ⟨3, by omega, rfl⟩
    | 6, _ => exact ⟨14, by omega, rfl⟩
    | 7, _ => exact ⟨0, by omega, rfl⟩
    | i + 8, hi => omega))
  have HK2 := Lib.hid (HK.out.trans ((Kept.refl w1).alloc (.cells #[.int .i64 3, .int .i64 7, .int .i64 12, .int .i64 0, .int .i64 13, .int .i64 3, .int .i64 14, .int .i64 0] 3)))
  clear c0
  go_wp2_with fail
  refine (only10 m nn a len cap xs w1.heap.size 8 (by decide) (by decide) _ HM.out.1 HM.out.2 (HA.out.below HK2.out (Nat.le_refl _)) HBK.out).mono ?_
  rintro e w2 ⟨rfl, hk⟩
  have HK3 := Lib.hid (HK2.out.trans hk)
  clear hk
  go_wp2
  go_ret
  exact ⟨rfl, HK3.out⟩
end Go.Proofs.Ytkfomaoillnehaa
