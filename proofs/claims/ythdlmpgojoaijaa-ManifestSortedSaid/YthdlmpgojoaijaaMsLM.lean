/- The law ManifestSorted: it answers true and changes nothing that was there (no conditions). -/
import Derived.Test.YthdlmpgojoaijaaMh
import Derived.Test.YthdlmpgojoaijaaMr4
import Derived.Test.YthdlmpgojoaijaaMs3
namespace Go.Proofs.Ythdlmpgojoaijaa
open Go.RowKit Go.Shelf
attribute [local go_sem] Oper.semAt_some

theorem box2 {W : World} {b : Nat} {x y : Value} {t : TypeId} (h : BlockAt W b #[x, y] t) {w : World} (k : Kept W w) : w.cell? ⟨b, 0, none⟩ = some x ∧ w.cell? ⟨b, 1, none⟩ = some y := ⟨(h.kept k).cell 0, (h.kept k).cell 1⟩
/-- one of the manifests, as it is read -/
structure AtM (W : World) (b o : Nat) (k : Int) (bs us : List ByteArray) (ab : Option Addr) (mb cb : Nat) (au : Option Addr) (mu cu : Nat) : Prop where
  hb : TextsIn W ab mb cb bs
  hu : TextsIn W au mu cu us
  bd : -9223372036854775808 ≤ k ∧ k ≤ 9223372036854775807
  c : ∀ w, Kept W w → w.cell? ⟨b, o, none⟩ = some (.int .i64 k) ∧ w.cell? ⟨b, o + 1, none⟩ = some (.slice ab mb cb) ∧ w.cell? ⟨b, o + 2, none⟩ = some (.slice au mu cu)
/-- what manifest.Sorted told, in one shape -/
structure SortC (w w' : World) (k : Int) (bs us : List ByteArray) (E kk : Int) (N1 N2 : Nat) (a1 : Option Addr) (c1 : Nat) (a2 : Option Addr) (c2 : Nat) : Prop where
  e : E = if mfMade ⟨k, bs, us⟩ = true then (if mfFew ⟨k, risen bs, risen us⟩ = true then 0 else 2) else 1
  good : E = 0 → kk = k ∧ N1 = (risen bs).length ∧ N2 = (risen us).length ∧ NewIn w w' a1 N1 c1 (risen bs) ∧ NewIn w w' a2 N2 c2 (risen us)
  bad : E ≠ 0 → kk = 0 ∧ a1 = none ∧ N1 = 0 ∧ c1 = 0 ∧ a2 = none ∧ N2 = 0 ∧ c2 = 0
theorem sort_case {w w' : World} {k : Int} {bs us : List ByteArray} {e : Ending}
    (h0 : mfMade ⟨k, bs, us⟩ = false → e = .returned (.tuple #[.agg #[.int .i64 0, .slice none 0 0, .slice none 0 0], .int .i64 1]))
    (h1 : mfMade ⟨k, bs, us⟩ = true → mfFew ⟨k, risen bs, risen us⟩ = false → e = .returned (.tuple #[.agg #[.int .i64 0, .slice none 0 0, .slice none 0 0], .int .i64 2]))
    (h2 : mfMade ⟨k, bs, us⟩ = true → mfFew ⟨k, risen bs, risen us⟩ = true → ∃ a1 c1 a2 c2, e = .returned (.tuple #[.agg #[.int .i64 k, .slice a1 (risen bs).length c1, .slice a2 (risen us).length c2], .int .i64 0]) ∧
      NewIn w w' a1 (risen bs).length c1 (risen bs) ∧ NewIn w w' a2 (risen us).length c2 (risen us)) :
    ∃ E a1 c1 a2 c2 kk N1 N2, e = .returned (.tuple #[.agg #[.int .i64 kk, .slice a1 N1 c1, .slice a2 N2 c2], .int .i64 E]) ∧ SortC w w' k bs us E kk N1 N2 a1 c1 a2 c2 := by
  cases hm : mfMade ⟨k, bs, us⟩ with
  | false => exact ⟨1, none, 0, none, 0, 0, 0, 0, h0 hm, by rw [hm]; rfl, fun e => by omega, fun _ => ⟨rfl, rfl, rfl, rfl, rfl, rfl, rfl⟩⟩
  | true =>
    cases hf : mfFew ⟨k, risen bs, risen us⟩ with
    | false => exact ⟨2, none, 0, none, 0, 0, 0, 0, h1 hm hf, by rw [hm, hf]; rfl, fun e => by omega, fun _ => ⟨rfl, rfl, rfl, rfl, rfl, rfl, rfl⟩⟩
    | true =>
      obtain ⟨a1, c1, a2, c2, e, n1, n2⟩ := h2 hm hf
      exact ⟨0, a1, c1, a2, c2, k, _, _, e, by rw [hm, hf]; rfl, fun _ => ⟨rfl, rfl, rfl, n1, n2⟩, fun h => absurd rfl h⟩
theorem SortC.kept {w w' w2 : World} {k : Int} {bs us : List ByteArray} {E kk : Int} {N1 N2 : Nat} {a1 : Option Addr} {c1 : Nat} {a2 : Option Addr} {c2 : Nat} (h : SortC w w' k bs us E kk N1 N2 a1 c1 a2 c2) (q : Kept w' w2) : SortC w w2 k bs us E kk N1 N2 a1 c1 a2 c2 :=
  ⟨h.e, fun e => by obtain ⟨h1, h2, h3, h4, h5⟩ := h.good e; exact ⟨h1, h2, h3, h4.kept q, h5.kept q⟩, h.bad⟩
theorem strs_none {w : World} {a : Option Addr} {l : Nat} {ss : List ByteArray} (h : StrsIn w a l ss) (e : a = none) : l = 0 := by
  rcases Nat.eq_zero_or_pos l with h0 | h0
  · exact h0
  · obtain ⟨b, off, ha, _⟩ := h.cells
    rw [ha h0] at e
    cases e
theorem strs_cells {w : World} {a : Option Addr} {l : Nat} {ss : List ByteArray} (h : StrsIn w a l ss) : (ss.map Value.string).length = l * 1 ∧ ∀ ad, a = some ad → ∀ j u, (ss.map Value.string)[j]? = some u → w.cell? (ad.add j) = some u := by
  refine ⟨by rw [List.length_map, h.len_eq]; omega, fun ad e j u hj => ?_⟩
  have hj2 : j < ss.length := by have := (List.getElem?_eq_some_iff.1 hj).1; simpa using this
  obtain ⟨b, off, ha, hc⟩ := h.cells
  have hj3 : j < l := by rw [← h.len_eq]; exact hj2
  have := ha (by omega)
  rw [e] at this
  cases this
  have e3 : (⟨b, off, none⟩ : Addr).add j = ⟨b, off + j, none⟩ := by unfold Addr.add; split <;> simp_all
  rw [e3, (hc j hj3).2]
  rw [List.getElem?_map, List.getElem?_eq_getElem hj2] at hj
  simp [List.getD, hj2]
  simpa using hj
set_option maxRecDepth 100000 in
set_option maxHeartbeats 8000000 in
noncomputable def manifest_sortedM : {A : Prop // A → (∀ (am : Option Addr) (lm cm : Nat) (ms : List Mf) (aa : Option Addr) (ls cs : Nat) (ss : List ByteArray) (W : World) (_ : MfsIn W am lm ms) (_ : TextsIn W aa ls cs ss), Calls Try.prog 3 #[.agg #[.slice am lm cm, .slice aa ls cs]] W fun e W' => e = .returned (.bool true) ∧ Kept W W')} := ⟨_, by
  intro hcut0
  have HCUT0 := Lib.hid hcut0
  clear hcut0
  intro am lm cm ms aa ls cs ss W h hs
  have HMS := Lib.hid h
  have HSS := Lib.hid hs
  have hlm := h.few
  have HB0 := Lib.hid (BlockAt.new W #[.slice am lm cm, .slice aa ls cs] 25)
  have HK0 := Lib.hid ((Kept.refl W).alloc (.cells #[.slice am lm cm, .slice aa ls cs] 25))
  clear h hs
  go_enter Try.func3, Try.ntmps3
  go_upto_region 1 with (fail)
  generalize W.alloc (.cells #[.slice am lm cm, .slice aa ls cs] 25) = w1 at *
  obtain ⟨a0, a1⟩ := box2 HB0.out (Kept.refl _)
  go_wp2_with fail
  refine (heavy20_any am lm cm ms aa ls cs ss _ (HMS.out.kept HK0.out) (HSS.out.kept HK0.out)).mono ?_
  rintro e w2 ⟨hk2, hhe⟩
  have HK2 := Lib.hid (HK0.out.trans hk2)
  have HB2 := Lib.hid (HB0.out.kept hk2)
  clear hk2 a0 a1
  rcases hhe with rfl | ⟨rfl, hli, hls⟩
  · go_wp2
    go_ret
    exact ⟨rfl, HK2.out⟩
  have HLI := Lib.hid hli
  clear hli hls
  go_wp2_with fail
  go_loopw [3] (fun kv wr => ∃ k : Nat, k ≤ lm ∧ kv = .int .i64 k ∧ Kept w2 wr) (fun kv _ => lm - (intOf kv).toNat)
  case atStart => exact ⟨0, by omega, rfl, Kept.refl _⟩
  case round =>
    obtain ⟨i, hi, rfl, hkr⟩ := hrel
    have HKR := Lib.hid hkr
    obtain ⟨a0, a1⟩ := box2 HB2.out hkr
    have HBX := Lib.hid (show ∀ w, Kept wr w → w.cell? ⟨W.heap.size, 0, none⟩ = some (.slice am lm cm) ∧ w.cell? ⟨W.heap.size, 1, none⟩ = some (.slice aa ls cs) from fun w k => box2 HB2.out (HKR.out.trans k))
    clear hkr
    by_cases hend : i < lm ∧ i < 6
    · obtain ⟨hlt, h6⟩ := hend
      have hd1 : decide (i < lm) = true := decide_eq_true hlt
      have hd2 : decide (i < 6) = true := decide_eq_true h6
      obtain ⟨bm, om, ha, hc⟩ := HMS.out.cells
      obtain rfl := ha (by omega)
      obtain ⟨ab, cb, au, cu, hB, hU, hbd, hlb, c0, c1, c2⟩ := hc i hlt
      have hli := HLI.out i hlt
      generalize ms.getD i mf00 = m at hB hU hbd c0 c1 c2 hli
      obtain ⟨k, bs, us⟩ := m
      dsimp only at hB hU hbd c0 c1 c2 hli
      have hsb := hB.sum_bd
      have hsu := hU.sum_bd
      obtain ⟨mb, hmb⟩ : ∃ mb, mb = bs.length := ⟨_, rfl⟩
      obtain ⟨mu, hmu⟩ : ∃ mu, mu = us.length := ⟨_, rfl⟩
      rw [← hmb] at hB c1 hsb
      rw [← hmu] at hU c2 hsu
      have hkw : Kept W wr := HK2.out.trans HKR.out
      have HA := Lib.hid (AtM.mk (W := wr) (b := bm) (o := om + i * 3) (hB.kept hkw) (hU.kept hkw) hbd (fun w q => ⟨(hkw.trans q).cell hlb c0, (hkw.trans q).cell hlb c1, (hkw.trans q).cell hlb c2⟩))
      have hmb6 : mb ≤ 6000 := by omega
      have hmu6 : mu ≤ 6000 := by omega
      have HKW := Lib.hid hkw
      have HK1 := Lib.hid hbd
      clear hc ha hB hU c0 c1 c2 hmb hmu hsb hsu hli hlb hkw hbd
      obtain ⟨c0, c1, c2⟩ := HA.out.c _ (Kept.refl _)
      go_wp2_with fail
      refine (copy_mf k ab mb cb au mu cu bs us _ HA.out.hb.strs HA.out.hu.strs ⟨by omega, by omega⟩).mono ?_
      rintro e w3 ⟨x1, y1, x2, y2, rfl, hx1, hx2, hk3⟩
      have HX1 := Lib.hid hx1
      have HX2 := Lib.hid hx2
      have HK3 := Lib.hid hk3
      clear a0 a1 c0 c1 c2 hx1 hx2 hk3
      go_upto_region 7 with (fail)
      have HIN := Lib.hid (BlockAt.new w3 #[.int .i64 k, .slice x1 mb y1, .slice x2 mu y2] 28)
      have HK4 := Lib.hid (HK3.out.alloc (.cells #[.int .i64 k, .slice x1 mb y1, .slice x2 mu y2] 28))
      have HX14 := Lib.hid (HX1.out.kept ((Kept.refl w3).alloc (.cells #[.int .i64 k, .slice x1 mb y1, .slice x2 mu y2] 28)))
      have HX24 := Lib.hid (HX2.out.kept ((Kept.refl w3).alloc (.cells #[.int .i64 k, .slice x1 mb y1, .slice x2 mu y2] 28)))
      generalize w3.alloc (.cells #[.int .i64 k, .slice x1 mb y1, .slice x2 mu y2] 28) = w4 at *
      obtain ⟨p4, hp4⟩ : ∃ p4, p4 = w3.heap.size := ⟨_, rfl⟩
      rw [← hp4] at HIN ⊢
      have hp5 : wr.heap.size ≤ p4 := by rw [hp4]; exact HK3.out.size
      have hp6 := HIN.out.lt
      clear hp4 HX1 HX2 HK3
      obtain ⟨a0, a1, a2⟩ := box3 HIN.out
      go_wp2_with fail
      refine (msorted_any k x1 mb y1 x2 mu y2 bs us _ HX14.out HX24.out ⟨by omega, by omega⟩).mono ?_
      rintro e w5 ⟨hk5, hs0, hs1, hs2⟩
      have HK5 := Lib.hid hk5
      have HS0 := Lib.hid hs0
      have HS1 := Lib.hid hs1
      have HS2 := Lib.hid hs2
      clear hk5 hs0 hs1 hs2 a0 a1 a2
      obtain ⟨E, X3, Z1, X4, Z2, kk, N1, N2, he, hcase⟩ := sort_case (w := w4) (k := k) (bs := bs) (us := us) HS0.out HS1.out HS2.out
      obtain rfl := he
      have HCS := Lib.hid hcase
      clear hcase HS0 HS1 HS2
      go_upto_region 8 with (fail)
      have HXB := Lib.hid (BlockAt.new w5 #[.int .i64 kk, .slice X3 N1 Z1, .slice X4 N2 Z2] 28)
      have HK6 := Lib.hid ((HK4.out.trans HK5.out).alloc (.cells #[.int .i64 kk, .slice X3 N1 Z1, .slice X4 N2 Z2] 28))
      have kx := (Kept.refl w5).alloc (.cells #[.int .i64 kk, .slice X3 N1 Z1, .slice X4 N2 Z2] 28)
      have HIN6 := Lib.hid ((HIN.out.kept HK5.out).kept kx)
      have HX16 := Lib.hid ((HX14.out.kept HK5.out).kept kx)
      have HX26 := Lib.hid ((HX24.out.kept HK5.out).kept kx)
      have HCS6 := Lib.hid (HCS.out.kept kx)
      obtain ⟨p5, hp5'⟩ : ∃ p5, p5 = w5.heap.size := ⟨_, rfl⟩
      generalize w5.alloc (.cells #[.int .i64 kk, .slice X3 N1 Z1, .slice X4 N2 Z2] 28) = w6 at *
      rw [← hp5'] at HXB ⊢
      have hp7 : w4.heap.size ≤ p5 := by rw [hp5']; exact HK5.out.size
      have HK46 := Lib.hid (HK5.out.trans kx)
      clear hp5' kx HK5 HCS
      have HBX6 := Lib.hid (show ∀ w, Kept w6 w → w.cell? ⟨W.heap.size, 0, none⟩ = some (.slice (some ⟨bm, om, none⟩) lm cm) ∧ w.cell? ⟨W.heap.size, 1, none⟩ = some (.slice aa ls cs) from fun w q => HBX.out _ (HK6.out.trans q))
      have HA6 := Lib.hid (show ∀ w, Kept w6 w → w.cell? ⟨bm, om + i * 3, none⟩ = some (.int .i64 k) ∧ w.cell? ⟨bm, om + i * 3 + 1, none⟩ = some (.slice ab mb cb) ∧ w.cell? ⟨bm, om + i * 3 + 2, none⟩ = some (.slice au mu cu) from fun w q => HA.out.c _ (HK6.out.trans q))
      obtain ⟨a0, a1⟩ := HBX6.out _ (Kept.refl _)
      obtain ⟨c0, c1, c2⟩ := HA6.out _ (Kept.refl _)
      obtain ⟨kO, hkO⟩ : ∃ kO, kO = (decide (0 ≤ k) && decide (k ≤ 255)) := ⟨_, rfl⟩
      have HKO := Lib.hid hkO
      have hnm := fun w => mnum_any k 255 w
      rw [← hkO] at hnm
      have HNM := Lib.hid hnm
      clear hkO hnm
      go_upto_if 48 with (go_at_call 11; refine (HNM.out _).mono ?_; rintro e w' ⟨rfl, rfl⟩)
      go_cut [7] (fun t wx => t = .int .i64 (if kO = true then 0 else 1) ∧ w6 = wx)
      case first =>
        cases kO with
        | false =>
          go_wp2_with fail
          go_meet
          exact ⟨rfl, rfl⟩
        | true =>
          go_wp2_with fail
          go_meet
          exact ⟨rfl, rfl⟩
      case rest =>
        obtain ⟨rfl, rfl⟩ := hcut
        obtain ⟨b7, hb7⟩ : ∃ b7 : Int, b7 = if kO = true then 0 else 1 := ⟨_, rfl⟩
        rw [← hb7]
        have HB7 := Lib.hid hb7
        clear hb7 a0 a1 c0 c1 c2
        obtain ⟨i0, hi1, hz0, hz1, hz2⟩ := info_parts Try.infoSt
        have HI := Lib.hid (And.intro hi1 (And.intro hz0 (And.intro hz1 hz2)))
        have HCP := Lib.hid (show ∀ w, Kept w6 w → Calls Try.prog 12 #[.slice ab mb cb] w fun e w2 => ∃ a' c', e = .returned (.slice a' mb c') ∧ w2.ownsRow w.heap.size 9 1 (.slice a' mb c') mb (bs.map Value.string) ∧ Kept w w2 from fun w q => copy_strings_own ab mb cb bs w (HA.out.hb.strs.kept (HK6.out.trans q)) (by omega))
        have HTL := Lib.hid (show ∀ w, Kept w6 w → (us.map Value.string).length = mu * 1 ∧ ∀ ad, au = some ad → ∀ j u, (us.map Value.string)[j]? = some u → w.cell? (ad.add j) = some u from fun w q => strs_cells (HA.out.hu.strs.kept (HK6.out.trans q)))
        have HNO := Lib.hid (show au = none → mu = 0 from fun e => strs_none HA.out.hu.strs e)
        clear hi1 hz0 hz1 hz2
        go_wp2_with fail
        refine Pj.wp_region_step (fun az0 L az w => ∃ V : Nat → Value, az = Pj.puts [(49, 0), (50, 1), (51, 2), (52, 3), (53, 4), (54, 5), (55, 6), (56, 7), (57, 8), (58, 9), (59, 10), (60, 11), (61, 12), (62, 13), (8, 14)] V az0 ∧ Pj.J w6 [Pj.Is (.pointer (some ⟨W.heap.size, 0, none⟩)), Pj.Is (.slice (some ⟨bm, om, none⟩) lm cm), Pj.Is (.int .i64 i), Pj.Is (.pointer (some ⟨bm, om + i * 3, none⟩)), Pj.Is (.pointer (some ⟨bm, om + i * 3 + 1, none⟩)), Pj.Is (.slice ab mb cb), (fun _ v => ∃ a c, v = .slice a mb c), Pj.Is (.pointer (some ⟨W.heap.size, 0, none⟩)), Pj.Is (.slice (some ⟨bm, om, none⟩) lm cm), Pj.Is (.int .i64 i), Pj.Is (.pointer (some ⟨bm, om + i * 3, none⟩)), Pj.Is (.pointer (some ⟨bm, om + i * 3 + 2, none⟩)), Pj.Is (.slice au mu cu), (fun _ v => ∃ a c, v = .slice a (mb + mu) c), (fun _ _ => True)] L V w ∧ Pj.Cpy w6.heap.size 9 1 mb mu (bs.map Value.string) (us.map Value.string) 6 13 L V w ∧ (L 14 → L 13 ∧ V 14 = V 13)) (by as_aux_lemma => kernel_rfl) (by as_aux_lemma => kernel_rfl) ?eh0 ?ehs ?ehe
        case eh0 =>
          intro L hL
          exact ⟨_, Pj.puts_self _ (fun j => ([49, 50, 51, 52, 53, 54, 55, 56, 57, 58, 59, 60, 61, 62, 8] : List Nat).getD j 0) [0, 1, 2, 3, 4, 5, 6, 7, 8, 9, 10, 11, 12, 13, 14], Pj.J.none (n := 15) (Nat.le_refl _) hL ((Kept.refl _).drew), Pj.Cpy.start (hL 6 (by decide)) (hL 13 (by decide)), fun h => absurd h (hL 14 (by decide))⟩
        case ehs =>
          rintro L L' az w iz opz Kq ⟨V, rfl, hJ, hI, hc14⟩ ho hopen hdep hL hKq
          have hP : Pj.AllFlat [Pj.Is (.pointer (some ⟨W.heap.size, 0, none⟩)), Pj.Is (.slice (some ⟨bm, om, none⟩) lm cm), Pj.Is (.int .i64 i), Pj.Is (.pointer (some ⟨bm, om + i * 3, none⟩)), Pj.Is (.pointer (some ⟨bm, om + i * 3 + 1, none⟩)), Pj.Is (.slice ab mb cb), (fun _ v => ∃ a c, v = .slice a mb c), Pj.Is (.pointer (some ⟨W.heap.size, 0, none⟩)), Pj.Is (.slice (some ⟨bm, om, none⟩) lm cm), Pj.Is (.int .i64 i), Pj.Is (.pointer (some ⟨bm, om + i * 3, none⟩)), Pj.Is (.pointer (some ⟨bm, om + i * 3 + 2, none⟩)), Pj.Is (.slice au mu cu), (fun _ v => ∃ a c, v = .slice a (mb + mu) c), (fun _ _ => True)] := ⟨Pj.Is.flat _, Pj.Is.flat _, Pj.Is.flat _, Pj.Is.flat _, Pj.Is.flat _, Pj.Is.flat _, (fun _ _ _ h _ => h), Pj.Is.flat _, Pj.Is.flat _, Pj.Is.flat _, Pj.Is.flat _, Pj.Is.flat _, Pj.Is.flat _, (fun _ _ _ h _ => h), (fun _ _ _ _ _ => trivial), trivial⟩
          have HP := Lib.hid hP
          clear hP
          match iz, ho with
          | 0, ho =>
            simp only [List.getElem?_toArray, List.getElem?_cons_zero, Option.some.injEq] at ho
            have HJ := Lib.hid hJ
            clear hJ
            have HXhI := Lib.hid hI
            clear hI
            subst ho
            refine Pj.Step.free rfl ?_
            simp only [Pj.puts, List.foldl_cons, List.foldl_nil, Act.put, List.setIfInBounds_toArray, List.set_cons_zero, List.set_cons_succ]
            go_simp
            exact hKq _ _ ⟨Pj.vset V 0 (.pointer (some ⟨W.heap.size, 0, none⟩)), by simp only [Pj.puts, List.foldl_cons, List.foldl_nil, Act.put, List.setIfInBounds_toArray, List.set_cons_zero, List.set_cons_succ, Pj.vset, Nat.reduceEqDiff, if_true, if_false], HJ.out.flat HP.out hL (HJ.out.kp.trans (Kept.refl _)) (Kept.size (Kept.refl _)) (rfl), HXhI.out.keep (by decide) (by decide) hL (Kept.refl _), fun h => ⟨(hL 13).2 (.inr (hc14 (((hL 14).1 h).resolve_left (by decide))).1), by rw [Pj.vset_other _ _ (by decide), Pj.vset_other _ _ (by decide)]; exact (hc14 (((hL 14).1 h).resolve_left (by decide))).2⟩⟩
          | 1, ho =>
            simp only [List.getElem?_toArray, List.getElem?_cons_zero, List.getElem?_cons_succ, Option.some.injEq] at ho
            have e0 : V 0 = .pointer (some ⟨W.heap.size, 0, none⟩) := hJ.h 0 (hdep 0 (by rw [← ho]; kernel_rfl))
            obtain ⟨d0, d1⟩ := HBX6.out _ hJ.kp
            have HJ := Lib.hid hJ
            clear hJ
            have HXhI := Lib.hid hI
            clear hI
            subst ho
            refine Pj.Step.free rfl ?_
            simp only [Pj.puts, List.foldl_cons, List.foldl_nil, Act.put, List.setIfInBounds_toArray, List.set_cons_zero, List.set_cons_succ, e0]
            go_simp
            exact hKq _ _ ⟨Pj.vset V 1 (.slice (some ⟨bm, om, none⟩) lm cm), by simp only [Pj.puts, List.foldl_cons, List.foldl_nil, Act.put, List.setIfInBounds_toArray, List.set_cons_zero, List.set_cons_succ, Pj.vset, Nat.reduceEqDiff, if_true, if_false, e0], HJ.out.flat HP.out hL (HJ.out.kp.trans (Kept.refl _)) (Kept.size (Kept.refl _)) (rfl), HXhI.out.keep (by decide) (by decide) hL (Kept.refl _), fun h => ⟨(hL 13).2 (.inr (hc14 (((hL 14).1 h).resolve_left (by decide))).1), by rw [Pj.vset_other _ _ (by decide), Pj.vset_other _ _ (by decide)]; exact (hc14 (((hL 14).1 h).resolve_left (by decide))).2⟩⟩
          | 2, ho =>
            simp only [List.getElem?_toArray, List.getElem?_cons_zero, List.getElem?_cons_succ, Option.some.injEq] at ho
            have HJ := Lib.hid hJ
            clear hJ
            have HXhI := Lib.hid hI
            clear hI
            subst ho
            refine Pj.Step.free rfl ?_
            simp only [Pj.puts, List.foldl_cons, List.foldl_nil, Act.put, List.setIfInBounds_toArray, List.set_cons_zero, List.set_cons_succ]
            go_simp
            exact hKq _ _ ⟨Pj.vset V 2 (.int .i64 i), by simp only [Pj.puts, List.foldl_cons, List.foldl_nil, Act.put, List.setIfInBounds_toArray, List.set_cons_zero, List.set_cons_succ, Pj.vset, Nat.reduceEqDiff, if_true, if_false], HJ.out.flat HP.out hL (HJ.out.kp.trans (Kept.refl _)) (Kept.size (Kept.refl _)) (rfl), HXhI.out.keep (by decide) (by decide) hL (Kept.refl _), fun h => ⟨(hL 13).2 (.inr (hc14 (((hL 14).1 h).resolve_left (by decide))).1), by rw [Pj.vset_other _ _ (by decide), Pj.vset_other _ _ (by decide)]; exact (hc14 (((hL 14).1 h).resolve_left (by decide))).2⟩⟩
          | 3, ho =>
            simp only [List.getElem?_toArray, List.getElem?_cons_zero, List.getElem?_cons_succ, Option.some.injEq] at ho
            have e1 : V 1 = .slice (some ⟨bm, om, none⟩) lm cm := hJ.h 1 (hdep 1 (by rw [← ho]; kernel_rfl))
            have e2 : V 2 = .int .i64 i := hJ.h 2 (hdep 2 (by rw [← ho]; kernel_rfl))
            have HJ := Lib.hid hJ
            clear hJ
            have HXhI := Lib.hid hI
            clear hI
            subst ho
            refine Pj.Step.free rfl ?_
            simp only [Pj.puts, List.foldl_cons, List.foldl_nil, Act.put, List.setIfInBounds_toArray, List.set_cons_zero, List.set_cons_succ, e1, e2]
            go_simp
            exact hKq _ _ ⟨Pj.vset V 3 (.pointer (some ⟨bm, om + i * 3, none⟩)), by simp only [Pj.puts, List.foldl_cons, List.foldl_nil, Act.put, List.setIfInBounds_toArray, List.set_cons_zero, List.set_cons_succ, Pj.vset, Nat.reduceEqDiff, if_true, if_false, e1, e2], HJ.out.flat HP.out hL (HJ.out.kp.trans (Kept.refl _)) (Kept.size (Kept.refl _)) (rfl), HXhI.out.keep (by decide) (by decide) hL (Kept.refl _), fun h => ⟨(hL 13).2 (.inr (hc14 (((hL 14).1 h).resolve_left (by decide))).1), by rw [Pj.vset_other _ _ (by decide), Pj.vset_other _ _ (by decide)]; exact (hc14 (((hL 14).1 h).resolve_left (by decide))).2⟩⟩
          | 4, ho =>
            simp only [List.getElem?_toArray, List.getElem?_cons_zero, List.getElem?_cons_succ, Option.some.injEq] at ho
            have e3 : V 3 = .pointer (some ⟨bm, om + i * 3, none⟩) := hJ.h 3 (hdep 3 (by rw [← ho]; kernel_rfl))
            have HJ := Lib.hid hJ
            clear hJ
            have HXhI := Lib.hid hI
            clear hI
            subst ho
            refine Pj.Step.free rfl ?_
            simp only [Pj.puts, List.foldl_cons, List.foldl_nil, Act.put, List.setIfInBounds_toArray, List.set_cons_zero, List.set_cons_succ, e3]
            go_simp
            exact hKq _ _ ⟨Pj.vset V 4 (.pointer (some ⟨bm, om + i * 3 + 1, none⟩)), by simp only [Pj.puts, List.foldl_cons, List.foldl_nil, Act.put, List.setIfInBounds_toArray, List.set_cons_zero, List.set_cons_succ, Pj.vset, Nat.reduceEqDiff, if_true, if_false, e3], HJ.out.flat HP.out hL (HJ.out.kp.trans (Kept.refl _)) (Kept.size (Kept.refl _)) (rfl), HXhI.out.keep (by decide) (by decide) hL (Kept.refl _), fun h => ⟨(hL 13).2 (.inr (hc14 (((hL 14).1 h).resolve_left (by decide))).1), by rw [Pj.vset_other _ _ (by decide), Pj.vset_other _ _ (by decide)]; exact (hc14 (((hL 14).1 h).resolve_left (by decide))).2⟩⟩
          | 5, ho =>
            simp only [List.getElem?_toArray, List.getElem?_cons_zero, List.getElem?_cons_succ, Option.some.injEq] at ho
            have e4 : V 4 = .pointer (some ⟨bm, om + i * 3 + 1, none⟩) := hJ.h 4 (hdep 4 (by rw [← ho]; kernel_rfl))
            obtain ⟨q0, q1, q2⟩ := HA6.out _ hJ.kp
            have HJ := Lib.hid hJ
            clear hJ
            have HXhI := Lib.hid hI
            clear hI
            subst ho
            refine Pj.Step.free rfl ?_
            simp only [Pj.puts, List.foldl_cons, List.foldl_nil, Act.put, List.setIfInBounds_toArray, List.set_cons_zero, List.set_cons_succ, e4]
            go_simp
            exact hKq _ _ ⟨Pj.vset V 5 (.slice ab mb cb), by simp only [Pj.puts, List.foldl_cons, List.foldl_nil, Act.put, List.setIfInBounds_toArray, List.set_cons_zero, List.set_cons_succ, Pj.vset, Nat.reduceEqDiff, if_true, if_false, e4], HJ.out.flat HP.out hL (HJ.out.kp.trans (Kept.refl _)) (Kept.size (Kept.refl _)) (rfl), HXhI.out.keep (by decide) (by decide) hL (Kept.refl _), fun h => ⟨(hL 13).2 (.inr (hc14 (((hL 14).1 h).resolve_left (by decide))).1), by rw [Pj.vset_other _ _ (by decide), Pj.vset_other _ _ (by decide)]; exact (hc14 (((hL 14).1 h).resolve_left (by decide))).2⟩⟩
          | 6, ho =>
            simp only [List.getElem?_toArray, List.getElem?_cons_zero, List.getElem?_cons_succ, Option.some.injEq] at ho
            have e5 : V 5 = .slice ab mb cb := hJ.h 5 (hdep 5 (by rw [← ho]; kernel_rfl))
            have hcp := HCP.out w hJ.kp
            have HJ := Lib.hid hJ
            clear hJ
            have HXhI := Lib.hid hI
            clear hI
            subst ho
            refine Pj.Step.free rfl ?_
            simp only [Pj.puts, List.foldl_cons, List.foldl_nil, Act.put, List.setIfInBounds_toArray, List.set_cons_zero, List.set_cons_succ, e5]
            go_simp
            refine hcp.mono ?_
            rintro e w' ⟨a5, c5, rfl, hown5', hk9⟩
            have hown5 := own_base hown5' (Kept.size HJ.out.kp)
            exact hKq _ _ ⟨Pj.vset V 6 (.slice a5 mb c5), by simp only [Pj.puts, List.foldl_cons, List.foldl_nil, Act.put, List.setIfInBounds_toArray, List.set_cons_zero, List.set_cons_succ, Pj.vset, Nat.reduceEqDiff, if_true, if_false, e5], HJ.out.flat HP.out hL (HJ.out.kp.trans (hk9)) (Kept.size (hk9)) (⟨_, _, rfl⟩), HXhI.out.copied hopen (by decide) hL hown5, fun h => ⟨(hL 13).2 (.inr (hc14 (((hL 14).1 h).resolve_left (by decide))).1), by rw [Pj.vset_other _ _ (by decide), Pj.vset_other _ _ (by decide)]; exact (hc14 (((hL 14).1 h).resolve_left (by decide))).2⟩⟩
          | 7, ho =>
            simp only [List.getElem?_toArray, List.getElem?_cons_zero, List.getElem?_cons_succ, Option.some.injEq] at ho
            have HJ := Lib.hid hJ
            clear hJ
            have HXhI := Lib.hid hI
            clear hI
            subst ho
            refine Pj.Step.free rfl ?_
            simp only [Pj.puts, List.foldl_cons, List.foldl_nil, Act.put, List.setIfInBounds_toArray, List.set_cons_zero, List.set_cons_succ]
            go_simp
            exact hKq _ _ ⟨Pj.vset V 7 (.pointer (some ⟨W.heap.size, 0, none⟩)), by simp only [Pj.puts, List.foldl_cons, List.foldl_nil, Act.put, List.setIfInBounds_toArray, List.set_cons_zero, List.set_cons_succ, Pj.vset, Nat.reduceEqDiff, if_true, if_false], HJ.out.flat HP.out hL (HJ.out.kp.trans (Kept.refl _)) (Kept.size (Kept.refl _)) (rfl), HXhI.out.keep (by decide) (by decide) hL (Kept.refl _), fun h => ⟨(hL 13).2 (.inr (hc14 (((hL 14).1 h).resolve_left (by decide))).1), by rw [Pj.vset_other _ _ (by decide), Pj.vset_other _ _ (by decide)]; exact (hc14 (((hL 14).1 h).resolve_left (by decide))).2⟩⟩
          | 8, ho =>
            simp only [List.getElem?_toArray, List.getElem?_cons_zero, List.getElem?_cons_succ, Option.some.injEq] at ho
            have e7 : V 7 = .pointer (some ⟨W.heap.size, 0, none⟩) := hJ.h 7 (hdep 7 (by rw [← ho]; kernel_rfl))
            obtain ⟨d0, d1⟩ := HBX6.out _ hJ.kp
            have HJ := Lib.hid hJ
            clear hJ
            have HXhI := Lib.hid hI
            clear hI
            subst ho
            refine Pj.Step.free rfl ?_
            simp only [Pj.puts, List.foldl_cons, List.foldl_nil, Act.put, List.setIfInBounds_toArray, List.set_cons_zero, List.set_cons_succ, e7]
            go_simp
            exact hKq _ _ ⟨Pj.vset V 8 (.slice (some ⟨bm, om, none⟩) lm cm), by simp only [Pj.puts, List.foldl_cons, List.foldl_nil, Act.put, List.setIfInBounds_toArray, List.set_cons_zero, List.set_cons_succ, Pj.vset, Nat.reduceEqDiff, if_true, if_false, e7], HJ.out.flat HP.out hL (HJ.out.kp.trans (Kept.refl _)) (Kept.size (Kept.refl _)) (rfl), HXhI.out.keep (by decide) (by decide) hL (Kept.refl _), fun h => ⟨(hL 13).2 (.inr (hc14 (((hL 14).1 h).resolve_left (by decide))).1), by rw [Pj.vset_other _ _ (by decide), Pj.vset_other _ _ (by decide)]; exact (hc14 (((hL 14).1 h).resolve_left (by decide))).2⟩⟩
          | 9, ho =>
            simp only [List.getElem?_toArray, List.getElem?_cons_zero, List.getElem?_cons_succ, Option.some.injEq] at ho
            have HJ := Lib.hid hJ
            clear hJ
            have HXhI := Lib.hid hI
            clear hI
            subst ho
            refine Pj.Step.free rfl ?_
            simp only [Pj.puts, List.foldl_cons, List.foldl_nil, Act.put, List.setIfInBounds_toArray, List.set_cons_zero, List.set_cons_succ]
            go_simp
            exact hKq _ _ ⟨Pj.vset V 9 (.int .i64 i), by simp only [Pj.puts, List.foldl_cons, List.foldl_nil, Act.put, List.setIfInBounds_toArray, List.set_cons_zero, List.set_cons_succ, Pj.vset, Nat.reduceEqDiff, if_true, if_false], HJ.out.flat HP.out hL (HJ.out.kp.trans (Kept.refl _)) (Kept.size (Kept.refl _)) (rfl), HXhI.out.keep (by decide) (by decide) hL (Kept.refl _), fun h => ⟨(hL 13).2 (.inr (hc14 (((hL 14).1 h).resolve_left (by decide))).1), by rw [Pj.vset_other _ _ (by decide), Pj.vset_other _ _ (by decide)]; exact (hc14 (((hL 14).1 h).resolve_left (by decide))).2⟩⟩
          | 10, ho =>
            simp only [List.getElem?_toArray, List.getElem?_cons_zero, List.getElem?_cons_succ, Option.some.injEq] at ho
            have e8 : V 8 = .slice (some ⟨bm, om, none⟩) lm cm := hJ.h 8 (hdep 8 (by rw [← ho]; kernel_rfl))
            have e9 : V 9 = .int .i64 i := hJ.h 9 (hdep 9 (by rw [← ho]; kernel_rfl))
            have HJ := Lib.hid hJ
            clear hJ
            have HXhI := Lib.hid hI
            clear hI
            subst ho
            refine Pj.Step.free rfl ?_
            simp only [Pj.puts, List.foldl_cons, List.foldl_nil, Act.put, List.setIfInBounds_toArray, List.set_cons_zero, List.set_cons_succ, e8, e9]
            go_simp
            exact hKq _ _ ⟨Pj.vset V 10 (.pointer (some ⟨bm, om + i * 3, none⟩)), by simp only [Pj.puts, List.foldl_cons, List.foldl_nil, Act.put, List.setIfInBounds_toArray, List.set_cons_zero, List.set_cons_succ, Pj.vset, Nat.reduceEqDiff, if_true, if_false, e8, e9], HJ.out.flat HP.out hL (HJ.out.kp.trans (Kept.refl _)) (Kept.size (Kept.refl _)) (rfl), HXhI.out.keep (by decide) (by decide) hL (Kept.refl _), fun h => ⟨(hL 13).2 (.inr (hc14 (((hL 14).1 h).resolve_left (by decide))).1), by rw [Pj.vset_other _ _ (by decide), Pj.vset_other _ _ (by decide)]; exact (hc14 (((hL 14).1 h).resolve_left (by decide))).2⟩⟩
          | 11, ho =>
            simp only [List.getElem?_toArray, List.getElem?_cons_zero, List.getElem?_cons_succ, Option.some.injEq] at ho
            have e10 : V 10 = .pointer (some ⟨bm, om + i * 3, none⟩) := hJ.h 10 (hdep 10 (by rw [← ho]; kernel_rfl))
            have HJ := Lib.hid hJ
            clear hJ
            have HXhI := Lib.hid hI
            clear hI
            subst ho
            refine Pj.Step.free rfl ?_
            simp only [Pj.puts, List.foldl_cons, List.foldl_nil, Act.put, List.setIfInBounds_toArray, List.set_cons_zero, List.set_cons_succ, e10]
            go_simp
            exact hKq _ _ ⟨Pj.vset V 11 (.pointer (some ⟨bm, om + i * 3 + 2, none⟩)), by simp only [Pj.puts, List.foldl_cons, List.foldl_nil, Act.put, List.setIfInBounds_toArray, List.set_cons_zero, List.set_cons_succ, Pj.vset, Nat.reduceEqDiff, if_true, if_false, e10], HJ.out.flat HP.out hL (HJ.out.kp.trans (Kept.refl _)) (Kept.size (Kept.refl _)) (rfl), HXhI.out.keep (by decide) (by decide) hL (Kept.refl _), fun h => ⟨(hL 13).2 (.inr (hc14 (((hL 14).1 h).resolve_left (by decide))).1), by rw [Pj.vset_other _ _ (by decide), Pj.vset_other _ _ (by decide)]; exact (hc14 (((hL 14).1 h).resolve_left (by decide))).2⟩⟩
          | 12, ho =>
            simp only [List.getElem?_toArray, List.getElem?_cons_zero, List.getElem?_cons_succ, Option.some.injEq] at ho
            have e11 : V 11 = .pointer (some ⟨bm, om + i * 3 + 2, none⟩) := hJ.h 11 (hdep 11 (by rw [← ho]; kernel_rfl))
            obtain ⟨q0, q1, q2⟩ := HA6.out _ hJ.kp
            have HJ := Lib.hid hJ
            clear hJ
            have HXhI := Lib.hid hI
            clear hI
            subst ho
            refine Pj.Step.free rfl ?_
            simp only [Pj.puts, List.foldl_cons, List.foldl_nil, Act.put, List.setIfInBounds_toArray, List.set_cons_zero, List.set_cons_succ, e11]
            go_simp
            exact hKq _ _ ⟨Pj.vset V 12 (.slice au mu cu), by simp only [Pj.puts, List.foldl_cons, List.foldl_nil, Act.put, List.setIfInBounds_toArray, List.set_cons_zero, List.set_cons_succ, Pj.vset, Nat.reduceEqDiff, if_true, if_false, e11], HJ.out.flat HP.out hL (HJ.out.kp.trans (Kept.refl _)) (Kept.size (Kept.refl _)) (rfl), HXhI.out.keep (by decide) (by decide) hL (Kept.refl _), fun h => ⟨(hL 13).2 (.inr (hc14 (((hL 14).1 h).resolve_left (by decide))).1), by rw [Pj.vset_other _ _ (by decide), Pj.vset_other _ _ (by decide)]; exact (hc14 (((hL 14).1 h).resolve_left (by decide))).2⟩⟩
          | 13, ho =>
            simp only [List.getElem?_toArray, List.getElem?_cons_zero, List.getElem?_cons_succ, Option.some.injEq] at ho
            have l6 := hdep 6 (by rw [← ho]; kernel_rfl)
            obtain ⟨a6, c6, e6⟩ := hJ.h 6 l6
            have e12 : V 12 = .slice au mu cu := hJ.h 12 (hdep 12 (by rw [← ho]; kernel_rfl))
            have hown := hI.c1 l6 hopen
            rw [e6] at hown
            have htl := HTL.out w hJ.kp
            have HJ := Lib.hid hJ
            clear hJ
            have HXhI := Lib.hid hI
            clear hI
            subst ho
            refine Pj.Step.free rfl ?_
            simp only [Pj.puts, List.foldl_cons, List.foldl_nil, Act.put, List.setIfInBounds_toArray, List.set_cons_zero, List.set_cons_succ, e6, e12]
            refine Pj.oper_takes _ _ 23 rfl w6.heap.size 9 i0 (.string ByteArray.empty) 1 16 Try.underlying23 HI.out.1 HI.out.2.1 HI.out.2.2.1 HI.out.2.2.2 rfl (by decide) (.slice a6 mb c6) mb (bs.map Value.string) rfl hown au mu cu (us.map Value.string) rfl HNO.out htl.1 htl.2 (fun u hu => by obtain ⟨x, _, rfl⟩ := List.mem_map.1 hu; rfl) (by omega) (by decide) HJ.out.kp.size ?_
            intro v' w' hown' hgrow
            obtain ⟨a7, c7, rfl⟩ := slice_of_own1 hown'
            simp only [Act.put, List.setIfInBounds_toArray, List.set_cons_zero, List.set_cons_succ]
            exact hKq _ _ ⟨Pj.vset V 13 (.slice a7 (mb + mu) c7), by simp only [Pj.puts, List.foldl_cons, List.foldl_nil, Act.put, List.setIfInBounds_toArray, List.set_cons_zero, List.set_cons_succ, Pj.vset, Nat.reduceEqDiff, if_true, if_false, e6, e12], HJ.out.flat HP.out hL (kept_gr1 HJ.out.kp hgrow (fun q e => (hown.lt q e).1) (Nat.le_refl _)) (hgrow.size) (⟨_, _, rfl⟩), Pj.Cpy.tail l6 hL hown', fun h => absurd (hc14 (((hL 14).1 h).resolve_left (by decide))).1 hopen⟩
          | 14, ho =>
            simp only [List.getElem?_toArray, List.getElem?_cons_zero, List.getElem?_cons_succ, Option.some.injEq] at ho
            have l13 := hdep 13 (by rw [← ho]; kernel_rfl)
            obtain ⟨a13, c13, e13⟩ := hJ.h 13 l13
            have HJ := Lib.hid hJ
            clear hJ
            have HXhI := Lib.hid hI
            clear hI
            subst ho
            refine Pj.Step.free rfl ?_
            simp only [Pj.puts, List.foldl_cons, List.foldl_nil, Act.put, List.setIfInBounds_toArray, List.set_cons_zero, List.set_cons_succ, e13]
            go_simp
            exact hKq _ _ ⟨Pj.vset V 14 (V 13), by simp only [Pj.puts, List.foldl_cons, List.foldl_nil, Act.put, List.setIfInBounds_toArray, List.set_cons_zero, List.set_cons_succ, Pj.vset, Nat.reduceEqDiff, if_true, if_false, e13], HJ.out.flat HP.out hL (HJ.out.kp.trans (Kept.refl _)) (Kept.size (Kept.refl _)) (trivial), HXhI.out.keep (by decide) (by decide) hL (Kept.refl _), fun _ => ⟨(hL 13).2 (.inr l13), by rw [Pj.vset_same, Pj.vset_other _ _ (by decide)]⟩⟩
          | n + 15, ho => simp at ho
        case ehe =>
          rintro L az w ⟨V, rfl, hJ, hI, hc14⟩ hall
          have e14 : V 14 = V 13 := (hc14 (hall 14 (by decide))).2
          obtain ⟨a13, c13, e13⟩ := hJ.h 13 (hall 13 (by decide))
          have hq9 := hI.q1 (hall 13 (by decide))
          rw [e13] at hq9
          have HQ9 := Lib.hid hq9
          clear hq9
          have HKj := Lib.hid hJ.kp
          clear hJ hall hI hc14
          simp only [Pj.puts, List.foldl_cons, List.foldl_nil, Act.put, List.setIfInBounds_toArray, List.set_cons_zero, List.set_cons_succ, e14, e13]
          clear e14 e13
          rename_i zi0 zi1 zi2 zi3 zi4 zi5 zi6 zi7 zi8 zi9 zi10 zi11 zi12 zi13 zi14 zi15 zi16 zi17 zi18 zi19 zi20 zi21 zi22 zi23 zi24 zi25 zi26 zi27 zi28 zi29 zi30 zi31 zi32 zi33 zi34 zi35 zi36 zi37 zi38 zi39 zi40 zi41 zi42 zi43 zi44 zi45 zi46 zi47 zi48 zi49 zi50 zi51 zi52 zi53 zi54 zi55 zi56 zi57 zi58 zi59 zi60 zi61 zi62 zi63 zi64 zi65 zi66 zi67 zi68 zi69 zi70 zi71 zi72 zi73 zi74 zi75 zi76 zi77 zi78 zi79 zi80 zi81 zi82 zi83 zi84 zi85 zi86 zi87 zi88 zi89 zi90 zi91 zi92 zi93 zi94 zi95 zi96 zi97 zi98 zi99 zi100 zi101 zi102 zi103 zi104 zi105 zi106 zi107 zi108 zi109 zi110 zi111 zi112 zi113 zi114 zi115 zi116 zi117 zi118 zi119 zi120 zi121 zi122 zi123 zi124 zi125 zi126 zi127 zi128 zi129 zi130 zi131 zi132 zi133 zi134 zi135 zi136 zi137 zi138 zi139 zi140 zi141 zi142 zi143 zi144 zi145 zi146 zi147 zi148 zi149 zi150 zi151 zi152 zi153 zi154 zi155 zi156 zi157 zi158 zi159 zi160 zi161 zi162 zi163 zi164 zi165 zi166 zi167 zi168
          skip
          revert lm cm ms aa ls cs ss W HSS hlm zi0 w1 HK0 w2 HK2 HLI zi1 zi2 wr u2 u4 u5 u6 u7 u8 u9 u10 u11 u12 u13 u14 u15 u16 zi3 zi4 zi5 zi6 zi7 zi8 zi9 zi10 zi11 zi12 zi13 zi14 zi15 zi16 zi17 zi18 zi19 zi20 zi21 zi22 zi23 zi24 zi25 zi26 zi27 zi28 zi29 zi30 zi31 zi32 zi33 zi34 zi35 zi36 zi37 zi38 zi39 zi40 zi41 zi42 zi43 zi44 zi45 zi46 zi47 zi48 zi49 zi50 zi51 zi52 zi53 zi54 zi55 zi56 zi57 zi58 zi59 zi60 zi61 zi62 zi63 zi64 zi65 zi66 zi67 zi68 zi69 zi70 zi71 zi72 zi73 zi74 zi75 zi76 zi77 zi78 zi79 zi80 zi81 zi82 zi83 zi84 zi85 zi86 zi87 zi88 zi89 zi90 zi91 zi92 zi93 zi94 zi95 zi96 zi97 zi98 zi99 zi100 zi101 zi102 zi103 zi104 zi105 zi106 zi107 zi108 zi109 zi110 zi111 zi112 zi113 zi114 zi115 zi116 zi117 zi118 zi119 zi120 zi121 zi122 zi123 zi124 zi125 zi126 zi127 zi128 zi129 zi130 zi131 zi132 zi133 zi134 zi135 zi136 zi137 zi138 zi139 zi140 zi141 zi142 zi143 zi144 zi145 zi146 zi147 zi148 zi149 zi150 zi151 zi152 zi153 zi154 zi155 zi156 zi157 zi158 zi159 zi160 zi161 zi162 i hi HKR hlt h6 hd1 hd2 bm om HMS HB0 HB2 HBX ab cb au cu k bs us mb mu HA hmb6 hmu6 HKW HK1 zi163 zi164 zi165 zi166 w3 x1 y1 x2 y2 w4 HK4 HX14 HX24 p4 HIN hp5 hp6 w5 E X3 Z1 X4 Z2 kk N1 N2 p5 w6 HXB HK6 HIN6 HX16 HX26 HCS6 hp7 HK46 HBX6 HA6 kO HKO HNM u19 u20 u21 u22 u23 u24 u25 u26 u27 u28 u29 u30 u31 u32 u33 u34 u35 u36 u37 u38 u39 u40 u41 u42 u43 u44 u45 u46 u47 u48 u49 u50 u51 u52 u53 u54 u55 u56 u57 u58 u59 u60 u61 u62 u63 u64 u65 u66 u67 u68 u69 u70 u71 u72 u73 u74 u75 u76 u77 u78 u79 u80 u81 u82 u83 u84 u85 u86 u87 u88 u89 u90 u91 u92 u93 u94 u95 u96 u97 u98 u99 u100 u101 u102 u103 u104 u105 u106 u107 u108 u109 u110 u111 u112 u113 u114 u115 u116 u117 u118 u119 u120 u121 u122 u123 u124 u125 u126 u127 u128 u129 u130 u131 u132 u133 u134 u135 u136 u137 u138 u139 u140 u141 u142 u143 u144 u145 u146 u147 u148 u149 u150 u151 u152 u153 u154 u155 u156 u157 u158 u159 u160 u161 u162 u163 u164 u165 u166 u167 u168 u169 u170 u171 u172 u173 u174 u175 u176 u177 u178 b7 HB7 i0 HI HCP HTL HNO zi167 zi168 L w V a13 c13 HQ9 HKj
          exact HCUT0.out
    · have HKE := Lib.hid (HK2.out.trans HKR.out)
      by_cases hlt : i < lm
      · have hd1 : decide (i < lm) = true := decide_eq_true hlt
        have hd2 : decide ((i : Int) < 6) = false := decide_eq_false (by omega)
        clear hend
        clear HCUT0
        go_wp2_with fail
        refine (wakes20_any _).mono ?_
        rintro e w9 ⟨rfl, hk9⟩
        have HK9 := Lib.hid (HKE.out.trans hk9)
        clear hk9
        go_wp2
        go_ret
        exact ⟨rfl, HK9.out⟩
      · have hd1 : decide (i < lm) = false := decide_eq_false hlt
        clear hend
        clear HCUT0
        go_wp2_with fail
        refine (wakes20_any _).mono ?_
        rintro e w9 ⟨rfl, hk9⟩
        have HK9 := Lib.hid (HKE.out.trans hk9)
        clear hk9
        go_wp2
        go_ret
        exact ⟨rfl, HK9.out⟩
  ⟩
end Go.Proofs.Ythdlmpgojoaijaa
