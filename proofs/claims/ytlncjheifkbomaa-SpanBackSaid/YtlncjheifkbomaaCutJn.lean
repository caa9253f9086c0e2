/- cut.Join, by what it answers. -/
import Derived.Test.YtlncjheifkbomaaCutJ
namespace Go.Proofs.Ytlncjheifkbomaa
open Go.RowKit Go.Shelf
/-- what may be joined -/
def jokB (k m s n : Int) (ss : List ByteArray) : Prop := shpB k m s = true ∧ (ss.length : Int) = k ∧ (1 ≤ n ∧ n ≤ k * s) ∧ ss.all (fun t => decide ((t.size : Int) = s)) = true
set_option maxRecDepth 100000 in
set_option maxHeartbeats 2000000 in
theorem join_bad (k m s n : Int) (a : Option Addr) (l cap : Nat) (ss : List ByteArray) (w : World) (hss : StrsIn w a l ss) (hl : l ≤ 1000000) (hno : ¬ jokB k m s n ss) :
    Calls Try.prog 25 #[.agg #[.int .i64 k, .int .i64 m, .int .i64 s], .slice a l cap, .int .i64 n] w fun e w' => e = .returned (.tuple #[.string ByteArray.empty, .int .i64 1]) ∧ Kept w w' := by
  have hck := fun w => code_check k m s w
  have HB := Lib.hid (BlockAt.new w #[.int .i64 k, .int .i64 m, .int .i64 s] 31)
  have HK := Lib.hid ((Kept.refl w).alloc (.cells #[.int .i64 k, .int .i64 m, .int .i64 s] 31))
  have HS := Lib.hid hss
  have HLN := Lib.hid hss.len_eq
  have HNO := Lib.hid hno
  clear hss hno
  by_cases h : shpB k m s = true
  · have HSH := Lib.hid h
    have hE : shpE k m s = 0 := by unfold shpE; rw [if_pos h]
    rw [hE] at hck
    have HCK := Lib.hid hck
    clear hck hE
    by_cases hlk : (l : Int) = k
    · have hd1 : ((l : Int) != k) = false := by rw [hlk]; simp
      by_cases hn1 : n < 1
      · have hd2 : decide (n < 1) = true := decide_eq_true hn1
        clear h HNO HSH hlk
        go_enter Try.func25, Try.ntmps25
        go_wp2_with fail
        generalize w.alloc (.cells #[.int .i64 k, .int .i64 m, .int .i64 s] 31) = w1 at *
        obtain ⟨a0, a1, a2⟩ := box3c HB.out
        go_step3
        go_wp2_with fail
        refine (HCK.out _).mono ?_
        rintro e w2 ⟨rfl, hk2⟩
        have HK2 := Lib.hid (HK.out.trans hk2)
        have HB2 := Lib.hid (HB.out.kept hk2)
        have HS2 := Lib.hid (HS.out.kept HK2.out)
        clear a0 a1 a2 hk2
        obtain ⟨a0, a1, a2⟩ := box3c HB2.out
        go_wp2
        rw [Exit.noGoto_ret]
        go_ret2
        exact ⟨rfl, HK2.out⟩
      · have hd2 : decide (n < 1) = false := decide_eq_false hn1
        have hb := ks_bounds h
        obtain ⟨h1, h2, h3, h4, h5, h6⟩ := shpB_true h
        obtain ⟨p, hp⟩ : ∃ p, k * s = p := ⟨_, rfl⟩
        have HWH := Lib.hid (fun w => whole_any k m s p ⟨h1, h2⟩ ⟨h5, h6⟩ hp w)
        have HP := Lib.hid hp
        by_cases hnp : p < n
        · have hd3 : decide (p < n) = true := decide_eq_true hnp
          clear h HNO HSH hlk h1 h2 h3 h4 h5 h6 hp hb HP
          go_enter Try.func25, Try.ntmps25
          go_wp2_with fail
          generalize w.alloc (.cells #[.int .i64 k, .int .i64 m, .int .i64 s] 31) = w1 at *
          obtain ⟨a0, a1, a2⟩ := box3c HB.out
          go_step3
          go_wp2_with fail
          refine (HCK.out _).mono ?_
          rintro e w2 ⟨rfl, hk2⟩
          have HK2 := Lib.hid (HK.out.trans hk2)
          have HB2 := Lib.hid (HB.out.kept hk2)
          have HS2 := Lib.hid (HS.out.kept HK2.out)
          clear a0 a1 a2 hk2
          obtain ⟨a0, a1, a2⟩ := box3c HB2.out
          go_wp2_with fail
          refine (HWH.out _).mono ?_
          rintro e w3 ⟨rfl, hk3⟩
          have HK3 := Lib.hid (HK2.out.trans hk3)
          have HB3 := Lib.hid (HB2.out.kept hk3)
          have HS3 := Lib.hid (HS2.out.kept hk3)
          clear a0 a1 a2 hk3 HB2 HS2
          go_wp2
          rw [Exit.noGoto_ret]
          go_ret2
          exact ⟨rfl, HK3.out⟩
        · have hd3 : decide (p < n) = false := decide_eq_false hnp
          have HBAD := Lib.hid (show ss.all (fun t => decide ((t.size : Int) = s)) = false by
            rw [Bool.eq_false_iff]
            exact fun e => HNO.out ⟨HSH.out, by rw [HLN.out]; exact hlk, ⟨by omega, by rw [hp]; omega⟩, e⟩)
          have HLK := Lib.hid hlk
          clear h HNO HSH h1 h2 h3 h4 h5 h6 hp hb HP hlk
          go_enter Try.func25, Try.ntmps25
          go_wp2_with fail
          generalize w.alloc (.cells #[.int .i64 k, .int .i64 m, .int .i64 s] 31) = w1 at *
          obtain ⟨a0, a1, a2⟩ := box3c HB.out
          go_step3
          go_wp2_with fail
          refine (HCK.out _).mono ?_
          rintro e w2 ⟨rfl, hk2⟩
          have HK2 := Lib.hid (HK.out.trans hk2)
          have HB2 := Lib.hid (HB.out.kept hk2)
          have HS2 := Lib.hid (HS.out.kept HK2.out)
          clear a0 a1 a2 hk2
          obtain ⟨a0, a1, a2⟩ := box3c HB2.out
          go_wp2_with fail
          refine (HWH.out _).mono ?_
          rintro e w3 ⟨rfl, hk3⟩
          have HK3 := Lib.hid (HK2.out.trans hk3)
          have HB3 := Lib.hid (HB2.out.kept hk3)
          have HS3 := Lib.hid (HS2.out.kept hk3)
          clear a0 a1 a2 hk3 HB2 HS2
          go_wp2_with fail
          go_loopw [35] (fun i wr => ∃ j : Nat, j ≤ l ∧ i = .int .i64 j ∧ w3 = wr ∧ (ss.take j).all (fun t => decide ((t.size : Int) = s)) = true) (fun i _ => l - (intOf i).toNat)
          case atStart => exact ⟨0, by omega, by trivial, by trivial, by trivial⟩
          case round =>
            obtain ⟨j, hj, rfl, rfl, hall⟩ := hrel
            have HA := Lib.hid hall
            clear hall
            obtain ⟨a0, a1, a2⟩ := box3c HB3.out
            by_cases hlt : j < l
            · have hd5 : decide ((j : Int) < l) = true := decide_eq_true (by omega)
              obtain ⟨b, off, rfl, hc⟩ := HS3.out.at (by omega)
              have c0 := hc j hlt w3 (Kept.refl _)
              have HSN := Lib.hid (all_snocS ss (fun t => decide ((t.size : Int) = s)) j (by rw [HLN.out]; exact hlt))
              have HF := Lib.hid (all_atS ss (fun t => decide ((t.size : Int) = s)) j (by rw [HLN.out]; exact hlt))
              generalize ss.getD j ByteArray.empty = t at c0 HSN HF
              clear hc
              by_cases hz : (t.size : Int) = s
              · have hd6 : ((t.size : Int) == s) = true := by rw [hz]; simp
                have HD := Lib.hid (show decide ((t.size : Int) = s) = true from decide_eq_true hz)
                go_wp2
                go_roundw
                case rel => exact ⟨j + 1, by omega, by go_num, by trivial, by rw [HSN.out, HA.out, HD.out]; rfl⟩
                case measure => simp [intOf]; omega
              · have hd6 : ((t.size : Int) == s) = false := by rw [beq_eq_false_iff_ne]; exact hz
                have HD := Lib.hid (HF.out (decide_eq_false hz))
                clear HSN HF HA
                go_wp2
                rw [Exit.noGoto_ret]
                go_ret2
                exact ⟨rfl, HK3.out⟩
            · obtain rfl : j = l := by omega
              have hd5 : decide ((j : Int) < j) = false := decide_eq_false (by omega)
              have hall := HA.out
              rw [List.take_of_length_le (by rw [HLN.out]; omega)] at hall
              have HALL := Lib.hid hall
              clear hall HA
              exact absurd HALL.out (by rw [HBAD.out]; exact Bool.false_ne_true)
    · have hd1 : ((l : Int) != k) = true := by rw [bne_iff_ne]; exact hlk
      clear h HNO HSH hlk
      go_enter Try.func25, Try.ntmps25
      go_wp2_with fail
      generalize w.alloc (.cells #[.int .i64 k, .int .i64 m, .int .i64 s] 31) = w1 at *
      obtain ⟨a0, a1, a2⟩ := box3c HB.out
      go_step3
      go_wp2_with fail
      refine (HCK.out _).mono ?_
      rintro e w2 ⟨rfl, hk2⟩
      have HK2 := Lib.hid (HK.out.trans hk2)
      have HB2 := Lib.hid (HB.out.kept hk2)
      have HS2 := Lib.hid (HS.out.kept HK2.out)
      clear a0 a1 a2 hk2
      obtain ⟨a0, a1, a2⟩ := box3c HB2.out
      go_wp2
      rw [Exit.noGoto_ret]
      go_ret2
      exact ⟨rfl, HK2.out⟩
  · have hE : shpE k m s = 1 := by unfold shpE; rw [if_neg h]
    rw [hE] at hck
    have HCK := Lib.hid hck
    clear hck hE h
    clear HNO
    go_enter Try.func25, Try.ntmps25
    go_wp2_with fail
    generalize w.alloc (.cells #[.int .i64 k, .int .i64 m, .int .i64 s] 31) = w1 at *
    obtain ⟨a0, a1, a2⟩ := box3c HB.out
    go_step3
    go_wp2_with fail
    refine (HCK.out _).mono ?_
    rintro e w2 ⟨rfl, hk2⟩
    have HK2 := Lib.hid (HK.out.trans hk2)
    have HB2 := Lib.hid (HB.out.kept hk2)
    have HS2 := Lib.hid (HS.out.kept HK2.out)
    clear a0 a1 a2 hk2
    obtain ⟨a0, a1, a2⟩ := box3c HB2.out
    go_wp2
    rw [Exit.noGoto_ret]
    go_ret2
    exact ⟨rfl, HK2.out⟩
set_option maxRecDepth 100000 in
set_option maxHeartbeats 2000000 in
theorem join_good (k m s : Int) (n : Nat) (a : Option Addr) (l cap : Nat) (ss : List ByteArray) (w : World) (hss : StrsIn w a l ss) (hcap : l ≤ cap) (hok : jokB k m s n ss) :
    Calls Try.prog 25 #[.agg #[.int .i64 k, .int .i64 m, .int .i64 s], .slice a l cap, .int .i64 n] w fun e w' => ((zeroFrom (cat ss) n ∧ e = .returned (.tuple #[.string ((cat ss).extract 0 n), .int .i64 0])) ∨ (¬ zeroFrom (cat ss) n ∧ e = .returned (.tuple #[.string ByteArray.empty, .int .i64 7]))) ∧ Kept w w' := by
  have hck := fun w => code_check k m s w
  have HB := Lib.hid (BlockAt.new w #[.int .i64 k, .int .i64 m, .int .i64 s] 31)
  have HK := Lib.hid ((Kept.refl w).alloc (.cells #[.int .i64 k, .int .i64 m, .int .i64 s] 31))
  have HS := Lib.hid hss
  have HLN := Lib.hid hss.len_eq
  obtain ⟨h, hlk', ⟨hn1, hn2⟩, hgood⟩ := hok
  have hlk : (l : Int) = k := by rw [← hss.len_eq]; exact hlk'
  have HGOOD := Lib.hid hgood
  clear hss hgood hlk'
  have hE : shpE k m s = 0 := by unfold shpE; rw [if_pos h]
  rw [hE] at hck
  have HCK := Lib.hid hck
  clear hck hE
  have hb := ks_bounds h
  obtain ⟨h1, h2, h3, h4, h5, h6⟩ := shpB_true h
  obtain ⟨sn, hsn⟩ : ∃ sn : Nat, s = sn := ⟨s.toNat, by omega⟩
  obtain ⟨q, hq⟩ : ∃ q : Nat, q = l * sn := ⟨_, rfl⟩
  have hp : k * s = (q : Int) := by rw [hq, hsn, ← hlk]; simp
  have HWH := Lib.hid (fun w => whole_any k m s q ⟨h1, h2⟩ ⟨h5, h6⟩ hp w)
  have HQ := Lib.hid hq
  have hd1 : ((l : Int) != k) = false := by rw [hlk]; simp
  have hd2 : decide ((n : Int) < 1) = false := decide_eq_false (by omega)
  have hd3 : decide (q < n) = false := decide_eq_false (by omega)
  have hnq : n ≤ q := by omega
  have hn0 : 1 ≤ n := by omega
  have hq9 : q ≤ 960 := by omega
  have hl8 : l ≤ 8 := by omega
  have hl1 : 1 ≤ l := by omega
  subst hsn
  subst hlk
  clear h h1 h2 h3 h4 h5 h6 hp hb hq hn1 hn2
  go_enter Try.func25, Try.ntmps25
  go_wp2_with fail
  generalize w.alloc (.cells #[.int .i64 (l : Int), .int .i64 m, .int .i64 (sn : Int)] 31) = w1 at *
  obtain ⟨a0, a1, a2⟩ := box3c HB.out
  go_step3
  go_wp2_with fail
  refine (HCK.out _).mono ?_
  rintro e w2 ⟨rfl, hk2⟩
  have HK2 := Lib.hid (HK.out.trans hk2)
  have HB2 := Lib.hid (HB.out.kept hk2)
  have HS2 := Lib.hid (HS.out.kept HK2.out)
  clear a0 a1 a2 hk2
  obtain ⟨a0, a1, a2⟩ := box3c HB2.out
  go_wp2_with fail
  refine (HWH.out _).mono ?_
  rintro e w3 ⟨rfl, hk3⟩
  have HK3 := Lib.hid (HK2.out.trans hk3)
  have HB3 := Lib.hid (HB2.out.kept hk3)
  have HS3 := Lib.hid (HS2.out.kept hk3)
  clear a0 a1 a2 hk3 HB2 HS2
  have HLT3 := Lib.hid (show ∀ b off, a = some ⟨b, off, none⟩ → b < w3.heap.size from fun b off e => by
    obtain ⟨b2, off2, ha2, hc2⟩ := HS3.out.cells
    rw [ha2 (by omega)] at e
    cases e
    exact (hc2 0 (by omega)).1)
  go_wp2_with fail
  go_loopw [35] (fun i wr => ∃ j : Nat, j ≤ l ∧ i = .int .i64 j ∧ w3 = wr ∧ (ss.take j).all (fun t => decide ((t.size : Int) = (sn : Int))) = true) (fun i _ => l - (intOf i).toNat)
  case atStart => exact ⟨0, by omega, by trivial, by trivial, by trivial⟩
  case round =>
    obtain ⟨j, hj, rfl, rfl, hall⟩ := hrel
    have HA := Lib.hid hall
    clear hall
    obtain ⟨a0, a1, a2⟩ := box3c HB3.out
    by_cases hlt : j < l
    · have hd5 : decide ((j : Int) < l) = true := decide_eq_true (by omega)
      obtain ⟨b, off, rfl, hc⟩ := HS3.out.at (by omega)
      have c0 := hc j hlt w3 (Kept.refl _)
      have HSN := Lib.hid (all_snocS ss (fun t => decide ((t.size : Int) = (sn : Int))) j (by rw [HLN.out]; exact hlt))
      have HF := Lib.hid (all_atS ss (fun t => decide ((t.size : Int) = (sn : Int))) j (by rw [HLN.out]; exact hlt))
      generalize ss.getD j ByteArray.empty = t at c0 HSN HF
      clear hc
      by_cases hz : (t.size : Int) = (sn : Int)
      · have hd6 : ((t.size : Int) == (sn : Int)) = true := by rw [hz]; simp
        have HD := Lib.hid (show decide ((t.size : Int) = (sn : Int)) = true from decide_eq_true hz)
        go_wp2
        go_roundw
        case rel => exact ⟨j + 1, by omega, by go_num, by trivial, by rw [HSN.out, HA.out, HD.out]; rfl⟩
        case measure => simp [intOf]; omega
      · have hd6 : ((t.size : Int) == (sn : Int)) = false := by rw [beq_eq_false_iff_ne]; exact hz
        have HD := Lib.hid (HF.out (decide_eq_false hz))
        clear HSN HF HA
        exact absurd HGOOD.out (by rw [HD.out]; exact Bool.false_ne_true)
    · obtain rfl : j = l := by omega
      have hd5 : decide ((j : Int) < j) = false := decide_eq_false (by omega)
      have hall := HA.out
      rw [List.take_of_length_le (by rw [HLN.out]; omega)] at hall
      have HALL := Lib.hid hall
      clear hall HA
      have HALLS := Lib.hid (show ∀ x ∈ ss, x.size = sn from fun x hx => by have := of_decide_eq_true (List.all_eq_true.1 HALL.out x hx); omega)
      have hcz : (cat ss).size = q := by rw [cat_size ss sn HALLS.out, HLN.out, HQ.out]
      obtain ⟨b, off, rfl, hc⟩ := HS3.out.at (by omega)
      have HJ := Lib.hid (Try.strings_Join b off cap ss ⟨#[]⟩ w3 (fun i x hx => by
          have hi : i < ss.length := (List.getElem?_eq_some_iff.1 hx).1
          have h1 := hc i (by rw [← HLN.out]; exact hi) w3 (Kept.refl _)
          have h2 : ss.getD i ByteArray.empty = x := by simp [List.getD, hx]
          rw [h2] at h1
          exact h1) (HLT3.out b off rfl) (by rw [HLN.out]; omega) (by rw [HLN.out]; exact hcap) (by
          have h1 := cat_join ss
          have h2 : (Lib.join (ss.map (·.data.toList)) (⟨#[]⟩ : ByteArray).data.toList).length = (cat ss).size := by rw [← h1]; rfl
          rw [h2, hcz]; omega))
      rw [cat_join, HLN.out] at HJ
      clear hc a0 a1 a2
      obtain ⟨u, hu⟩ : ∃ u, cat ss = u := ⟨_, rfl⟩
      rw [hu] at hcz HJ
      have HU := Lib.hid hu
      clear hu
      go_wp2_with fail
      refine (HJ.out).mono ?_
      rintro e w5 ⟨rfl, hk5⟩
      have HK5 := Lib.hid (HK3.out.trans hk5)
      clear hk5
      go_wp2
      go_step3
      go_wp2
      go_loopw [11, 12] (fun e i wr => ∃ j : Nat, n ≤ j ∧ j ≤ u.size ∧ i = .int .i64 j ∧ e = .int .i64 0 ∧ w5 = wr ∧ ∀ i, n ≤ i → (h : i < u.size) → i < j → u[i] = 0) (fun _ i _ => u.size - (intOf i).toNat)
      case atStart => exact ⟨n, by omega, by omega, rfl, rfl, by trivial, fun i h1 h2 h3 => by omega⟩
      case round =>
        obtain ⟨j, hj1, hj2, rfl, rfl, rfl, hall⟩ := hrel
        have HA := Lib.hid hall
        clear hall
        by_cases hlt : j < u.size
        · have hd7 : decide ((j : Int) < u.size) = true := decide_eq_true (by omega)
          by_cases hz : u[j] = 0
          · have HZ0 := Lib.hid hz
            have hz0 : u[j].toNat = 0 := by rw [hz]; rfl
            clear hz
            go_wp2
            go_roundw
            case rel => exact ⟨j + 1, by omega, by omega, by go_num, rfl, by trivial, fun i h1 h2 h3 => by
              by_cases e : i = j
              · subst e; exact HZ0.out
              · exact HA.out i h1 h2 (by omega)⟩
            case measure => simp [intOf]; omega
          · have hz0 : ¬ u[j].toNat = 0 := fun e => hz (UInt8.toNat_inj.1 (by rw [e]; rfl))
            have HNZ := Lib.hid (show ¬ zeroFrom u n from fun e => hz (e j hj1 hlt))
            clear hz
            go_wp2
            rw [Exit.noGoto_ret]
            go_ret2
            rw [HU.out]
            exact ⟨.inr ⟨HNZ.out, rfl⟩, HK5.out⟩
        · obtain rfl : j = u.size := by omega
          have HZF := Lib.hid (show zeroFrom u n from fun i h1 h2 => HA.out i h1 h2 h2)
          have hd7 : decide ((u.size : Int) < u.size) = false := decide_eq_false (by omega)
          clear HA
          go_wp2
          rw [Exit.noGoto_ret]
          go_ret2
          rw [HU.out]
          exact ⟨.inl ⟨HZF.out, rfl⟩, HK5.out⟩

end Go.Proofs.Ytlncjheifkbomaa

