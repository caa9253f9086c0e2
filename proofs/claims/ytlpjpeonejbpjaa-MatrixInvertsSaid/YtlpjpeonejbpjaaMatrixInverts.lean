/- The walk of the law MatrixInverts: it answers true and changes nothing that was there (no conditions). -/
import Derived.Test.YtlpjpeonejbpjaaSquare3
import Derived.Test.YtlpjpeonejbpjaaRefInv
import Derived.Test.YtlpjpeonejbpjaaWake3
import Derived.Laws.OwnMore
namespace Go.Proofs.Ytlpjpeonejbpjaa
open Go.ChangeShapes Go.WideShapes Go.ChangeAt Go.RowKit Go.Joins

theorem square_n (am an al : Option Addr) (lm cm ln cn ll cl n : Nat) (z : Int) (hn : 1 ≤ n ∧ n ≤ 8) (hz : 0 ≤ z ∧ z ≤ 9) (w : World) (hm : MsIn w am lm) :
    Calls Try.prog 53 #[.agg #[.slice am lm cm, .slice an ln cn, .slice al ll cl], .int .i64 n, .int .i64 z] w
      fun e w' => ∃ b off F, e = .returned (.agg #[.int .i64 n, .int .i64 n, .slice (some ⟨b, off, none⟩) (n * n) (n * n)]) ∧ w.heap.size ≤ b ∧ Bt F ∧ Mat w' b off n n F ∧ Kept w w' := by
  obtain ⟨y, rfl⟩ : ∃ y : Nat, z = y := ⟨z.toNat, by omega⟩
  exact square_any am an al lm cm ln cn ll cl n y hn (by omega) w hm
/-- what a round knows -/
structure InvSt (W w1 : World) (bx : Array Value) (b5 ba oa n : Nat) (A : Nat → Nat → Nat) (w : World) : Prop where
  x : BlockAt w W.heap.size bx 47
  a : BlockAt w b5 #[.int .i64 n, .int .i64 n, .slice (some ⟨ba, oa, none⟩) (n * n) (n * n)] 50
  ma : MatR w ba oa n n A
  k : Kept W w
  k1 : Kept w1 w
theorem InvSt.kept {W w1 : World} {bx : Array Value} {b5 ba oa n : Nat} {A : Nat → Nat → Nat} {w w' : World} (h : InvSt W w1 bx b5 ba oa n A w) (k : Kept w w') : InvSt W w1 bx b5 ba oa n A w' :=
  ⟨h.x.kept k, h.a.kept k, h.ma.kept k, h.k.trans k, h.k1.trans k⟩
set_option maxRecDepth 100000 in
set_option maxHeartbeats 4000000 in
theorem matrixInverts_walk {W : World} {v : Value} {am : Option Addr} {lm cm : Nat} {an : Option Addr} {ln cn : Nat} {zs : List Int} {al : Option Addr} {ll cl : Nat} {ss : List ByteArray} (h : AskM W v am lm cm an ln cn zs al ll cl ss) :
    Calls Try.prog 11 #[v] W fun e W' => e = .returned (.bool true) ∧ Below W.heap.size W W' := by
  obtain ⟨rfl, hM, hN, hS, hcaps⟩ := h
  have hle := hM.le
  have k1 : Kept W (W.alloc (.cells #[.slice am lm cm, .slice an ln cn, .slice al ll cl] 47)) := (Kept.refl W).alloc _
  have HB := Lib.hid (BlockAt.new W #[.slice am lm cm, .slice an ln cn, .slice al ll cl] 47)
  have HM := Lib.hid (hM.kept k1)
  have HS := Lib.hid (hS.kept k1)
  have HK1 := Lib.hid k1
  clear hM hN hS hcaps k1
  go_enter Try.func11, Try.ntmps11
  go_wp2_with fail
  generalize W.alloc (.cells #[.slice am lm cm, .slice an ln cn, .slice al ll cl] 47) = w0 at *
  refine (heavy3_any am an al lm cm ln cn ll cl ss w0 HM.out HS.out).mono ?_
  rintro e w1 ⟨⟨bv, rfl⟩, hk⟩
  have HB1 := Lib.hid (HB.out.kept hk)
  have HM1 := Lib.hid (HM.out.kept hk)
  have HK2 := Lib.hid (HK1.out.trans hk)
  clear hk HB HM HS HK1
  cases bv
  case true =>
    go_wp2
    go_ret
    exact ⟨rfl, HK2.out⟩
  go_wp2_with fail
  go_loopw [3] (fun i wr => ∃ k : Nat, 1 ≤ k ∧ k ≤ 9 ∧ i = .int .i64 k ∧ Kept w1 wr) (fun i _ => 9 - (intOf i).toNat)
  case atStart => exact ⟨1, by omega, by omega, rfl, Kept.refl _⟩
  case round =>
    obtain ⟨k, hk1, hk, rfl, hK⟩ := hrel
    have HKr := Lib.hid hK
    clear hK
    by_cases h5 : k ≤ 8
    · have hd5 : decide ((k : Int) ≤ 8) = true := decide_eq_true (by omega)
      have hkn : 1 ≤ k ∧ k ≤ 16 := by omega
      go_wp2_with fail
      go_loopw [4] (fun i wy => ∃ j : Nat, 1 ≤ j ∧ j ≤ 4 ∧ i = .int .i64 j ∧ Kept w1 wy) (fun i _ => 4 - (intOf i).toNat)
      case atStart => exact ⟨1, by omega, by omega, rfl, HKr.out⟩
      case round =>
        obtain ⟨j, hj1, hj, rfl, hKy⟩ := hrel
        obtain ⟨a0, a1, a2⟩ := box3 (HB1.out.kept hKy)
        have HKy := Lib.hid hKy
        clear hKy
        by_cases hj4 : j < 4
        · have hdj : decide ((j : Int) < 4) = true := decide_eq_true (by omega)
          go_wp2_with fail
          refine (square_n am an al lm cm ln cn ll cl k (j : Int) (by omega) (by omega) _ (HM1.out.kept HKy.out)).mono ?_
          rintro e w2 ⟨b, off, A, rfl, _, hA, hmA, hk2⟩
          have ky := Kept.trans hk2 ((Kept.refl w2).alloc (.cells #[.int .i64 k, .int .i64 k, .slice (some ⟨b, off, none⟩) (k * k) (k * k)] 50))
          have HZ := Lib.hid (InvSt.mk (W := W) (w1 := w1) (HB1.out.kept (HKy.out.trans ky)) (BlockAt.new w2 #[.int .i64 k, .int .i64 k, .slice (some ⟨b, off, none⟩) (k * k) (k * k)] 50) (hmA.cell.kept ((Kept.refl w2).alloc _)) (HK2.out.trans (HKy.out.trans ky)) (HKy.out.trans ky))
          clear hk2 ky hmA a0 a1 a2 HKy
          go_wp2_with fail
          generalize w2.alloc (.cells #[.int .i64 k, .int .i64 k, .slice (some ⟨b, off, none⟩) (k * k) (k * k)] 50) = w3 at *
          generalize w2.heap.size = b5 at *
          refine (invert_any k b off (k * k) A hkn (Nat.le_refl _) hA w3 HZ.out.ma).mono ?_
          rintro e w4 ⟨hfull, hless, hk4⟩
          have hrkd := (show rankF k k A ≤ k from (rankF_le k k A).1)
          have hinvb := invF_bt hA k
          have hrin := fun w hm => rinvert k b off (k * k) A hkn hA w hm
          by_cases hR : rankF k k A = k
          · obtain ⟨bi, oi, rfl, hbi, hmi⟩ := hfull hR
            rw [hR] at hrin
            have HRI := Lib.hid hrin
            have ky := Kept.trans hk4 ((Kept.refl w4).alloc (.cells #[.int .i64 k, .int .i64 k, .slice (some ⟨bi, oi, none⟩) (k * k) (k * k)] 50))
            have HX := Lib.hid (BlockAt.new w4 #[.int .i64 k, .int .i64 k, .slice (some ⟨bi, oi, none⟩) (k * k) (k * k)] 50)
            have HI := Lib.hid (hmi.cell.kept ((Kept.refl w4).alloc (.cells #[.int .i64 k, .int .i64 k, .slice (some ⟨bi, oi, none⟩) (k * k) (k * k)] 50)))
            have HZ5 := Lib.hid (HZ.out.kept ky)
            clear hfull hless hk4 hbi hmi ky HZ hrin hR hrkd hinvb
            generalize invF k A = G at *
            obtain ⟨a0, a1, a2⟩ := box3 HZ5.out.a
            go_wp2_with fail
            generalize w4.alloc (.cells #[.int .i64 k, .int .i64 k, .slice (some ⟨bi, oi, none⟩) (k * k) (k * k)] 50) = w5 at *
            generalize w4.heap.size = b6 at *
            refine (HRI.out w5 HZ5.out.ma).mono ?_
            rintro e w6 ⟨g, kk, rfl, _, _, hmg, hk6⟩
            have ky := Kept.trans hk6 ((Kept.refl w6).alloc (.cells #[.int .i64 k, .int .i64 k, .slice (some ⟨g, 0, none⟩) (k * k) kk] 50))
            have HY := Lib.hid (BlockAt.new w6 #[.int .i64 k, .int .i64 k, .slice (some ⟨g, 0, none⟩) (k * k) kk] 50)
            have HG := Lib.hid (hmg.cell.kept ((Kept.refl w6).alloc (.cells #[.int .i64 k, .int .i64 k, .slice (some ⟨g, 0, none⟩) (k * k) kk] 50)))
            have HX7 := Lib.hid (HX.out.kept ky)
            have HI7 := Lib.hid (HI.out.kept ky)
            have HZ7 := Lib.hid (HZ5.out.kept ky)
            have hkk : ((k : Int) == (k : Int)) = true := by simp
            clear hmg hk6 ky HX HI HZ5 HRI a0 a1 a2
            rw [hkk]
            clear hkk
            obtain ⟨c0, c1, c2⟩ := box3 HX7.out
            obtain ⟨d0, d1, d2⟩ := box3 HY.out
            go_wp2_with (go_at_call 41; refine (num3_any _ _).mono ?_; rintro e w' ⟨rfl, rfl⟩)
            refine (eq_matrix k k (some ⟨bi, oi, none⟩) (some ⟨g, 0, none⟩) (k * k) (k * k) kk (flat k G) (by have := Nat.mul_le_mul hkn.2 hkn.2; omega) _ HI7.out.flat HG.out.flat).mono ?_
            rintro e w8 ⟨rfl, hk8⟩
            have HK8 := Lib.hid (HZ7.out.k1.trans hk8)
            clear hk8 HZ7 c0 c1 c2 d0 d1 d2
            go_wp2_with fail
            go_roundw
            case rel => exact ⟨j + 1, by omega, by omega, by go_num, HK8.out⟩
            case measure => simp [intOf]; omega
          · rw [hless hR]
            have hkk : (((rankF k k A : Nat) : Int) == (k : Int)) = false := by rw [beq_eq_false_iff_ne]; omega
            rw [hkk] at hrin
            have HRI := Lib.hid hrin
            have HZ5 := Lib.hid (HZ.out.kept (Kept.trans hk4 ((Kept.refl w4).alloc (.cells #[.int .i64 0, .int .i64 0, .slice none 0 0] 50))))
            clear hfull hless hk4 HZ hrin hR hrkd hinvb hkk
            generalize invF k A = G at *
            obtain ⟨a0, a1, a2⟩ := box3 HZ5.out.a
            go_wp2_with fail
            generalize w4.alloc (.cells #[.int .i64 0, .int .i64 0, .slice none 0 0] 50) = w5 at *
            generalize w4.heap.size = b6 at *
            refine (HRI.out w5 HZ5.out.ma).mono ?_
            rintro e w6 ⟨g, kk, rfl, _, _, hmg, hk6⟩
            have HZ7 := Lib.hid (HZ5.out.kept (Kept.trans hk6 ((Kept.refl w6).alloc (.cells #[.int .i64 k, .int .i64 k, .slice (some ⟨g, 0, none⟩) (k * k) kk] 50))))
            clear hmg hk6 HZ5 HRI a0 a1 a2
            go_wp2_with (go_at_call 41; refine (num3_any _ _).mono ?_; rintro e w' ⟨rfl, rfl⟩)
            go_roundw
            case rel => exact ⟨j + 1, by omega, by omega, by go_num, HZ7.out.k1⟩
            case measure => simp [intOf]; omega
        · have hdj : decide ((j : Int) < 4) = false := decide_eq_false (by omega)
          go_wp2_with fail
          go_roundw
          case rel => exact ⟨k + 1, by omega, by omega, by go_num, HKy.out⟩
          case measure => simp [intOf]; omega
    · have hd5 : decide ((k : Int) ≤ 8) = false := decide_eq_false (by omega)
      go_wp2_with fail
      refine (wakes3_any _).mono ?_
      rintro e w2 ⟨rfl, hk2⟩
      go_wp2
      go_ret
      exact ⟨rfl, (HK2.out.trans HKr.out).trans hk2⟩
end Go.Proofs.Ytlpjpeonejbpjaa
