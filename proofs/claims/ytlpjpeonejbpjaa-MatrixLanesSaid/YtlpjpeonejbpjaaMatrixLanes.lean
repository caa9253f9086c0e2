/- The walk of the law MatrixLanes: it answers true and changes nothing that was there (no conditions). -/
import Derived.Test.YtlpjpeonejbpjaaSquare3
import Derived.Test.YtlpjpeonejbpjaaMatLn
import Derived.Test.YtlpjpeonejbpjaaWake3
import Derived.Test.YtlpjpeonejbpjaaInvAny
import Derived.Test.YtlpjpeonejbpjaaLaneHelp
import Derived.Test.YtlpjpeonejbpjaaCopyStr
import Derived.Laws.OwnMore
import Derived.Deep.DeepCutAuto
import Derived.Deep.RegionHeld3
namespace Go.Proofs.Ytlpjpeonejbpjaa
open Go.ChangeShapes Go.WideShapes Go.ChangeAt Go.RowKit Go.Joins

theorem ne_types {w : World} {b b' : Nat} {C C' : Array Value} {t t' : TypeId} (h : BlockAt w b C t) (h' : BlockAt w b' C' t') (hne : t ≠ t') : b ≠ b' := fun e => by
  subst e
  have h1 : w.heap[b]? = some (.cells C t (0, 0)) := h
  have h2 : w.heap[b]? = some (.cells C' t' (0, 0)) := h'
  rw [h1] at h2
  cases h2
  exact hne rfl
abbrev mt (k b o : Nat) : Value := .agg #[.int .i64 k, .int .i64 k, .slice (some ⟨b, o, none⟩) (k * k) (k * k)]
/-- a square matrix' block that is shown by a value -/
def Sq (k : Nat) (w : World) (v : Value) : Prop := ∃ b o A, v = mt k b o ∧ Bt A ∧ Mat w b o k k A
theorem Sq.kept {k : Nat} {w w' : World} {v : Value} : Sq k w v → Kept w w' → Sq k w' v := fun ⟨b, o, A, h1, h2, h3⟩ hk => ⟨b, o, A, h1, h2, h3.kept hk⟩
/-- a variable's block: as made, or with a square matrix stored -/
def Vr (k : Nat) (wr w : World) (done : Prop) (v : Value) : Prop := ∃ b, v = .pointer (some ⟨b, 0, none⟩) ∧ wr.heap.size ≤ b ∧ (¬ done → BlockAt w b #[.int .i64 0, .int .i64 0, .slice none 0 0] 50) ∧
  (done → ∃ ba oa A, BlockAt w b #[.int .i64 k, .int .i64 k, .slice (some ⟨ba, oa, none⟩) (k * k) (k * k)] 50 ∧ Bt A ∧ Mat w ba oa k k A)
theorem Vr.kept {k : Nat} {wr w w' : World} {d d' : Prop} {v : Value} (hd : d' ↔ d) : Vr k wr w d v → Kept w w' → Vr k wr w' d' v := fun ⟨b, h1, h2, h3, h4⟩ hk =>
  ⟨b, h1, h2, fun h => (h3 (fun e => h (hd.2 e))).kept hk, fun h => by
    obtain ⟨ba, oa, A, g1, g2, g3⟩ := h4 (hd.1 h)
    exact ⟨ba, oa, A, g1.kept hk, g2, g3.kept hk⟩⟩
structure LF (k : Nat) (bx : Value) (wr : World) (L : Nat → Prop) (w : World) (v4 v5 v22 v23 v24 v25 v26 v27 : Value) : Prop where
  kp : Kept wr w
  f0 : L 0 → v22 = bx
  f1 : L 1 → v23 = .int .i64 k
  f2 : L 2 → Sq k w v24
  f3 : L 3 → v25 = bx
  f4 : L 4 → v26 = .int .i64 k
  f5 : L 5 → Sq k w v27
  f6 : L 6 → Vr k wr w (L 8) v4
  f7 : L 7 → Vr k wr w (L 9) v5
  f67 : L 6 → L 7 → v4 ≠ v5
  f86 : L 8 → L 6
  f97 : L 9 → L 7
  f98 : L 9 → L 8
theorem Vr.lt {k : Nat} {wr w : World} {d : Prop} {v : Value} (h : Vr k wr w d v) : ∃ b, v = .pointer (some ⟨b, 0, none⟩) ∧ b < w.heap.size := by
  obtain ⟨b, h1, _, h3, h4⟩ := h
  refine ⟨b, h1, ?_⟩
  by_cases hd : d
  · obtain ⟨_, _, _, g, _⟩ := h4 hd
    exact g.lt
  · exact (h3 hd).lt
theorem grown3 (w : World) (b : Nat) (x y z : Value) : w.grownBy (((w.setCell ⟨b, 0, none⟩ x).setCell ⟨b, 1, none⟩ y).setCell ⟨b, 2, none⟩ z) (some b) := grown_trans (grown_trans (grown_set _ _ _ _) (grown_set _ _ _ _)) (grown_set _ _ _ _)
theorem set3 {w : World} {b : Nat} {x y z : Value} {t : TypeId} (h : BlockAt w b #[x, y, z] t) (x' y' z' : Value) : BlockAt (((w.setCell ⟨b, 0, none⟩ x').setCell ⟨b, 1, none⟩ y').setCell ⟨b, 2, none⟩ z') b #[x', y', z'] t := by
  have h0 : BlockAt (w.setCell ⟨b, 0, none⟩ x') b #[x', y, z] t := h.set (i := 0) x'
  have h1 : BlockAt ((w.setCell ⟨b, 0, none⟩ x').setCell ⟨b, 1, none⟩ y') b #[x', y', z] t := h0.set (i := 1) y'
  exact h1.set (i := 2) z'
theorem Sq.grown {k : Nat} {w w' : World} {v : Value} {b4 : Nat} {C : Array Value} (h : Sq k w v) (hz : BlockAt w b4 C 50) (hg : w.grownBy w' (some b4)) : Sq k w' v := by
  obtain ⟨b, o, A, h1, h2, h3⟩ := h
  obtain ⟨cs, hb⟩ := h3.blk
  have hne := ne_types hb hz (by decide)
  exact ⟨b, o, A, h1, h2, h3.grown hg (fun e => hne (Option.some.inj e))⟩
theorem Vr.grown {k : Nat} {wr w w' : World} {d d' : Prop} {v : Value} {b4 : Nat} {C : Array Value} (hd : d' ↔ d) (h : Vr k wr w d v) (hv : v ≠ .pointer (some ⟨b4, 0, none⟩)) (hz : BlockAt w b4 C 50) (hg : w.grownBy w' (some b4)) : Vr k wr w' d' v := by
  obtain ⟨b, h1, h2, h3, h4⟩ := h
  have hne : some b ≠ some b4 := fun e => hv (by rw [h1, Option.some.inj e])
  refine ⟨b, h1, h2, fun x => (h3 (fun y => x (hd.2 y))).grown hg hne, fun x => ?_⟩
  obtain ⟨ba, oa, A, g1, g2, g3⟩ := h4 (hd.1 x)
  obtain ⟨cs, hb⟩ := g3.blk
  have hne2 := ne_types hb hz (by decide)
  exact ⟨ba, oa, A, g1.grown hg hne, g2, g3.grown hg (fun e => hne2 (Option.some.inj e))⟩
theorem wanted_none {o : Oper} (h : o.guard = none) (y : Nat → Option Bool) : Region.wanted o y = true := by unfold Region.wanted; rw [h]
def LJ (k : Nat) (bx : Value) (wr : World) (a0 : Act) (L : Nat → Prop) (a : Act) (w : World) : Prop := ∃ v4 v5 v22 v23 v24 v25 v26 v27,
  a = ((((((((a0.put (some 4) v4).put (some 5) v5).put (some 22) v22).put (some 23) v23).put (some 24) v24).put (some 25) v25).put (some 26) v26).put (some 27) v27) ∧ LF k bx wr L w v4 v5 v22 v23 v24 v25 v26 v27
/-- one more operation is done: what it leaves alone stays -/
theorem LF.more {k : Nat} {bx : Value} {wr : World} {L L' : Nat → Prop} {w w' : World} {v4 v5 v22 v23 v24 v25 v26 v27 v4' v5' v22' v23' v24' v25' v26' v27' : Value} (h : LF k bx wr L w v4 v5 v22 v23 v24 v25 v26 v27) (i : Nat) (hi : i < 8) (hL : ∀ j, L' j ↔ (j = i ∨ L j)) (hk : Kept w w')
    (e0 : i = 0 ∧ v22' = bx ∨ i ≠ 0 ∧ v22' = v22) (e1 : i = 1 ∧ v23' = .int .i64 k ∨ i ≠ 1 ∧ v23' = v23) (e2 : i = 2 ∧ Sq k w' v24' ∨ i ≠ 2 ∧ v24' = v24) (e3 : i = 3 ∧ v25' = bx ∨ i ≠ 3 ∧ v25' = v25) (e4 : i = 4 ∧ v26' = .int .i64 k ∨ i ≠ 4 ∧ v26' = v26)
    (e5 : i = 5 ∧ Sq k w' v27' ∨ i ≠ 5 ∧ v27' = v27) (e6 : i = 6 ∧ Vr k wr w' (L' 8) v4' ∧ (L 7 → v4' ≠ v5) ∨ i ≠ 6 ∧ v4' = v4) (e7 : i = 7 ∧ Vr k wr w' (L' 9) v5' ∧ (L 6 → v4 ≠ v5') ∨ i ≠ 7 ∧ v5' = v5) :
    LF k bx wr L' w' v4' v5' v22' v23' v24' v25' v26' v27' := by
  have d8 : L' 8 ↔ L 8 := by rw [hL]; exact ⟨fun h => h.resolve_left (by omega), .inr⟩
  have d9 : L' 9 ↔ L 9 := by rw [hL]; exact ⟨fun h => h.resolve_left (by omega), .inr⟩
  have old : ∀ {j}, L' j → i ≠ j → L j := fun {j} hj hne => ((hL j).1 hj).resolve_left (fun e => hne e.symm)
  refine ⟨h.kp.trans hk, fun x => ?_, fun x => ?_, fun x => ?_, fun x => ?_, fun x => ?_, fun x => ?_, fun x => ?_, fun x => ?_, fun x y => ?_, fun x => (hL 6).2 (.inr (h.f86 (d8.1 x))), fun x => (hL 7).2 (.inr (h.f97 (d9.1 x))), fun x => d8.2 (h.f98 (d9.1 x))⟩
  · rcases e0 with ⟨_, e⟩ | ⟨hne, rfl⟩
    · exact e
    · exact h.f0 (old x hne)
  · rcases e1 with ⟨_, e⟩ | ⟨hne, rfl⟩
    · exact e
    · exact h.f1 (old x hne)
  · rcases e2 with ⟨_, e⟩ | ⟨hne, rfl⟩
    · exact e
    · exact (h.f2 (old x hne)).kept hk
  · rcases e3 with ⟨_, e⟩ | ⟨hne, rfl⟩
    · exact e
    · exact h.f3 (old x hne)
  · rcases e4 with ⟨_, e⟩ | ⟨hne, rfl⟩
    · exact e
    · exact h.f4 (old x hne)
  · rcases e5 with ⟨_, e⟩ | ⟨hne, rfl⟩
    · exact e
    · exact (h.f5 (old x hne)).kept hk
  · rcases e6 with ⟨_, e, _⟩ | ⟨hne, rfl⟩
    · exact e
    · exact (h.f6 (old x hne)).kept d8 hk
  · rcases e7 with ⟨_, e, _⟩ | ⟨hne, rfl⟩
    · exact e
    · exact (h.f7 (old x hne)).kept d9 hk
  · rcases e6 with ⟨i6, _, e⟩ | ⟨h6, rfl⟩
    · rcases e7 with ⟨i7, _⟩ | ⟨h7, rfl⟩
      · omega
      · exact e (old y h7)
    · rcases e7 with ⟨i7, _, e⟩ | ⟨h7, rfl⟩
      · exact e (old x h6)
      · exact h.f67 (old x h6) (old y h7)
theorem square_z (am an al : Option Addr) (lm cm ln cn ll cl n : Nat) (z : Int) (hn : 1 ≤ n ∧ n ≤ 8) (hz : 0 ≤ z ∧ z ≤ 9) (w : World) (hm : MsIn w am lm) :
    Calls Try.prog 53 #[.agg #[.slice am lm cm, .slice an ln cn, .slice al ll cl], .int .i64 n, .int .i64 z] w
      fun e w' => ∃ b off F, e = .returned (.agg #[.int .i64 n, .int .i64 n, .slice (some ⟨b, off, none⟩) (n * n) (n * n)]) ∧ w.heap.size ≤ b ∧ Bt F ∧ Mat w' b off n n F ∧ Kept w w' := by
  obtain ⟨y, rfl⟩ : ∃ y : Nat, z = y := ⟨z.toNat, by omega⟩
  exact square_any am an al lm cm ln cn ll cl n y hn (by omega) w hm
theorem txt_strs {w : World} {a : Option Addr} {r c : Nat} {F : Nat → Nat → Nat} {ss : List ByteArray} (h : Txt w ((a.map (·.block)).getD 0) r (fun i => appTo (F i) ss c)) (ha : a = some ⟨(a.map (·.block)).getD 0, 0, none⟩)
    (h0 : (ss.getD 0 ByteArray.empty).size ≤ 8192) (hr : r ≤ 16) : StrsIn w a r (appS F ss r c) := by
  obtain ⟨b, e⟩ : ∃ b, a = some ⟨b, 0, none⟩ := ⟨_, ha⟩
  subst e
  have h' : Txt w b r (fun i => (appS F ss r c).getD i ByteArray.empty) := ⟨h.blk, fun i hi => by rw [appS_getD _ _ _ _ _ hi]; exact h.cell i hi⟩
  exact h'.strs (by simp [appS]) (by omega) (apply_bytes F ss h0 r c)
theorem appS_mul {A B : Nat → Nat → Nat} (hA : Bt A) (hB : Bt B) (ss : List ByteArray) (n : Nat) (hn : 0 < n) (hs : ∀ j, j < n → (ss.getD j ByteArray.empty).size = (ss.getD 0 ByteArray.empty).size) :
    appS (mulM n A B) ss n n = appS A (appS B ss n n) n n := List.map_congr_left fun i _ => app_mul hA hB ss n i hn hs
theorem appS_fit (F : Nat → Nat → Nat) (ss : List ByteArray) (r c : Nat) (h0 : (ss.getD 0 ByteArray.empty).size ≤ 8192) : fitE (appS F ss r c) = 0 := fitE_ok _ _ h0 (fun s hs => by
  simp only [appS, List.mem_map] at hs
  obtain ⟨i, _, rfl⟩ := hs
  exact appTo_size _ _ _)
def threeS (x y z : Nat) : ByteArray := ⟨#[UInt8.ofNat x, UInt8.ofNat y, UInt8.ofNat z]⟩
theorem three_buf (w : World) (x y z : Nat) (hx : x < 256) (hy : y < 256) (hz : z < 256) (t : TypeId) : Buf (w.alloc (.cells #[.int .u8 (x : Int), .int .u8 (y : Int), .int .u8 (z : Int)] t)) w.heap.size [UInt8.ofNat x, UInt8.ofNat y, UInt8.ofNat z] := by
  refine ⟨by simp, fun i hi => ?_, fun i hi => (BlockAt.new w _ t).free i⟩
  rw [cell_new]
  match i, hi with
  | 0, _ => simp [Nat.mod_eq_of_lt hx]
  | 1, _ => simp [Nat.mod_eq_of_lt hy]
  | 2, _ => simp [Nat.mod_eq_of_lt hz]
theorem three_conv (w : World) (j k l : Nat) (hj : j < 256) (hk : k * 3 < 256) :
    (convert 44 9 (.slice (some ⟨w.heap.size, 0, none⟩) 3 3)).run Try.prog (w.alloc (.cells #[.int .u8 (j : Int), .int .u8 ((k : Int) * 3), .int .u8 ((l : Int) % 256)] 5)) =
      .ok (.string (threeS j (k * 3) (l % 256))) (w.alloc (.cells #[.int .u8 (j : Int), .int .u8 ((k : Int) * 3), .int .u8 ((l : Int) % 256)] 5)) := by
  have h := (three_buf w j (k * 3) (l % 256) hj hk (Nat.mod_lt _ (by decide)) 5).string (P := Try.prog) 44 9 5 Try.underlying44 Try.underlying5 Try.underlying9 3
  rw [show ((k * 3 : Nat) : Int) = (k : Int) * 3 by omega, show ((l % 256 : Nat) : Int) = (l : Int) % 256 by omega] at h
  exact h
/-- what a round knows: its two matrices, and that all of before is kept -/
structure LaneSt (W w1 : World) (bx : Array Value) (b4 b5 ba oa bb ob n : Nat) (A B : Nat → Nat → Nat) (w : World) : Prop where
  x : BlockAt w W.heap.size bx 47
  a : BlockAt w b4 #[.int .i64 n, .int .i64 n, .slice (some ⟨ba, oa, none⟩) (n * n) (n * n)] 50
  b : BlockAt w b5 #[.int .i64 n, .int .i64 n, .slice (some ⟨bb, ob, none⟩) (n * n) (n * n)] 50
  ma : MatR w ba oa n n A
  mb : MatR w bb ob n n B
  k : Kept W w
  k1 : Kept w1 w
theorem LaneSt.kept {W w1 : World} {bx : Array Value} {b4 b5 ba oa bb ob n : Nat} {A B : Nat → Nat → Nat} {w w' : World} (h : LaneSt W w1 bx b4 b5 ba oa bb ob n A B w) (k : Kept w w') : LaneSt W w1 bx b4 b5 ba oa bb ob n A B w' :=
  ⟨h.x.kept k, h.a.kept k, h.b.kept k, h.ma.kept k, h.mb.kept k, h.k.trans k, h.k1.trans k⟩
/-- what the round's two matrices are -/
def LanesCut (wr : World) (n : Nat) (s t : Value) (wx : World) : Prop := ∃ (b4 b5 ba oa bb ob : Nat) (A B : Nat → Nat → Nat), s = .pointer (some ⟨b4, 0, none⟩) ∧ t = .pointer (some ⟨b5, 0, none⟩) ∧
  BlockAt wx b4 #[.int .i64 n, .int .i64 n, .slice (some ⟨ba, oa, none⟩) (n * n) (n * n)] 50 ∧ BlockAt wx b5 #[.int .i64 n, .int .i64 n, .slice (some ⟨bb, ob, none⟩) (n * n) (n * n)] 50 ∧
  Bt A ∧ Bt B ∧ MatR wx ba oa n n A ∧ MatR wx bb ob n n B ∧ Kept wr wx
set_option maxRecDepth 100000 in
set_option maxHeartbeats 4000000 in
theorem matrixLanes_walk {W : World} {v : Value} {am : Option Addr} {lm cm : Nat} {an : Option Addr} {ln cn : Nat} {zs : List Int} {al : Option Addr} {ll cl : Nat} {ss : List ByteArray} (h : AskM W v am lm cm an ln cn zs al ll cl ss) :
    Calls Try.prog 13 #[v] W fun e W' => e = .returned (.bool true) ∧ Below W.heap.size W W' := by
  obtain ⟨rfl, hM, hN, hS, hcaps⟩ := h
  have hle := hM.le
  have k1 : Kept W (W.alloc (.cells #[.slice am lm cm, .slice an ln cn, .slice al ll cl] 47)) := (Kept.refl W).alloc _
  have HB := Lib.hid (BlockAt.new W #[.slice am lm cm, .slice an ln cn, .slice al ll cl] 47)
  have HM := Lib.hid (hM.kept k1)
  have HS := Lib.hid (hS.kept k1)
  have HK1 := Lib.hid k1
  clear hM hN hS hcaps k1
  go_enter Try.func13, Try.ntmps13
  go_wp2_with fail
  generalize W.alloc (.cells #[.slice am lm cm, .slice an ln cn, .slice al ll cl] 47) = w0 at *
  refine (heavy3_any am an al lm cm ln cn ll cl ss w0 HM.out HS.out).mono ?_
  rintro e w1 ⟨⟨bv, rfl⟩, hk⟩
  have HB1 := Lib.hid (HB.out.kept hk)
  have HM1 := Lib.hid (HM.out.kept hk)
  have HK2 := Lib.hid (HK1.out.trans hk)
  clear hk HB HM HS HK1
  cases bv
  case true =>
    go_wp2
    go_ret
    exact ⟨rfl, HK2.out⟩
  go_wp2_with fail
  go_loopw [3] (fun i wr => ∃ k : Nat, 1 ≤ k ∧ k ≤ 6 ∧ i = .int .i64 k ∧ Kept w1 wr) (fun i _ => 6 - (intOf i).toNat)
  case atStart => exact ⟨1, by omega, by omega, rfl, Kept.refl _⟩
  case round =>
    obtain ⟨k, hk1, hk, rfl, hK⟩ := hrel
    have hBr := HB1.out.kept hK
    have HMr := Lib.hid (HM1.out.kept hK)
    have HK := Lib.hid (HK2.out.trans hK)
    have HKr := Lib.hid hK
    obtain ⟨a0, a1, a2⟩ := box3 hBr
    have HBr := Lib.hid hBr
    clear hK hBr
    by_cases h5 : k ≤ 5
    · have hd5 : decide ((k : Int) ≤ 5) = true := decide_eq_true (by omega)
      go_wp2_with fail
      have hkn : 1 ≤ k ∧ k ≤ 8 := by omega
      have HKn := Lib.hid hkn
      clear hkn
      go_cut [4, 5] from 22 to 28 (fun s t wx => LanesCut wr k s t wx)
      case first =>
        clear a0 a1 a2
        refine wp_region_inv1 (LJ k (.agg #[.slice am lm cm, .slice an ln cn, .slice al ll cl]) wr) (by kernel_rfl) (by kernel_rfl) ?hh0 ?hhs ?hhe
        case hh0 =>
          intro L hL
          refine ⟨u4, u5, u22, u23, u24, u25, u26, u27, by simp only [Act.put, List.setIfInBounds_toArray, List.set_cons_zero, List.set_cons_succ], (Kept.refl wr).drew, fun h => absurd h (hL _ (by decide)), fun h => absurd h (hL _ (by decide)), fun h => absurd h (hL _ (by decide)), fun h => absurd h (hL _ (by decide)), fun h => absurd h (hL _ (by decide)), fun h => absurd h (hL _ (by decide)), fun h => absurd h (hL _ (by decide)), fun h => absurd h (hL _ (by decide)), fun h => absurd h (hL _ (by decide)), fun h => absurd h (hL _ (by decide)), fun h => absurd h (hL _ (by decide)), fun h => absurd h (hL _ (by decide))⟩
        case hhs =>
          rintro L L' a w i o K ⟨v4, v5, v22, v23, v24, v25, v26, v27, rfl, hF⟩ ho hopen hdep hL hK
          obtain ⟨x0, x1, x2⟩ := box3 (HBr.out.kept hF.kp)
          match i, ho with
          | 0, ho =>
            simp only [List.getElem?_toArray, List.getElem?_cons_zero, Option.some.injEq] at ho
            subst ho
            rw [if_pos (wanted_none rfl _)]
            simp only [Act.put, List.setIfInBounds_toArray, List.set_cons_zero, List.set_cons_succ]
            go_simp
            exact hK _ _ ⟨v4, v5, .agg #[.slice am lm cm, .slice an ln cn, .slice al ll cl], v23, v24, v25, v26, v27, by simp only [Act.put, List.setIfInBounds_toArray, List.set_cons_zero, List.set_cons_succ], hF.more 0 (by decide) hL (Kept.refl _) (.inl ⟨rfl, rfl⟩) (.inr ⟨by decide, rfl⟩) (.inr ⟨by decide, rfl⟩) (.inr ⟨by decide, rfl⟩) (.inr ⟨by decide, rfl⟩) (.inr ⟨by decide, rfl⟩) (.inr ⟨by decide, rfl⟩) (.inr ⟨by decide, rfl⟩)⟩
          | 1, ho =>
            simp only [List.getElem?_toArray, List.getElem?_cons_zero, List.getElem?_cons_succ, Option.some.injEq] at ho
            subst ho
            rw [if_pos (wanted_none rfl _)]
            simp only [Act.put, List.setIfInBounds_toArray, List.set_cons_zero, List.set_cons_succ]
            go_simp
            exact hK _ _ ⟨v4, v5, v22, .int .i64 k, v24, v25, v26, v27, by simp only [Act.put, List.setIfInBounds_toArray, List.set_cons_zero, List.set_cons_succ], hF.more 1 (by decide) hL (Kept.refl _) (.inr ⟨by decide, rfl⟩) (.inl ⟨rfl, rfl⟩) (.inr ⟨by decide, rfl⟩) (.inr ⟨by decide, rfl⟩) (.inr ⟨by decide, rfl⟩) (.inr ⟨by decide, rfl⟩) (.inr ⟨by decide, rfl⟩) (.inr ⟨by decide, rfl⟩)⟩
          | 2, ho =>
            simp only [List.getElem?_toArray, List.getElem?_cons_zero, List.getElem?_cons_succ, Option.some.injEq] at ho
            subst ho
            rw [if_pos (wanted_none rfl _)]
            simp only [Act.put, List.setIfInBounds_toArray, List.set_cons_zero, List.set_cons_succ]
            have e0 := hF.f0 (hdep 0 (by kernel_rfl))
            have e1 := hF.f1 (hdep 1 (by kernel_rfl))
            subst e0 e1
            go_simp
            refine (square_z am an al lm cm ln cn ll cl k _ HKn.out (by decide) _ (HMr.out.kept hF.kp)).mono ?_
            rintro e w' ⟨b, off, F, rfl, hb, hF2, hM, hk⟩
            exact hK _ _ ⟨v4, v5, _, _, mt k b off, v25, v26, v27, by simp only [Act.put, List.setIfInBounds_toArray, List.set_cons_zero, List.set_cons_succ], hF.more 2 (by decide) hL hk (.inr ⟨by decide, rfl⟩) (.inr ⟨by decide, rfl⟩) (.inl ⟨rfl, b, off, F, rfl, hF2, hM⟩) (.inr ⟨by decide, rfl⟩) (.inr ⟨by decide, rfl⟩) (.inr ⟨by decide, rfl⟩) (.inr ⟨by decide, rfl⟩) (.inr ⟨by decide, rfl⟩)⟩
          | 3, ho =>
            simp only [List.getElem?_toArray, List.getElem?_cons_zero, List.getElem?_cons_succ, Option.some.injEq] at ho
            subst ho
            rw [if_pos (wanted_none rfl _)]
            simp only [Act.put, List.setIfInBounds_toArray, List.set_cons_zero, List.set_cons_succ]
            go_simp
            exact hK _ _ ⟨v4, v5, v22, v23, v24, .agg #[.slice am lm cm, .slice an ln cn, .slice al ll cl], v26, v27, by simp only [Act.put, List.setIfInBounds_toArray, List.set_cons_zero, List.set_cons_succ], hF.more 3 (by decide) hL (Kept.refl _) (.inr ⟨by decide, rfl⟩) (.inr ⟨by decide, rfl⟩) (.inr ⟨by decide, rfl⟩) (.inl ⟨rfl, rfl⟩) (.inr ⟨by decide, rfl⟩) (.inr ⟨by decide, rfl⟩) (.inr ⟨by decide, rfl⟩) (.inr ⟨by decide, rfl⟩)⟩
          | 4, ho =>
            simp only [List.getElem?_toArray, List.getElem?_cons_zero, List.getElem?_cons_succ, Option.some.injEq] at ho
            subst ho
            rw [if_pos (wanted_none rfl _)]
            simp only [Act.put, List.setIfInBounds_toArray, List.set_cons_zero, List.set_cons_succ]
            go_simp
            exact hK _ _ ⟨v4, v5, v22, v23, v24, v25, .int .i64 k, v27, by simp only [Act.put, List.setIfInBounds_toArray, List.set_cons_zero, List.set_cons_succ], hF.more 4 (by decide) hL (Kept.refl _) (.inr ⟨by decide, rfl⟩) (.inr ⟨by decide, rfl⟩) (.inr ⟨by decide, rfl⟩) (.inr ⟨by decide, rfl⟩) (.inl ⟨rfl, rfl⟩) (.inr ⟨by decide, rfl⟩) (.inr ⟨by decide, rfl⟩) (.inr ⟨by decide, rfl⟩)⟩
          | 5, ho =>
            simp only [List.getElem?_toArray, List.getElem?_cons_zero, List.getElem?_cons_succ, Option.some.injEq] at ho
            subst ho
            rw [if_pos (wanted_none rfl _)]
            simp only [Act.put, List.setIfInBounds_toArray, List.set_cons_zero, List.set_cons_succ]
            have e0 := hF.f3 (hdep 3 (by kernel_rfl))
            have e1 := hF.f4 (hdep 4 (by kernel_rfl))
            subst e0 e1
            go_simp
            refine (square_z am an al lm cm ln cn ll cl k _ HKn.out (by decide) _ (HMr.out.kept hF.kp)).mono ?_
            rintro e w' ⟨b, off, F, rfl, hb, hF2, hM, hk⟩
            exact hK _ _ ⟨v4, v5, v22, v23, v24, _, _, mt k b off, by simp only [Act.put, List.setIfInBounds_toArray, List.set_cons_zero, List.set_cons_succ], hF.more 5 (by decide) hL hk (.inr ⟨by decide, rfl⟩) (.inr ⟨by decide, rfl⟩) (.inr ⟨by decide, rfl⟩) (.inr ⟨by decide, rfl⟩) (.inr ⟨by decide, rfl⟩) (.inl ⟨rfl, b, off, F, rfl, hF2, hM⟩) (.inr ⟨by decide, rfl⟩) (.inr ⟨by decide, rfl⟩)⟩
          | 6, ho =>
            simp only [List.getElem?_toArray, List.getElem?_cons_zero, List.getElem?_cons_succ, Option.some.injEq] at ho
            subst ho
            rw [if_pos (wanted_none rfl _)]
            simp only [Act.put, List.setIfInBounds_toArray, List.set_cons_zero, List.set_cons_succ]
            go_simp
            exact hK _ _ ⟨.pointer (some ⟨w.heap.size, 0, none⟩), v5, v22, v23, v24, v25, v26, v27, by simp only [Act.put, List.setIfInBounds_toArray, List.set_cons_zero, List.set_cons_succ], hF.more 6 (by decide) hL ((Kept.refl _).alloc _) (.inr ⟨by decide, rfl⟩) (.inr ⟨by decide, rfl⟩) (.inr ⟨by decide, rfl⟩) (.inr ⟨by decide, rfl⟩) (.inr ⟨by decide, rfl⟩) (.inr ⟨by decide, rfl⟩) (.inl ⟨rfl, ⟨_, rfl, hF.kp.size, fun _ => BlockAt.new _ _ _, fun h => absurd (hF.f86 (((hL 8).1 h).resolve_left (by decide))) hopen⟩, fun h e => by
              obtain ⟨q, e1, e2⟩ := (hF.f7 h).lt
              rw [e1] at e
              cases e
              omega⟩) (.inr ⟨by decide, rfl⟩)⟩
          | 7, ho =>
            simp only [List.getElem?_toArray, List.getElem?_cons_zero, List.getElem?_cons_succ, Option.some.injEq] at ho
            subst ho
            rw [if_pos (wanted_none rfl _)]
            simp only [Act.put, List.setIfInBounds_toArray, List.set_cons_zero, List.set_cons_succ]
            go_simp
            exact hK _ _ ⟨v4, .pointer (some ⟨w.heap.size, 0, none⟩), v22, v23, v24, v25, v26, v27, by simp only [Act.put, List.setIfInBounds_toArray, List.set_cons_zero, List.set_cons_succ], hF.more 7 (by decide) hL ((Kept.refl _).alloc _) (.inr ⟨by decide, rfl⟩) (.inr ⟨by decide, rfl⟩) (.inr ⟨by decide, rfl⟩) (.inr ⟨by decide, rfl⟩) (.inr ⟨by decide, rfl⟩) (.inr ⟨by decide, rfl⟩) (.inr ⟨by decide, rfl⟩) (.inl ⟨rfl, ⟨_, rfl, hF.kp.size, fun _ => BlockAt.new _ _ _, fun h => absurd (hF.f97 (((hL 9).1 h).resolve_left (by decide))) hopen⟩, fun h e => by
              obtain ⟨q, e1, e2⟩ := (hF.f6 h).lt
              rw [e1] at e
              cases e
              omega⟩)⟩
          | 8, ho =>
            simp only [List.getElem?_toArray, List.getElem?_cons_zero, List.getElem?_cons_succ, Option.some.injEq] at ho
            subst ho
            rw [if_pos (wanted_none rfl _)]
            simp only [Act.put, List.setIfInBounds_toArray, List.set_cons_zero, List.set_cons_succ]
            have hg67 := hF.f67 (hdep 6 (by kernel_rfl)) (hdep 7 (by kernel_rfl))
            have hd6 := hdep 6 (by kernel_rfl)
            have hd7 := hdep 7 (by kernel_rfl)
            obtain ⟨b, o, A, e0, hA, hM⟩ := hF.f2 (hdep 2 (by kernel_rfl))
            obtain ⟨b4, e1, hb4, hz, _⟩ := hF.f6 hd6
            have hz := hz hopen
            have hgr := grown3 w b4 (.int .i64 k) (.int .i64 k) (.slice (some ⟨b, o, none⟩) (k * k) (k * k))
            have hS3 := set3 hz (.int .i64 k) (.int .i64 k) (.slice (some ⟨b, o, none⟩) (k * k) (k * k))
            have hne : b ≠ b4 := by
              obtain ⟨cs, hb⟩ := hM.blk
              exact ne_types hb hz (by decide)
            have hM3 := hM.grown hgr (fun e => hne (Option.some.inj e))
            have old : ∀ {j}, L' j → j ≠ 8 → L j := fun {j} hj hne => ((hL j).1 hj).resolve_left hne
            have hF' : LF k (.agg #[.slice am lm cm, .slice an ln cn, .slice al ll cl]) wr L' (((w.setCell ⟨b4, 0, none⟩ (.int .i64 k)).setCell ⟨b4, 1, none⟩ (.int .i64 k)).setCell ⟨b4, 2, none⟩ (.slice (some ⟨b, o, none⟩) (k * k) (k * k))) v4 v5 v22 v23 v24 v25 v26 v27 :=
              ⟨Kept.grown hF.kp hgr (fun q e => by cases e; exact hb4), fun x => hF.f0 (old x (by decide)), fun x => hF.f1 (old x (by decide)), fun x => (hF.f2 (old x (by decide))).grown hz hgr, fun x => hF.f3 (old x (by decide)), fun x => hF.f4 (old x (by decide)), fun x => (hF.f5 (old x (by decide))).grown hz hgr,
                fun _ => ⟨b4, e1, hb4, fun h => absurd ((hL 8).2 (.inl rfl)) h, fun _ => ⟨b, o, A, hS3, hA, hM3⟩⟩, fun x => Vr.grown ⟨fun y => old y (by decide), fun y => (hL 9).2 (.inr y)⟩ (hF.f7 (old x (by decide))) (fun e => hg67 (e1.trans e.symm)) hz hgr, fun _ _ => hg67, fun _ => (hL 6).2 (.inr hd6), fun _ => (hL 7).2 (.inr hd7), fun _ => (hL 8).2 (.inl rfl)⟩
            have HF' := Lib.hid hF'
            obtain ⟨z0, z1, z2⟩ := box3 hz
            have zf0 := hz.free 0
            have zf1 := hz.free 1
            have zf2 := hz.free 2
            clear hF' hS3 hM3 hgr hM hA hne hF
            subst e0 e1
            go_simp
            exact hK _ _ ⟨_, _, _, _, _, _, _, _, by simp only [Act.put, List.setIfInBounds_toArray, List.set_cons_zero, List.set_cons_succ], HF'.out⟩
          | 9, ho =>
            simp only [List.getElem?_toArray, List.getElem?_cons_zero, List.getElem?_cons_succ, Option.some.injEq] at ho
            subst ho
            rw [if_pos (wanted_none rfl _)]
            simp only [Act.put, List.setIfInBounds_toArray, List.set_cons_zero, List.set_cons_succ]
            have hg67 := hF.f67 (hdep 6 (by kernel_rfl)) (hdep 7 (by kernel_rfl))
            have hd6 := hdep 6 (by kernel_rfl)
            have hd7 := hdep 7 (by kernel_rfl)
            have hd8 := hdep 8 (by kernel_rfl)
            obtain ⟨b, o, A, e0, hA, hM⟩ := hF.f5 (hdep 5 (by kernel_rfl))
            obtain ⟨b4, e1, hb4, hz, _⟩ := hF.f7 hd7
            have hz := hz hopen
            have hgr := grown3 w b4 (.int .i64 k) (.int .i64 k) (.slice (some ⟨b, o, none⟩) (k * k) (k * k))
            have hS3 := set3 hz (.int .i64 k) (.int .i64 k) (.slice (some ⟨b, o, none⟩) (k * k) (k * k))
            have hne : b ≠ b4 := by
              obtain ⟨cs, hb⟩ := hM.blk
              exact ne_types hb hz (by decide)
            have hM3 := hM.grown hgr (fun e => hne (Option.some.inj e))
            have old : ∀ {j}, L' j → j ≠ 9 → L j := fun {j} hj hne => ((hL j).1 hj).resolve_left hne
            have hF' : LF k (.agg #[.slice am lm cm, .slice an ln cn, .slice al ll cl]) wr L' (((w.setCell ⟨b4, 0, none⟩ (.int .i64 k)).setCell ⟨b4, 1, none⟩ (.int .i64 k)).setCell ⟨b4, 2, none⟩ (.slice (some ⟨b, o, none⟩) (k * k) (k * k))) v4 v5 v22 v23 v24 v25 v26 v27 :=
              ⟨Kept.grown hF.kp hgr (fun q e => by cases e; exact hb4), fun x => hF.f0 (old x (by decide)), fun x => hF.f1 (old x (by decide)), fun x => (hF.f2 (old x (by decide))).grown hz hgr, fun x => hF.f3 (old x (by decide)), fun x => hF.f4 (old x (by decide)), fun x => (hF.f5 (old x (by decide))).grown hz hgr,
                fun x => Vr.grown ⟨fun y => old y (by decide), fun y => (hL 8).2 (.inr y)⟩ (hF.f6 (old x (by decide))) (fun e => hg67 (e.trans e1.symm)) hz hgr, fun _ => ⟨b4, e1, hb4, fun h => absurd ((hL 9).2 (.inl rfl)) h, fun _ => ⟨b, o, A, hS3, hA, hM3⟩⟩, fun _ _ => hg67, fun _ => (hL 6).2 (.inr hd6), fun _ => (hL 7).2 (.inr hd7), fun _ => (hL 8).2 (.inr hd8)⟩
            have HF' := Lib.hid hF'
            obtain ⟨z0, z1, z2⟩ := box3 hz
            have zf0 := hz.free 0
            have zf1 := hz.free 1
            have zf2 := hz.free 2
            clear hF' hS3 hM3 hgr hM hA hne hF
            subst e0 e1
            go_simp
            exact hK _ _ ⟨_, _, _, _, _, _, _, _, by simp only [Act.put, List.setIfInBounds_toArray, List.set_cons_zero, List.set_cons_succ], HF'.out⟩
          | n + 10, ho => simp at ho
        case hhe =>
          rintro L a w ⟨v4, v5, v22, v23, v24, v25, v26, v27, rfl, hF⟩ hall
          obtain ⟨b4, e4, _, _, hd4⟩ := hF.f6 (hall 6 (by decide))
          obtain ⟨b5, e5, _, _, hd5'⟩ := hF.f7 (hall 7 (by decide))
          obtain ⟨ba, oa, A, h1, h2, h3⟩ := hd4 (hall 8 (by decide))
          obtain ⟨bb, ob, B, h4, h5, h6⟩ := hd5' (hall 9 (by decide))
          have hfin : LanesCut wr k v4 v5 w := ⟨b4, b5, ba, oa, bb, ob, A, B, e4, e5, h1, h4, h2, h5, h3.cell, h6.cell, hF.kp⟩
          clear hd4 hd5' h1 h2 h3 h4 h5 h6 e4 e5 hall
          simp only [Act.put, List.setIfInBounds_toArray, List.set_cons_zero, List.set_cons_succ]
          go_wp2_with fail
          go_meet
          exact hfin
      case rest =>
        obtain ⟨b4, b5, ba, oa, bb, ob, A, B, rfl, rfl, hb4, hb5, hA, hB, hmA, hmB, hkc⟩ := hcut
        have HZ := Lib.hid (LaneSt.mk (W := W) (w1 := w1) (HBr.out.kept hkc) hb4 hb5 hmA hmB (HK.out.trans hkc) (HKr.out.trans hkc))
        have HA := Lib.hid hA
        have HB := Lib.hid hB
        obtain ⟨i0, hi, hz0, hz1, hz2⟩ := info_parts Try.infoStr
        have HI := Lib.hid (And.intro hi (And.intro hz0 (And.intro hz1 hz2)))
        clear hi hz0 hz1 hz2 hb4 hb5 hA hB hmA hmB hkc a0 a1 a2
        go_wp2_with fail
        go_loopw [6, 7] (fun v i wy => ∃ (j : Nat) (ts : List ByteArray), j ≤ k ∧ i = .int .i64 j ∧ ts.length = j ∧ (∀ s ∈ ts, s.size = 3) ∧ wy.ownsRow wc.heap.size 9 1 v j (ts.map Value.string) ∧ Kept wc wy) (fun _ i _ => k - (intOf i).toNat)
        case atStart => exact ⟨0, [], by omega, rfl, rfl, by simp, World.ownsRow_nil _ _ _ _, Kept.refl _⟩
        case round =>
          obtain ⟨j, ts, hj, rfl, hl, hs, hown, hky⟩ := hrel
          have HO := Lib.hid hown
          have HKy := Lib.hid hky
          have HL := Lib.hid hl
          have HS3 := Lib.hid hs
          obtain ⟨a0, a1, a2⟩ := box3 (HZ.out.kept hky).x
          clear hown hky hl hs
          by_cases hjk : j < k
          · have hd : decide ((j : Int) < (k : Int)) = true := decide_eq_true (by omega)
            have hcv := three_conv wr j k ll (by omega) (by omega)
            generalize hts : threeS j (k * 3) (ll % 256) = tj at hcv
            have htz : tj.size = 3 := by rw [← hts]; rfl
            have HTZ := Lib.hid htz
            clear hts htz
            go_wp2_with (at_builtin; refine wpList_append_own _ rfl _ _ 22 rfl wc.heap.size 9 i0 (.string ByteArray.empty) 1 16 Try.underlying22 HI.out.1 HI.out.2.1 HI.out.2.2.1 HI.out.2.2.2 rfl (by decide) _ _ _ rfl ((HO.out.alloc _).alloc _) ⟨wr.heap.size + 1, 0, none⟩ 1 1 [.string tj] rfl rfl ?c1 ?c2 ?c3 ?c4 ?c5 ?_)
            case c1 =>
              intro j u hj
              match j, hj with
              | 0, hj => simp at hj; subst hj; simp [Addr.add]
            case c2 => intro u hu; simp at hu; subst hu; rfl
            case c3 => unfold maxLen; omega
            case c4 => omega
            case c5 => have := HKy.out.size; simp; omega
            intro v' w1 hown' hgrow _
            have HO' := Lib.hid hown'
            have HK' := Lib.hid (kept_grown ((HKy.out.alloc _).alloc _) ((HO.out.alloc _).alloc _) hgrow)
            clear hown' hgrow hcv
            go_wp2
            go_roundw
            case rel => exact ⟨j + 1, ts ++ [tj], by omega, by go_num, by rw [List.length_append, HL.out]; rfl, fun s hs => by
              rcases List.mem_append.1 hs with h | h
              · exact HS3.out s h
              · rw [List.mem_singleton.1 h]; exact HTZ.out, by rw [List.map_append]; exact HO'.out, HK'.out⟩
            case measure => simp [intOf]; omega
          · obtain rfl : j = k := by omega
            have hsz : ∀ i, i < j → (ts.getD i ByteArray.empty).size = 3 := fun i hi => HS3.out _ (by rw [List.getD_eq_getElem?_getD, List.getElem?_eq_getElem (by rw [HL.out]; exact hi)]; exact List.getElem_mem _)
            have hs8 : ∀ s ∈ ts, s.size ≤ 9223372036854775807 := fun s hs => by have := HS3.out s hs; omega
            obtain ⟨al', cap', rfl, hcl, hst⟩ := strs_of_own HO.out HL.out hs8
            have hfit : fitE ts = 0 := fitE_ok ts 3 (by decide) HS3.out
            have h08 : (ts.getD 0 ByteArray.empty).size ≤ 8192 := by rw [hsz 0 (by omega)]; decide
            have hjr : 1 ≤ j ∧ j ≤ 16 := by omega
            have HST := Lib.hid hst
            have HZ1 := Lib.hid (HZ.out.kept HKy.out)
            have HSZ := Lib.hid hsz
            have HFIT := Lib.hid hfit
            clear hsz hs8 hst hfit HO HKy HZ a0 a1 a2 HL HS3
            obtain ⟨a0, a1, a2⟩ := box3 HZ1.out.a
            obtain ⟨c0, c1, c2⟩ := box3 HZ1.out.b
            go_wp2_with fail
            refine (mat_mul_any j j j ba oa (j * j) bb ob (j * j) A B hjr hjr hjr (Nat.le_refl _) (Nat.le_refl _) HA.out HB.out wr HZ1.out.ma HZ1.out.mb).mono ?_
            rintro e w7 ⟨bp, op, rfl, _, hm, hk7⟩
            have kz := Kept.trans hk7 ((Kept.refl w7).alloc (.cells #[.int .i64 j, .int .i64 j, .slice (some ⟨bp, op, none⟩) (j * j) (j * j)] 50))
            have HP := Lib.hid (BlockAt.new w7 #[.int .i64 j, .int .i64 j, .slice (some ⟨bp, op, none⟩) (j * j) (j * j)] 50)
            have HPM := Lib.hid (hm.cell.kept ((Kept.refl w7).alloc (.cells #[.int .i64 j, .int .i64 j, .slice (some ⟨bp, op, none⟩) (j * j) (j * j)] 50)))
            have HST2 := Lib.hid (HST.out.kept kz)
            have HZ2 := Lib.hid (HZ1.out.kept kz)
            clear hm hk7 kz HST HZ1 a0 a1 a2 c0 c1 c2
            obtain ⟨a0, a1, a2⟩ := box3 HP.out
            go_wp2_with fail
            generalize w7.alloc (.cells #[.int .i64 j, .int .i64 j, .slice (some ⟨bp, op, none⟩) (j * j) (j * j)] 50) = w8 at *
            generalize w7.heap.size = b8 at *
            refine (apply_any j j bp op (j * j) al' cap' ts (mulM j A B) hjr hjr (Nat.le_refl _) hcl (mulM_bt HA.out j B) w8 HPM.out HST2.out HFIT.out).mono ?_
            rintro e w9 ⟨au, rfl, _, ht9, hau, hk9⟩
            have HU := Lib.hid (txt_strs ht9 hau h08 hjr.2)
            have HST3 := Lib.hid (HST2.out.kept hk9)
            have HZ3 := Lib.hid (HZ2.out.kept hk9)
            clear ht9 hau hk9 HST2 HZ2 a0 a1 a2 HP HPM
            obtain ⟨c0, c1, c2⟩ := box3 HZ3.out.b
            go_wp2_with fail
            refine (apply_any j j bb ob (j * j) al' cap' ts B hjr hjr (Nat.le_refl _) hcl HB.out w9 HZ3.out.mb HST3.out HFIT.out).mono ?_
            rintro e w10 ⟨av, rfl, _, ht10, hav, hk10⟩
            have HV := Lib.hid (txt_strs ht10 hav h08 hjr.2)
            have HU4 := Lib.hid (HU.out.kept hk10)
            have HZ4 := Lib.hid (HZ3.out.kept hk10)
            clear ht10 hav hk10 HU HST3 HZ3 c0 c1 c2
            obtain ⟨a0, a1, a2⟩ := box3 HZ4.out.a
            go_wp2_with fail
            have HV0 := Lib.hid (show ((appS B ts j j).getD 0 ByteArray.empty).size ≤ 8192 by rw [appS_getD _ _ _ _ _ (by omega), appTo_size]; exact h08)
            refine (apply_any j j ba oa (j * j) av j (appS B ts j j) A hjr hjr (Nat.le_refl _) (Nat.le_refl _) HA.out w10 HZ4.out.ma HV.out (appS_fit B ts j j h08)).mono ?_
            rintro e w11 ⟨aw, rfl, _, ht11, haw, hk11⟩
            have hw := txt_strs ht11 haw HV0.out hjr.2
            rw [← appS_mul HA.out HB.out ts j (by omega) (fun i hi => by rw [HSZ.out i hi, HSZ.out 0 (by omega)])] at hw
            have HWW := Lib.hid hw
            have HU5 := Lib.hid (HU4.out.kept hk11)
            have HZ5 := Lib.hid (HZ4.out.kept hk11)
            clear ht11 haw hk11 HU4 HZ4 a0 a1 a2 hw HV HV0
            have hjj : ((j : Int) != (j : Int)) = false := by simp
            go_wp2_with (go_at_call 41; refine (num3_any _ _).mono ?_; rintro e w' ⟨rfl, rfl⟩)
            refine (eq_strings au aw j j j (appS (mulM j A B) ts j j) w11 HU5.out HWW.out).mono ?_
            rintro e w12 ⟨rfl, hk12⟩
            have HK12 := Lib.hid (HZ5.out.k1.trans hk12)
            clear hk12 HZ5 HU5 HWW
            go_wp2_with fail
            go_roundw
            case rel => exact ⟨j + 1, by omega, by omega, by go_num, HK12.out⟩
            case measure => simp [intOf]; omega
    · have hd5 : decide ((k : Int) ≤ 5) = false := decide_eq_false (by omega)
      go_wp2_with fail
      refine (wakes3_any _).mono ?_
      rintro e w2 ⟨rfl, hk2⟩
      go_wp2
      go_ret
      exact ⟨rfl, HK.out.trans hk2⟩
end Go.Proofs.Ytlpjpeonejbpjaa
