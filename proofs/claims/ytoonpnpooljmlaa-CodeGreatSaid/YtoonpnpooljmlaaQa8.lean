/- Contracts of the code and of the reference, laid into one file: part 8 (what each says stands at its head). -/
import Derived.Test.YtoonpnpooljmlaaQa7

namespace Go.Proofs.Ytoonpnpooljmlaa
open Go.RowKit

theorem owns_kept {w w' : World} {base n : Nat} {e : TypeId} {v : Value} {xs : List Value} (k : Kept w w') (h : w.ownsRow base e 1 v n xs) : w'.ownsRow base e 1 v n xs := by
  refine ⟨h.1, ?_⟩
  rcases h.2 with h | ⟨g', cap, cur, e1, e2, e3, h4⟩
  · exact .inl h
  · exact .inr ⟨g', cap, cur, e1, e2, (show BlockAt w g' cur e from e3).kept k, h4⟩
theorem appS_succ (F : Nat → Nat → Nat) (ss : List ByteArray) (n c : Nat) : (appS F ss (n + 1) c).map Value.string = (appS F ss n c).map Value.string ++ [.string (appTo (F n) ss c)] := by
  unfold appS
  rw [List.range_succ]
  simp
set_option maxRecDepth 100000 in
set_option maxHeartbeats 4000000 in
theorem rapply (r c b o cap q lcap : Nat) (al : Option Addr) (ss : List ByteArray) (F : Nat → Nat → Nat) (hr : 1 ≤ r ∧ r ≤ 16) (hc : 1 ≤ c ∧ c ≤ 16) (hF : Bt F) (hq : q ≤ 8192) (w : World) (hm : MatR w b o r c F) (hl : StrsIn w al c ss) (hsz : ∀ j, j < c → (ss.getD j ByteArray.empty).size = q) :
    Calls Try.prog 45 #[.agg #[.int .i64 r, .int .i64 c, .slice (some ⟨b, o, none⟩) (r * c) cap], .slice al c lcap] w fun e w' => ∃ a k, e = .returned (.slice a r k) ∧ r ≤ k ∧ StrsIn w' a r (appS F ss r c) ∧ Kept w w' := by
  obtain ⟨bl, ol, ha, hcl⟩ := hl.cells
  obtain rfl := ha (by omega)
  have k1 : Kept w (w.alloc (.cells #[.int .i64 r, .int .i64 c, .slice (some ⟨b, o, none⟩) (r * c) cap] 33)) := (Kept.refl w).alloc _
  have HB := Lib.hid (BlockAt.new w #[.int .i64 r, .int .i64 c, .slice (some ⟨b, o, none⟩) (r * c) cap] 33)
  have HM := Lib.hid hm
  have HCL := Lib.hid hcl
  have HSZ := Lib.hid hsz
  have HK1 := Lib.hid k1
  have hap := fun n => appTo_size (F n) ss
  have h0 := hsz 0 (by omega)
  rw [h0] at hap
  have HAP := Lib.hid hap
  have hrc := Nat.le_trans (Nat.mul_le_mul hr.2 hc.2) (show 16 * 16 ≤ 256 by decide)
  obtain ⟨i0, hi, hz0, hz1, hz2⟩ := info_parts Try.infoStr
  have HI := Lib.hid (And.intro hi (And.intro hz0 (And.intro hz1 hz2)))
  have hmk := make_bytes q (by omega)
  have hcv : ∀ u : World, (convert 31 9 (.slice (some ⟨u.heap.size, 0, none⟩) q q)).run Try.prog (u.alloc (.cells (madeCells #[.int .u8 0] q) 5)) = .ok (.string (zeroS q)) (u.alloc (.cells (madeCells #[.int .u8 0] q) 5)) := fun u => by
    have hb := (made_buf u q).string (P := Try.prog) 31 9 5 Try.underlying31 Try.underlying5 Try.underlying9 q
    rw [List.length_replicate] at hb
    exact hb
  generalize madeCells #[.int .u8 0] q = Z at hmk hcv
  have HMK := Lib.hid hmk
  have HCV := Lib.hid hcv
  clear hmk hcv hi hz0 hz1 hz2 ha hcl hm hl hsz k1 hap
  go_enter Try.func45, Try.ntmps45
  go_wp2_with fail
  generalize hw0 : w.alloc (.cells #[.int .i64 r, .int .i64 c, .slice (some ⟨b, o, none⟩) (r * c) cap] 33) = w0 at *
  clear hw0
  go_loopw [5, 6] (fun v i wr => ∃ n : Nat, n ≤ r ∧ i = .int .i64 n ∧ wr.ownsRow w0.heap.size 9 1 v n ((appS F ss n c).map Value.string) ∧ Kept w0 wr) (fun _ i _ => r - (intOf i).toNat)
  case atStart => exact ⟨0, by omega, rfl, World.ownsRow_nil _ _ _ _, Kept.refl _⟩
  case round =>
    obtain ⟨n, hn, rfl, hown, hK⟩ := hrel
    have HO := Lib.hid hown
    have HK := Lib.hid hK
    obtain ⟨a0, a1, a2⟩ := box3 (HB.out.kept hK)
    by_cases hnr : n < r
    · obtain ⟨hb0, hc0⟩ := HCL.out 0 (by omega)
      have hl0 := (HK1.out.trans hK).cell hb0 hc0
      rw [Nat.add_zero] at hl0
      have hs0 : (ss.getD 0 ByteArray.empty).size = q := h0
      have hmk := HMK.out
      have hcv := HCV.out wr
      generalize ss.getD 0 ByteArray.empty = s0 at hl0 hs0
      have kz : Kept wr (wr.alloc (.cells Z 5)) := (Kept.refl wr).alloc _
      have HOZ := Lib.hid (owns_kept kz hown)
      have HKZ := Lib.hid (hK.trans kz)
      clear hown hK kz
      go_wp2_with fail
      generalize wr.alloc (.cells Z 5) = wz at *
      clear hmk hcv hl0 hs0 a0 a1 a2
      go_loopw [7, 8] (fun s i wy => ∃ m : Nat, m ≤ c ∧ i = .int .i64 m ∧ s = .string (appTo (F n) ss m) ∧ Kept wz wy) (fun _ i _ => c - (intOf i).toNat)
      case atStart => exact ⟨0, by omega, rfl, by unfold appTo; rw [h0], Kept.refl _⟩
      case round =>
        obtain ⟨m, hm, rfl, rfl, hKy⟩ := hrel
        have HKy := Lib.hid hKy
        have hk0y := HKZ.out.trans hKy
        obtain ⟨a0, a1, a2⟩ := box3 (HB.out.kept hk0y)
        by_cases hmc : m < c
        · obtain ⟨hb1, hc1⟩ := HCL.out m hmc
          have e1 := later_cell ((HK1.out.trans hk0y).cell hb1 hc1)
          have hcell := (HM.out.kept (HK1.out.trans hk0y)) n m hnr hmc
          rw [Nat.add_assoc] at hcell
          have e2 := later_cell hcell
          have e3 := later_cell a1
          have e4 := later_cell a2
          have hx := hF n m
          have hs1 := HSZ.out m hmc
          have hs2 := HAP.out n m
          have hla := idx_lt hnr hmc
          have hqa := mul_cast n c
          have hsa : ((n * c : Nat) : Int) + (m : Int) = ((n * c + m : Nat) : Int) := by simp
          have hnx : appTo (F n) ss (m + 1) = addedS (appTo (F n) ss m) (scaledS (ss.getD m ByteArray.empty) (F n m)) := rfl
          have HNX := Lib.hid hnx
          clear hnx hcell hKy hk0y hb1 hc1
          generalize appTo (F n) ss m = S at *
          generalize ss.getD m ByteArray.empty = sm at *
          generalize F n m = x at *
          have hs3 := scaledS_size sm x
          generalize hnc : n * c = nc at *
          generalize hncm : nc + m = ncm at *
          have HQ1 := Lib.hid hnc
          have HQ2 := Lib.hid hncm
          clear hnc hncm
          go_wp2_with fail
          clear a0 a1 a2
          refine region_later (by kernel_rfl) (by kernel_rfl) ?_
          repeat (go_big_quiet_step (first | (go_at_call 59; exact later_call (refscaled_any sm x hx (by omega) _)) | (go_at_call 58; exact later_call (refadded_any S (scaledS sm x) (by omega) (by omega) _))))
          refine wpQuiet_nil ?_
          intro _ hw'
          obtain ⟨nq, hw''⟩ := hw'
          subst hw''
          have HKN := Lib.hid (HKy.out.trans nq.2)
          clear e1 e2 e3 e4
          go_wp2
          go_roundw
          case rel => exact ⟨m + 1, by omega, by go_num, by rw [HNX.out], HKN.out⟩
          case measure => simp [intOf]; omega
        · obtain rfl : m = c := by omega
          have HOY := Lib.hid (owns_kept hKy HOZ.out)
          have HKY := Lib.hid hk0y
          have hsn := appS_succ F ss n m
          have HSN := Lib.hid hsn
          clear hKy hk0y hsn HKy
          generalize appTo (F n) ss m = S at *
          go_wp2_with (at_builtin; refine wpList_append_own _ rfl _ _ 23 rfl w0.heap.size 9 i0 (.string ByteArray.empty) 1 16 Try.underlying23 HI.out.1 HI.out.2.1 HI.out.2.2.1 HI.out.2.2.2 rfl (by decide) _ _ _ rfl (HOY.out.alloc _) ⟨wr.heap.size, 0, none⟩ 1 1 [.string S] rfl rfl ?c1 ?c2 ?c3 ?c4 ?c5 ?_)
          case c1 =>
            intro j u hj
            match j, hj with
            | 0, hj => simp at hj; subst hj; simp [Addr.add]
          case c2 => intro u hu; simp at hu; subst hu; rfl
          case c3 => unfold maxLen; omega
          case c4 => omega
          case c5 => have := HKY.out.size; simp; omega
          intro v' w1 hown' hgrow _
          have HO' := Lib.hid hown'
          have HK' := Lib.hid (kept_grown (HKY.out.alloc _) (HOY.out.alloc _) hgrow)
          clear hown' hgrow
          go_wp2
          go_roundw
          case rel => exact ⟨n + 1, by omega, by go_num, by rw [HSN.out]; exact HO'.out, HK'.out⟩
          case measure => simp [intOf]; omega
    · obtain rfl : n = r := by omega
      have hs8 : ∀ s ∈ appS F ss n c, s.size ≤ 9223372036854775807 := fun s hs => by
        simp only [appS, List.mem_map] at hs
        obtain ⟨i, _, rfl⟩ := hs
        rw [HAP.out]
        omega
      obtain ⟨a', cap', rfl, hcl, hst⟩ := strs_of_own hown (by simp [appS]) hs8
      have HST := Lib.hid hst
      have HKF := Lib.hid (HK1.out.trans hK)
      clear hown hK hst hs8 HO
      go_wp2_with fail
      go_ret
      exact ⟨a', cap', rfl, hcl, HST.out, HKF.out⟩
end Go.Proofs.Ytoonpnpooljmlaa

namespace Go.Proofs.Ytoonpnpooljmlaa
open Go.RowKit

theorem own_other {w w' : World} {base n b : Nat} {e t : TypeId} {v : Value} {xs : List Value} {C : Array Value} (h : w.ownsRow base e 1 v n xs) (g : w.grownBy w' (some b)) (hb : BlockAt w b C t) (hne : t ≠ e) : w'.ownsRow base e 1 v n xs := by
  refine ⟨h.1, ?_⟩
  rcases h.2 with h | ⟨g', cap, cur, e1, e2, e3, h4⟩
  · exact .inl h
  · refine .inr ⟨g', cap, cur, e1, e2, ?_, h4⟩
    have hbl : BlockAt w g' cur e := e3
    exact hbl.grown g (fun x => ne_of_types hb hbl hne (Option.some.inj x).symm)
theorem own_keptP {w w' : World} {base n : Nat} {e : TypeId} {v : Value} {xs : List Value} (k : Kept w w') (h : w.ownsRow base e 1 v n xs) : w'.ownsRow base e 1 v n xs := by
  refine ⟨h.1, ?_⟩
  rcases h.2 with h | ⟨g', cap, cur, e1, e2, e3, h4⟩
  · exact .inl h
  · exact .inr ⟨g', cap, cur, e1, e2, (show BlockAt w g' cur e from e3).kept k, h4⟩
theorem box_other {w w' : World} {base n b : Nat} {e t : TypeId} {v : Value} {xs : List Value} {C : Array Value} (h : w.ownsRow base e 1 v n xs) (g : w.grownBy w' v.ownBlock) (hb : BlockAt w b C t) (hne : t ≠ e) : BlockAt w' b C t := by
  refine hb.grown g (fun x => ?_)
  rcases h.2 with ⟨e1, _⟩ | ⟨g', cap, cur, e1, _, e3, _⟩
  · rw [e1] at x
    cases x
  · rw [e1] at x
    have hbl : BlockAt w g' cur e := e3
    exact ne_of_types hb hbl hne (Option.some.inj x)
theorem addr_plain (b o j : Nat) : (⟨b, o, none⟩ : Addr).add j = ⟨b, o + j, none⟩ := by
  unfold Addr.add
  split
  · rename_i h
    rw [h]
    rfl
  · rfl
theorem oper_append {P : Program} {o : Oper} {a : Act} {w w' : World} {K : Act → World → Prop} {Q : Exit → Act → World → Prop} (s x : Operand) (t : TypeId) (ho : o.op = .call { callee := .builtin .append, args := #[s, x], argTypes := #[t, t] }) {v sl v' : Value}
    (hs : a.eval s = v) (hx : a.eval x = sl) (hr : (Builtin.append_ #[t, t] o.type #[v, sl]).run P w = .ok v' w') (hK : K (a.put o.dst v') w') : Oper.wp P o a w K Q := by
  unfold Oper.wp execOp
  simp only [ho, resolve, invoke, builtin, Sem.run_bind, Sem.run_pure, Result.andThen_ok, List.map_toArray, List.map_cons, List.map_nil, hs, hx, hr]
  exact hK
/-- the numbers of the rows that were picked, in a row -/
def pickL (F : Nat → Nat → Nat) (zs : List Int) (c k : Nat) : List Value := (List.range (k * c)).map fun i => Value.int .u8 ((flat c (pickF F zs) i : Nat) : Int)
def rowL (F : Nat → Nat → Nat) (c z : Nat) : List Value := (List.range c).map fun j => Value.int .u8 ((F z j : Nat) : Int)
theorem pickL_succ (F : Nat → Nat → Nat) (zs : List Int) (c k : Nat) : pickL F zs c k ++ rowL F c (zs.getD k 0).toNat = pickL F zs c (k + 1) := by
  unfold pickL rowL
  rw [Nat.succ_mul, List.range_add, List.map_append, List.map_map]
  congr 1
  refine List.map_congr_left fun j hj => ?_
  have hj := List.mem_range.1 hj
  show _ = Value.int .u8 ((flat c (pickF F zs) (k * c + j) : Nat) : Int)
  unfold flat
  rw [(divmod hj).1, (divmod hj).2]
  rfl
theorem rowL_at {F : Nat → Nat → Nat} {c z j : Nat} {u : Value} (h : (rowL F c z)[j]? = some u) : j < c ∧ u = .int .u8 ((F z j : Nat) : Int) := by
  unfold rowL at h
  rw [List.getElem?_map] at h
  by_cases hj : j < c
  · rw [List.getElem?_range hj] at h
    cases h
    exact ⟨hj, rfl⟩
  · rw [List.getElem?_eq_none (by simp; omega)] at h
    cases h
/-- what the loop knows -/
structure PkSt (W : World) (r c b o cap b5 ll : Nat) (al : Option Addr) (F : Nat → Nat → Nat) (zs : List Int) (k : Nat) (v : Value) (w : World) : Prop where
  pm : BlockAt w W.heap.size #[.int .i64 r, .int .i64 c, .slice (some ⟨b, o, none⟩) (r * c) cap] 33
  z : BlockAt w (W.heap.size + 1) #[.int .i64 0, .int .i64 0, .slice none 0 0] 33
  px : BlockAt w b5 #[.int .i64 ll, .int .i64 c, v] 33
  own : w.ownsRow W.heap.size 5 1 v (k * c) (pickL F zs c k)
  kp : Kept W w
/-- the worlds: before the append, behind it, behind the store -/
structure PkW (w0 w1 w2 : World) (L : Nat → Prop) (w : World) : Prop where
  d : L 20 → L 1
  e : L 22 → L 20
  s0 : ¬ L 20 → w = w0
  s1 : L 20 → ¬ L 22 → w = w1
  s2 : L 22 → w = w2
theorem PkW.more {w0 w1 w2 w : World} {L L' : Nat → Prop} {i : Nat} (h : PkW w0 w1 w2 L w) (hi : 20 ≠ i ∧ 22 ≠ i) (hL : ∀ j, L' j ↔ (j = i ∨ L j)) : PkW w0 w1 w2 L' w := by
  have h7 : L' 20 ↔ L 20 := by rw [hL]; exact ⟨fun h => h.resolve_left hi.1, .inr⟩
  have h9 : L' 22 ↔ L 22 := by rw [hL]; exact ⟨fun h => h.resolve_left hi.2, .inr⟩
  exact ⟨fun x => (hL 1).2 (.inr (h.d (h7.1 x))), fun x => h7.2 (h.e (h9.1 x)), fun x => h.s0 (fun y => x (h7.2 y)), fun x y => h.s1 (h7.1 x) (fun z => y (h9.2 z)), fun x => h.s2 (h9.1 x)⟩
theorem PkW.either {w0 w1 w2 w : World} {L : Nat → Prop} (h : PkW w0 w1 w2 L w) : w = w0 ∨ w = w1 ∨ w = w2 := by
  by_cases h7 : L 20
  · by_cases h9 : L 22
    · exact .inr (.inr (h.s2 h9))
    · exact .inr (.inl (h.s1 h7 h9))
  · exact .inl (h.s0 h7)
theorem PkW.first {w0 w1 w2 w : World} {L L' : Nat → Prop} (h : PkW w0 w1 w2 L w) (ho : ¬ L 20) (h1 : L 1) (hL : ∀ j, L' j ↔ (j = 20 ∨ L j)) : PkW w0 w1 w2 L' w1 := by
  have h7 : L' 20 := (hL 20).2 (.inl rfl)
  have h9 : ¬ L' 22 := fun x => ho (h.e (((hL 22).1 x).resolve_left (by decide)))
  exact ⟨fun _ => (hL 1).2 (.inr h1), fun x => absurd x h9, fun x => absurd h7 x, fun _ _ => rfl, fun x => absurd x h9⟩
theorem PkW.second {w0 w1 w2 w : World} {L L' : Nat → Prop} (h : PkW w0 w1 w2 L w) (h20 : L 20) (hL : ∀ j, L' j ↔ (j = 22 ∨ L j)) : PkW w0 w1 w2 L' w2 := by
  have h7' : L' 20 := (hL 20).2 (.inr h20)
  have h9 : L' 22 := (hL 22).2 (.inl rfl)
  exact ⟨fun _ => (hL 1).2 (.inr (h.d h20)), fun _ => h7', fun x => absurd h7' x, fun _ x => absurd h9 x, fun _ => rfl⟩
set_option maxRecDepth 100000 in
set_option maxHeartbeats 2000000 in
theorem rpick (r c b o cap ll lcap : Nat) (al : Option Addr) (zs : List Int) (F : Nat → Nat → Nat) (hr : 1 ≤ r ∧ r ≤ 16) (hc : 1 ≤ c ∧ c ≤ 16) (hl : 1 ≤ ll ∧ ll ≤ 16) (hcap : r * c ≤ cap) (W : World) (hm : MatR W b o r c F) (hz : IntsIn W .i64 al ll zs) (hok : pickOk r zs) :
    Calls Try.prog 39 #[.agg #[.int .i64 r, .int .i64 c, .slice (some ⟨b, o, none⟩) (r * c) cap], .slice al ll lcap] W
      fun e w' => ∃ a k, e = .returned (.agg #[.int .i64 ll, .int .i64 c, .slice a (ll * c) k]) ∧ ByIn w' a (ll * c) (flat c (pickF F zs)) ∧ (∃ g cs, a = some ⟨g, 0, none⟩ ∧ BlockAt w' g cs 5) ∧ Kept W w' := by
  obtain ⟨ab, ao, hal, hcl⟩ := hz.cells
  obtain rfl := hal (by omega)
  have hlen := hz.len_eq
  have HZ := Lib.hid hcl
  have HOK := Lib.hid hok
  have HM := Lib.hid hm
  have hbW := cell_lt (hm 0 0 (by omega) (by omega))
  have hrc := Nat.le_trans (Nat.mul_le_mul hr.2 hc.2) (show 16 * 16 ≤ 256 by decide)
  have hlc := Nat.le_trans (Nat.mul_le_mul hl.2 hc.2) (show 16 * 16 ≤ 256 by decide)
  obtain ⟨i0, hi, hz0, hz1, hz2⟩ := info_parts Try.infoU8
  have HI := Lib.hid (And.intro hi (And.intro hz0 (And.intro hz1 hz2)))
  clear hi hz0 hz1 hz2 hcl hok hm hz hal
  go_enter Try.func39, Try.ntmps39
  have c0 := box3 (BlockAt.new W #[.int .i64 r, .int .i64 c, .slice (some ⟨b, o, none⟩) (r * c) cap] 33)
  go_wp2_with fail
  have k3 := (((Kept.refl W).alloc (.cells #[.int .i64 r, .int .i64 c, .slice (some ⟨b, o, none⟩) (r * c) cap] 33)).alloc (.cells #[.int .i64 0, .int .i64 0, .slice none 0 0] 33)).alloc (.cells #[.int .i64 ll, .int .i64 c, .slice none 0 0] 33)
  have hS : PkSt W r c b o cap (W.heap.size + 1 + 1) ll (some ⟨ab, ao, none⟩) F zs 0 (.slice none 0 0) (((W.alloc (.cells #[.int .i64 r, .int .i64 c, .slice (some ⟨b, o, none⟩) (r * c) cap] 33)).alloc (.cells #[.int .i64 0, .int .i64 0, .slice none 0 0] 33)).alloc (.cells #[.int .i64 ll, .int .i64 c, .slice none 0 0] 33)) :=
    ⟨((BlockAt.new W _ _).kept ((Kept.refl _).alloc _)).kept ((Kept.refl _).alloc _), (BlockAt.new1 W _ _ _).kept ((Kept.refl _).alloc _), BlockAt.new2 W _ _ _ _, by rw [Nat.zero_mul, show pickL F zs c 0 = [] by simp [pickL]]; exact World.ownsRow_nil _ _ _ _, k3⟩
  have HS := Lib.hid hS
  clear hS k3 c0
  generalize ((W.alloc _).alloc _).alloc _ = w0 at *
  go_loopw [6] (fun i wr => ∃ (k : Nat) (v : Value), k ≤ ll ∧ i = .int .i64 k ∧ PkSt W r c b o cap (W.heap.size + 1 + 1) ll (some ⟨ab, ao, none⟩) F zs k v wr) (fun i _ => ll - (intOf i).toNat)
  case atStart => exact ⟨0, _, by omega, rfl, HS.out⟩
  case round =>
    obtain ⟨k, v, hk, rfl, hS⟩ := hrel
    by_cases hkl : k < ll
    · have hS0 := hS
      have hok := HOK.out k (by omega)
      obtain ⟨zn, hzn⟩ : ∃ zn : Nat, zs.getD k 0 = (zn : Int) := ⟨(zs.getD k 0).toNat, by omega⟩
      have hzr : zn < r := by omega
      have hrow : (List.range c).length = c := List.length_range
      have hnews := pickL_succ F zs c k
      rw [hzn, Int.toNat_natCast] at hnews
      have hge := Nat.mul_le_mul_right c (Nat.succ_le_of_lt hzr)
      rw [Nat.succ_mul] at hge
      have hkc := Nat.mul_le_mul_right c (Nat.succ_le_of_lt hkl)
      rw [Nat.succ_mul] at hkc
      have hW0 := hS.kp.trans (Kept.refl wr).drew
      have hMR := HM.out.kept hW0
      have hown0 := own_keptP (Kept.refl wr).drew hS.own
      obtain ⟨va, wa, hrun, hown1, hgr, _, _⟩ := run_append_own_at (P := Try.prog) wr.drew W.heap.size 31 31 5 i0 (.int .u8 0) 1 1 Try.underlying31 HI.out.1 HI.out.2.1 HI.out.2.2.1 HI.out.2.2.2 rfl (by decide) v (k * c) (pickL F zs c k) hown0 ⟨b, o + zn * c, none⟩ c (cap - zn * c) (rowL F c zn) (by simp [rowL]) (fun j u hj => by
          obtain ⟨hjc, rfl⟩ := rowL_at hj
          have h := hMR zn j hzr hjc
          rw [addr_plain]
          exact h) (fun u hu => by
          unfold rowL at hu
          rw [List.mem_map] at hu
          obtain ⟨_, _, rfl⟩ := hu
          rfl) (by unfold maxLen; omega) (by omega) hW0.size
      obtain ⟨gv, cv, rfl⟩ : ∃ g q, va = .slice (some ⟨g, 0, none⟩) (k * c + c) q := by
        rcases hown1.2 with ⟨_, h⟩ | ⟨g, q, _, h, _⟩
        · omega
        · exact ⟨g, q, h⟩
      have hzc := mul_cast zn c
      have hzd : ((zn : Int) + 1) * (c : Int) = ((zn * c + c : Nat) : Int) := by rw [Int.add_mul, Int.one_mul, hzc]; simp
      have hK1 := kept_grown hW0 hown0 hgr
      have b0 := hS.pm.kept (Kept.refl wr).drew
      have bz := hS.z.kept (Kept.refl wr).drew
      have b5 := hS.px.kept (Kept.refl wr).drew
      have b01 := box_other hown0 hgr b0 (by decide)
      have bz1 := box_other hown0 hgr bz (by decide)
      have b51 := box_other hown0 hgr b5 (by decide)
      have g2 := grown_set wa (W.heap.size + 1 + 1) 2 (.slice (some ⟨gv, 0, none⟩) (k * c + c) cv)
      have b52 : BlockAt (wa.setCell ⟨W.heap.size + 1 + 1, 2, none⟩ (.slice (some ⟨gv, 0, none⟩) (k * c + c) cv)) (W.heap.size + 1 + 1) #[.int .i64 ll, .int .i64 c, .slice (some ⟨gv, 0, none⟩) (k * c + c) cv] 33 := b51.set (i := 2) _
      have hK2 := Kept.grown hK1 g2 (fun q e => by cases e; omega)
      have hown2 := own_other hown1 g2 b51 (by decide)
      rw [hnews] at hown2
      have HEND := Lib.hid (PkSt.mk (W := W) (r := r) (c := c) (b := b) (o := o) (cap := cap) (b5 := W.heap.size + 1 + 1) (ll := ll) (al := some ⟨ab, ao, none⟩) (F := F) (zs := zs) (k := k + 1) (v := .slice (some ⟨gv, 0, none⟩) (k * c + c) cv) (w := wa.setCell ⟨W.heap.size + 1 + 1, 2, none⟩ (.slice (some ⟨gv, 0, none⟩) (k * c + c) cv)) (b01.grown g2 (by simp; omega)) (bz1.grown g2 (by simp)) b52 (by rw [Nat.succ_mul]; exact hown2) hK2)
      have hbox : ∀ w', (w' = wr.drew ∨ w' = wa ∨ w' = wa.setCell ⟨W.heap.size + 1 + 1, 2, none⟩ (.slice (some ⟨gv, 0, none⟩) (k * c + c) cv)) → w'.cell? ⟨W.heap.size, 0, none⟩ = some (.int .i64 r) ∧ w'.cell? ⟨W.heap.size, 1, none⟩ = some (.int .i64 c) ∧ w'.cell? ⟨W.heap.size, 2, none⟩ = some (.slice (some ⟨b, o, none⟩) (r * c) cap) ∧ w'.cell? ⟨ab, ao + k, none⟩ = some (.int .i64 (zn : Int)) := fun w' hw => by
        obtain ⟨h1, h2⟩ := HZ.out k hkl
        rw [hzn] at h2
        rcases hw with rfl | rfl | rfl
        · obtain ⟨p0, p1, p2⟩ := box3 b0
          exact ⟨p0, p1, p2, hW0.cell h1 h2⟩
        · obtain ⟨p0, p1, p2⟩ := box3 b01
          exact ⟨p0, p1, p2, hK1.cell h1 h2⟩
        · obtain ⟨p0, p1, p2⟩ := box3 (b01.grown g2 (by simp; omega))
          exact ⟨p0, p1, p2, hK2.cell h1 h2⟩
      have HV5 := Lib.hid (box3 b5).2.2
      have HV51 := Lib.hid (box3 b51).2.2
      have HF51 := Lib.hid (b51.free 2)
      obtain ⟨a0, a1, a2⟩ := box3 hS.pm
      clear hS hS0 hok hrow hnews hW0 hMR hown0 hown1 hgr hK1 b0 bz b5 b01 bz1 b51 g2 b52 hK2 hown2 hkc
      generalize hzcn : zn * c = zc at *
      generalize hrcn : r * c = rc at *
      generalize hzdn : zc + c = zd at *
      generalize hkcn : k * c + c = kc at *
      have HQ4 := Lib.hid hkcn
      clear hkcn
      have HBX := Lib.hid hbox
      have HRUN := Lib.hid hrun
      have HQ1 := Lib.hid hzcn
      have HQ2 := Lib.hid hrcn
      have HQ3 := Lib.hid hzdn
      have hlt1 : zc ≤ zd := by omega
      have hlt2 : zd ≤ cap := by omega
      have hsub : zd - zc = c := by omega
      have hz16 : zd ≤ 256 := by omega
      have wzc := wrap_i64_nat zc (by omega)
      have wzd := wrap_i64_nat zd (by omega)
      have wz1 : IntKind.i64.wrap ((zn : Int) + 1) = (zn : Int) + 1 := by
        rw [show ((zn : Int) + 1) = ((zn + 1 : Nat) : Int) by omega]
        exact wrap_i64_nat (zn + 1) (by omega)
      have hcne : ¬ cap = zc := by omega
      clear hbox hrun hzcn hrcn hzdn
      go_wp2_with fail
      clear a0 a1 a2
      let val : Nat → Value := fun j => ([.pointer (some ⟨W.heap.size + 1 + 1, 2, none⟩), v, .pointer (some ⟨W.heap.size, 2, none⟩), .slice (some ⟨b, o, none⟩) rc cap, .slice (some ⟨ab, ao, none⟩) ll lcap, .int .i64 k, .pointer (some ⟨ab, ao + k, none⟩), .int .i64 zn, .pointer (some ⟨W.heap.size, 1, none⟩), .int .i64 c, .int .i64 zc, .slice (some ⟨ab, ao, none⟩) ll lcap, .int .i64 k, .pointer (some ⟨ab, ao + k, none⟩), .int .i64 zn, .int .i64 ((zn : Int) + 1), .pointer (some ⟨W.heap.size, 1, none⟩), .int .i64 c, .int .i64 zd, .slice (some ⟨b, o + zc, none⟩) c (cap - zc), .slice (some ⟨gv, 0, none⟩) kc cv, .pointer (some ⟨W.heap.size + 1 + 1, 2, none⟩)] : List Value).getD j undef
      refine wp_region_inv1 (fun a0 L a w' => ∃ V : Nat → Value, a = ((((((((((((((((((((((a0.put (some 18) (V 0)).put (some 19) (V 1)).put (some 20) (V 2)).put (some 21) (V 3)).put (some 22) (V 4)).put (some 23) (V 5)).put (some 24) (V 6)).put (some 25) (V 7)).put (some 26) (V 8)).put (some 27) (V 9)).put (some 28) (V 10)).put (some 29) (V 11)).put (some 30) (V 12)).put (some 31) (V 13)).put (some 32) (V 14)).put (some 33) (V 15)).put (some 34) (V 16)).put (some 35) (V 17)).put (some 36) (V 18)).put (some 37) (V 19)).put (some 38) (V 20)).put (some 39) (V 21)) ∧ (∀ j, L j → j ≠ 22 → V j = val j) ∧ PkW wr.drew wa (wa.setCell ⟨W.heap.size + 1 + 1, 2, none⟩ (.slice (some ⟨gv, 0, none⟩) kc cv)) L w') (by kernel_rfl) (by kernel_rfl) ?eh0 ?ehs ?ehe
      case eh0 =>
        intro L hL
        exact ⟨fun j => ([u18, u19, u20, u21, u22, u23, u24, u25, u26, u27, u28, u29, u30, u31, u32, u33, u34, u35, u36, u37, u38, u39] : List Value).getD j undef, by simp only [Act.put, List.setIfInBounds_toArray, List.set_cons_zero, List.set_cons_succ]; rfl, fun j hj _ => by
          by_cases h : j < 23
          · exact absurd hj (hL j h)
          · simp [val, show ¬ j < 22 by omega], ⟨fun h => absurd h (hL 20 (by decide)), fun h => absurd h (hL 22 (by decide)), fun _ => rfl, fun h => absurd h (hL 20 (by decide)), fun h => absurd h (hL 22 (by decide))⟩⟩
      case ehs =>
        rintro L L' a w' i op K ⟨V, rfl, hV, hW⟩ ho hopen hdep hL hK
        have vok : ∀ j, L' j → j ≠ 22 → vset V i (val i) j = val j := fun j hj h1 => by
          by_cases e : j = i
          · subst e; exact vset_same _ _ _
          · rw [vset_other _ _ e]; exact hV j (((hL j).1 hj).resolve_left e) h1
        have VOK := Lib.hid vok
        clear vok
        obtain ⟨x0, x1, x2, hcl⟩ := HBX.out w' hW.either
        match i, ho with
        | 0, ho =>
          simp only [List.getElem?_toArray, List.getElem?_cons_zero, Option.some.injEq] at ho
          have HWW := Lib.hid hW
          clear hV hW
          subst ho
          rw [if_pos (wanted_free rfl _)]
          simp only [Act.put, List.setIfInBounds_toArray, List.set_cons_zero, List.set_cons_succ]
          go_simp
          exact hK _ _ ⟨vset V 0 (val 0), by simp only [Act.put, List.setIfInBounds_toArray, List.set_cons_zero, List.set_cons_succ, vset, Nat.reduceEqDiff, if_true, if_false]; rfl, VOK.out, HWW.out.more (by decide) hL⟩
        | 1, ho =>
          simp only [List.getElem?_toArray, List.getElem?_cons_zero, List.getElem?_cons_succ, Option.some.injEq] at ho
          have e0 : V 0 = .pointer (some ⟨W.heap.size + 1 + 1, 2, none⟩) := hV 0 (hdep 0 (by rw [← ho]; kernel_rfl)) (by decide)
          have hw := hW.s0 (fun h => hopen (hW.d h))
          have hc : w'.cell? ⟨W.heap.size + 1 + 1, 2, none⟩ = some v := by rw [hw]; exact HV5.out
          clear hw
          have HWW := Lib.hid hW
          clear hV hW
          subst ho
          rw [if_pos (wanted_free rfl _)]
          simp only [Act.put, List.setIfInBounds_toArray, List.set_cons_zero, List.set_cons_succ, e0]
          go_simp
          exact hK _ _ ⟨vset V 1 (val 1), by simp only [Act.put, List.setIfInBounds_toArray, List.set_cons_zero, List.set_cons_succ, vset, Nat.reduceEqDiff, if_true, if_false, e0]; rfl, VOK.out, HWW.out.more (by decide) hL⟩
        | 2, ho =>
          simp only [List.getElem?_toArray, List.getElem?_cons_zero, List.getElem?_cons_succ, Option.some.injEq] at ho
          have HWW := Lib.hid hW
          clear hV hW
          subst ho
          rw [if_pos (wanted_free rfl _)]
          simp only [Act.put, List.setIfInBounds_toArray, List.set_cons_zero, List.set_cons_succ]
          go_simp
          exact hK _ _ ⟨vset V 2 (val 2), by simp only [Act.put, List.setIfInBounds_toArray, List.set_cons_zero, List.set_cons_succ, vset, Nat.reduceEqDiff, if_true, if_false]; rfl, VOK.out, HWW.out.more (by decide) hL⟩
        | 3, ho =>
          simp only [List.getElem?_toArray, List.getElem?_cons_zero, List.getElem?_cons_succ, Option.some.injEq] at ho
          have e2 : V 2 = .pointer (some ⟨W.heap.size, 2, none⟩) := hV 2 (hdep 2 (by rw [← ho]; kernel_rfl)) (by decide)
          have HWW := Lib.hid hW
          clear hV hW
          subst ho
          rw [if_pos (wanted_free rfl _)]
          simp only [Act.put, List.setIfInBounds_toArray, List.set_cons_zero, List.set_cons_succ, e2]
          go_simp
          exact hK _ _ ⟨vset V 3 (val 3), by simp only [Act.put, List.setIfInBounds_toArray, List.set_cons_zero, List.set_cons_succ, vset, Nat.reduceEqDiff, if_true, if_false, e2]; rfl, VOK.out, HWW.out.more (by decide) hL⟩
        | 4, ho =>
          simp only [List.getElem?_toArray, List.getElem?_cons_zero, List.getElem?_cons_succ, Option.some.injEq] at ho
          have HWW := Lib.hid hW
          clear hV hW
          subst ho
          rw [if_pos (wanted_free rfl _)]
          simp only [Act.put, List.setIfInBounds_toArray, List.set_cons_zero, List.set_cons_succ]
          go_simp
          exact hK _ _ ⟨vset V 4 (val 4), by simp only [Act.put, List.setIfInBounds_toArray, List.set_cons_zero, List.set_cons_succ, vset, Nat.reduceEqDiff, if_true, if_false]; rfl, VOK.out, HWW.out.more (by decide) hL⟩
        | 5, ho =>
          simp only [List.getElem?_toArray, List.getElem?_cons_zero, List.getElem?_cons_succ, Option.some.injEq] at ho
          have HWW := Lib.hid hW
          clear hV hW
          subst ho
          rw [if_pos (wanted_free rfl _)]
          simp only [Act.put, List.setIfInBounds_toArray, List.set_cons_zero, List.set_cons_succ]
          go_simp
          exact hK _ _ ⟨vset V 5 (val 5), by simp only [Act.put, List.setIfInBounds_toArray, List.set_cons_zero, List.set_cons_succ, vset, Nat.reduceEqDiff, if_true, if_false]; rfl, VOK.out, HWW.out.more (by decide) hL⟩
        | 6, ho =>
          simp only [List.getElem?_toArray, List.getElem?_cons_zero, List.getElem?_cons_succ, Option.some.injEq] at ho
          have e4 : V 4 = .slice (some ⟨ab, ao, none⟩) ll lcap := hV 4 (hdep 4 (by rw [← ho]; kernel_rfl)) (by decide)
          have e5 : V 5 = .int .i64 k := hV 5 (hdep 5 (by rw [← ho]; kernel_rfl)) (by decide)
          have HWW := Lib.hid hW
          clear hV hW
          subst ho
          rw [if_pos (wanted_free rfl _)]
          simp only [Act.put, List.setIfInBounds_toArray, List.set_cons_zero, List.set_cons_succ, e4, e5]
          go_simp
          exact hK _ _ ⟨vset V 6 (val 6), by simp only [Act.put, List.setIfInBounds_toArray, List.set_cons_zero, List.set_cons_succ, vset, Nat.reduceEqDiff, if_true, if_false, e4, e5]; rfl, VOK.out, HWW.out.more (by decide) hL⟩
        | 7, ho =>
          simp only [List.getElem?_toArray, List.getElem?_cons_zero, List.getElem?_cons_succ, Option.some.injEq] at ho
          have e6 : V 6 = .pointer (some ⟨ab, ao + k, none⟩) := hV 6 (hdep 6 (by rw [← ho]; kernel_rfl)) (by decide)
          have HWW := Lib.hid hW
          clear hV hW
          subst ho
          rw [if_pos (wanted_free rfl _)]
          simp only [Act.put, List.setIfInBounds_toArray, List.set_cons_zero, List.set_cons_succ, e6]
          go_simp
          exact hK _ _ ⟨vset V 7 (val 7), by simp only [Act.put, List.setIfInBounds_toArray, List.set_cons_zero, List.set_cons_succ, vset, Nat.reduceEqDiff, if_true, if_false, e6]; rfl, VOK.out, HWW.out.more (by decide) hL⟩
        | 8, ho =>
          simp only [List.getElem?_toArray, List.getElem?_cons_zero, List.getElem?_cons_succ, Option.some.injEq] at ho
          have HWW := Lib.hid hW
          clear hV hW
          subst ho
          rw [if_pos (wanted_free rfl _)]
          simp only [Act.put, List.setIfInBounds_toArray, List.set_cons_zero, List.set_cons_succ]
          go_simp
          exact hK _ _ ⟨vset V 8 (val 8), by simp only [Act.put, List.setIfInBounds_toArray, List.set_cons_zero, List.set_cons_succ, vset, Nat.reduceEqDiff, if_true, if_false]; rfl, VOK.out, HWW.out.more (by decide) hL⟩
        | 9, ho =>
          simp only [List.getElem?_toArray, List.getElem?_cons_zero, List.getElem?_cons_succ, Option.some.injEq] at ho
          have e8 : V 8 = .pointer (some ⟨W.heap.size, 1, none⟩) := hV 8 (hdep 8 (by rw [← ho]; kernel_rfl)) (by decide)
          have HWW := Lib.hid hW
          clear hV hW
          subst ho
          rw [if_pos (wanted_free rfl _)]
          simp only [Act.put, List.setIfInBounds_toArray, List.set_cons_zero, List.set_cons_succ, e8]
          go_simp
          exact hK _ _ ⟨vset V 9 (val 9), by simp only [Act.put, List.setIfInBounds_toArray, List.set_cons_zero, List.set_cons_succ, vset, Nat.reduceEqDiff, if_true, if_false, e8]; rfl, VOK.out, HWW.out.more (by decide) hL⟩
        | 10, ho =>
          simp only [List.getElem?_toArray, List.getElem?_cons_zero, List.getElem?_cons_succ, Option.some.injEq] at ho
          have e7 : V 7 = .int .i64 zn := hV 7 (hdep 7 (by rw [← ho]; kernel_rfl)) (by decide)
          have e9 : V 9 = .int .i64 c := hV 9 (hdep 9 (by rw [← ho]; kernel_rfl)) (by decide)
          have HWW := Lib.hid hW
          clear hV hW
          subst ho
          rw [if_pos (wanted_free rfl _)]
          simp only [Act.put, List.setIfInBounds_toArray, List.set_cons_zero, List.set_cons_succ, e7, e9]
          go_simp
          exact hK _ _ ⟨vset V 10 (val 10), by simp only [Act.put, List.setIfInBounds_toArray, List.set_cons_zero, List.set_cons_succ, vset, Nat.reduceEqDiff, if_true, if_false, e7, e9]; rfl, VOK.out, HWW.out.more (by decide) hL⟩
        | 11, ho =>
          simp only [List.getElem?_toArray, List.getElem?_cons_zero, List.getElem?_cons_succ, Option.some.injEq] at ho
          have HWW := Lib.hid hW
          clear hV hW
          subst ho
          rw [if_pos (wanted_free rfl _)]
          simp only [Act.put, List.setIfInBounds_toArray, List.set_cons_zero, List.set_cons_succ]
          go_simp
          exact hK _ _ ⟨vset V 11 (val 11), by simp only [Act.put, List.setIfInBounds_toArray, List.set_cons_zero, List.set_cons_succ, vset, Nat.reduceEqDiff, if_true, if_false]; rfl, VOK.out, HWW.out.more (by decide) hL⟩
        | 12, ho =>
          simp only [List.getElem?_toArray, List.getElem?_cons_zero, List.getElem?_cons_succ, Option.some.injEq] at ho
          have HWW := Lib.hid hW
          clear hV hW
          subst ho
          rw [if_pos (wanted_free rfl _)]
          simp only [Act.put, List.setIfInBounds_toArray, List.set_cons_zero, List.set_cons_succ]
          go_simp
          exact hK _ _ ⟨vset V 12 (val 12), by simp only [Act.put, List.setIfInBounds_toArray, List.set_cons_zero, List.set_cons_succ, vset, Nat.reduceEqDiff, if_true, if_false]; rfl, VOK.out, HWW.out.more (by decide) hL⟩
        | 13, ho =>
          simp only [List.getElem?_toArray, List.getElem?_cons_zero, List.getElem?_cons_succ, Option.some.injEq] at ho
          have e11 : V 11 = .slice (some ⟨ab, ao, none⟩) ll lcap := hV 11 (hdep 11 (by rw [← ho]; kernel_rfl)) (by decide)
          have e12 : V 12 = .int .i64 k := hV 12 (hdep 12 (by rw [← ho]; kernel_rfl)) (by decide)
          have HWW := Lib.hid hW
          clear hV hW
          subst ho
          rw [if_pos (wanted_free rfl _)]
          simp only [Act.put, List.setIfInBounds_toArray, List.set_cons_zero, List.set_cons_succ, e11, e12]
          go_simp
          exact hK _ _ ⟨vset V 13 (val 13), by simp only [Act.put, List.setIfInBounds_toArray, List.set_cons_zero, List.set_cons_succ, vset, Nat.reduceEqDiff, if_true, if_false, e11, e12]; rfl, VOK.out, HWW.out.more (by decide) hL⟩
        | 14, ho =>
          simp only [List.getElem?_toArray, List.getElem?_cons_zero, List.getElem?_cons_succ, Option.some.injEq] at ho
          have e13 : V 13 = .pointer (some ⟨ab, ao + k, none⟩) := hV 13 (hdep 13 (by rw [← ho]; kernel_rfl)) (by decide)
          have HWW := Lib.hid hW
          clear hV hW
          subst ho
          rw [if_pos (wanted_free rfl _)]
          simp only [Act.put, List.setIfInBounds_toArray, List.set_cons_zero, List.set_cons_succ, e13]
          go_simp
          exact hK _ _ ⟨vset V 14 (val 14), by simp only [Act.put, List.setIfInBounds_toArray, List.set_cons_zero, List.set_cons_succ, vset, Nat.reduceEqDiff, if_true, if_false, e13]; rfl, VOK.out, HWW.out.more (by decide) hL⟩
        | 15, ho =>
          simp only [List.getElem?_toArray, List.getElem?_cons_zero, List.getElem?_cons_succ, Option.some.injEq] at ho
          have e14 : V 14 = .int .i64 zn := hV 14 (hdep 14 (by rw [← ho]; kernel_rfl)) (by decide)
          have HWW := Lib.hid hW
          clear hV hW
          subst ho
          rw [if_pos (wanted_free rfl _)]
          simp only [Act.put, List.setIfInBounds_toArray, List.set_cons_zero, List.set_cons_succ, e14]
          go_simp
          exact hK _ _ ⟨vset V 15 (val 15), by simp only [Act.put, List.setIfInBounds_toArray, List.set_cons_zero, List.set_cons_succ, vset, Nat.reduceEqDiff, if_true, if_false, e14]; rfl, VOK.out, HWW.out.more (by decide) hL⟩
        | 16, ho =>
          simp only [List.getElem?_toArray, List.getElem?_cons_zero, List.getElem?_cons_succ, Option.some.injEq] at ho
          have HWW := Lib.hid hW
          clear hV hW
          subst ho
          rw [if_pos (wanted_free rfl _)]
          simp only [Act.put, List.setIfInBounds_toArray, List.set_cons_zero, List.set_cons_succ]
          go_simp
          exact hK _ _ ⟨vset V 16 (val 16), by simp only [Act.put, List.setIfInBounds_toArray, List.set_cons_zero, List.set_cons_succ, vset, Nat.reduceEqDiff, if_true, if_false]; rfl, VOK.out, HWW.out.more (by decide) hL⟩
        | 17, ho =>
          simp only [List.getElem?_toArray, List.getElem?_cons_zero, List.getElem?_cons_succ, Option.some.injEq] at ho
          have e16 : V 16 = .pointer (some ⟨W.heap.size, 1, none⟩) := hV 16 (hdep 16 (by rw [← ho]; kernel_rfl)) (by decide)
          have HWW := Lib.hid hW
          clear hV hW
          subst ho
          rw [if_pos (wanted_free rfl _)]
          simp only [Act.put, List.setIfInBounds_toArray, List.set_cons_zero, List.set_cons_succ, e16]
          go_simp
          exact hK _ _ ⟨vset V 17 (val 17), by simp only [Act.put, List.setIfInBounds_toArray, List.set_cons_zero, List.set_cons_succ, vset, Nat.reduceEqDiff, if_true, if_false, e16]; rfl, VOK.out, HWW.out.more (by decide) hL⟩
        | 18, ho =>
          simp only [List.getElem?_toArray, List.getElem?_cons_zero, List.getElem?_cons_succ, Option.some.injEq] at ho
          have e15 : V 15 = .int .i64 ((zn : Int) + 1) := hV 15 (hdep 15 (by rw [← ho]; kernel_rfl)) (by decide)
          have e17 : V 17 = .int .i64 c := hV 17 (hdep 17 (by rw [← ho]; kernel_rfl)) (by decide)
          have HWW := Lib.hid hW
          clear hV hW
          subst ho
          rw [if_pos (wanted_free rfl _)]
          simp only [Act.put, List.setIfInBounds_toArray, List.set_cons_zero, List.set_cons_succ, e15, e17]
          go_simp
          exact hK _ _ ⟨vset V 18 (val 18), by simp only [Act.put, List.setIfInBounds_toArray, List.set_cons_zero, List.set_cons_succ, vset, Nat.reduceEqDiff, if_true, if_false, e15, e17]; rfl, VOK.out, HWW.out.more (by decide) hL⟩
        | 19, ho =>
          simp only [List.getElem?_toArray, List.getElem?_cons_zero, List.getElem?_cons_succ, Option.some.injEq] at ho
          have e3 : V 3 = .slice (some ⟨b, o, none⟩) rc cap := hV 3 (hdep 3 (by rw [← ho]; kernel_rfl)) (by decide)
          have e10 : V 10 = .int .i64 zc := hV 10 (hdep 10 (by rw [← ho]; kernel_rfl)) (by decide)
          have e18 : V 18 = .int .i64 zd := hV 18 (hdep 18 (by rw [← ho]; kernel_rfl)) (by decide)
          have HWW := Lib.hid hW
          clear hV hW
          subst ho
          rw [if_pos (wanted_free rfl _)]
          simp only [Act.put, List.setIfInBounds_toArray, List.set_cons_zero, List.set_cons_succ, e3, e10, e18]
          go_simp
          exact hK _ _ ⟨vset V 19 (val 19), by simp only [Act.put, List.setIfInBounds_toArray, List.set_cons_zero, List.set_cons_succ, vset, Nat.reduceEqDiff, if_true, if_false, e3, e10, e18]; rfl, VOK.out, HWW.out.more (by decide) hL⟩
        | 20, ho =>
          simp only [List.getElem?_toArray, List.getElem?_cons_zero, List.getElem?_cons_succ, Option.some.injEq] at ho
          have e1 : V 1 = v := hV 1 (hdep 1 (by rw [← ho]; kernel_rfl)) (by decide)
          have e19 : V 19 = .slice (some ⟨b, o + zc, none⟩) c (cap - zc) := hV 19 (hdep 19 (by rw [← ho]; kernel_rfl)) (by decide)
          have hw := hW.s0 hopen
          have l1 := hdep 1 (by rw [← ho]; kernel_rfl)
          have hrn := HRUN.out
          rw [← hw] at hrn
          have HN := Lib.hid (hW.first hopen l1 hL)
          clear hw
          have HWW := Lib.hid hW
          clear hV hW
          subst ho
          rw [if_pos (wanted_free rfl _)]
          simp only [Act.put, List.setIfInBounds_toArray, List.set_cons_zero, List.set_cons_succ, e1, e19]
          refine oper_append _ _ _ rfl rfl rfl hrn ?_
          simp only [Act.put, List.setIfInBounds_toArray, List.set_cons_zero, List.set_cons_succ]
          exact hK _ _ ⟨vset V 20 (val 20), by simp only [Act.put, List.setIfInBounds_toArray, List.set_cons_zero, List.set_cons_succ, vset, Nat.reduceEqDiff, if_true, if_false, e1, e19]; rfl, VOK.out, HN.out⟩
        | 21, ho =>
          simp only [List.getElem?_toArray, List.getElem?_cons_zero, List.getElem?_cons_succ, Option.some.injEq] at ho
          have HWW := Lib.hid hW
          clear hV hW
          subst ho
          rw [if_pos (wanted_free rfl _)]
          simp only [Act.put, List.setIfInBounds_toArray, List.set_cons_zero, List.set_cons_succ]
          go_simp
          exact hK _ _ ⟨vset V 21 (val 21), by simp only [Act.put, List.setIfInBounds_toArray, List.set_cons_zero, List.set_cons_succ, vset, Nat.reduceEqDiff, if_true, if_false]; rfl, VOK.out, HWW.out.more (by decide) hL⟩
        | 22, ho =>
          simp only [List.getElem?_toArray, List.getElem?_cons_zero, List.getElem?_cons_succ, Option.some.injEq] at ho
          have e21 : V 21 = .pointer (some ⟨W.heap.size + 1 + 1, 2, none⟩) := hV 21 (hdep 21 (by rw [← ho]; kernel_rfl)) (by decide)
          have e20 : V 20 = .slice (some ⟨gv, 0, none⟩) kc cv := hV 20 (hdep 20 (by rw [← ho]; kernel_rfl)) (by decide)
          have l20 := hdep 20 (by rw [← ho]; kernel_rfl)
          have hw := hW.s1 l20 hopen
          have hc : w'.cell? ⟨W.heap.size + 1 + 1, 2, none⟩ = some v := by rw [hw]; exact HV51.out
          have hf : w'.frozen? ⟨W.heap.size + 1 + 1, 2, none⟩ = false := by rw [hw]; exact HF51.out
          have HW := Lib.hid hw
          have HN := Lib.hid (hW.second l20 hL)
          clear hw
          have HWW := Lib.hid hW
          clear hV hW
          subst ho
          rw [if_pos (wanted_free rfl _)]
          simp only [Act.put, List.setIfInBounds_toArray, List.set_cons_zero, List.set_cons_succ, e21, e20]
          go_simp
          exact hK _ _ ⟨vset V 22 (val 22), by simp only [Act.put, List.setIfInBounds_toArray, List.set_cons_zero, List.set_cons_succ, vset, Nat.reduceEqDiff, if_false, e21, e20], VOK.out, by rw [HW.out]; exact HN.out⟩
        | n + 23, ho => simp at ho
      case ehe =>
        rintro L a w' ⟨V, rfl, _, hW⟩ hall
        have hw := hW.s2 (hall 22 (by decide))
        subst hw
        simp only [Act.put, List.setIfInBounds_toArray, List.set_cons_zero, List.set_cons_succ]
        clear hW hzc hzd wzc wzd wz1 hcne
        go_wp2_with fail
        go_roundw
        case rel => exact ⟨k + 1, _, by omega, by go_num, HEND.out⟩
        case measure => simp [intOf]; omega
    · obtain rfl : k = ll := by omega
      obtain ⟨a', cap', rfl, hcl, hby, hg⟩ := by_of_own hS.own
      obtain ⟨p0, p1, p2⟩ := box3 hS.px
      have HS2 := Lib.hid hS
      have HBY := Lib.hid hby
      have hnb : ∀ (row : Value), k * c ≠ 0 → True := fun _ _ => trivial
      have HG := Lib.hid hg
      clear hS hby hg hnb
      go_wp2_with (refine wpList_store_block rfl 33 (.tmp 4) (.tmp 40) rfl _ #[.int .i64 k, .int .i64 c, .slice a' (k * c) cap'] #[.int .i64 0, .int .i64 0, .slice none 0 0] 33 rfl rfl HS2.out.z Try.infoMat rfl (one3 _ _ _ _ _) ?_)
      have g2 := grown_row wr (W.heap.size + 1) #[.int .i64 k, .int .i64 c, .slice a' (k * c) cap']
      have hkc0 : 0 < k * c := Nat.mul_pos (by omega) (by omega)
      refine bodyPost_ret (v := .agg #[.int .i64 k, .int .i64 c, .slice a' (k * c) cap']) ?_ rfl ⟨_, _, rfl, ?_, ?_, Kept.grown HS2.out.kp g2 (fun q e => by cases e; omega)⟩
      · exact results_cell_row rfl _ _ (W.heap.size + 1) 33 #[.int .i64 k, .int .i64 c, .slice a' (k * c) cap'] (0, 0) _ rfl (HS2.out.z.setRow _) Try.underlying33 rfl Try.infoMat
      · obtain ⟨g, cs, rfl, _, hgb⟩ := HG.out hkc0
        have hne := ne_of_types hgb HS2.out.z (by decide)
        obtain ⟨b2, o2, ha2, hc2⟩ := HBY.out.cells
        cases ha2 hkc0
        exact ⟨g, 0, fun _ => rfl, fun i hi => by
          have h3 := (World.cell?_of_block (a := ⟨g, 0 + i, none⟩) (g2.block g (hc2 i hi).1 (by simp; omega))).trans (hc2 i hi).2
          exact ⟨cell_lt h3, h3⟩⟩
      · obtain ⟨g, cs, e1, _, hgb⟩ := HG.out hkc0
        exact ⟨g, cs, e1, hgb.grown g2 (fun e => ne_of_types hgb HS2.out.z (by decide) (Option.some.inj e))⟩
end Go.Proofs.Ytoonpnpooljmlaa

namespace Go.Proofs.Ytoonpnpooljmlaa
open Go.RowKit Go.Shelf
attribute [local go_sem] Oper.semAt_some

/-- the numbers of so many rows, in a row -/
def pwL (K n : Nat) : List Value := (List.range n).map fun t => Value.int .u8 ((pwAt K t : Nat) : Int)
theorem pwL_add (K n : Nat) : pwL K (n + 1) = pwL K n ++ [.int .u8 ((pwAt K n : Nat) : Int)] := by
  unfold pwL
  rw [List.range_succ, List.map_append]
  rfl
theorem firstZ_add (q : Nat) : (firstZ (q + 1)).map (Value.int .i64) = (firstZ q).map (Value.int .i64) ++ [.int .i64 (q : Int)] := by
  unfold firstZ
  rw [List.range_succ]
  simp
set_option maxRecDepth 100000 in
set_option maxHeartbeats 4000000 in
theorem rmatrix_any (K M H s : Nat) (hH : H = K + M) (hK : 1 ≤ K ∧ K ≤ 8 ∧ M ≤ 6) (wo : World) :
    Calls Try.prog 13 #[.agg #[.int .i64 K, .int .i64 M, .int .i64 s]] wo fun e w' => ∃ g, e = .returned (.agg #[.int .i64 H, .int .i64 K, .slice (some ⟨g, 0, none⟩) (H * K) (H * K)]) ∧ wo.heap.size ≤ g ∧ Mat w' g 0 H K (genF K) ∧ Kept wo w' := by
  have eH : (K : Int) + (M : Int) = (H : Int) := by omega
  have hH14 : 1 ≤ H ∧ H ≤ 14 := by omega
  have hKH : K ≤ H := by omega
  have hHK : H * K ≤ 112 := Nat.le_trans (Nat.mul_le_mul hH14.2 hK.2.1) (by decide)
  have HHK := Lib.hid hHK
  obtain ⟨iA, hi, hz0, hz1, hz2⟩ := info_parts Try.infoU8
  have HIA := Lib.hid (And.intro hi (And.intro hz0 (And.intro hz1 hz2)))
  obtain ⟨iB, hi2, hz3, hz4, hz5⟩ := info_parts Try.infoIc
  have HIB := Lib.hid (And.intro hi2 (And.intro hz3 (And.intro hz4 hz5)))
  clear hi hz0 hz1 hz2 hi2 hz3 hz4 hz5 hHK
  have HH := Lib.hid hH
  clear hH
  go_enter Try.func13, Try.ntmps13
  go_upto_region 1 with (fail)
  have hs1 := (BlockAt.new wo #[.int .i64 K, .int .i64 M, .int .i64 s] 29).kept ((Kept.refl _).alloc (.cells #[.int .i64 0, .int .i64 0, .slice none 0 0] 33))
  have HZ1 := Lib.hid (BlockAt.new1 wo #[.int .i64 0, .int .i64 0, .slice none 0 0] 33 (.cells #[.int .i64 K, .int .i64 M, .int .i64 s] 29))
  have HK1 := Lib.hid (((Kept.refl wo).alloc (.cells #[.int .i64 K, .int .i64 M, .int .i64 s] 29)).alloc (.cells #[.int .i64 0, .int .i64 0, .slice none 0 0] 33))
  have HSZ := Lib.hid (show ((wo.alloc (.cells #[.int .i64 K, .int .i64 M, .int .i64 s] 29)).alloc (.cells #[.int .i64 0, .int .i64 0, .slice none 0 0] 33)).heap.size = wo.heap.size + 2 by simp)
  generalize (wo.alloc (.cells #[.int .i64 K, .int .i64 M, .int .i64 s] 29)).alloc (.cells #[.int .i64 0, .int .i64 0, .slice none 0 0] 33) = w1 at *
  have HS1 := Lib.hid hs1
  obtain ⟨c1, c2, c3⟩ := box3 hs1
  clear hs1
  go_upto_region 2 with (fail)
  have HM2 := Lib.hid (BlockAt.new w1 #[.int .i64 H, .int .i64 K, .slice none 0 0] 33)
  have HK2 := Lib.hid ((Kept.refl w1).alloc (.cells #[.int .i64 H, .int .i64 K, .slice none 0 0] 33))
  generalize w1.alloc (.cells #[.int .i64 H, .int .i64 K, .slice none 0 0] 33) = w2 at *
  obtain ⟨pm, hpm⟩ : ∃ pm, pm = w1.heap.size := ⟨_, rfl⟩
  have hle : w1.heap.size ≤ pm := Nat.le_of_eq hpm.symm
  rw [← hpm] at HM2 ⊢
  have HPM := Lib.hid hpm
  clear hpm c1 c2 c3
  go_wp2_with fail
  go_loopw [4, 5] (fun vf i wr => ∃ i' n q : Nat, ∃ v : Value, Hid (n = i' * K) ∧ Hid (q = min i' K) ∧ n ≤ 112 ∧ q ≤ K ∧ i' ≤ H ∧ i = .int .i64 i' ∧ BlockAt wr pm #[.int .i64 H, .int .i64 K, v] 33 ∧ wr.ownsRow w1.heap.size 5 1 v n (pwL K n) ∧ wr.ownsRow w1.heap.size 3 1 vf q ((firstZ q).map (Value.int .i64)) ∧ Kept w1 wr) (fun _ i _ => H - (intOf i).toNat)
  case atStart => exact ⟨0, 0, 0, _, Lib.hid (by omega), Lib.hid (by omega), by omega, by omega, by omega, rfl, HM2.out, World.ownsRow_nil _ _ _ _, World.ownsRow_nil _ _ _ _, HK2.out⟩
  case round =>
    obtain ⟨ri, n, q, v, HN, HQ, hn, hq, hri, rfl, hb, hov, hof, hkr⟩ := hrel
    have HB := Lib.hid hb
    have HOV := Lib.hid hov
    have HOF := Lib.hid hof
    have HKR := Lib.hid hkr
    obtain ⟨b0, b1, b2⟩ := box3 hb
    obtain ⟨xf, cf, rfl⟩ := slice_of_own1 hof
    clear hb hov hof hkr
    by_cases hlt : ri < H
    · have HNN := Lib.hid (show n + K = (ri + 1) * K ∧ n + K ≤ 112 by
        have h1 := HN.out
        have h2 : (ri + 1) * K = ri * K + K := Nat.succ_mul ri K
        have h3 : (ri + 1) * K ≤ H * K := Nat.mul_le_mul_right K (by omega)
        have h4 := HHK.out
        omega)
      go_upto_region 6 with (fail)
      go_wp2_with fail
      go_loopw [6] (fun k' wx => ∃ k : Nat, ∃ u : Value, k ≤ K ∧ k' = .int .i64 k ∧ BlockAt wx pm #[.int .i64 H, .int .i64 K, u] 33 ∧ wx.ownsRow w1.heap.size 5 1 u (n + k) (pwL K (n + k)) ∧ wx.ownsRow w1.heap.size 3 1 (.slice xf q cf) q ((firstZ q).map (Value.int .i64)) ∧ Kept w1 wx) (fun k' _ => K - (intOf k').toNat)
      case atStart => exact ⟨0, v, by omega, rfl, HB.out, HOV.out, HOF.out, HKR.out⟩
      case round =>
        obtain ⟨k, u, hk, rfl, hb, hov, hof, hkr⟩ := hrel
        have HB := Lib.hid hb
        have HOV := Lib.hid hov
        have HOF := Lib.hid hof
        have HKX := Lib.hid hkr
        obtain ⟨s1, s2, s3⟩ := box3 (HS1.out.kept hkr)
        clear hb hov hof hkr
        by_cases hkl : k < K
        · have HPW := Lib.hid (pwL_add K (n + k))
          have HAT := Lib.hid (show pwAt K (n + k) = allF ri k by rw [HN.out]; exact pwAt_eq hkl)
          have HPP := Lib.hid (show Gf.pow (Gf.pow 2 ri) k = allF ri k by rw [Gf.pow_two]; rfl)
          rw [HAT.out] at HPW
          obtain ⟨m, hm⟩ : ∃ m, m = n + k := ⟨_, rfl⟩
          rw [← hm] at HOV HPW
          have HMM := Lib.hid hm
          have hm112 : m + 1 ≤ 1000000 := by have := HNN.out; omega
          have hR2 := fun wx => refpow_any 2 ri (by omega) (by omega) wx
          have hp2 : Gf.pow 2 ri < 256 := Gf.pow_lt256 (by omega) ri
          obtain ⟨z, hz⟩ : ∃ z, z = Gf.pow 2 ri := ⟨_, rfl⟩
          have hR3 := fun wx => refpow_any z k (by rw [hz]; exact hp2) (by omega) wx
          rw [← hz] at hR2 HPP
          rw [HPP.out] at hR3
          have hy := allF_bt ri k
          generalize allF ri k = y at *
          have HR2 := Lib.hid hR2
          have HR3 := Lib.hid hR3
          clear hm hR2 hR3 hz
          go_wp2_with fail
          clear s1 s2 s3
          refine Pj.wp_region_step (fun a0 L a w => ∃ V : Nat → Value, a = Pj.puts [(29, 0), (30, 1), (31, 2), (32, 3), (33, 4), (34, 5), (35, 6), (36, 7), (37, 8)] V a0 ∧ Pj.J w1 [Pj.Is (.pointer (some ⟨pm, 2, none⟩)), Pj.Is (u), Pj.Is (.int .i64 ri), Pj.Is (.int .u8 z), Pj.Is (.int .i64 k), Pj.Is (.int .u8 y), (fun _ _ => True), (fun _ _ => True), Pj.Is (.pointer (some ⟨pm, 2, none⟩)), (fun _ _ => True)] L V w ∧ Pj.Hlf w1.heap.size 5 u m (pwL K m) (.int .u8 (y : Int)) 6 7 L V w ∧ Pj.Fld pm 33 #[.int .i64 H, .int .i64 K, u] 2 7 9 L V w ∧ w.ownsRow w1.heap.size 3 1 (.slice xf q cf) q ((firstZ q).map (Value.int .i64)) ∧ (L 7 → L 1)) (by as_aux_lemma => kernel_rfl) (by as_aux_lemma => kernel_rfl) ?eh0 ?ehs ?ehe
          case eh0 =>
            intro L hL
            exact ⟨_, Pj.puts_self _ (fun j => ([29, 30, 31, 32, 33, 34, 35, 36, 37, 0] : List Nat).getD j 0) [0, 1, 2, 3, 4, 5, 6, 7, 8], Pj.J.none (n := 10) (Nat.le_refl _) hL (HKX.out.drew), Pj.Hlf.start (own_kept HOV.out (Kept.refl _).drew) (hL 7 (by decide)) (hL 6 (by decide)), Pj.Fld.start (HB.out.kept (Kept.refl _).drew) (hL 9 (by decide)), (own_kept HOF.out (Kept.refl _).drew), fun h => absurd h (hL 7 (by decide))⟩
          case ehs =>
            rintro L L' az w iz opz Kq ⟨V, rfl, hJ, hHA, hFF, hRC, hm7_1⟩ ho hopen hdep hL hKq
            have hP : Pj.AllFlat [Pj.Is (.pointer (some ⟨pm, 2, none⟩)), Pj.Is (u), Pj.Is (.int .i64 ri), Pj.Is (.int .u8 z), Pj.Is (.int .i64 k), Pj.Is (.int .u8 y), (fun _ _ => True), (fun _ _ => True), Pj.Is (.pointer (some ⟨pm, 2, none⟩)), (fun _ _ => True)] := ⟨Pj.Is.flat _, Pj.Is.flat _, Pj.Is.flat _, Pj.Is.flat _, Pj.Is.flat _, Pj.Is.flat _, (fun _ _ _ _ _ => trivial), (fun _ _ _ _ _ => trivial), Pj.Is.flat _, (fun _ _ _ _ _ => trivial), trivial⟩
            have HP := Lib.hid hP
            clear hP
            match iz, ho with
            | 0, ho =>
              simp only [List.getElem?_toArray, List.getElem?_cons_zero, Option.some.injEq] at ho
              have HJ := Lib.hid hJ
              clear hJ
              have HHA := Lib.hid hHA
              clear hHA
              have HFF := Lib.hid hFF
              clear hFF
              have HRC := Lib.hid hRC
              clear hRC
              subst ho
              refine Pj.Step.free rfl ?_
              simp only [Pj.puts, List.foldl_cons, List.foldl_nil, Act.put, List.setIfInBounds_toArray, List.set_cons_zero, List.set_cons_succ]
              go_simp
              exact hKq _ _ ⟨Pj.vset V 0 (.pointer (some ⟨pm, 2, none⟩)), by simp only [Pj.puts, List.foldl_cons, List.foldl_nil, Act.put, List.setIfInBounds_toArray, List.set_cons_zero, List.set_cons_succ, Pj.vset, Nat.reduceEqDiff, if_true, if_false], HJ.out.flat HP.out hL (HJ.out.kp.trans (Kept.refl _)) (Kept.size (Kept.refl _)) (rfl), HHA.out.same (by decide) (by decide) hL (Kept.refl _), HFF.out.same (by decide) hopen hL (Kept.refl _), own_kept HRC.out (Kept.refl _), fun h => (hL 1).2 (((hL 7).1 h).elim (fun e => absurd e (by decide)) (fun q => .inr (hm7_1 q)))⟩
            | 1, ho =>
              simp only [List.getElem?_toArray, List.getElem?_cons_zero, List.getElem?_cons_succ, Option.some.injEq] at ho
              have e0 : V 0 = .pointer (some ⟨pm, 2, none⟩) := hJ.h 0 (hdep 0 (by rw [← ho]; kernel_rfl))
              have hcu := (hFF.b0 (fun h => hopen (hm7_1 (hFF.ord h)))).cell 2
              have HJ := Lib.hid hJ
              clear hJ
              have HHA := Lib.hid hHA
              clear hHA
              have HFF := Lib.hid hFF
              clear hFF
              have HRC := Lib.hid hRC
              clear hRC
              subst ho
              refine Pj.Step.free rfl ?_
              simp only [Pj.puts, List.foldl_cons, List.foldl_nil, Act.put, List.setIfInBounds_toArray, List.set_cons_zero, List.set_cons_succ, e0]
              go_simp
              exact hKq _ _ ⟨Pj.vset V 1 (u), by simp only [Pj.puts, List.foldl_cons, List.foldl_nil, Act.put, List.setIfInBounds_toArray, List.set_cons_zero, List.set_cons_succ, Pj.vset, Nat.reduceEqDiff, if_true, if_false, e0], HJ.out.flat HP.out hL (HJ.out.kp.trans (Kept.refl _)) (Kept.size (Kept.refl _)) (rfl), HHA.out.same (by decide) (by decide) hL (Kept.refl _), HFF.out.same (by decide) hopen hL (Kept.refl _), own_kept HRC.out (Kept.refl _), fun h => (hL 1).2 (((hL 7).1 h).elim (fun e => absurd e (by decide)) (fun q => .inr (hm7_1 q)))⟩
            | 2, ho =>
              simp only [List.getElem?_toArray, List.getElem?_cons_zero, List.getElem?_cons_succ, Option.some.injEq] at ho
              have HJ := Lib.hid hJ
              clear hJ
              have HHA := Lib.hid hHA
              clear hHA
              have HFF := Lib.hid hFF
              clear hFF
              have HRC := Lib.hid hRC
              clear hRC
              subst ho
              refine Pj.Step.free rfl ?_
              simp only [Pj.puts, List.foldl_cons, List.foldl_nil, Act.put, List.setIfInBounds_toArray, List.set_cons_zero, List.set_cons_succ]
              go_simp
              exact hKq _ _ ⟨Pj.vset V 2 (.int .i64 ri), by simp only [Pj.puts, List.foldl_cons, List.foldl_nil, Act.put, List.setIfInBounds_toArray, List.set_cons_zero, List.set_cons_succ, Pj.vset, Nat.reduceEqDiff, if_true, if_false], HJ.out.flat HP.out hL (HJ.out.kp.trans (Kept.refl _)) (Kept.size (Kept.refl _)) (rfl), HHA.out.same (by decide) (by decide) hL (Kept.refl _), HFF.out.same (by decide) hopen hL (Kept.refl _), own_kept HRC.out (Kept.refl _), fun h => (hL 1).2 (((hL 7).1 h).elim (fun e => absurd e (by decide)) (fun q => .inr (hm7_1 q)))⟩
            | 3, ho =>
              simp only [List.getElem?_toArray, List.getElem?_cons_zero, List.getElem?_cons_succ, Option.some.injEq] at ho
              have e2 : V 2 = .int .i64 ri := hJ.h 2 (hdep 2 (by rw [← ho]; kernel_rfl))
              have HJ := Lib.hid hJ
              clear hJ
              have HHA := Lib.hid hHA
              clear hHA
              have HFF := Lib.hid hFF
              clear hFF
              have HRC := Lib.hid hRC
              clear hRC
              subst ho
              refine Pj.Step.free rfl ?_
              simp only [Pj.puts, List.foldl_cons, List.foldl_nil, Act.put, List.setIfInBounds_toArray, List.set_cons_zero, List.set_cons_succ, e2]
              go_simp
              refine (HR2.out _).mono ?_
              rintro e w' ⟨rfl, rfl⟩
              have hk9 := Kept.refl w
              exact hKq _ _ ⟨Pj.vset V 3 (.int .u8 z), by simp only [Pj.puts, List.foldl_cons, List.foldl_nil, Act.put, List.setIfInBounds_toArray, List.set_cons_zero, List.set_cons_succ, Pj.vset, Nat.reduceEqDiff, if_true, if_false, e2], HJ.out.flat HP.out hL (HJ.out.kp.trans (hk9)) (Kept.size (hk9)) (rfl), HHA.out.same (by decide) (by decide) hL (hk9), HFF.out.same (by decide) hopen hL (hk9), own_kept HRC.out (hk9), fun h => (hL 1).2 (((hL 7).1 h).elim (fun e => absurd e (by decide)) (fun q => .inr (hm7_1 q)))⟩
            | 4, ho =>
              simp only [List.getElem?_toArray, List.getElem?_cons_zero, List.getElem?_cons_succ, Option.some.injEq] at ho
              have HJ := Lib.hid hJ
              clear hJ
              have HHA := Lib.hid hHA
              clear hHA
              have HFF := Lib.hid hFF
              clear hFF
              have HRC := Lib.hid hRC
              clear hRC
              subst ho
              refine Pj.Step.free rfl ?_
              simp only [Pj.puts, List.foldl_cons, List.foldl_nil, Act.put, List.setIfInBounds_toArray, List.set_cons_zero, List.set_cons_succ]
              go_simp
              exact hKq _ _ ⟨Pj.vset V 4 (.int .i64 k), by simp only [Pj.puts, List.foldl_cons, List.foldl_nil, Act.put, List.setIfInBounds_toArray, List.set_cons_zero, List.set_cons_succ, Pj.vset, Nat.reduceEqDiff, if_true, if_false], HJ.out.flat HP.out hL (HJ.out.kp.trans (Kept.refl _)) (Kept.size (Kept.refl _)) (rfl), HHA.out.same (by decide) (by decide) hL (Kept.refl _), HFF.out.same (by decide) hopen hL (Kept.refl _), own_kept HRC.out (Kept.refl _), fun h => (hL 1).2 (((hL 7).1 h).elim (fun e => absurd e (by decide)) (fun q => .inr (hm7_1 q)))⟩
            | 5, ho =>
              simp only [List.getElem?_toArray, List.getElem?_cons_zero, List.getElem?_cons_succ, Option.some.injEq] at ho
              have e3 : V 3 = .int .u8 z := hJ.h 3 (hdep 3 (by rw [← ho]; kernel_rfl))
              have e4 : V 4 = .int .i64 k := hJ.h 4 (hdep 4 (by rw [← ho]; kernel_rfl))
              have HJ := Lib.hid hJ
              clear hJ
              have HHA := Lib.hid hHA
              clear hHA
              have HFF := Lib.hid hFF
              clear hFF
              have HRC := Lib.hid hRC
              clear hRC
              subst ho
              refine Pj.Step.free rfl ?_
              simp only [Pj.puts, List.foldl_cons, List.foldl_nil, Act.put, List.setIfInBounds_toArray, List.set_cons_zero, List.set_cons_succ, e3, e4]
              go_simp
              refine (HR3.out _).mono ?_
              rintro e w' ⟨rfl, rfl⟩
              have hk9 := Kept.refl w
              exact hKq _ _ ⟨Pj.vset V 5 (.int .u8 y), by simp only [Pj.puts, List.foldl_cons, List.foldl_nil, Act.put, List.setIfInBounds_toArray, List.set_cons_zero, List.set_cons_succ, Pj.vset, Nat.reduceEqDiff, if_true, if_false, e3, e4], HJ.out.flat HP.out hL (HJ.out.kp.trans (hk9)) (Kept.size (hk9)) (rfl), HHA.out.same (by decide) (by decide) hL (hk9), HFF.out.same (by decide) hopen hL (hk9), own_kept HRC.out (hk9), fun h => (hL 1).2 (((hL 7).1 h).elim (fun e => absurd e (by decide)) (fun q => .inr (hm7_1 q)))⟩
            | 6, ho =>
              simp only [List.getElem?_toArray, List.getElem?_cons_zero, List.getElem?_cons_succ, Option.some.injEq] at ho
              have e5 : V 5 = .int .u8 y := hJ.h 5 (hdep 5 (by rw [← ho]; kernel_rfl))
              have HJ := Lib.hid hJ
              clear hJ
              have HHA := Lib.hid hHA
              clear hHA
              have HFF := Lib.hid hFF
              clear hFF
              have HRC := Lib.hid hRC
              clear hRC
              subst ho
              refine Pj.Step.free rfl ?_
              simp only [Pj.puts, List.foldl_cons, List.foldl_nil, Act.put, List.setIfInBounds_toArray, List.set_cons_zero, List.set_cons_succ, e5]
              go_simp
              exact hKq _ _ ⟨Pj.vset V 6 (.slice (some ⟨w.heap.size, 0, none⟩) 1 1), by simp only [Pj.puts, List.foldl_cons, List.foldl_nil, Act.put, List.setIfInBounds_toArray, List.set_cons_zero, List.set_cons_succ, Pj.vset, Nat.reduceEqDiff, if_true, if_false, e5], HJ.out.flat HP.out hL (HJ.out.kp.trans ((Kept.refl _).alloc _)) (Kept.size ((Kept.refl _).alloc _)) (trivial), HHA.out.made (by decide) hL, HFF.out.same (by decide) hopen hL ((Kept.refl _).alloc _), own_kept HRC.out ((Kept.refl _).alloc _), fun h => (hL 1).2 (((hL 7).1 h).elim (fun e => absurd e (by decide)) (fun q => .inr (hm7_1 q)))⟩
            | 7, ho =>
              simp only [List.getElem?_toArray, List.getElem?_cons_zero, List.getElem?_cons_succ, Option.some.injEq] at ho
              have e1 : V 1 = u := hJ.h 1 (hdep 1 (by rw [← ho]; kernel_rfl))
              have l6 := hdep 6 (by rw [← ho]; kernel_rfl)
              obtain ⟨g, e6, hgb⟩ := hHA.c l6 hopen
              have hown := hHA.a0 hopen
              have l1 := hdep 1 (by rw [← ho]; kernel_rfl)
              have HJ := Lib.hid hJ
              clear hJ
              have HHA := Lib.hid hHA
              clear hHA
              have HFF := Lib.hid hFF
              clear hFF
              have HRC := Lib.hid hRC
              clear hRC
              subst ho
              refine Pj.Step.free rfl ?_
              simp only [Pj.puts, List.foldl_cons, List.foldl_nil, Act.put, List.setIfInBounds_toArray, List.set_cons_zero, List.set_cons_succ, e1, e6]
              refine Pj.oper_app _ _ 31 rfl w1.heap.size 5 iA (.int .u8 0) 1 Try.underlying31 HIA.out.1 HIA.out.2.1 HIA.out.2.2.1 HIA.out.2.2.2 rfl u m (pwL K m) rfl hown g (.int .u8 (y : Int)) rfl hgb rfl (by omega) (by decide) (HJ.out.kp.size) ?_
              intro v' w' hown' hgrow
              simp only [Act.put, List.setIfInBounds_toArray, List.set_cons_zero, List.set_cons_succ]
              exact hKq _ _ ⟨Pj.vset V 7 (v'), by simp only [Pj.puts, List.foldl_cons, List.foldl_nil, Act.put, List.setIfInBounds_toArray, List.set_cons_zero, List.set_cons_succ, Pj.vset, Nat.reduceEqDiff, if_true, if_false, e1, e6], HJ.out.flat HP.out hL (kept_gr1 HJ.out.kp hgrow (fun q e => (hown.lt q e).1) (Nat.le_refl _)) (hgrow.size) (trivial), Pj.Hlf.app hown' hL, HFF.out.other (by decide) hopen hL hgrow (Pj.row_types hown (by decide)), Pj.own_row HRC.out hgrow (Pj.row_types hown (by decide)), fun _ => (hL 1).2 (.inr l1)⟩
            | 8, ho =>
              simp only [List.getElem?_toArray, List.getElem?_cons_zero, List.getElem?_cons_succ, Option.some.injEq] at ho
              have HJ := Lib.hid hJ
              clear hJ
              have HHA := Lib.hid hHA
              clear hHA
              have HFF := Lib.hid hFF
              clear hFF
              have HRC := Lib.hid hRC
              clear hRC
              subst ho
              refine Pj.Step.free rfl ?_
              simp only [Pj.puts, List.foldl_cons, List.foldl_nil, Act.put, List.setIfInBounds_toArray, List.set_cons_zero, List.set_cons_succ]
              go_simp
              exact hKq _ _ ⟨Pj.vset V 8 (.pointer (some ⟨pm, 2, none⟩)), by simp only [Pj.puts, List.foldl_cons, List.foldl_nil, Act.put, List.setIfInBounds_toArray, List.set_cons_zero, List.set_cons_succ, Pj.vset, Nat.reduceEqDiff, if_true, if_false], HJ.out.flat HP.out hL (HJ.out.kp.trans (Kept.refl _)) (Kept.size (Kept.refl _)) (rfl), HHA.out.same (by decide) (by decide) hL (Kept.refl _), HFF.out.same (by decide) hopen hL (Kept.refl _), own_kept HRC.out (Kept.refl _), fun h => (hL 1).2 (((hL 7).1 h).elim (fun e => absurd e (by decide)) (fun q => .inr (hm7_1 q)))⟩
            | 9, ho =>
              simp only [List.getElem?_toArray, List.getElem?_cons_zero, List.getElem?_cons_succ, Option.some.injEq] at ho
              have e8 : V 8 = .pointer (some ⟨pm, 2, none⟩) := hJ.h 8 (hdep 8 (by rw [← ho]; kernel_rfl))
              have l7 := hdep 7 (by rw [← ho]; kernel_rfl)
              obtain ⟨sx, sc, e7⟩ := slice_of_own1 (hHA.a1 l7)
              have hbF := hFF.b0 hopen
              have hcF : w.cell? ⟨pm, 2, none⟩ = some (u) := hbF.cell 2
              have hfF := hbF.free 2
              have HJ := Lib.hid hJ
              clear hJ
              have HHA := Lib.hid hHA
              clear hHA
              have HFF := Lib.hid hFF
              clear hFF
              have HRC := Lib.hid hRC
              clear hRC
              subst ho
              refine Pj.Step.free rfl ?_
              simp only [Pj.puts, List.foldl_cons, List.foldl_nil, Act.put, List.setIfInBounds_toArray, List.set_cons_zero, List.set_cons_succ, e8, e7]
              go_simp
              exact hKq _ _ ⟨Pj.vset V 9 (undef), by simp only [Pj.puts, List.foldl_cons, List.foldl_nil, Act.put, List.setIfInBounds_toArray, List.set_cons_zero, List.set_cons_succ, Pj.vset, Nat.reduceEqDiff, if_false, e8, e7], HJ.out.flat HP.out hL (HJ.out.kp.setCell (hle) _) (by simp) (trivial), HHA.out.other (by decide) (by decide) hL (grown_set _ _ _ _) (Pj.block_types hbF (by decide)), HFF.out.stored hopen l7 hL e7, Pj.own_row HRC.out (grown_set _ _ _ _) (Pj.block_types hbF (by decide)), fun h => (hL 1).2 (((hL 7).1 h).elim (fun e => absurd e (by decide)) (fun q => .inr (hm7_1 q)))⟩
            | n + 10, ho => simp at ho
          case ehe =>
            rintro L az w ⟨V, rfl, hJ, hHA, hFF, hRC, hm7_1⟩ hall
            have hBF := hFF.b1 (hall 9 (by decide))
            have hOA := hHA.a1 (hall 7 (by decide))
            have HOC := Lib.hid hRC
            have HKj := Lib.hid hJ.kp
            clear hJ hall hHA hFF hRC hm7_1
            simp only [Pj.puts, List.foldl_cons, List.foldl_nil, Act.put, List.setIfInBounds_toArray, List.set_cons_zero, List.set_cons_succ]
            generalize V 7 = vA at *
            have HBF := Lib.hid hBF
            clear hBF
            have HOA := Lib.hid hOA
            clear hOA
            go_wp2
            go_roundw
            case rel => exact ⟨k + 1, vA, by omega, by go_num, HBF.out, by rw [show n + (k + 1) = m + 1 by have := HMM.out; omega, HPW.out]; exact HOA.out, HOC.out, HKj.out⟩
            case measure => simp [intOf]; omega
        · obtain rfl : K = k := by omega
          have hnq := HNN.out.1
          have hxn : n + K ≤ 112 := HNN.out.2
          obtain ⟨N, hN⟩ : ∃ N, N = n + K := ⟨_, rfl⟩
          rw [← hN] at HOV hnq hxn
          have HNQ := Lib.hid hnq
          clear hnq hN
          by_cases hrk : ri < K
          · have hqr : q = ri := by have := HQ.out; omega
            subst hqr
            have hd1 : decide ((q : Int) < (K : Int)) = true := decide_eq_true (by omega)
            have HFZ := Lib.hid (firstZ_add q)
            go_wp2_with (at_builtin; refine wpList_append_own_at _ rfl _ _ 58 rfl w1.heap.size 3 iB (.int .i64 0) 1 8 Try.underlying58 HIB.out.1 HIB.out.2.1 HIB.out.2.2.1 HIB.out.2.2.2 rfl (by decide) _ _ _ rfl (HOF.out.alloc _) ⟨wr.heap.size, 0, none⟩ 1 1 [.int .i64 (q : Int)] rfl rfl ?c1 ?c2 ?c3 ?c4 ?c5 ?_)
            case c1 =>
              intro j u hj
              match j, hj with
              | 0, hj => simp at hj; subst hj; simp [Addr.add]
            case c2 => intro u hu; simp at hu; subst hu; rfl
            case c3 => unfold maxLen; omega
            case c4 => omega
            case c5 => have := HKX.out.size; simp; omega
            intro v' w9 hown9 hgrow _ hat
            have kx := (Kept.refl wr).alloc (.cells #[.int .i64 (q : Int)] 3)
            have HO9 := Lib.hid hown9
            have HB9 := Lib.hid (block_grown (HB.out.kept kx) hgrow (Pj.row_types (own_kept HOF.out kx) (by decide) _ _ (HB.out.kept kx)))
            have HV9 := Lib.hid (Pj.own_row (own_kept HOV.out kx) hgrow (Pj.row_types (own_kept HOF.out kx) (by decide)))
            have HK9 := Lib.hid (kept_gr1 (HKX.out.trans kx) hgrow (fun g e => ((own_kept HOF.out kx).lt g e).1) (Nat.le_refl _))
            clear hown9 hgrow hat kx s1 s2 s3
            go_wp2
            go_roundw
            case rel => exact ⟨q + 1, N, q + 1, u, HNQ, Lib.hid (by omega), by omega, by omega, by omega, by go_num, HB9.out, HV9.out, by rw [HFZ.out]; exact HO9.out, HK9.out⟩
            case measure => simp [intOf]; omega
          · have hd1 : decide ((ri : Int) < (K : Int)) = false := decide_eq_false (by omega)
            have hqr : q = min (ri + 1) K := by have := HQ.out; omega
            have HQ9 := Lib.hid hqr
            clear hqr
            go_wp2_with fail
            go_roundw
            case rel => exact ⟨ri + 1, N, q, u, HNQ, HQ9, by omega, by omega, by omega, by go_num, HB.out, HOV.out, HOF.out, HKX.out⟩
            case measure => simp [intOf]; omega
    · obtain rfl : H = ri := by omega
      have hqK : q = K := by have := HQ.out; omega
      subst hqK
      have hH0 : 0 < H * q := Nat.mul_pos (by omega) (by omega)
      rw [HN.out] at HOV
      obtain ⟨a', cap', ev, hcap, hby, hg⟩ := by_of_own HOV.out
      subst ev
      obtain ⟨g, cs, rfl, -, hbg⟩ := hg hH0
      have hMR : MatR wr g 0 H q allF := fun i j hi hj => by
        obtain ⟨b2, o2, ha2, hc2⟩ := hby.cells
        cases ha2 hH0
        have hij : i * q + j < H * q := Nat.lt_of_lt_of_le (show i * q + j < (i + 1) * q by rw [Nat.succ_mul]; omega) (Nat.mul_le_mul_right q hi)
        have := (hc2 (i * q + j) hij).2
        rw [pwAt_eq hj] at this
        rw [Nat.add_assoc]
        exact this
      obtain ⟨xf', cf', ef, hzf⟩ := ints_own4 HOF.out (by simp [firstZ]) (fun x hx => by
        simp only [firstZ, List.mem_map, List.mem_range] at hx
        obtain ⟨i, hi, rfl⟩ := hx
        omega)
      cases ef
      have HMR := Lib.hid hMR
      have HZF := Lib.hid hzf
      have hok : pickOk H (firstZ q) := fun i hi => by
        simp [firstZ] at hi ⊢
        simp [hi]
        omega
      have HOK := Lib.hid hok
      have hH16 := Lib.hid (show 1 ≤ H ∧ H ≤ 16 by omega)
      clear hMR hzf hok hby hbg hg
      go_wp2_with fail
      refine (rpick H q g 0 cap' q cf xf (firstZ q) allF hH16.out ⟨by omega, by omega⟩ ⟨by omega, by omega⟩ hcap _ HMR.out HZF.out HOK.out).mono ?_
      rintro e w7 ⟨a7, k7, rfl, hby7, ⟨g7, cs7, rfl, hbg7⟩, hk7⟩
      obtain ⟨b8, o8, e8, hm8⟩ := hby7.rect (Nat.mul_pos (by omega) (by omega))
      have HM8 := Lib.hid (show MatR w7 b8 o8 q q (pickF allF (firstZ q)) from fun i j hi hj => by
        have h := hm8 i j hi hj
        unfold rect flat at h
        rw [(divmod hj).1, (divmod hj).2] at h
        exact h)
      cases e8
      have HK7 := Lib.hid hk7
      clear hby7 hbg7 hk7 hm8 b0 b1 b2
      go_wp2_with fail
      refine (rinvert q g7 0 k7 (pickF allF (firstZ q)) ⟨by omega, by omega⟩ (fun i j => allF_bt _ _) _ HM8.out).mono ?_
      rintro e w9 ⟨g9, k9, rfl, hk9c, hg9, hm9, hk9⟩
      have HM9 := Lib.hid hm9
      have HK9 := Lib.hid (HK7.out.trans hk9)
      clear hm9 hk9
      generalize (((rankF q q (pickF allF (firstZ q)) : Nat) : Int) == (q : Int)) = BR at *
      go_upto_region 13 with (fail)
      have k10 := (Kept.refl w9).alloc (.cells #[.int .i64 q, .int .i64 q, .slice (some ⟨g9, 0, none⟩) (q * q) k9] 33)
      have HX10 := Lib.hid (BlockAt.new w9 #[.int .i64 q, .int .i64 q, .slice (some ⟨g9, 0, none⟩) (q * q) k9] 33)
      have HM10 := Lib.hid (HM9.out.kept k10)
      have HK10 := Lib.hid (HK9.out.trans k10)
      generalize w9.alloc (.cells #[.int .i64 q, .int .i64 q, .slice (some ⟨g9, 0, none⟩) (q * q) k9] 33) = w10 at *
      generalize w9.heap.size = p9 at *
      obtain ⟨b0, b1, b2⟩ := box3 (HB.out.kept HK10.out)
      obtain ⟨d0, d1, d2⟩ := box3 HX10.out
      clear k10
      go_wp2_with fail
      refine (rtimes H q q g 0 cap' g9 0 k9 allF (invF q (pickF allF (firstZ q))) hH16.out ⟨by omega, by omega⟩ ⟨by omega, by omega⟩ allF_bt (invF_bt (fun i j => allF_bt _ _) q) _ (HMR.out.kept HK10.out) HM10.out.cell).mono ?_
      rintro e w11 ⟨g11, rfl, hg11, hm11, hk11⟩
      have HM11 := Lib.hid hm11
      have HK11 := Lib.hid ((HKR.out.trans HK10.out).trans hk11)
      have HZ11 := Lib.hid (HZ1.out.kept HK11.out)
      have hw10 := HK10.out.size
      have hwr := HKR.out.size
      have hw1 := HSZ.out
      clear hm11 hk11 b0 b1 b2 d0 d1 d2
      go_wp2_with (refine wpList_store_block rfl 33 (.tmp 2) (.tmp 55) rfl _ #[.int .i64 H, .int .i64 q, .slice (some ⟨g11, 0, none⟩) (H * q) (H * q)] #[.int .i64 0, .int .i64 0, .slice none 0 0] 33 rfl rfl HZ11.out Try.infoMat rfl (one3 _ _ _ _ _) ?_)
      have g2 := grown_row w11 (wo.heap.size + 1) #[.int .i64 H, .int .i64 q, .slice (some ⟨g11, 0, none⟩) (H * q) (H * q)]
      refine bodyPost_ret (v := .agg #[.int .i64 H, .int .i64 q, .slice (some ⟨g11, 0, none⟩) (H * q) (H * q)]) ?_ rfl ⟨_, rfl, by omega, HM11.out.grown g2 (fun e => by have := Option.some.inj e; omega), Kept.grown (HK1.out.trans HK11.out) g2 (fun q e => by cases e; omega)⟩
      exact results_cell_row rfl _ _ (wo.heap.size + 1) 33 #[.int .i64 H, .int .i64 q, .slice (some ⟨g11, 0, none⟩) (H * q) (H * q)] (0, 0) _ rfl (HZ11.out.setRow _) Try.underlying33 rfl Try.infoMat
end Go.Proofs.Ytoonpnpooljmlaa
