/- siloref1.Pick, by what it answers (rows' numbers that there are; sides within bounds). -/
import Derived.Test.YtlpjpeonejbpjaaRefInv
import Derived.Test.YtlpjpeonejbpjaaMatPk
import Derived.Test.YtlpjpeonejbpjaaCopyStr
import Derived.Maps.AppendAt
namespace Go.Proofs.Ytlpjpeonejbpjaa
open Go.RowKit

theorem own_other {w w' : World} {base n b : Nat} {e t : TypeId} {v : Value} {xs : List Value} {C : Array Value} (h : w.ownsRow base e 1 v n xs) (g : w.grownBy w' (some b)) (hb : BlockAt w b C t) (hne : t ≠ e) : w'.ownsRow base e 1 v n xs := by
  refine ⟨h.1, ?_⟩
  rcases h.2 with h | ⟨g', cap, cur, e1, e2, e3, h4⟩
  · exact .inl h
  · refine .inr ⟨g', cap, cur, e1, e2, ?_, h4⟩
    have hbl : BlockAt w g' cur e := e3
    exact hbl.grown g (fun x => ne_of_types hb hbl hne (Option.some.inj x).symm)
theorem own_kept {w w' : World} {base n : Nat} {e : TypeId} {v : Value} {xs : List Value} (k : Kept w w') (h : w.ownsRow base e 1 v n xs) : w'.ownsRow base e 1 v n xs := by
  refine ⟨h.1, ?_⟩
  rcases h.2 with h | ⟨g', cap, cur, e1, e2, e3, h4⟩
  · exact .inl h
  · exact .inr ⟨g', cap, cur, e1, e2, (show BlockAt w g' cur e from e3).kept k, h4⟩
theorem box_other {w w' : World} {base n b : Nat} {e t : TypeId} {v : Value} {xs : List Value} {C : Array Value} (h : w.ownsRow base e 1 v n xs) (g : w.grownBy w' v.ownBlock) (hb : BlockAt w b C t) (hne : t ≠ e) : BlockAt w' b C t := by
  refine hb.grown g (fun x => ?_)
  rcases h.2 with ⟨e1, _⟩ | ⟨g', cap, cur, e1, _, e3, _⟩
  · rw [e1] at x
    cases x
  · rw [e1] at x
    have hbl : BlockAt w g' cur e := e3
    exact ne_of_types hb hbl hne (Option.some.inj x)
theorem addr_plain (b o j : Nat) : (⟨b, o, none⟩ : Addr).add j = ⟨b, o + j, none⟩ := by
  unfold Addr.add
  split
  · rename_i h
    rw [h]
    rfl
  · rfl
theorem oper_append {P : Program} {o : Oper} {a : Act} {w w' : World} {K : Act → World → Prop} {Q : Exit → Act → World → Prop} (s x : Operand) (t : TypeId) (ho : o.op = .call { callee := .builtin .append, args := #[s, x], argTypes := #[t, t] }) {v sl v' : Value}
    (hs : a.eval s = v) (hx : a.eval x = sl) (hr : (Builtin.append_ #[t, t] o.type #[v, sl]).run P w = .ok v' w') (hK : K (a.put o.dst v') w') : Oper.wp P o a w K Q := by
  unfold Oper.wp execOp
  simp only [ho, resolve, invoke, builtin, Sem.run_bind, Sem.run_pure, Result.andThen_ok, List.map_toArray, List.map_cons, List.map_nil, hs, hx, hr]
  exact hK
/-- the numbers of the rows that were picked, in a row -/
def pickL (F : Nat → Nat → Nat) (zs : List Int) (c k : Nat) : List Value := (List.range (k * c)).map fun i => Value.int .u8 ((flat c (pickF F zs) i : Nat) : Int)
def rowL (F : Nat → Nat → Nat) (c z : Nat) : List Value := (List.range c).map fun j => Value.int .u8 ((F z j : Nat) : Int)
theorem pickL_succ (F : Nat → Nat → Nat) (zs : List Int) (c k : Nat) : pickL F zs c k ++ rowL F c (zs.getD k 0).toNat = pickL F zs c (k + 1) := by
  unfold pickL rowL
  rw [Nat.succ_mul, List.range_add, List.map_append, List.map_map]
  congr 1
  refine List.map_congr_left fun j hj => ?_
  have hj := List.mem_range.1 hj
  show _ = Value.int .u8 ((flat c (pickF F zs) (k * c + j) : Nat) : Int)
  unfold flat
  rw [(divmod hj).1, (divmod hj).2]
  rfl
theorem rowL_at {F : Nat → Nat → Nat} {c z j : Nat} {u : Value} (h : (rowL F c z)[j]? = some u) : j < c ∧ u = .int .u8 ((F z j : Nat) : Int) := by
  unfold rowL at h
  rw [List.getElem?_map] at h
  by_cases hj : j < c
  · rw [List.getElem?_range hj] at h
    cases h
    exact ⟨hj, rfl⟩
  · rw [List.getElem?_eq_none (by simp; omega)] at h
    cases h
/-- what the loop knows -/
structure PkSt (W : World) (r c b o cap b5 ll : Nat) (al : Option Addr) (F : Nat → Nat → Nat) (zs : List Int) (k : Nat) (v : Value) (w : World) : Prop where
  pm : BlockAt w W.heap.size #[.int .i64 r, .int .i64 c, .slice (some ⟨b, o, none⟩) (r * c) cap] 50
  z : BlockAt w (W.heap.size + 1) #[.int .i64 0, .int .i64 0, .slice none 0 0] 50
  px : BlockAt w b5 #[.int .i64 ll, .int .i64 c, v] 50
  own : w.ownsRow W.heap.size 5 1 v (k * c) (pickL F zs c k)
  kp : Kept W w
/-- the worlds: before the append, behind it, behind the store -/
structure PkW (w0 w1 w2 : World) (L : Nat → Prop) (w : World) : Prop where
  d : L 20 → L 1
  e : L 22 → L 20
  s0 : ¬ L 20 → w = w0
  s1 : L 20 → ¬ L 22 → w = w1
  s2 : L 22 → w = w2
theorem PkW.more {w0 w1 w2 w : World} {L L' : Nat → Prop} {i : Nat} (h : PkW w0 w1 w2 L w) (hi : 20 ≠ i ∧ 22 ≠ i) (hL : ∀ j, L' j ↔ (j = i ∨ L j)) : PkW w0 w1 w2 L' w := by
  have h7 : L' 20 ↔ L 20 := by rw [hL]; exact ⟨fun h => h.resolve_left hi.1, .inr⟩
  have h9 : L' 22 ↔ L 22 := by rw [hL]; exact ⟨fun h => h.resolve_left hi.2, .inr⟩
  exact ⟨fun x => (hL 1).2 (.inr (h.d (h7.1 x))), fun x => h7.2 (h.e (h9.1 x)), fun x => h.s0 (fun y => x (h7.2 y)), fun x y => h.s1 (h7.1 x) (fun z => y (h9.2 z)), fun x => h.s2 (h9.1 x)⟩
theorem PkW.either {w0 w1 w2 w : World} {L : Nat → Prop} (h : PkW w0 w1 w2 L w) : w = w0 ∨ w = w1 ∨ w = w2 := by
  by_cases h7 : L 20
  · by_cases h9 : L 22
    · exact .inr (.inr (h.s2 h9))
    · exact .inr (.inl (h.s1 h7 h9))
  · exact .inl (h.s0 h7)
theorem PkW.first {w0 w1 w2 w : World} {L L' : Nat → Prop} (h : PkW w0 w1 w2 L w) (ho : ¬ L 20) (h1 : L 1) (hL : ∀ j, L' j ↔ (j = 20 ∨ L j)) : PkW w0 w1 w2 L' w1 := by
  have h7 : L' 20 := (hL 20).2 (.inl rfl)
  have h9 : ¬ L' 22 := fun x => ho (h.e (((hL 22).1 x).resolve_left (by decide)))
  exact ⟨fun _ => (hL 1).2 (.inr h1), fun x => absurd x h9, fun x => absurd h7 x, fun _ _ => rfl, fun x => absurd x h9⟩
theorem PkW.second {w0 w1 w2 w : World} {L L' : Nat → Prop} (h : PkW w0 w1 w2 L w) (h20 : L 20) (hL : ∀ j, L' j ↔ (j = 22 ∨ L j)) : PkW w0 w1 w2 L' w2 := by
  have h7' : L' 20 := (hL 20).2 (.inr h20)
  have h9 : L' 22 := (hL 22).2 (.inl rfl)
  exact ⟨fun _ => (hL 1).2 (.inr (h.d h20)), fun _ => h7', fun x => absurd h7' x, fun _ x => absurd h9 x, fun _ => rfl⟩
set_option maxRecDepth 100000 in
set_option maxHeartbeats 2000000 in
theorem rpick (r c b o cap ll lcap : Nat) (al : Option Addr) (zs : List Int) (F : Nat → Nat → Nat) (hr : 1 ≤ r ∧ r ≤ 16) (hc : 1 ≤ c ∧ c ≤ 16) (hl : 1 ≤ ll ∧ ll ≤ 16) (hcap : r * c ≤ cap) (W : World) (hm : MatR W b o r c F) (hz : IntsIn W .i64 al ll zs) (hok : pickOk r zs) :
    Calls Try.prog 40 #[.agg #[.int .i64 r, .int .i64 c, .slice (some ⟨b, o, none⟩) (r * c) cap], .slice al ll lcap] W
      fun e w' => ∃ a k, e = .returned (.agg #[.int .i64 ll, .int .i64 c, .slice a (ll * c) k]) ∧ ByIn w' a (ll * c) (flat c (pickF F zs)) ∧ (∃ g cs, a = some ⟨g, 0, none⟩ ∧ BlockAt w' g cs 5) ∧ Kept W w' := by
  obtain ⟨ab, ao, hal, hcl⟩ := hz.cells
  obtain rfl := hal (by omega)
  have hlen := hz.len_eq
  have HZ := Lib.hid hcl
  have HOK := Lib.hid hok
  have HM := Lib.hid hm
  have hbW := cell_lt (hm 0 0 (by omega) (by omega))
  have hrc := Nat.le_trans (Nat.mul_le_mul hr.2 hc.2) (show 16 * 16 ≤ 256 by decide)
  have hlc := Nat.le_trans (Nat.mul_le_mul hl.2 hc.2) (show 16 * 16 ≤ 256 by decide)
  obtain ⟨i0, hi, hz0, hz1, hz2⟩ := info_parts Try.infoU8
  have HI := Lib.hid (And.intro hi (And.intro hz0 (And.intro hz1 hz2)))
  clear hi hz0 hz1 hz2 hcl hok hm hz hal
  go_enter Try.func40, Try.ntmps40
  have c0 := box3 (BlockAt.new W #[.int .i64 r, .int .i64 c, .slice (some ⟨b, o, none⟩) (r * c) cap] 50)
  go_wp2_with fail
  have k3 := (((Kept.refl W).alloc (.cells #[.int .i64 r, .int .i64 c, .slice (some ⟨b, o, none⟩) (r * c) cap] 50)).alloc (.cells #[.int .i64 0, .int .i64 0, .slice none 0 0] 50)).alloc (.cells #[.int .i64 ll, .int .i64 c, .slice none 0 0] 50)
  have hS : PkSt W r c b o cap (W.heap.size + 1 + 1) ll (some ⟨ab, ao, none⟩) F zs 0 (.slice none 0 0) (((W.alloc (.cells #[.int .i64 r, .int .i64 c, .slice (some ⟨b, o, none⟩) (r * c) cap] 50)).alloc (.cells #[.int .i64 0, .int .i64 0, .slice none 0 0] 50)).alloc (.cells #[.int .i64 ll, .int .i64 c, .slice none 0 0] 50)) :=
    ⟨((BlockAt.new W _ _).kept ((Kept.refl _).alloc _)).kept ((Kept.refl _).alloc _), (BlockAt.new1 W _ _ _).kept ((Kept.refl _).alloc _), BlockAt.new2 W _ _ _ _, by rw [Nat.zero_mul, show pickL F zs c 0 = [] by simp [pickL]]; exact World.ownsRow_nil _ _ _ _, k3⟩
  have HS := Lib.hid hS
  clear hS k3 c0
  generalize ((W.alloc _).alloc _).alloc _ = w0 at *
  go_loopw [6] (fun i wr => ∃ (k : Nat) (v : Value), k ≤ ll ∧ i = .int .i64 k ∧ PkSt W r c b o cap (W.heap.size + 1 + 1) ll (some ⟨ab, ao, none⟩) F zs k v wr) (fun i _ => ll - (intOf i).toNat)
  case atStart => exact ⟨0, _, by omega, rfl, HS.out⟩
  case round =>
    obtain ⟨k, v, hk, rfl, hS⟩ := hrel
    by_cases hkl : k < ll
    · have hS0 := hS
      have hok := HOK.out k (by omega)
      obtain ⟨zn, hzn⟩ : ∃ zn : Nat, zs.getD k 0 = (zn : Int) := ⟨(zs.getD k 0).toNat, by omega⟩
      have hzr : zn < r := by omega
      have hrow : (List.range c).length = c := List.length_range
      have hnews := pickL_succ F zs c k
      rw [hzn, Int.toNat_natCast] at hnews
      have hge := Nat.mul_le_mul_right c (Nat.succ_le_of_lt hzr)
      rw [Nat.succ_mul] at hge
      have hkc := Nat.mul_le_mul_right c (Nat.succ_le_of_lt hkl)
      rw [Nat.succ_mul] at hkc
      have hW0 := hS.kp.trans (Kept.refl wr).drew
      have hMR := HM.out.kept hW0
      have hown0 := own_kept (Kept.refl wr).drew hS.own
      obtain ⟨va, wa, hrun, hown1, hgr, _, _⟩ := run_append_own_at (P := Try.prog) wr.drew W.heap.size 44 44 5 i0 (.int .u8 0) 1 1 Try.underlying44 HI.out.1 HI.out.2.1 HI.out.2.2.1 HI.out.2.2.2 rfl (by decide) v (k * c) (pickL F zs c k) hown0 ⟨b, o + zn * c, none⟩ c (cap - zn * c) (rowL F c zn) (by simp [rowL]) (fun j u hj => by
          obtain ⟨hjc, rfl⟩ := rowL_at hj
          have h := hMR zn j hzr hjc
          rw [addr_plain]
          exact h) (fun u hu => by
          unfold rowL at hu
          rw [List.mem_map] at hu
          obtain ⟨_, _, rfl⟩ := hu
          rfl) (by unfold maxLen; omega) (by omega) hW0.size
      obtain ⟨gv, cv, rfl⟩ : ∃ g q, va = .slice (some ⟨g, 0, none⟩) (k * c + c) q := by
        rcases hown1.2 with ⟨_, h⟩ | ⟨g, q, _, h, _⟩
        · omega
        · exact ⟨g, q, h⟩
      have hzc := mul_cast zn c
      have hzd : ((zn : Int) + 1) * (c : Int) = ((zn * c + c : Nat) : Int) := by rw [Int.add_mul, Int.one_mul, hzc]; simp
      have hK1 := kept_grown hW0 hown0 hgr
      have b0 := hS.pm.kept (Kept.refl wr).drew
      have bz := hS.z.kept (Kept.refl wr).drew
      have b5 := hS.px.kept (Kept.refl wr).drew
      have b01 := box_other hown0 hgr b0 (by decide)
      have bz1 := box_other hown0 hgr bz (by decide)
      have b51 := box_other hown0 hgr b5 (by decide)
      have g2 := grown_set wa (W.heap.size + 1 + 1) 2 (.slice (some ⟨gv, 0, none⟩) (k * c + c) cv)
      have b52 : BlockAt (wa.setCell ⟨W.heap.size + 1 + 1, 2, none⟩ (.slice (some ⟨gv, 0, none⟩) (k * c + c) cv)) (W.heap.size + 1 + 1) #[.int .i64 ll, .int .i64 c, .slice (some ⟨gv, 0, none⟩) (k * c + c) cv] 50 := b51.set (i := 2) _
      have hK2 := Kept.grown hK1 g2 (fun q e => by cases e; omega)
      have hown2 := own_other hown1 g2 b51 (by decide)
      rw [hnews] at hown2
      have HEND := Lib.hid (PkSt.mk (W := W) (r := r) (c := c) (b := b) (o := o) (cap := cap) (b5 := W.heap.size + 1 + 1) (ll := ll) (al := some ⟨ab, ao, none⟩) (F := F) (zs := zs) (k := k + 1) (v := .slice (some ⟨gv, 0, none⟩) (k * c + c) cv) (w := wa.setCell ⟨W.heap.size + 1 + 1, 2, none⟩ (.slice (some ⟨gv, 0, none⟩) (k * c + c) cv)) (b01.grown g2 (by simp; omega)) (bz1.grown g2 (by simp)) b52 (by rw [Nat.succ_mul]; exact hown2) hK2)
      have hbox : ∀ w', (w' = wr.drew ∨ w' = wa ∨ w' = wa.setCell ⟨W.heap.size + 1 + 1, 2, none⟩ (.slice (some ⟨gv, 0, none⟩) (k * c + c) cv)) → w'.cell? ⟨W.heap.size, 0, none⟩ = some (.int .i64 r) ∧ w'.cell? ⟨W.heap.size, 1, none⟩ = some (.int .i64 c) ∧ w'.cell? ⟨W.heap.size, 2, none⟩ = some (.slice (some ⟨b, o, none⟩) (r * c) cap) ∧ w'.cell? ⟨ab, ao + k, none⟩ = some (.int .i64 (zn : Int)) := fun w' hw => by
        obtain ⟨h1, h2⟩ := HZ.out k hkl
        rw [hzn] at h2
        rcases hw with rfl | rfl | rfl
        · obtain ⟨p0, p1, p2⟩ := box3 b0
          exact ⟨p0, p1, p2, hW0.cell h1 h2⟩
        · obtain ⟨p0, p1, p2⟩ := box3 b01
          exact ⟨p0, p1, p2, hK1.cell h1 h2⟩
        · obtain ⟨p0, p1, p2⟩ := box3 (b01.grown g2 (by simp; omega))
          exact ⟨p0, p1, p2, hK2.cell h1 h2⟩
      have HV5 := Lib.hid (box3 b5).2.2
      have HV51 := Lib.hid (box3 b51).2.2
      have HF51 := Lib.hid (b51.free 2)
      obtain ⟨a0, a1, a2⟩ := box3 hS.pm
      clear hS hS0 hok hrow hnews hW0 hMR hown0 hown1 hgr hK1 b0 bz b5 b01 bz1 b51 g2 b52 hK2 hown2 hkc
      generalize hzcn : zn * c = zc at *
      generalize hrcn : r * c = rc at *
      generalize hzdn : zc + c = zd at *
      generalize hkcn : k * c + c = kc at *
      have HQ4 := Lib.hid hkcn
      clear hkcn
      have HBX := Lib.hid hbox
      have HRUN := Lib.hid hrun
      have HQ1 := Lib.hid hzcn
      have HQ2 := Lib.hid hrcn
      have HQ3 := Lib.hid hzdn
      have hlt1 : zc ≤ zd := by omega
      have hlt2 : zd ≤ cap := by omega
      have hsub : zd - zc = c := by omega
      have hz16 : zd ≤ 256 := by omega
      have wzc := wrap_i64_nat zc (by omega)
      have wzd := wrap_i64_nat zd (by omega)
      have wz1 : IntKind.i64.wrap ((zn : Int) + 1) = (zn : Int) + 1 := by
        rw [show ((zn : Int) + 1) = ((zn + 1 : Nat) : Int) by omega]
        exact wrap_i64_nat (zn + 1) (by omega)
      have hcne : ¬ cap = zc := by omega
      clear hbox hrun hzcn hrcn hzdn
      go_wp2_with fail
      clear a0 a1 a2
      let val : Nat → Value := fun j => ([.pointer (some ⟨W.heap.size + 1 + 1, 2, none⟩), v, .pointer (some ⟨W.heap.size, 2, none⟩), .slice (some ⟨b, o, none⟩) rc cap, .slice (some ⟨ab, ao, none⟩) ll lcap, .int .i64 k, .pointer (some ⟨ab, ao + k, none⟩), .int .i64 zn, .pointer (some ⟨W.heap.size, 1, none⟩), .int .i64 c, .int .i64 zc, .slice (some ⟨ab, ao, none⟩) ll lcap, .int .i64 k, .pointer (some ⟨ab, ao + k, none⟩), .int .i64 zn, .int .i64 ((zn : Int) + 1), .pointer (some ⟨W.heap.size, 1, none⟩), .int .i64 c, .int .i64 zd, .slice (some ⟨b, o + zc, none⟩) c (cap - zc), .slice (some ⟨gv, 0, none⟩) kc cv, .pointer (some ⟨W.heap.size + 1 + 1, 2, none⟩)] : List Value).getD j undef
      refine wp_region_inv1 (fun a0 L a w' => ∃ V : Nat → Value, a = ((((((((((((((((((((((a0.put (some 18) (V 0)).put (some 19) (V 1)).put (some 20) (V 2)).put (some 21) (V 3)).put (some 22) (V 4)).put (some 23) (V 5)).put (some 24) (V 6)).put (some 25) (V 7)).put (some 26) (V 8)).put (some 27) (V 9)).put (some 28) (V 10)).put (some 29) (V 11)).put (some 30) (V 12)).put (some 31) (V 13)).put (some 32) (V 14)).put (some 33) (V 15)).put (some 34) (V 16)).put (some 35) (V 17)).put (some 36) (V 18)).put (some 37) (V 19)).put (some 38) (V 20)).put (some 39) (V 21)) ∧ (∀ j, L j → j ≠ 22 → V j = val j) ∧ PkW wr.drew wa (wa.setCell ⟨W.heap.size + 1 + 1, 2, none⟩ (.slice (some ⟨gv, 0, none⟩) kc cv)) L w') (by kernel_rfl) (by kernel_rfl) ?eh0 ?ehs ?ehe
      case eh0 =>
        intro L hL
        exact ⟨fun j => ([u18, u19, u20, u21, u22, u23, u24, u25, u26, u27, u28, u29, u30, u31, u32, u33, u34, u35, u36, u37, u38, u39] : List Value).getD j undef, by simp only [Act.put, List.setIfInBounds_toArray, List.set_cons_zero, List.set_cons_succ]; rfl, fun j hj _ => by
          by_cases h : j < 23
          · exact absurd hj (hL j h)
          · simp [val, show ¬ j < 22 by omega], ⟨fun h => absurd h (hL 20 (by decide)), fun h => absurd h (hL 22 (by decide)), fun _ => rfl, fun h => absurd h (hL 20 (by decide)), fun h => absurd h (hL 22 (by decide))⟩⟩
      case ehs =>
        rintro L L' a w' i op K ⟨V, rfl, hV, hW⟩ ho hopen hdep hL hK
        have vok : ∀ j, L' j → j ≠ 22 → vset V i (val i) j = val j := fun j hj h1 => by
          by_cases e : j = i
          · subst e; exact vset_same _ _ _
          · rw [vset_other _ _ e]; exact hV j (((hL j).1 hj).resolve_left e) h1
        have VOK := Lib.hid vok
        clear vok
        obtain ⟨x0, x1, x2, hcl⟩ := HBX.out w' hW.either
        match i, ho with
        | 0, ho =>
          simp only [List.getElem?_toArray, List.getElem?_cons_zero, Option.some.injEq] at ho
          have HWW := Lib.hid hW
          clear hV hW
          subst ho
          rw [if_pos (wanted_free rfl _)]
          simp only [Act.put, List.setIfInBounds_toArray, List.set_cons_zero, List.set_cons_succ]
          go_simp
          exact hK _ _ ⟨vset V 0 (val 0), by simp only [Act.put, List.setIfInBounds_toArray, List.set_cons_zero, List.set_cons_succ, vset, Nat.reduceEqDiff, if_true, if_false]; rfl, VOK.out, HWW.out.more (by decide) hL⟩
        | 1, ho =>
          simp only [List.getElem?_toArray, List.getElem?_cons_zero, List.getElem?_cons_succ, Option.some.injEq] at ho
          have e0 : V 0 = .pointer (some ⟨W.heap.size + 1 + 1, 2, none⟩) := hV 0 (hdep 0 (by rw [← ho]; kernel_rfl)) (by decide)
          have hw := hW.s0 (fun h => hopen (hW.d h))
          have hc : w'.cell? ⟨W.heap.size + 1 + 1, 2, none⟩ = some v := by rw [hw]; exact HV5.out
          clear hw
          have HWW := Lib.hid hW
          clear hV hW
          subst ho
          rw [if_pos (wanted_free rfl _)]
          simp only [Act.put, List.setIfInBounds_toArray, List.set_cons_zero, List.set_cons_succ, e0]
          go_simp
          exact hK _ _ ⟨vset V 1 (val 1), by simp only [Act.put, List.setIfInBounds_toArray, List.set_cons_zero, List.set_cons_succ, vset, Nat.reduceEqDiff, if_true, if_false, e0]; rfl, VOK.out, HWW.out.more (by decide) hL⟩
        | 2, ho =>
          simp only [List.getElem?_toArray, List.getElem?_cons_zero, List.getElem?_cons_succ, Option.some.injEq] at ho
          have HWW := Lib.hid hW
          clear hV hW
          subst ho
          rw [if_pos (wanted_free rfl _)]
          simp only [Act.put, List.setIfInBounds_toArray, List.set_cons_zero, List.set_cons_succ]
          go_simp
          exact hK _ _ ⟨vset V 2 (val 2), by simp only [Act.put, List.setIfInBounds_toArray, List.set_cons_zero, List.set_cons_succ, vset, Nat.reduceEqDiff, if_true, if_false]; rfl, VOK.out, HWW.out.more (by decide) hL⟩
        | 3, ho =>
          simp only [List.getElem?_toArray, List.getElem?_cons_zero, List.getElem?_cons_succ, Option.some.injEq] at ho
          have e2 : V 2 = .pointer (some ⟨W.heap.size, 2, none⟩) := hV 2 (hdep 2 (by rw [← ho]; kernel_rfl)) (by decide)
          have HWW := Lib.hid hW
          clear hV hW
          subst ho
          rw [if_pos (wanted_free rfl _)]
          simp only [Act.put, List.setIfInBounds_toArray, List.set_cons_zero, List.set_cons_succ, e2]
          go_simp
          exact hK _ _ ⟨vset V 3 (val 3), by simp only [Act.put, List.setIfInBounds_toArray, List.set_cons_zero, List.set_cons_succ, vset, Nat.reduceEqDiff, if_true, if_false, e2]; rfl, VOK.out, HWW.out.more (by decide) hL⟩
        | 4, ho =>
          simp only [List.getElem?_toArray, List.getElem?_cons_zero, List.getElem?_cons_succ, Option.some.injEq] at ho
          have HWW := Lib.hid hW
          clear hV hW
          subst ho
          rw [if_pos (wanted_free rfl _)]
          simp only [Act.put, List.setIfInBounds_toArray, List.set_cons_zero, List.set_cons_succ]
          go_simp
          exact hK _ _ ⟨vset V 4 (val 4), by simp only [Act.put, List.setIfInBounds_toArray, List.set_cons_zero, List.set_cons_succ, vset, Nat.reduceEqDiff, if_true, if_false]; rfl, VOK.out, HWW.out.more (by decide) hL⟩
        | 5, ho =>
          simp only [List.getElem?_toArray, List.getElem?_cons_zero, List.getElem?_cons_succ, Option.some.injEq] at ho
          have HWW := Lib.hid hW
          clear hV hW
          subst ho
          rw [if_pos (wanted_free rfl _)]
          simp only [Act.put, List.setIfInBounds_toArray, List.set_cons_zero, List.set_cons_succ]
          go_simp
          exact hK _ _ ⟨vset V 5 (val 5), by simp only [Act.put, List.setIfInBounds_toArray, List.set_cons_zero, List.set_cons_succ, vset, Nat.reduceEqDiff, if_true, if_false]; rfl, VOK.out, HWW.out.more (by decide) hL⟩
        | 6, ho =>
          simp only [List.getElem?_toArray, List.getElem?_cons_zero, List.getElem?_cons_succ, Option.some.injEq] at ho
          have e4 : V 4 = .slice (some ⟨ab, ao, none⟩) ll lcap := hV 4 (hdep 4 (by rw [← ho]; kernel_rfl)) (by decide)
          have e5 : V 5 = .int .i64 k := hV 5 (hdep 5 (by rw [← ho]; kernel_rfl)) (by decide)
          have HWW := Lib.hid hW
          clear hV hW
          subst ho
          rw [if_pos (wanted_free rfl _)]
          simp only [Act.put, List.setIfInBounds_toArray, List.set_cons_zero, List.set_cons_succ, e4, e5]
          go_simp
          exact hK _ _ ⟨vset V 6 (val 6), by simp only [Act.put, List.setIfInBounds_toArray, List.set_cons_zero, List.set_cons_succ, vset, Nat.reduceEqDiff, if_true, if_false, e4, e5]; rfl, VOK.out, HWW.out.more (by decide) hL⟩
        | 7, ho =>
          simp only [List.getElem?_toArray, List.getElem?_cons_zero, List.getElem?_cons_succ, Option.some.injEq] at ho
          have e6 : V 6 = .pointer (some ⟨ab, ao + k, none⟩) := hV 6 (hdep 6 (by rw [← ho]; kernel_rfl)) (by decide)
          have HWW := Lib.hid hW
          clear hV hW
          subst ho
          rw [if_pos (wanted_free rfl _)]
          simp only [Act.put, List.setIfInBounds_toArray, List.set_cons_zero, List.set_cons_succ, e6]
          go_simp
          exact hK _ _ ⟨vset V 7 (val 7), by simp only [Act.put, List.setIfInBounds_toArray, List.set_cons_zero, List.set_cons_succ, vset, Nat.reduceEqDiff, if_true, if_false, e6]; rfl, VOK.out, HWW.out.more (by decide) hL⟩
        | 8, ho =>
          simp only [List.getElem?_toArray, List.getElem?_cons_zero, List.getElem?_cons_succ, Option.some.injEq] at ho
          have HWW := Lib.hid hW
          clear hV hW
          subst ho
          rw [if_pos (wanted_free rfl _)]
          simp only [Act.put, List.setIfInBounds_toArray, List.set_cons_zero, List.set_cons_succ]
          go_simp
          exact hK _ _ ⟨vset V 8 (val 8), by simp only [Act.put, List.setIfInBounds_toArray, List.set_cons_zero, List.set_cons_succ, vset, Nat.reduceEqDiff, if_true, if_false]; rfl, VOK.out, HWW.out.more (by decide) hL⟩
        | 9, ho =>
          simp only [List.getElem?_toArray, List.getElem?_cons_zero, List.getElem?_cons_succ, Option.some.injEq] at ho
          have e8 : V 8 = .pointer (some ⟨W.heap.size, 1, none⟩) := hV 8 (hdep 8 (by rw [← ho]; kernel_rfl)) (by decide)
          have HWW := Lib.hid hW
          clear hV hW
          subst ho
          rw [if_pos (wanted_free rfl _)]
          simp only [Act.put, List.setIfInBounds_toArray, List.set_cons_zero, List.set_cons_succ, e8]
          go_simp
          exact hK _ _ ⟨vset V 9 (val 9), by simp only [Act.put, List.setIfInBounds_toArray, List.set_cons_zero, List.set_cons_succ, vset, Nat.reduceEqDiff, if_true, if_false, e8]; rfl, VOK.out, HWW.out.more (by decide) hL⟩
        | 10, ho =>
          simp only [List.getElem?_toArray, List.getElem?_cons_zero, List.getElem?_cons_succ, Option.some.injEq] at ho
          have e7 : V 7 = .int .i64 zn := hV 7 (hdep 7 (by rw [← ho]; kernel_rfl)) (by decide)
          have e9 : V 9 = .int .i64 c := hV 9 (hdep 9 (by rw [← ho]; kernel_rfl)) (by decide)
          have HWW := Lib.hid hW
          clear hV hW
          subst ho
          rw [if_pos (wanted_free rfl _)]
          simp only [Act.put, List.setIfInBounds_toArray, List.set_cons_zero, List.set_cons_succ, e7, e9]
          go_simp
          exact hK _ _ ⟨vset V 10 (val 10), by simp only [Act.put, List.setIfInBounds_toArray, List.set_cons_zero, List.set_cons_succ, vset, Nat.reduceEqDiff, if_true, if_false, e7, e9]; rfl, VOK.out, HWW.out.more (by decide) hL⟩
        | 11, ho =>
          simp only [List.getElem?_toArray, List.getElem?_cons_zero, List.getElem?_cons_succ, Option.some.injEq] at ho
          have HWW := Lib.hid hW
          clear hV hW
          subst ho
          rw [if_pos (wanted_free rfl _)]
          simp only [Act.put, List.setIfInBounds_toArray, List.set_cons_zero, List.set_cons_succ]
          go_simp
          exact hK _ _ ⟨vset V 11 (val 11), by simp only [Act.put, List.setIfInBounds_toArray, List.set_cons_zero, List.set_cons_succ, vset, Nat.reduceEqDiff, if_true, if_false]; rfl, VOK.out, HWW.out.more (by decide) hL⟩
        | 12, ho =>
          simp only [List.getElem?_toArray, List.getElem?_cons_zero, List.getElem?_cons_succ, Option.some.injEq] at ho
          have HWW := Lib.hid hW
          clear hV hW
          subst ho
          rw [if_pos (wanted_free rfl _)]
          simp only [Act.put, List.setIfInBounds_toArray, List.set_cons_zero, List.set_cons_succ]
          go_simp
          exact hK _ _ ⟨vset V 12 (val 12), by simp only [Act.put, List.setIfInBounds_toArray, List.set_cons_zero, List.set_cons_succ, vset, Nat.reduceEqDiff, if_true, if_false]; rfl, VOK.out, HWW.out.more (by decide) hL⟩
        | 13, ho =>
          simp only [List.getElem?_toArray, List.getElem?_cons_zero, List.getElem?_cons_succ, Option.some.injEq] at ho
          have e11 : V 11 = .slice (some ⟨ab, ao, none⟩) ll lcap := hV 11 (hdep 11 (by rw [← ho]; kernel_rfl)) (by decide)
          have e12 : V 12 = .int .i64 k := hV 12 (hdep 12 (by rw [← ho]; kernel_rfl)) (by decide)
          have HWW := Lib.hid hW
          clear hV hW
          subst ho
          rw [if_pos (wanted_free rfl _)]
          simp only [Act.put, List.setIfInBounds_toArray, List.set_cons_zero, List.set_cons_succ, e11, e12]
          go_simp
          exact hK _ _ ⟨vset V 13 (val 13), by simp only [Act.put, List.setIfInBounds_toArray, List.set_cons_zero, List.set_cons_succ, vset, Nat.reduceEqDiff, if_true, if_false, e11, e12]; rfl, VOK.out, HWW.out.more (by decide) hL⟩
        | 14, ho =>
          simp only [List.getElem?_toArray, List.getElem?_cons_zero, List.getElem?_cons_succ, Option.some.injEq] at ho
          have e13 : V 13 = .pointer (some ⟨ab, ao + k, none⟩) := hV 13 (hdep 13 (by rw [← ho]; kernel_rfl)) (by decide)
          have HWW := Lib.hid hW
          clear hV hW
          subst ho
          rw [if_pos (wanted_free rfl _)]
          simp only [Act.put, List.setIfInBounds_toArray, List.set_cons_zero, List.set_cons_succ, e13]
          go_simp
          exact hK _ _ ⟨vset V 14 (val 14), by simp only [Act.put, List.setIfInBounds_toArray, List.set_cons_zero, List.set_cons_succ, vset, Nat.reduceEqDiff, if_true, if_false, e13]; rfl, VOK.out, HWW.out.more (by decide) hL⟩
        | 15, ho =>
          simp only [List.getElem?_toArray, List.getElem?_cons_zero, List.getElem?_cons_succ, Option.some.injEq] at ho
          have e14 : V 14 = .int .i64 zn := hV 14 (hdep 14 (by rw [← ho]; kernel_rfl)) (by decide)
          have HWW := Lib.hid hW
          clear hV hW
          subst ho
          rw [if_pos (wanted_free rfl _)]
          simp only [Act.put, List.setIfInBounds_toArray, List.set_cons_zero, List.set_cons_succ, e14]
          go_simp
          exact hK _ _ ⟨vset V 15 (val 15), by simp only [Act.put, List.setIfInBounds_toArray, List.set_cons_zero, List.set_cons_succ, vset, Nat.reduceEqDiff, if_true, if_false, e14]; rfl, VOK.out, HWW.out.more (by decide) hL⟩
        | 16, ho =>
          simp only [List.getElem?_toArray, List.getElem?_cons_zero, List.getElem?_cons_succ, Option.some.injEq] at ho
          have HWW := Lib.hid hW
          clear hV hW
          subst ho
          rw [if_pos (wanted_free rfl _)]
          simp only [Act.put, List.setIfInBounds_toArray, List.set_cons_zero, List.set_cons_succ]
          go_simp
          exact hK _ _ ⟨vset V 16 (val 16), by simp only [Act.put, List.setIfInBounds_toArray, List.set_cons_zero, List.set_cons_succ, vset, Nat.reduceEqDiff, if_true, if_false]; rfl, VOK.out, HWW.out.more (by decide) hL⟩
        | 17, ho =>
          simp only [List.getElem?_toArray, List.getElem?_cons_zero, List.getElem?_cons_succ, Option.some.injEq] at ho
          have e16 : V 16 = .pointer (some ⟨W.heap.size, 1, none⟩) := hV 16 (hdep 16 (by rw [← ho]; kernel_rfl)) (by decide)
          have HWW := Lib.hid hW
          clear hV hW
          subst ho
          rw [if_pos (wanted_free rfl _)]
          simp only [Act.put, List.setIfInBounds_toArray, List.set_cons_zero, List.set_cons_succ, e16]
          go_simp
          exact hK _ _ ⟨vset V 17 (val 17), by simp only [Act.put, List.setIfInBounds_toArray, List.set_cons_zero, List.set_cons_succ, vset, Nat.reduceEqDiff, if_true, if_false, e16]; rfl, VOK.out, HWW.out.more (by decide) hL⟩
        | 18, ho =>
          simp only [List.getElem?_toArray, List.getElem?_cons_zero, List.getElem?_cons_succ, Option.some.injEq] at ho
          have e15 : V 15 = .int .i64 ((zn : Int) + 1) := hV 15 (hdep 15 (by rw [← ho]; kernel_rfl)) (by decide)
          have e17 : V 17 = .int .i64 c := hV 17 (hdep 17 (by rw [← ho]; kernel_rfl)) (by decide)
          have HWW := Lib.hid hW
          clear hV hW
          subst ho
          rw [if_pos (wanted_free rfl _)]
          simp only [Act.put, List.setIfInBounds_toArray, List.set_cons_zero, List.set_cons_succ, e15, e17]
          go_simp
          exact hK _ _ ⟨vset V 18 (val 18), by simp only [Act.put, List.setIfInBounds_toArray, List.set_cons_zero, List.set_cons_succ, vset, Nat.reduceEqDiff, if_true, if_false, e15, e17]; rfl, VOK.out, HWW.out.more (by decide) hL⟩
        | 19, ho =>
          simp only [List.getElem?_toArray, List.getElem?_cons_zero, List.getElem?_cons_succ, Option.some.injEq] at ho
          have e3 : V 3 = .slice (some ⟨b, o, none⟩) rc cap := hV 3 (hdep 3 (by rw [← ho]; kernel_rfl)) (by decide)
          have e10 : V 10 = .int .i64 zc := hV 10 (hdep 10 (by rw [← ho]; kernel_rfl)) (by decide)
          have e18 : V 18 = .int .i64 zd := hV 18 (hdep 18 (by rw [← ho]; kernel_rfl)) (by decide)
          have HWW := Lib.hid hW
          clear hV hW
          subst ho
          rw [if_pos (wanted_free rfl _)]
          simp only [Act.put, List.setIfInBounds_toArray, List.set_cons_zero, List.set_cons_succ, e3, e10, e18]
          go_simp
          exact hK _ _ ⟨vset V 19 (val 19), by simp only [Act.put, List.setIfInBounds_toArray, List.set_cons_zero, List.set_cons_succ, vset, Nat.reduceEqDiff, if_true, if_false, e3, e10, e18]; rfl, VOK.out, HWW.out.more (by decide) hL⟩
        | 20, ho =>
          simp only [List.getElem?_toArray, List.getElem?_cons_zero, List.getElem?_cons_succ, Option.some.injEq] at ho
          have e1 : V 1 = v := hV 1 (hdep 1 (by rw [← ho]; kernel_rfl)) (by decide)
          have e19 : V 19 = .slice (some ⟨b, o + zc, none⟩) c (cap - zc) := hV 19 (hdep 19 (by rw [← ho]; kernel_rfl)) (by decide)
          have hw := hW.s0 hopen
          have l1 := hdep 1 (by rw [← ho]; kernel_rfl)
          have hrn := HRUN.out
          rw [← hw] at hrn
          have HN := Lib.hid (hW.first hopen l1 hL)
          clear hw
          have HWW := Lib.hid hW
          clear hV hW
          subst ho
          rw [if_pos (wanted_free rfl _)]
          simp only [Act.put, List.setIfInBounds_toArray, List.set_cons_zero, List.set_cons_succ, e1, e19]
          refine oper_append _ _ _ rfl rfl rfl hrn ?_
          simp only [Act.put, List.setIfInBounds_toArray, List.set_cons_zero, List.set_cons_succ]
          exact hK _ _ ⟨vset V 20 (val 20), by simp only [Act.put, List.setIfInBounds_toArray, List.set_cons_zero, List.set_cons_succ, vset, Nat.reduceEqDiff, if_true, if_false, e1, e19]; rfl, VOK.out, HN.out⟩
        | 21, ho =>
          simp only [List.getElem?_toArray, List.getElem?_cons_zero, List.getElem?_cons_succ, Option.some.injEq] at ho
          have HWW := Lib.hid hW
          clear hV hW
          subst ho
          rw [if_pos (wanted_free rfl _)]
          simp only [Act.put, List.setIfInBounds_toArray, List.set_cons_zero, List.set_cons_succ]
          go_simp
          exact hK _ _ ⟨vset V 21 (val 21), by simp only [Act.put, List.setIfInBounds_toArray, List.set_cons_zero, List.set_cons_succ, vset, Nat.reduceEqDiff, if_true, if_false]; rfl, VOK.out, HWW.out.more (by decide) hL⟩
        | 22, ho =>
          simp only [List.getElem?_toArray, List.getElem?_cons_zero, List.getElem?_cons_succ, Option.some.injEq] at ho
          have e21 : V 21 = .pointer (some ⟨W.heap.size + 1 + 1, 2, none⟩) := hV 21 (hdep 21 (by rw [← ho]; kernel_rfl)) (by decide)
          have e20 : V 20 = .slice (some ⟨gv, 0, none⟩) kc cv := hV 20 (hdep 20 (by rw [← ho]; kernel_rfl)) (by decide)
          have l20 := hdep 20 (by rw [← ho]; kernel_rfl)
          have hw := hW.s1 l20 hopen
          have hc : w'.cell? ⟨W.heap.size + 1 + 1, 2, none⟩ = some v := by rw [hw]; exact HV51.out
          have hf : w'.frozen? ⟨W.heap.size + 1 + 1, 2, none⟩ = false := by rw [hw]; exact HF51.out
          have HW := Lib.hid hw
          have HN := Lib.hid (hW.second l20 hL)
          clear hw
          have HWW := Lib.hid hW
          clear hV hW
          subst ho
          rw [if_pos (wanted_free rfl _)]
          simp only [Act.put, List.setIfInBounds_toArray, List.set_cons_zero, List.set_cons_succ, e21, e20]
          go_simp
          exact hK _ _ ⟨vset V 22 (val 22), by simp only [Act.put, List.setIfInBounds_toArray, List.set_cons_zero, List.set_cons_succ, vset, Nat.reduceEqDiff, if_false, e21, e20], VOK.out, by rw [HW.out]; exact HN.out⟩
        | n + 23, ho => simp at ho
      case ehe =>
        rintro L a w' ⟨V, rfl, _, hW⟩ hall
        have hw := hW.s2 (hall 22 (by decide))
        subst hw
        simp only [Act.put, List.setIfInBounds_toArray, List.set_cons_zero, List.set_cons_succ]
        clear hW hzc hzd wzc wzd wz1 hcne
        go_wp2_with fail
        go_roundw
        case rel => exact ⟨k + 1, _, by omega, by go_num, HEND.out⟩
        case measure => simp [intOf]; omega
    · obtain rfl : k = ll := by omega
      obtain ⟨a', cap', rfl, hcl, hby, hg⟩ := by_of_own hS.own
      obtain ⟨p0, p1, p2⟩ := box3 hS.px
      have HS2 := Lib.hid hS
      have HBY := Lib.hid hby
      have hnb : ∀ (row : Value), k * c ≠ 0 → True := fun _ _ => trivial
      have HG := Lib.hid hg
      clear hS hby hg hnb
      go_wp2_with (refine wpList_store_block rfl 50 (.tmp 4) (.tmp 40) rfl _ #[.int .i64 k, .int .i64 c, .slice a' (k * c) cap'] #[.int .i64 0, .int .i64 0, .slice none 0 0] 50 rfl rfl HS2.out.z Try.infoMat rfl (one3 _ _ _ _ _) ?_)
      have g2 := grown_row wr (W.heap.size + 1) #[.int .i64 k, .int .i64 c, .slice a' (k * c) cap']
      have hkc0 : 0 < k * c := Nat.mul_pos (by omega) (by omega)
      refine bodyPost_ret (v := .agg #[.int .i64 k, .int .i64 c, .slice a' (k * c) cap']) ?_ rfl ⟨_, _, rfl, ?_, ?_, Kept.grown HS2.out.kp g2 (fun q e => by cases e; omega)⟩
      · exact results_cell_row rfl _ _ (W.heap.size + 1) 50 #[.int .i64 k, .int .i64 c, .slice a' (k * c) cap'] (0, 0) _ rfl (HS2.out.z.setRow _) Try.underlying50 rfl Try.infoMat
      · obtain ⟨g, cs, rfl, _, hgb⟩ := HG.out hkc0
        have hne := ne_of_types hgb HS2.out.z (by decide)
        obtain ⟨b2, o2, ha2, hc2⟩ := HBY.out.cells
        cases ha2 hkc0
        exact ⟨g, 0, fun _ => rfl, fun i hi => by
          have h3 := (World.cell?_of_block (a := ⟨g, 0 + i, none⟩) (g2.block g (hc2 i hi).1 (by simp; omega))).trans (hc2 i hi).2
          exact ⟨cell_lt h3, h3⟩⟩
      · obtain ⟨g, cs, e1, _, hgb⟩ := HG.out hkc0
        exact ⟨g, cs, e1, hgb.grown g2 (fun e => ne_of_types hgb HS2.out.z (by decide) (Option.some.inj e))⟩
end Go.Proofs.Ytlpjpeonejbpjaa
