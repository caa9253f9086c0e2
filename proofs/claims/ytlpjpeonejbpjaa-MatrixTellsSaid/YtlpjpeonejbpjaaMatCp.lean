/- The builtin copy onto a row of a matrix, or onto a whole one, by what it does (no condition but that as many cells are read). -/
import Derived.Test.YtlpjpeonejbpjaaMatRed
import Derived.Laws.CopyOwn
import Derived.Lib.SlBuf
namespace Go.Proofs.Ytlpjpeonejbpjaa
open Go.RowKit

theorem run_copy_block {P : Program} (w : World) (dT sT ty elem : TypeId) (hu : P.underlying dT = some (.slice elem)) (hs : (P.info? elem).map (·.size) = some 1)
    {b o n dLen dCap sLen sCap : Nat} {ad : Addr} {cur : Array Value} {t : TypeId} (vs : Nat → Value) (hb : BlockAt w b cur t) (hn : n = Nat.min sLen dLen) (hsrc : ∀ j, j < n → w.cell? (ad.add j) = some (vs j)) (hfit : o + n ≤ cur.size) (h1 : ∀ j, (vs j).oneCell' = true) :
    ∃ w', (Builtin.copy_ #[dT, sT] ty #[.slice (some ⟨b, o, none⟩) dLen dCap, .slice (some ad) sLen sCap]).run P w = .ok (goInt n) w' ∧ w.grownBy w' (some b) ∧ (∃ cur', BlockAt w' b cur' t) ∧
      (∀ j, j < n → w'.cell? ⟨b, o + j, none⟩ = some (vs j)) ∧ (∀ k, k < o ∨ o + n ≤ k → w'.cell? ⟨b, k, none⟩ = w.cell? ⟨b, k, none⟩) := by
  have hl : ((List.range n).map vs).length = n := by simp
  have hr := run_copy_row (P := P) w dT sT ty elem b o dLen dCap ad sLen sCap cur t ((List.range n).map vs) hu hs hb (by rw [hl]; exact hn) (fun j v hv => by
      by_cases hj : j < n
      · simp [hj] at hv
        rw [hsrc j hj, hv]
      · simp [hj] at hv) (by rw [hl]; exact hfit) (fun v hv => by
      simp at hv
      obtain ⟨j, _, rfl⟩ := hv
      exact h1 j)
  rw [hl] at hr
  refine ⟨_, hr, ⟨rfl, rfl, rfl, by simp [World.setRow], fun k _ hne => setRow_other w b k _ (fun e => hne (by rw [e]))⟩, ⟨_, hb.setRow _⟩, fun j hj => ?_, fun k hk => ?_⟩
  · rw [(hb.setRow _).cell (o + j)]
    simp only [List.getElem?_toArray]
    have hlen : (cur.toList.take o).length = o := by simp; omega
    rw [List.append_assoc, List.getElem?_append_right (by omega), hlen, show o + j - o = j by omega, List.getElem?_append_left (by simpa using hj)]
    simp [hj]
  · rw [(hb.setRow _).cell k, hb.cell k]
    simp only [List.getElem?_toArray]
    have hlen : (cur.toList.take o).length = o := by simp; omega
    rcases hk with hk | hk
    · rw [List.append_assoc, List.getElem?_append_left (by omega), List.getElem?_take_of_lt hk]
      simp
    · rw [List.getElem?_append_right (by simp; omega), List.getElem?_drop]
      have e : o + n + (k - (cur.toList.take o ++ (List.range n).map vs).length) = k := by
        rw [List.length_append, hlen, hl]; omega
      rw [e]
      simp
theorem wpListIn_copy_run {F : Fence} {n : Nat} {P : Program} (w : World) {ops : Array Oper} {rest : List Oper} {o : Oper} {a : Act} {Q : Exit → Act → World → Prop} (hgd : o.guard = none) (d s : Operand) (t t' : TypeId)
    (ho : o.op = .call { callee := .builtin .copy, args := #[d, s], argTypes := #[t, t'] }) (v u : Value) (hd : a.eval d = v) (hs : a.eval s = u) {v' : Value} {w' : World}
    (hr : (Builtin.copy_ #[t, t'] o.type #[v, u]).run P w = .ok v' w') (h : wpListIn F n P ops Q rest (a.put o.dst v') w') : wpListIn F n P ops Q (o :: rest) a w := by
  refine wpListIn_plain hgd fun K hK' => ?_
  unfold Oper.wpIn
  refine ⟨?_, ?_⟩
  · simp [Oper.about, ho, resolve, Target.leads, Sem.run_pure]
  · rw [Oper.semAt_plain F _ _ (by rw [ho]; intro c hc'; cases hc')]
    simp [execOp, ho, resolve, invoke, builtin, hd, hs, hr, Result.andThen]
    exact hK' _ _ h

theorem Try.sizeU8 : (Try.prog.info? 5).map (·.size) = some 1 := by kernel_rfl
/-- the numbers of a row as far as n, from elsewhere -/
def rowOf (F : Nat → Nat → Nat) (a n : Nat) (H : Nat → Nat) : Nat → Nat → Nat := fun i j => if i = a ∧ j < n then H j else F i j
theorem BlockAt.size_of {w : World} {b i : Nat} {cur : Array Value} {t : TypeId} {v : Value} (h : BlockAt w b cur t) (hc : w.cell? ⟨b, i, none⟩ = some v) : i < cur.size := by
  rw [h.cell i] at hc
  exact (Array.getElem?_eq_some_iff.1 hc).1
theorem copy_row {w : World} {b off r c a n dLen dCap sLen sCap b2 o2 : Nat} {F : Nat → Nat → Nat} (H : Nat → Nat) (hm : Mat w b off r c F) (ha : a < r) (hn0 : 0 < n) (hnc : n ≤ c) (hn : n = Nat.min sLen dLen)
    (hsrc : ∀ j, j < n → w.cell? ⟨b2, o2 + j, none⟩ = some (.int .u8 ((H j : Nat) : Int))) (ty : TypeId) :
    ∃ w', (Builtin.copy_ #[44, 44] ty #[.slice (some ⟨b, off + a * c, none⟩) dLen dCap, .slice (some ⟨b2, o2, none⟩) sLen sCap]).run Try.prog w = .ok (goInt n) w' ∧ w.grownBy w' (some b) ∧ Mat w' b off r c (rowOf F a n H) := by
  obtain ⟨cur, hb⟩ := hm.blk
  have hlast := hb.size_of (hm.cell a (n - 1) ha (by omega))
  obtain ⟨w', hr, hg, ⟨cur', hb'⟩, hin, hout⟩ := run_copy_block (P := Try.prog) w 44 44 ty 5 Try.underlying44 Try.sizeU8 (b := b) (o := off + a * c) (n := n) (dLen := dLen) (dCap := dCap) (sLen := sLen) (sCap := sCap) (ad := ⟨b2, o2, none⟩)
    (fun j => .int .u8 ((H j : Nat) : Int)) hb hn (fun j hj => by
      have e : (⟨b2, o2, none⟩ : Addr).add j = ⟨b2, o2 + j, none⟩ := by unfold Addr.add; split <;> simp_all
      rw [e]; exact hsrc j hj) (by omega) (fun j => rfl)
  refine ⟨w', hr, hg, ⟨cur', hb'⟩, fun i j hi hj => ?_⟩
  unfold rowOf
  by_cases e : i = a ∧ j < n
  · obtain ⟨rfl, hj2⟩ := e
    rw [if_pos ⟨rfl, hj2⟩, hin j hj2]
  · rw [if_neg e, hout, hm.cell i j hi hj]
    apply Classical.byContradiction
    intro hno
    have h1 : off + a * c ≤ off + i * c + j := by omega
    have h2 : off + i * c + j < off + a * c + n := by omega
    -- the place lies in the row
    have hia : i = a := by
      obtain ⟨q, hq⟩ : ∃ q, i * c + j = a * c + q := ⟨i * c + j - a * c, by omega⟩
      exact (idx_inj (c := c) hj (show q < c by omega) hq).1
    subst hia
    exact e ⟨rfl, by omega⟩
/-- a whole matrix copied -/
theorem copy_all {w : World} {b off r c dCap sCap b2 o2 : Nat} {F G : Nat → Nat → Nat} (hr : 0 < r) (hc : 0 < c) (hm : Mat w b off r c F) (hsrc : MatR w b2 o2 r c G) (ty : TypeId) :
    ∃ w', (Builtin.copy_ #[44, 44] ty #[.slice (some ⟨b, off, none⟩) (r * c) dCap, .slice (some ⟨b2, o2, none⟩) (r * c) sCap]).run Try.prog w = .ok (goInt (r * c)) w' ∧ w.grownBy w' (some b) ∧ Mat w' b off r c G := by
  obtain ⟨cur, hb⟩ := hm.blk
  have hrc : (r - 1) * c + c = r * c := by
    obtain ⟨q, rfl⟩ : ∃ q, r = q + 1 := ⟨r - 1, by omega⟩
    rw [Nat.succ_mul]; rfl
  have hlast := hb.size_of (hm.cell (r - 1) (c - 1) (by omega) (by omega))
  have hdm : ∀ k, k < r * c → k / c < r ∧ k % c < c ∧ k / c * c + k % c = k := fun k hk => ⟨(Nat.div_lt_iff_lt_mul hc).2 hk, Nat.mod_lt k hc, Nat.div_add_mod' k c⟩
  obtain ⟨w', hrun, hg, ⟨cur', hb'⟩, hin, _⟩ := run_copy_block (P := Try.prog) w 44 44 ty 5 Try.underlying44 Try.sizeU8 (b := b) (o := off) (n := r * c) (dLen := r * c) (dCap := dCap) (sLen := r * c) (sCap := sCap) (ad := ⟨b2, o2, none⟩)
    (fun k => .int .u8 ((G (k / c) (k % c) : Nat) : Int)) hb (by simp) (fun k hk => by
      have e : (⟨b2, o2, none⟩ : Addr).add k = ⟨b2, o2 + k, none⟩ := by unfold Addr.add; split <;> simp_all
      obtain ⟨h1, h2, h3⟩ := hdm k hk
      have h := hsrc (k / c) (k % c) h1 h2
      rw [Nat.add_assoc, h3] at h
      rw [e]; exact h) (by omega) (fun j => rfl)
  refine ⟨w', hrun, hg, ⟨cur', hb'⟩, fun i j hi hj => ?_⟩
  have h := hin (i * c + j) (idx_lt hi hj)
  have e1 : (i * c + j) / c = i := by rw [Nat.mul_comm, Nat.mul_add_div hc, Nat.div_eq_of_lt hj]; omega
  have e2 : (i * c + j) % c = j := by rw [Nat.mul_comm, Nat.mul_add_mod, Nat.mod_eq_of_lt hj]
  rw [e1, e2, ← Nat.add_assoc] at h
  exact h
end Go.Proofs.Ytlpjpeonejbpjaa
