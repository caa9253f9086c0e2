/- Lists of records that are read; how much they are; what is too heavy (no conditions). -/
import Derived.Test.YtoanldoocmmhjaaRl2
namespace Go.Proofs.Ytoanldoocmmhjaa
open Go.RowKit
/-- how much a record is -/
def recLen (r : Rec) : Nat := r.name.size + r.dig.size + r.list.length + r.slots.length
/-- a record in a row's cells, in this world and every later one -/
def RecCell (W : World) (b o : Nat) (r : Rec) : Prop :=
  ∃ al cl az cz, RecIn W r al r.list.length az r.slots.length ∧ ∀ w, Kept W w →
    w.cell? ⟨b, o, none⟩ = some (.int .i64 r.kind) ∧ w.cell? ⟨b, o + 1, none⟩ = some (.int .i64 r.id) ∧ w.cell? ⟨b, o + 2, none⟩ = some (.string r.name) ∧ w.cell? ⟨b, o + 3, none⟩ = some (.string r.dig)
      ∧ w.cell? ⟨b, o + 4, none⟩ = some (.slice al r.list.length cl) ∧ w.cell? ⟨b, o + 5, none⟩ = some (.slice az r.slots.length cz)
theorem RecCell.kept {W W' : World} {b o : Nat} {r : Rec} (h : RecCell W b o r) (k : Kept W W') : RecCell W' b o r := by
  obtain ⟨al, cl, az, cz, hi, hc⟩ := h
  exact ⟨al, cl, az, cz, hi.kept k, fun w kw => hc w (k.trans kw)⟩
/-- A list of records that is read: its number and its records within the reach. -/
structure RecsIn (W : World) (a : Option Addr) (l cap : Nat) (rs : List Rec) : Prop where
  len_eq : rs.length = l
  few : l ≤ 1466015503658
  short : ∀ r ∈ rs, r.name.size ≤ 140737488355000 ∧ r.dig.size ≤ 140737488355000 ∧ r.list.length ≤ 140737488355000 ∧ r.slots.length ≤ 140737488355000
  cells : ∃ b off, (0 < l → a = some ⟨b, off, none⟩) ∧ ∀ i, i < l → RecCell W b (off + i * 6) (rs.getD i Rec.zero)
theorem RecsIn.kept {W W' : World} {a : Option Addr} {l cap : Nat} {rs : List Rec} (h : RecsIn W a l cap rs) (k : Kept W W') : RecsIn W' a l cap rs := by
  obtain ⟨b, off, ha, hc⟩ := h.cells
  exact ⟨h.len_eq, h.few, h.short, b, off, ha, fun i hi => (hc i hi).kept k⟩
theorem RecsIn.size {W : World} {a : Option Addr} {l cap : Nat} {rs : List Rec} (h : RecsIn W a l cap rs) (i : Nat) (hi : i < l) :
    (rs.getD i Rec.zero).name.size ≤ 140737488355000 ∧ (rs.getD i Rec.zero).dig.size ≤ 140737488355000 ∧ (rs.getD i Rec.zero).list.length ≤ 140737488355000 ∧ (rs.getD i Rec.zero).slots.length ≤ 140737488355000 := by
  have hl : i < rs.length := by rw [h.len_eq]; exact hi
  exact h.short _ (by simp [List.getD, hl])
theorem RecsIn.cell {W : World} {a : Option Addr} {l cap : Nat} {rs : List Rec} (h : RecsIn W a l cap rs) (hl : 0 < l) : ∃ b off, a = some ⟨b, off, none⟩ ∧ ∀ i, i < l → RecCell W b (off + i * 6) (rs.getD i Rec.zero) := by
  obtain ⟨b, off, ha, hc⟩ := h.cells
  exact ⟨b, off, ha hl, hc⟩
/-- what the reckoning of records tells: no less than nothing, and if it is little each is little -/
structure RecSum (l : Nat) (rs : List Rec) (n : Int) : Prop where
  nonneg : 0 ≤ n
  many : n < 1048576 → (l : Int) ≤ n
  each : n < 1048576 → ∀ i, i < l → (recLen (rs.getD i Rec.zero) : Int) ≤ n
set_option maxRecDepth 100000 in
set_option maxHeartbeats 2000000 in
theorem records_weight (a : Option Addr) (l cap : Nat) (rs : List Rec) (w : World) (h : RecsIn w a l cap rs) :
    Calls Try.prog 25 #[.slice a l cap] w fun e w' => (∃ n, e = .returned (.int .i64 n) ∧ RecSum l rs n) ∧ Kept w w' := by
  have hle := h.few
  have HH := Lib.hid h
  clear h
  go_enter Try.func25, Try.ntmps25
  go_wp2
  go_loopw [3, 4] (fun m i wr => ∃ (k : Nat) (n : Int), k ≤ l ∧ i = .int .i64 k ∧ m = .int .i64 n ∧ (l : Int) ≤ n ∧ n ≤ 1125899906842624 ∧ (∀ j, j < k → (recLen (rs.getD j Rec.zero) : Int) ≤ n) ∧ Kept w wr) (fun _ i _ => l - (intOf i).toNat)
  case atStart => exact ⟨0, l, by omega, rfl, rfl, by omega, by omega, fun j hj => by omega, Kept.refl _⟩
  case round =>
    obtain ⟨k, n, hk, rfl, rfl, hn0, hn1, hall, hK⟩ := hrel
    have HA := Lib.hid hall
    have HK := Lib.hid hK
    clear hall hK
    by_cases hlt : k < l
    · by_cases hn : n < 1048576
      · obtain ⟨b, off, rfl, hc⟩ := HH.out.cell (by omega)
        obtain ⟨al, cl, az, cz, _, hcc⟩ := hc k hlt
        obtain ⟨c0, c1, c2, c3, c4, c5⟩ := hcc wr HK.out
        obtain ⟨s1, s2, s3, s4⟩ := HH.out.size k hlt
        have HG : Hid (∀ z : Int, n ≤ z → (recLen (rs.getD k Rec.zero) : Int) ≤ z → ∀ j, j < k + 1 → (recLen (rs.getD j Rec.zero) : Int) ≤ z) := Lib.hid fun z h1 h2 j hj => by
          by_cases e : j = k
          · subst e; exact h2
          · exact Int.le_trans (HA.out j (by omega)) h1
        have HE := Lib.hid (show recLen (rs.getD k Rec.zero) = (rs.getD k Rec.zero).name.size + (rs.getD k Rec.zero).dig.size + (rs.getD k Rec.zero).list.length + (rs.getD k Rec.zero).slots.length from rfl)
        generalize recLen (rs.getD k Rec.zero) = q at HG HE
        generalize (rs.getD k Rec.zero).name = nm at *
        generalize (rs.getD k Rec.zero).dig = dg at *
        generalize (rs.getD k Rec.zero).list.length = ll at *
        generalize (rs.getD k Rec.zero).slots.length = sl at *
        clear hc hcc
        go_wp2_with fail
        go_quiet (fail)
        go_wp2
        go_roundw
        case rel => exact ⟨k + 1, n + nm.size + dg.size + ll + sl, by omega, by go_num, rfl, by omega, by omega, HG.out _ (by omega) (by have := HE.out; omega), HK.out.drewN _⟩
        case measure => simp [intOf]; omega
      · go_wp2
        go_ret
        exact ⟨⟨n, rfl, by omega, fun h => by omega, fun h => by omega⟩, HK.out⟩
    · obtain rfl : k = l := by omega
      go_wp2
      go_ret
      exact ⟨⟨n, rfl, by omega, fun _ => hn0, fun _ => HA.out⟩, HK.out⟩
end Go.Proofs.Ytoanldoocmmhjaa
