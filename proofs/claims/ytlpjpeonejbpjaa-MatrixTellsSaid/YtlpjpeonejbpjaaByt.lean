/- Slices of bytes read as functions of the place; siloref0's EqBytes, CopyBytes, EqMatrix, CopyMatrix (lengths within bounds). -/
import Derived.Test.YtlpjpeonejbpjaaMatCp
import Derived.Test.YtlpjpeonejbpjaaCopyStr
namespace Go.Proofs.Ytlpjpeonejbpjaa
open Go.RowKit

/-- A slice value that reads as these bytes. -/
structure ByIn (w : World) (a : Option Addr) (len : Nat) (H : Nat → Nat) : Prop where
  cells : ∃ b off, (0 < len → a = some ⟨b, off, none⟩) ∧ ∀ i, i < len → b < w.heap.size ∧ w.cell? ⟨b, off + i, none⟩ = some (.int .u8 ((H i : Nat) : Int))
theorem ByIn.kept {w w' : World} {a : Option Addr} {len : Nat} {H : Nat → Nat} (h : ByIn w a len H) (k : Kept w w') : ByIn w' a len H := by
  obtain ⟨b, off, ha, hc⟩ := h.cells
  exact ⟨b, off, ha, fun i hi => ⟨Nat.lt_of_lt_of_le (hc i hi).1 k.size, k.cell (hc i hi).1 (hc i hi).2⟩⟩
theorem ByIn.congr {w : World} {a : Option Addr} {len : Nat} {H G : Nat → Nat} (h : ByIn w a len H) (e : ∀ i, i < len → H i = G i) : ByIn w a len G := by
  obtain ⟨b, off, ha, hc⟩ := h.cells
  exact ⟨b, off, ha, fun i hi => ⟨(hc i hi).1, by rw [← e i hi]; exact (hc i hi).2⟩⟩
theorem ByIn.empty (w : World) (a : Option Addr) (H : Nat → Nat) : ByIn w a 0 H := ⟨0, 0, fun h => absurd h (Nat.lt_irrefl 0), fun i hi => absurd hi (Nat.not_lt_zero i)⟩
/-- a matrix's numbers in a row -/
def flat (c : Nat) (F : Nat → Nat → Nat) : Nat → Nat := fun k => F (k / c) (k % c)
theorem divmod {c i j : Nat} (hj : j < c) : (i * c + j) / c = i ∧ (i * c + j) % c = j := by
  have hc : 0 < c := by omega
  exact ⟨by rw [Nat.mul_comm, Nat.mul_add_div hc, Nat.div_eq_of_lt hj]; omega, by rw [Nat.mul_comm, Nat.mul_add_mod, Nat.mod_eq_of_lt hj]⟩
theorem MatR.flat {w : World} {b off r c : Nat} {F : Nat → Nat → Nat} (h : MatR w b off r c F) : ByIn w (some ⟨b, off, none⟩) (r * c) (flat c F) := by
  refine ⟨b, off, fun _ => rfl, fun k hk => ?_⟩
  have hc : 0 < c := Nat.pos_of_ne_zero (fun e => by rw [e, Nat.mul_zero] at hk; omega)
  have h1 : k / c < r := (Nat.div_lt_iff_lt_mul hc).2 hk
  have h2 := Nat.mod_lt k hc
  have h3 : k / c * c + k % c = k := Nat.div_add_mod' k c
  have h4 := h (k / c) (k % c) h1 h2
  rw [Nat.add_assoc, h3] at h4
  exact ⟨cell_lt h4, h4⟩
/-- bytes in a row read as a matrix -/
def rect (c : Nat) (H : Nat → Nat) : Nat → Nat → Nat := fun i j => H (i * c + j)
theorem ByIn.rect {w : World} {a : Option Addr} {r c : Nat} {H : Nat → Nat} (h : ByIn w a (r * c) H) (h0 : 0 < r * c) : ∃ b off, a = some ⟨b, off, none⟩ ∧ MatR w b off r c (rect c H) := by
  obtain ⟨b, off, ha, hc⟩ := h.cells
  refine ⟨b, off, ha h0, fun i j hi hj => ?_⟩
  have := (hc (i * c + j) (idx_lt hi hj)).2
  rw [← Nat.add_assoc] at this
  exact this

set_option maxRecDepth 100000 in
set_option maxHeartbeats 400000 in
theorem eq_bytes (a a' : Option Addr) (l cap cap' : Nat) (H : Nat → Nat) (hl : l ≤ 9223372036854775807) (w : World) (h : ByIn w a l H) (h' : ByIn w a' l H) :
    Calls Try.prog 77 #[.slice a l cap, .slice a' l cap'] w fun e w' => e = .returned (.bool true) ∧ Kept w w' := by
  have HH := Lib.hid h
  have HH' := Lib.hid h'
  clear h h'
  go_enter Try.func77, Try.ntmps77
  go_wp2
  go_loopw [5] (fun i wr => ∃ k : Nat, k ≤ l ∧ i = .int .i64 k ∧ Kept w wr) (fun i _ => l - (intOf i).toNat)
  case atStart => exact ⟨0, by omega, rfl, Kept.refl _⟩
  case round =>
    obtain ⟨k, hk, rfl, hK⟩ := hrel
    have HK := Lib.hid hK
    by_cases hlt : k < l
    · obtain ⟨b, off, ha, hc⟩ := HH.out.cells
      obtain ⟨b', off', ha', hc'⟩ := HH'.out.cells
      obtain rfl := ha (by omega)
      obtain rfl := ha' (by omega)
      have hck := hK.cell (hc k hlt).1 (hc k hlt).2
      have hck' := hK.cell (hc' k hlt).1 (hc' k hlt).2
      generalize H k = x at hck hck'
      clear hc hc' ha ha' hK
      go_wp2_with fail
      go_quiet (fail)
      go_wp2
      go_roundw
      case rel => exact ⟨k + 1, by omega, by go_num, HK.out.drewN nq⟩
      case measure => simp [intOf]; omega
    · clear hK
      go_wp2
      go_ret
      exact ⟨rfl, HK.out⟩
theorem by_of_own {w : World} {base l : Nat} {e : TypeId} {v : Value} {H : Nat → Nat} (ho : w.ownsRow base e 1 v l ((List.range l).map fun i => Value.int .u8 ((H i : Nat) : Int))) :
    ∃ a cap, v = .slice a l cap ∧ l ≤ cap ∧ ByIn w a l H ∧ (0 < l → ∃ g cs, a = some ⟨g, 0, none⟩ ∧ base ≤ g ∧ BlockAt w g cs e) := by
  rcases ho.2 with ⟨rfl, rfl⟩ | ⟨g, cap, cur, rfl, hb, hg, hn, hm, _⟩
  · exact ⟨none, 0, rfl, Nat.le_refl _, ByIn.empty _ _ _, fun h => absurd h (Nat.lt_irrefl 0)⟩
  · refine ⟨_, cap, rfl, hn, ⟨g, 0, fun _ => rfl, fun i hi => ⟨(ho.lt g rfl).2, ?_⟩⟩, fun _ => ⟨g, cur, rfl, hb, hg⟩⟩
    rw [Nat.zero_add, ho.cellAt i (by omega)]
    simp [hi]
set_option maxRecDepth 100000 in
set_option maxHeartbeats 800000 in
theorem copy_bytes (a : Option Addr) (l cap : Nat) (H : Nat → Nat) (hl : l ≤ 140737488351232) (w : World) (h : ByIn w a l H) :
    Calls Try.prog 70 #[.slice a l cap] w fun e w' => ∃ a' cap', e = .returned (.slice a' l cap') ∧ l ≤ cap' ∧ ByIn w' a' l H ∧ (0 < l → ∃ g cs, a' = some ⟨g, 0, none⟩ ∧ w.heap.size ≤ g ∧ BlockAt w' g cs 5) ∧ Kept w w' := by
  obtain ⟨i0, hi, hz0, hz1, hz2⟩ := info_parts Try.infoU8
  have HI := Lib.hid (And.intro hi (And.intro hz0 (And.intro hz1 hz2)))
  have HH := Lib.hid h
  clear hi hz0 hz1 hz2 h
  go_enter Try.func70, Try.ntmps70
  go_wp2
  go_loopw [3, 4] (fun v i wr => ∃ k : Nat, k ≤ l ∧ i = .int .i64 k ∧ wr.ownsRow w.heap.size 5 1 v k ((List.range k).map fun i => Value.int .u8 ((H i : Nat) : Int)) ∧ Kept w wr) (fun _ i _ => l - (intOf i).toNat)
  case atStart => exact ⟨0, by omega, rfl, World.ownsRow_nil _ _ _ _, Kept.refl _⟩
  case round =>
    obtain ⟨k, hk, rfl, hown, hK⟩ := hrel
    have HK := Lib.hid hK
    have HO := Lib.hid hown
    by_cases hlt : k < l
    · obtain ⟨b, off, ha, hc⟩ := HH.out.cells
      obtain rfl := ha (by omega)
      have hck := hK.cell (hc k hlt).1 (hc k hlt).2
      have hsn : (List.range (k + 1)).map (fun i => Value.int .u8 ((H i : Nat) : Int)) = (List.range k).map (fun i => Value.int .u8 ((H i : Nat) : Int)) ++ [.int .u8 ((H k : Nat) : Int)] := by rw [List.range_succ]; simp
      have HSN := Lib.hid hsn
      clear hc ha hK hown hsn
      go_wp2_with (at_builtin; refine wpList_append_own _ rfl _ _ 44 rfl w.heap.size 5 i0 (.int .u8 0) 1 1 Try.underlying44 HI.out.1 HI.out.2.1 HI.out.2.2.1 HI.out.2.2.2 rfl (by decide) _ _ _ rfl (HO.out.alloc _) ⟨wr.heap.size, 0, none⟩ 1 1 [.int .u8 ((H k : Nat) : Int)] rfl rfl ?c1 ?c2 ?c3 ?c4 ?c5 ?_)
      case c1 =>
        intro j u hj
        match j, hj with
        | 0, hj => simp at hj; subst hj; simp [Addr.add]
      case c2 => intro u hu; simp at hu; subst hu; rfl
      case c3 => unfold maxLen; omega
      case c4 => omega
      case c5 => have := HK.out.size; simp; omega
      intro v' w1 hown' hgrow _
      have HO' := Lib.hid hown'
      have HK' := Lib.hid (kept_grown (HK.out.alloc _) (HO.out.alloc _) hgrow)
      clear hown' hgrow
      go_wp2
      go_roundw
      case rel => exact ⟨k + 1, by omega, by go_num, by rw [HSN.out]; exact HO'.out, HK'.out⟩
      case measure => simp [intOf]; omega
    · obtain rfl : k = l := by omega
      obtain ⟨a', cap', rfl, hcl, hst, hg⟩ := by_of_own hown
      have HF := Lib.hid hst
      have HG := Lib.hid hg
      clear hK hown hst hg HO
      go_wp2
      go_ret
      exact ⟨a', cap', rfl, hcl, HF.out, HG.out, HK.out⟩
set_option maxRecDepth 100000 in
theorem eq_matrix (r c : Int) (a a' : Option Addr) (l cap cap' : Nat) (H : Nat → Nat) (hl : l ≤ 9223372036854775807) (w : World) (h : ByIn w a l H) (h' : ByIn w a' l H) :
    Calls Try.prog 43 #[.agg #[.int .i64 r, .int .i64 c, .slice a l cap], .agg #[.int .i64 r, .int .i64 c, .slice a' l cap']] w fun e w' => e = .returned (.bool true) ∧ Kept w w' := by
  have HH := Lib.hid h
  have HH' := Lib.hid h'
  have h1 : (r == r) = true := by simp
  have h2 : (c == c) = true := by simp
  clear h h'
  go_enter Try.func43, Try.ntmps43
  go_wp2_with fail
  refine (eq_bytes a a' l cap cap' H hl _ (by exact HH.out.kept (((Kept.refl w).alloc _).alloc _)) (by exact HH'.out.kept (((Kept.refl w).alloc _).alloc _))).mono ?_
  rintro e w1 ⟨rfl, hk⟩
  have HK := Lib.hid ((((Kept.refl w).alloc _).alloc _).trans hk)
  clear hk
  go_wp2
  go_ret
  exact ⟨rfl, HK.out⟩
set_option maxRecDepth 100000 in
theorem copy_matrix (r c : Int) (a : Option Addr) (l cap : Nat) (H : Nat → Nat) (hl : l ≤ 140737488351232) (w : World) (h : ByIn w a l H) :
    Calls Try.prog 32 #[.agg #[.int .i64 r, .int .i64 c, .slice a l cap]] w fun e w' => ∃ a' cap', e = .returned (.agg #[.int .i64 r, .int .i64 c, .slice a' l cap']) ∧ l ≤ cap' ∧ ByIn w' a' l H ∧
      (0 < l → ∃ g cs, a' = some ⟨g, 0, none⟩ ∧ w.heap.size ≤ g ∧ BlockAt w' g cs 5) ∧ Kept w w' := by
  have HH := Lib.hid h
  clear h
  go_enter Try.func32, Try.ntmps32
  go_wp2_with fail
  refine (copy_bytes a l cap H hl _ (by exact HH.out.kept ((((Kept.refl w).alloc _).alloc _).alloc _))).mono ?_
  rintro e w1 ⟨a', cap', rfl, hcl, hb, hg, hk⟩
  have h3 := (BlockAt.new2 w #[.int .i64 r, .int .i64 c, .slice a l cap] 50 (.cells #[.int .i64 r, .int .i64 c, .slice a l cap] 50) (.cells #[.int .i64 0, .int .i64 0, .slice none 0 0] 50)).kept hk
  have hR := ((BlockAt.new1 w #[.int .i64 0, .int .i64 0, .slice none 0 0] 50 (.cells #[.int .i64 r, .int .i64 c, .slice a l cap] 50)).kept ((Kept.refl _).alloc (.cells #[.int .i64 r, .int .i64 c, .slice a l cap] 50))).kept hk
  have hK := ((((Kept.refl w).alloc _).alloc _).alloc _).trans hk
  have h3' : BlockAt (w1.setCell ⟨w.heap.size + 1 + 1, 2, none⟩ (.slice a' l cap')) (w.heap.size + 1 + 1) #[.int .i64 r, .int .i64 c, .slice a' l cap'] 50 := h3.set (i := 2) (.slice a' l cap')
  have hR' : BlockAt (w1.setCell ⟨w.heap.size + 1 + 1, 2, none⟩ (.slice a' l cap')) (w.heap.size + 1) #[.int .i64 0, .int .i64 0, .slice none 0 0] 50 := hR.setOther _ (by omega)
  have hzk := Below.size hk
  simp only [World.size_alloc] at hzk
  have c2 := (box3 h3).2.2
  have f2 := h3.free 2
  obtain ⟨d0, d1, d2⟩ := box3 h3'
  have hgr := grown_set w1 (w.heap.size + 1 + 1) 2 (.slice a' l cap')
  have HB := Lib.hid hb
  have HG := Lib.hid hg
  have HR := Lib.hid hR'
  have HK := Lib.hid hK
  have HZK := Lib.hid hzk
  have HGR := Lib.hid hgr
  clear hb hg hk h3 hR hK h3' hR' hzk hgr
  go_wp2_with (refine wpList_store_block rfl 50 (.tmp 2) (.tmp 9) rfl _ #[.int .i64 r, .int .i64 c, .slice a' l cap'] #[.int .i64 0, .int .i64 0, .slice none 0 0] 50 rfl rfl HR.out Try.infoMat rfl (one3 _ _ _ _ _) ?_)
  have g2 := grown_row (w1.setCell ⟨w.heap.size + 1 + 1, 2, none⟩ (.slice a' l cap')) (w.heap.size + 1) #[.int .i64 r, .int .i64 c, .slice a' l cap']
  refine bodyPost_ret (v := .agg #[.int .i64 r, .int .i64 c, .slice a' l cap']) ?_ rfl ⟨a', cap', rfl, hcl, ?_, fun h0 => ?_, ?_⟩
  · exact results_cell_row rfl _ _ (w.heap.size + 1) 50 #[.int .i64 r, .int .i64 c, .slice a' l cap'] (0, 0) _ rfl (HR.out.setRow _) Try.underlying50 rfl Try.infoMat
  · by_cases h0 : 0 < l
    · obtain ⟨g, cs, hga, hgb, hgk⟩ := HG.out h0
      simp only [World.size_alloc] at hgb
      obtain ⟨b, off, ha, hc⟩ := HB.out.cells
      have := ha h0
      rw [hga] at this
      cases this
      exact ⟨g, 0, fun _ => hga, fun i hi => by
        have h1 := (hc i hi).2
        have h2 := (World.cell?_of_block (a := ⟨g, 0 + i, none⟩) (HGR.out.block g (hc i hi).1 (by simp; omega))).trans h1
        have h3 := (World.cell?_of_block (a := ⟨g, 0 + i, none⟩) (g2.block g (cell_lt h2) (by simp; omega))).trans h2
        exact ⟨cell_lt h3, h3⟩⟩
    · obtain rfl : l = 0 := by omega
      exact ByIn.empty _ _ _
  · obtain ⟨g, cs, hga, hgb, hgk⟩ := HG.out h0
    simp only [World.size_alloc] at hgb
    exact ⟨g, cs, hga, by omega, (hgk.grown HGR.out (by simp; omega)).grown g2 (by simp; omega)⟩
  · exact (Kept.grown HK.out HGR.out (fun k e => by cases e; omega)).grown g2 (fun k e => by cases e; omega)
end Go.Proofs.Ytlpjpeonejbpjaa
