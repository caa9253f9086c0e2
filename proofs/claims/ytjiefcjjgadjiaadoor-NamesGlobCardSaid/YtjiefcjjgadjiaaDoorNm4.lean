/- names.read, by what it answers (a text of no great length; bytealg's limit lies as a number). -/
import Derived.Test.YtjiefcjjgadjiaaDoorNmC
import Derived.Test.YtjiefcjjgadjiaaDoorHp
namespace Go.Proofs.YtjiefcjjgadjiaaDoor
open Go.RowKit Go.Shelf
attribute [local go_sem] Oper.semAt_some

/-- what names.read tells -/
noncomputable def readV (s : ByteArray) : Value := if nameB s = true then .tuple #[.string (pathB s), .string (verOf s), .bool true] else .tuple #[.string ⟨#[]⟩, .string ⟨#[]⟩, .bool false]
theorem readV_bad (s : ByteArray) (h : nameB s = false) : readV s = .tuple #[.string ⟨#[]⟩, .string ⟨#[]⟩, .bool false] := by unfold readV; rw [h]; rfl
theorem readV_good (s : ByteArray) (h : nameB s = true) : readV s = .tuple #[.string (pathB s), .string (verOf s), .bool true] := by unfold readV; rw [if_pos h]
theorem block_set_same {W : World} {b : Nat} {x v : Value} {t : TypeId} (h : BlockAt W b #[x] t) : BlockAt (W.setCell ⟨b, 0, none⟩ v) b #[v] t := by have := h.set (i := 0) v; simpa using this
theorem block_set_other {W : World} {b b' : Nat} {v : Value} {C : Array Value} {t : TypeId} (h : BlockAt W b C t) (hne : b ≠ b') : BlockAt (W.setCell ⟨b', 0, none⟩ v) b C t :=
  (Below.heap_setCell W ⟨b', 0, none⟩ v b hne).trans h
/-- the three results' cells -/
structure Cells3 (wo : World) (p : Nat) (a b : ByteArray) (c : Bool) (W : World) : Prop where
  x : BlockAt W p #[.string a] 9
  y : BlockAt W (p + 1) #[.string b] 9
  z : BlockAt W (p + 2) #[.bool c] 4
  k : Kept wo W
  p : wo.heap.size ≤ p
theorem Cells3.kept {wo W W' : World} {p : Nat} {a b : ByteArray} {c : Bool} (h : Cells3 wo p a b c W) (k : Kept W W') : Cells3 wo p a b c W' := ⟨h.x.kept k, h.y.kept k, h.z.kept k, h.k.trans k, h.p⟩
theorem Cells3.setX {wo W : World} {p : Nat} {a b : ByteArray} {c : Bool} (h : Cells3 wo p a b c W) (a' : ByteArray) : Cells3 wo p a' b c (W.setCell ⟨p, 0, none⟩ (.string a')) :=
  ⟨block_set_same h.x, block_set_other h.y (by omega), block_set_other h.z (by omega), h.k.setCell (p := ⟨p, 0, none⟩) h.p _, h.p⟩
theorem Cells3.setY {wo W : World} {p : Nat} {a b : ByteArray} {c : Bool} (h : Cells3 wo p a b c W) (b' : ByteArray) : Cells3 wo p a b' c (W.setCell ⟨p + 1, 0, none⟩ (.string b')) :=
  ⟨block_set_other h.x (by omega), block_set_same h.y, block_set_other h.z (by omega), h.k.setCell (p := ⟨p + 1, 0, none⟩) (by have := h.p; show wo.heap.size ≤ p + 1; omega) _, h.p⟩
theorem Cells3.setZ {wo W : World} {p : Nat} {a b : ByteArray} {c : Bool} (h : Cells3 wo p a b c W) (c' : Bool) : Cells3 wo p a b c' (W.setCell ⟨p + 2, 0, none⟩ (.bool c')) :=
  ⟨block_set_other h.x (by omega), block_set_other h.y (by omega), block_set_same h.z, h.k.setCell (p := ⟨p + 2, 0, none⟩) (by have := h.p; show wo.heap.size ≤ p + 2; omega) _, h.p⟩
theorem Cells3.cells {wo W : World} {p : Nat} {a b : ByteArray} {c : Bool} (h : Cells3 wo p a b c W) : (W.cell? ⟨p, 0, none⟩ = some (.string a) ∧ W.cell? ⟨p + 1, 0, none⟩ = some (.string b) ∧ W.cell? ⟨p + 2, 0, none⟩ = some (.bool c)) ∧ (W.frozen? ⟨p, 0, none⟩ = false ∧ W.frozen? ⟨p + 1, 0, none⟩ = false ∧ W.frozen? ⟨p + 2, 0, none⟩ = false) :=
  ⟨⟨box1 h.x, box1 h.y, box1 h.z⟩, h.x.free 0, h.y.free 0, h.z.free 0⟩
theorem Cells3.new (wo : World) : Cells3 wo wo.heap.size ⟨#[]⟩ ⟨#[]⟩ false (((wo.alloc (.cells #[.string ⟨#[]⟩] 9)).alloc (.cells #[.string ⟨#[]⟩] 9)).alloc (.cells #[.bool false] 4)) :=
  ⟨(BlockAt.new wo _ _).kept (((Kept.refl _).alloc _).alloc _), (BlockAt.new1 wo #[.string ⟨#[]⟩] 9 _).kept ((Kept.refl _).alloc _), by
    have h := BlockAt.new1 (wo.alloc (.cells #[.string ⟨#[]⟩] 9)) #[.bool false] 4 (.cells #[.string ⟨#[]⟩] 9)
    simpa using h, (((Kept.refl wo).alloc _).alloc _).alloc _, Nat.le_refl _⟩
set_option maxRecDepth 100000 in
set_option maxHeartbeats 4000000 in
theorem read_early (s : ByteArray) (m : Int) (wo : World) (hs : s.size ≤ 1000000) (hm : wo.cell? ⟨0, 0, none⟩ = some (.int .i64 m)) (hg : 0 < wo.heap.size) (hb : nameB s = false) (hw : 40 < s.size ∨ (hasB s = true ∧ versB (rawV s).data.toList = false)) :
    Calls Tryd.prog 24 #[.string s] wo fun e w' => e = .returned (readV s) ∧ Kept wo w' := by
  rw [readV_bad s hb]
  have HG := Lib.hid (fun w (k : Kept wo w) => show w.cell? ⟨0, 0, none⟩ = some (.int .i64 m) from k.cell hg hm)
  have HVL := Lib.hid (fun w => version_nm (rawV s) w (by have := rawV_size s; omega))
  have HC1 := Lib.hid (Cells3.new wo)
  clear hm hg
  go_enter Tryd.func24, Tryd.ntmps24
  go_upto_region 1 with (fail)
  generalize ((wo.alloc (.cells #[.string ⟨#[]⟩] 9)).alloc (.cells #[.string ⟨#[]⟩] 9)).alloc (.cells #[.bool false] 4) = w1 at *
  have hp12 : wo.heap.size + 1 + 1 = wo.heap.size + 2 := rfl
  rw [hp12]
  clear hp12
  generalize hp : wo.heap.size = p at HC1 ⊢
  clear hp
  go_wp2_with fail
  refine (cut_nm s m _ (by omega) (HG.out _ HC1.out.k)).mono ?_
  rintro e w2 ⟨rfl, hk2⟩
  have HC2 := Lib.hid (HC1.out.kept hk2)
  clear hk2
  obtain ⟨⟨c0, c1, c2⟩, f0, f1, f2⟩ := HC2.out.cells
  go_upto_region 2 with (fail)
  have HC3 := Lib.hid ((HC2.out.setX (pathB s)).setY (rawV s))
  clear c0 c1 c2 f0 f1 f2
  generalize (w2.setCell ⟨p, 0, none⟩ (.string (pathB s))).setCell ⟨p + 1, 0, none⟩ (.string (rawV s)) = w3 at *
  by_cases h40 : s.size ≤ 40
  · have hd1 : decide ((40 : Int) < s.size) = false := decide_eq_false (by omega)
    obtain ⟨hh, hv⟩ : hasB s = true ∧ versB (rawV s).data.toList = false := by
      rcases hw with h | h
      · omega
      · exact h
    rw [hh]
    obtain ⟨⟨c0, c1, c2⟩, f0, f1, f2⟩ := HC3.out.cells
    go_wp2_with fail
    refine (HVL.out _).mono ?_
    rintro e w4 ⟨rfl, rfl⟩
    rw [hv]
    have HC4 := Lib.hid (((HC3.out.setX ⟨#[]⟩).setY ⟨#[]⟩).setZ false)
    obtain ⟨⟨c3, c4, c5⟩, _⟩ := HC4.out.cells
    go_wp2
    exact bodyPost_ret (v := .tuple #[.string ⟨#[]⟩, .string ⟨#[]⟩, .bool false]) (by simp [results, Tryd.f24, go_sem, c3, c4, c5]) rfl ⟨rfl, HC4.out.k⟩
  · have hd1 : decide ((40 : Int) < s.size) = true := decide_eq_true (by omega)
    obtain ⟨⟨c0, c1, c2⟩, f0, f1, f2⟩ := HC3.out.cells
    have HC4 := Lib.hid (((HC3.out.setX ⟨#[]⟩).setY ⟨#[]⟩).setZ false)
    obtain ⟨⟨c3, c4, c5⟩, _⟩ := HC4.out.cells
    go_wp2
    exact bodyPost_ret (v := .tuple #[.string ⟨#[]⟩, .string ⟨#[]⟩, .bool false]) (by simp [results, Tryd.f24, go_sem, c3, c4, c5]) rfl ⟨rfl, HC4.out.k⟩
end Go.Proofs.YtjiefcjjgadjiaaDoor
