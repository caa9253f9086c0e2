/- From and Users of any things; spoiling what is told (no conditions but that lengths fit). -/
import Derived.Test.YtdllenoclnmmdaaTsH
namespace Go.Proofs.Ytdllenoclnmmdaa
open Go.RowKit Go.Shelf
attribute [local go_sem] Oper.semAt_some

/-- the error of things that may not be -/
def cE (ts : List Th) : Int := if thsB ts = true then 0 else 1
def fF (ts : List Th) (rs : List ByteArray) : List ByteArray := if thsB ts = true then fromL ts rs else []
def uF (ts : List Th) (d : ByteArray) : List ByteArray := if thsB ts = true then usersL ts d else []
/-- texts, and if there are any: in a block of their own; an error -/
def TextsQ (w : World) (ss : List ByteArray) (E : Int) (e : Ending) (w' : World) : Prop := ∃ a c, e = .returned (.tuple #[.slice a ss.length c, .int .i64 E]) ∧ StrsIn w' a ss.length ss ∧ Kept w w' ∧
  (0 < ss.length → ∃ g, a = some ⟨g, 0, none⟩ ∧ w.heap.size ≤ g ∧ ∃ cs, BlockAt w' g cs 9)
theorem from_any (ax : Option Addr) (l cap : Nat) (ts : List Th) (ar : Option Addr) (lr cr : Nat) (rs : List ByteArray) (wo : World) (h : ThsIn wo ax l ts) (hr : StrsIn wo ar lr rs) (hlr : lr ≤ 1000000) :
    Calls Try.prog 29 #[.slice ax l cap, .slice ar lr cr] wo (TextsQ wo (fF ts rs) (cE ts)) := by
  unfold fF cE
  cases hB : thsB ts with
  | true =>
    refine (from_good ax l cap ts ar lr cr rs wo h hr hlr hB).mono ?_
    rintro e w' ⟨g, c, h1, h2, h3, h4, h5⟩
    exact ⟨_, c, h1, h2, h3, fun _ => ⟨g, rfl, h4, h5⟩⟩
  | false =>
    refine (from_bad ax l cap ts ar lr cr wo h hB).mono ?_
    rintro e w' ⟨a, c, h1, h2, h3⟩
    exact ⟨a, c, h1, h2, h3, fun q => absurd q (Nat.lt_irrefl 0)⟩
theorem users_any (ax : Option Addr) (l cap : Nat) (ts : List Th) (d : ByteArray) (wo : World) (h : ThsIn wo ax l ts) :
    Calls Try.prog 32 #[.slice ax l cap, .string d] wo (TextsE wo (uF ts d) (cE ts)) := by
  unfold uF cE
  cases hB : thsB ts with
  | true => exact users_good ax l cap ts d wo h hB
  | false => exact users_bad ax l cap ts d wo h hB
theorem cE_zero (ts : List Th) : (cE ts == 0) = thsB ts := by
  unfold cE
  cases thsB ts <;> rfl
theorem fF_len (ts : List Th) (rs : List ByteArray) : (fF ts rs).length ≤ 60 := by
  unfold fF
  cases h : thsB ts with
  | false => exact Nat.zero_le _
  | true =>
    have h60 := thsB_few h
    have := List.length_filter_le (rchB ts rs) (List.range ts.length)
    rw [List.length_range] at this
    unfold fromL
    rw [if_pos rfl, List.length_map]
    omega
theorem spoil_zero (a : Option Addr) (cap : Nat) (w : World) : Calls Try.prog 18 #[.slice a 0 cap] w fun e w' => (∃ u, e = .returned u) ∧ w = w' := by
  go_enter Try.func18, Try.ntmps18
  go_wp2_with fail
  go_loopw [2] (fun i wr => i = .int .i64 0 ∧ w = wr) (fun _ _ => 0)
  case atStart => exact ⟨rfl, rfl⟩
  case round =>
    obtain ⟨rfl, rfl⟩ := hrel
    go_wp2
    go_end0
    exact ⟨⟨_, rfl⟩, rfl⟩
/-- what is told lies behind a world that was: spoiling it keeps that world -/
def OwnQ (w0 w : World) (a : Option Addr) (ss : List ByteArray) : Prop := 0 < ss.length → ∃ g, a = some ⟨g, 0, none⟩ ∧ w0.heap.size ≤ g ∧ ∃ cs, BlockAt w g cs 9
theorem OwnQ.kept {w0 w w' : World} {a : Option Addr} {ss : List ByteArray} (h : OwnQ w0 w a ss) (k : Kept w w') : OwnQ w0 w' a ss := fun q => by
  obtain ⟨g, h1, h2, cs, h3⟩ := h q
  exact ⟨g, h1, h2, cs, BlockAt.kept h3 k⟩
theorem spoil_q (w0 w : World) (a : Option Addr) (cap : Nat) (ss : List ByteArray) (hs : StrsIn w a ss.length ss) (ho : OwnQ w0 w a ss) (hl : ss.length ≤ 2000000) (hk : Kept w0 w) :
    Calls Try.prog 18 #[.slice a ss.length cap] w fun e w' => (∃ u, e = .returned u) ∧ Kept w0 w' := by
  by_cases h0 : ss.length = 0
  · rw [h0]
    exact (spoil_zero a cap w).mono fun e w' ⟨h1, h2⟩ => ⟨h1, h2 ▸ hk⟩
  · obtain ⟨g, rfl, hg, hb⟩ := ho (by omega)
    refine (spoil_nm g ss.length cap (fun j => ss.getD j ByteArray.empty) hl w hb (fun j hj => by have := hs.cell_of j hj; rwa [Nat.zero_add] at this)).mono ?_
    rintro e w' ⟨h1, hgr⟩
    exact ⟨h1, kept_gr hk hgr (fun r e => by cases e; exact hg)⟩
end Go.Proofs.Ytdllenoclnmmdaa
