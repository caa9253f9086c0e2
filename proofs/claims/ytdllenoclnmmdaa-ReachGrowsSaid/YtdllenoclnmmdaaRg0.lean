/- What is reached: more from more, nothing more from itself, all that it names (pure). -/
import Derived.Test.YtdllenoclnmmdaaRtU
namespace Go.Proofs.Ytdllenoclnmmdaa
open Go.RowKit Go.Shelf

theorem mem_fromL {ts : List Th} {rs : List ByteArray} {d : ByteArray} : d ∈ fromL ts rs ↔ ∃ i, i < ts.length ∧ Rch (lkF ts) (lkD ts rs) i ∧ dOf ts i = d := by
  unfold fromL
  rw [List.mem_map]
  constructor
  · rintro ⟨i, hi, rfl⟩
    rw [List.mem_filter, List.mem_range] at hi
    exact ⟨i, hi.1, (rchB_iff ts rs i).1 hi.2, rfl⟩
  · rintro ⟨i, hi, hr, rfl⟩
    exact ⟨i, by rw [List.mem_filter, List.mem_range]; exact ⟨hi, (rchB_iff ts rs i).2 hr⟩, rfl⟩
theorem Rch.mono {ll : List (List Nat)} {rs qs : List Nat} (h : ∀ r ∈ rs, Rch ll qs r) {i : Nat} (hr : Rch ll rs i) : Rch ll qs i := by
  induction hr with
  | root hr => exact h _ hr
  | step _ hm ih => exact .step ih hm
theorem fd_dOf {ts : List Th} (hr : riB (digs ts) = true) {i : Nat} (hi : i < ts.length) : fdF ts (dOf ts i) = true ∧ lbF ts (dOf ts i) = i := by
  have e : lbF ts (dOf ts i) = i := lbF_of ts i (by omega) (fun j hj => th_lt hr hj hi) (fun _ => ltB_irrefl _)
  refine ⟨?_, e⟩
  unfold fdF
  rw [e]
  exact decide_eq_true ⟨hi, rfl⟩
theorem fd_lt {ts : List Th} {d : ByteArray} (h : fdF ts d = true) : lbF ts d < ts.length ∧ dOf ts (lbF ts d) = d := by
  unfold fdF at h
  exact of_decide_eq_true h
/-- from more roots no less -/
theorem from_mono {ts : List Th} {rs qs : List ByteArray} (h : ∀ r ∈ rs, r ∈ qs) {d : ByteArray} (hd : d ∈ fromL ts rs) : d ∈ fromL ts qs := by
  obtain ⟨i, hi, hr, rfl⟩ := mem_fromL.1 hd
  refine mem_fromL.2 ⟨i, hi, hr.mono (fun r hr => .root ?_), rfl⟩
  obtain ⟨x, hx, h1, h2⟩ := lkD_mem.1 hr
  exact lkD_mem.2 ⟨x, h x hx, h1, h2⟩
/-- from what is reached nothing more -/
theorem from_again {ts : List Th} (hB : thsB ts = true) (rs : List ByteArray) : fromL ts (fromL ts rs) = fromL ts rs := by
  have hri := thsB_ri hB
  have key : ∀ i, i < ts.length → rchB ts (fromL ts rs) i = rchB ts rs i := fun i hi => by
    rw [Bool.eq_iff_iff, rchB_iff, rchB_iff]
    constructor
    · intro h
      refine h.mono (fun r hr => ?_)
      obtain ⟨x, hx, h1, h2⟩ := lkD_mem.1 hr
      obtain ⟨j, hj, hrj, rfl⟩ := mem_fromL.1 hx
      rw [(fd_dOf hri hj).2] at h2
      exact h2 ▸ hrj
    · intro h
      exact .root (lkD_mem.2 ⟨dOf ts i, mem_fromL.2 ⟨i, hi, h, rfl⟩, (fd_dOf hri hi).1, (fd_dOf hri hi).2⟩)
  show ((List.range ts.length).filter (rchB ts (fromL ts rs))).map (dOf ts) = ((List.range ts.length).filter (rchB ts rs)).map (dOf ts)
  rw [List.filter_congr (fun i hi => key i (List.mem_range.1 hi))]
theorem at_dOf {ts : List Th} (hr : riB (digs ts) = true) {i : Nat} (hi : i < ts.length) : atZ ts (dOf ts i) = (i : Int) := by
  obtain ⟨h1, h2⟩ := at_lb hr (dOf ts i)
  obtain ⟨h3, h4⟩ := fd_dOf hr hi
  have h5 : atF ts (dOf ts i) < ts.length := of_decide_eq_true (by rw [← h1]; exact h3)
  unfold atZ
  rw [if_pos h5, ← h2 h5, h4]
/-- who is reached reaches all that it names -/
theorem from_names {ts : List Th} (hB : thsB ts = true) {rs : List ByteArray} {i : Nat} (hi : i < ts.length) (hd : dOf ts i ∈ fromL ts rs) {x : ByteArray} (hx : x ∈ nmF (ts.getD i th00)) (h0 : ¬ atZ ts x < 0) : x ∈ fromL ts rs := by
  have hri := thsB_ri hB
  obtain ⟨j, hj, hr, e⟩ := mem_fromL.1 hd
  obtain rfl := dOf_inj hri hj hi e
  have hf : fdF ts x = true := by
    obtain ⟨h1, _⟩ := at_lb hri x
    rw [h1]
    have := atZ_neg ts x
    rw [decide_eq_false h0] at this
    simpa using this.symm
  refine mem_fromL.2 ⟨lbF ts x, (fd_lt hf).1, .step hr ?_, (fd_lt hf).2⟩
  rw [lkF_at ts j hi]
  exact lkD_mem.2 ⟨x, hx, hf, rfl⟩
theorem pw_getD {L : List ByteArray} (hp : L.Pairwise (fun x y => ltB x y = true)) (k : Nat) (hk : k + 1 < L.length) : ltB (L.getD k ByteArray.empty) (L.getD (k + 1) ByteArray.empty) = true := by
  have := List.pairwise_iff_getElem.1 hp k (k + 1) (by omega) hk (by omega)
  simpa [List.getD, show k < L.length by omega, hk] using this
/-- what is told rises -/
theorem from_rise {ts : List Th} (hB : thsB ts = true) (rs : List ByteArray) (k : Nat) (hk : k + 1 < (fromL ts rs).length) : ltB ((fromL ts rs).getD k ByteArray.empty) ((fromL ts rs).getD (k + 1) ByteArray.empty) = true := by
  have hri := thsB_ri hB
  have hp : (((List.range ts.length).filter (rchB ts rs)).map (dOf ts)).Pairwise (fun x y => ltB x y = true) := by
    rw [List.pairwise_map]
    have h1 : ((List.range ts.length).filter (rchB ts rs)).Pairwise (· < ·) := List.Pairwise.filter _ List.pairwise_lt_range
    refine List.Pairwise.imp_of_mem ?_ h1
    intro a b _ hb hab
    rw [List.mem_filter, List.mem_range] at hb
    exact th_lt hri hab hb.1
  exact pw_getD (L := fromL ts rs) hp k hk
theorem from_at {ts : List Th} {rs : List ByteArray} {k : Nat} (hk : k < (fromL ts rs).length) : ∃ i, i < ts.length ∧ (fromL ts rs).getD k ByteArray.empty = dOf ts i ∧ dOf ts i ∈ fromL ts rs := by
  have hm : (fromL ts rs).getD k ByteArray.empty ∈ fromL ts rs := by
    simp [List.getD, hk]
  obtain ⟨i, hi, _, e⟩ := mem_fromL.1 hm
  exact ⟨i, hi, e.symm, e ▸ hm⟩
end Go.Proofs.Ytdllenoclnmmdaa
