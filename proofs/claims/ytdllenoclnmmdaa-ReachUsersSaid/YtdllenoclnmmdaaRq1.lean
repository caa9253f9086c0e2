/- What is reached, as plain lists: the walk that goes by a queue (nothing of the program). -/
import Derived.Test.YtdllenoclnmmdaaGh
namespace Go.Proofs.Ytdllenoclnmmdaa
open Go.RowKit

/-- who was seen, who is next -/
abbrev Sq := List Bool × List Nat
def mark1 (s : Sq) (m : Nat) : Sq := if s.1.getD m false = true then s else (s.1.set m true, s.2 ++ [m])
def marks (s : Sq) (ms : List Nat) : Sq := ms.foldl mark1 s
theorem marks_snoc (s : Sq) (ms : List Nat) (m : Nat) : marks s (ms ++ [m]) = mark1 (marks s ms) m := by simp [marks]
theorem mark1_true {s : Sq} {m : Nat} (h : s.1.getD m false = true) : mark1 s m = s := by unfold mark1; rw [if_pos h]
theorem mark1_false {s : Sq} {m : Nat} (h : s.1.getD m false = false) : mark1 s m = (s.1.set m true, s.2 ++ [m]) := by unfold mark1; rw [if_neg (by rw [h]; exact Bool.false_ne_true)]
/-- told, seen, next behind k steps -/
def runB (ll : List (List Nat)) (s0 : Sq) : Nat → List Nat × Sq
  | 0 => ([], s0)
  | k + 1 => match (runB ll s0 k).2.2 with
    | [] => runB ll s0 k
    | n :: r => ((runB ll s0 k).1 ++ [n], marks ((runB ll s0 k).2.1, r) (ll.getD n []))
/-- reached from these -/
inductive Rch (ll : List (List Nat)) (rs : List Nat) : Nat → Prop
  | root {n : Nat} : n ∈ rs → Rch ll rs n
  | step {n m : Nat} : Rch ll rs n → m ∈ ll.getD n [] → Rch ll rs m
theorem set_at (l : List Bool) (m i : Nat) (hm : m < l.length) : (l.set m true).getD i false = (decide (i = m) || l.getD i false) := by
  by_cases e : m = i
  · subst e; simp [List.getD, hm]
  · have e2 : i ≠ m := fun q => e q.symm
    simp [List.getD, List.getElem?_set_ne e, e2]
/-- told and next together: unlike, and just who was seen -/
structure SqOk (L : Nat) (y : List Nat) (s : Sq) : Prop where
  len : s.1.length = L
  nodup : (y ++ s.2).Nodup
  seen : ∀ i, i < L → (s.1.getD i false = true ↔ i ∈ y ++ s.2)
  lt : ∀ i ∈ y ++ s.2, i < L
theorem SqOk.mark {L : Nat} {y : List Nat} {s : Sq} (h : SqOk L y s) (m : Nat) (hm : m < L) : SqOk L y (mark1 s m) := by
  cases e : s.1.getD m false with
  | true => rw [mark1_true e]; exact h
  | false =>
    rw [mark1_false e]
    have hn : m ∉ y ++ s.2 := fun q => by rw [(h.seen m hm).2 q] at e; cases e
    refine ⟨by rw [List.length_set]; exact h.len, ?_, fun i hi => ?_, fun i hi => ?_⟩
    · rw [← List.append_assoc, List.nodup_append]
      exact ⟨h.nodup, by simp, fun a ha b hb e2 => by rw [List.mem_singleton] at hb; subst hb; subst e2; exact hn ha⟩
    · have e3 : i ∈ y ++ (s.2 ++ [m]) ↔ (i ∈ y ++ s.2 ∨ i = m) := by simp [or_assoc]
      show _ ↔ i ∈ y ++ (s.2 ++ [m])
      rw [set_at _ _ _ (by rw [h.len]; exact hm), Bool.or_eq_true, decide_eq_true_iff, h.seen i hi, e3]
      exact or_comm
    · rw [← List.append_assoc] at hi
      rcases List.mem_append.1 hi with q | q
      · exact h.lt i q
      · rw [List.mem_singleton] at q; rw [q]; exact hm
theorem SqOk.marks {L : Nat} {y : List Nat} : ∀ {s : Sq} (ms : List Nat), SqOk L y s → (∀ m ∈ ms, m < L) → SqOk L y (marks s ms)
  | _, [], h, _ => h
  | s, m :: r, h, hm => SqOk.marks (s := mark1 s m) r (h.mark m (hm m (List.mem_cons_self))) (fun q hq => hm q (List.mem_cons_of_mem _ hq))
theorem SqOk.pop {L n : Nat} {y r : List Nat} {sn : List Bool} (h : SqOk L y (sn, n :: r)) : SqOk L (y ++ [n]) (sn, r) := by
  have e : y ++ [n] ++ r = y ++ n :: r := by simp
  refine ⟨h.len, ?_, fun i hi => ?_, fun i hi => ?_⟩
  · show (y ++ [n] ++ r).Nodup
    rw [e]; exact h.nodup
  · show _ ↔ i ∈ y ++ [n] ++ r
    rw [e]; exact h.seen i hi
  · have : i ∈ y ++ [n] ++ r := hi
    rw [e] at this; exact h.lt i this
theorem SqOk.start (L : Nat) : SqOk L [] (List.replicate L false, []) :=
  ⟨by simp, by simp, fun i hi => by simp [List.getD, hi], fun i hi => by cases hi⟩
theorem runB_ok {ll : List (List Nat)} {s0 : Sq} (hok : LkOk ll) (h0 : SqOk ll.length [] s0) : ∀ k, SqOk ll.length (runB ll s0 k).1 (runB ll s0 k).2
  | 0 => h0
  | k + 1 => by
    have ih := runB_ok hok h0 k
    unfold runB
    generalize runB ll s0 k = st at ih ⊢
    obtain ⟨y, sn, nx⟩ := st
    cases nx with
    | nil => exact ih
    | cons n r =>
      have hn : n < ll.length := ih.lt n (by simp)
      exact SqOk.marks _ ih.pop (fun m hm => hok n hn m hm)
theorem nodup_le : ∀ (L : Nat) (l : List Nat), l.Nodup → (∀ i ∈ l, i < L) → l.length ≤ L
  | 0, [], _, _ => Nat.le_refl _
  | 0, a :: r, _, h => absurd (h a List.mem_cons_self) (Nat.not_lt_zero a)
  | L + 1, l, hn, h => by
    by_cases hm : L ∈ l
    · have := nodup_le L (l.erase L) (hn.erase L) (fun i hi => by
        have h1 := (hn.mem_erase_iff).1 hi
        have := h i h1.2
        have := h1.1
        omega)
      rw [List.length_erase_of_mem hm] at this
      omega
    · have := nodup_le L l hn (fun i hi => by
        have := h i hi
        have : i ≠ L := fun e => hm (e ▸ hi)
        omega)
      omega
theorem SqOk.bound {L : Nat} {y : List Nat} {s : Sq} (h : SqOk L y s) : y.length + s.2.length ≤ L := by
  rw [← List.length_append]
  exact nodup_le L _ h.nodup h.lt
/-- how many were not seen -/
def unseen (s : List Bool) : Nat := s.count false
theorem runB_stop {ll : List (List Nat)} {s0 : Sq} {k : Nat} (h : (runB ll s0 k).2.2 = []) : ∀ j, runB ll s0 (k + j) = runB ll s0 k
  | 0 => rfl
  | j + 1 => by
    have ih := runB_stop h j
    show (match (runB ll s0 (k + j)).2.2 with | [] => runB ll s0 (k + j) | n :: r => _) = _
    rw [ih, h]
theorem runB_len {ll : List (List Nat)} {s0 : Sq} : ∀ k, (runB ll s0 k).2.2 ≠ [] → (runB ll s0 k).1.length = k
  | 0, _ => rfl
  | k + 1, h => by
    have ih := runB_len (ll := ll) (s0 := s0) k
    unfold runB at h ⊢
    cases e : (runB ll s0 k).2.2 with
    | nil => rw [e] at h; exact absurd e h
    | cons n r =>
      rw [e] at ih
      simp only []
      rw [List.length_append, ih (by simp)]; rfl
/-- all that is told, in its order -/
def walkB (ll : List (List Nat)) (s0 : Sq) : List Nat := (runB ll s0 ll.length).1
theorem walkB_of {ll : List (List Nat)} {s0 : Sq} {k : Nat} (hk : k ≤ ll.length) (h : (runB ll s0 k).2.2 = []) : walkB ll s0 = (runB ll s0 k).1 := by
  unfold walkB
  have := runB_stop h (ll.length - k)
  rw [show k + (ll.length - k) = ll.length by omega] at this
  rw [this]
theorem runB_end {ll : List (List Nat)} {s0 : Sq} (hok : LkOk ll) (h0 : SqOk ll.length [] s0) : (runB ll s0 ll.length).2.2 = [] := by
  cases e : (runB ll s0 ll.length).2.2 with
  | nil => rfl
  | cons n r =>
    have h1 := runB_len (ll := ll) (s0 := s0) ll.length (by rw [e]; simp)
    have h2 := (runB_ok hok h0 ll.length).bound
    rw [h1, e] at h2
    simp at h2
    omega
/-- marks: who was seen stays, who is marked is seen, nobody else -/
theorem mark1_mem (y : List Nat) (L : Nat) {s : Sq} (h : SqOk L y s) (m : Nat) (hm : m < L) : ∀ i, i ∈ (mark1 s m).2 ↔ (i ∈ s.2 ∨ (i = m ∧ i ∉ y ++ s.2)) := by
  intro i
  cases e : s.1.getD m false with
  | true =>
    rw [mark1_true e]
    have := (h.seen m hm).1 e
    constructor
    · exact .inl
    · rintro (q | ⟨rfl, q⟩)
      · exact q
      · exact absurd this q
  | false =>
    rw [mark1_false e]
    have hn : m ∉ y ++ s.2 := fun q => by rw [(h.seen m hm).2 q] at e; cases e
    show i ∈ s.2 ++ [m] ↔ _
    rw [List.mem_append, List.mem_singleton]
    constructor
    · rintro (q | rfl)
      · exact .inl q
      · exact .inr ⟨rfl, hn⟩
    · rintro (q | ⟨q, _⟩)
      · exact .inl q
      · exact .inr q
theorem marks_mem (y : List Nat) (L : Nat) : ∀ {s : Sq} (ms : List Nat), SqOk L y s → (∀ m ∈ ms, m < L) → ∀ i, (i ∈ y ++ (marks s ms).2 ↔ i ∈ y ++ s.2 ∨ i ∈ ms)
  | s, [], _, _, i => by simp [marks]
  | s, m :: r, h, hm, i => by
    have hm0 := hm m List.mem_cons_self
    have ih := marks_mem y L r (h.mark m hm0) (fun q hq => hm q (List.mem_cons_of_mem _ hq)) i
    have h1 := mark1_mem y L h m hm0 i
    show i ∈ y ++ (marks (mark1 s m) r).2 ↔ _
    rw [ih, List.mem_append, h1, List.mem_append, List.mem_cons]
    constructor
    · rintro ((q | q | ⟨q, _⟩) | q)
      · exact .inl (.inl q)
      · exact .inl (.inr q)
      · exact .inr (.inl q)
      · exact .inr (.inr q)
    · rintro ((q | q) | q | q)
      · exact .inl (.inl q)
      · exact .inl (.inr (.inl q))
      · by_cases hh : i ∈ y ∨ i ∈ s.2
        · rcases hh with k | k
          · exact .inl (.inl k)
          · exact .inl (.inr (.inl k))
        · exact .inl (.inr (.inr ⟨q, hh⟩))
      · exact .inr q
def start0 (L : Nat) (rs : List Nat) : Sq := marks (List.replicate L false, []) rs
theorem start0_ok {L : Nat} {rs : List Nat} (h : ∀ r ∈ rs, r < L) : SqOk L [] (start0 L rs) := SqOk.marks _ (SqOk.start L) h
/-- the walk tells just what is reached -/
structure Told (ll : List (List Nat)) (rs : List Nat) (y : List Nat) (s : Sq) : Prop where
  sound : ∀ i ∈ y ++ s.2, Rch ll rs i
  roots : ∀ r ∈ rs, r ∈ y ++ s.2
  closed : ∀ i ∈ y, ∀ m ∈ ll.getD i [], m ∈ y ++ s.2
theorem runB_told {ll : List (List Nat)} {rs : List Nat} (hok : LkOk ll) (hrs : ∀ r ∈ rs, r < ll.length) : ∀ k, Told ll rs (runB ll (start0 ll.length rs) k).1 (runB ll (start0 ll.length rs) k).2
  | 0 => by
    have hm := marks_mem [] ll.length rs (SqOk.start ll.length) hrs
    refine ⟨fun i hi => ?_, fun r hr => ?_, fun i hi => by cases hi⟩
    · rcases (hm i).1 hi with q | q
      · cases q
      · exact .root q
    · exact (hm r).2 (.inr hr)
  | k + 1 => by
    have ih := runB_told hok hrs k
    have hk := runB_ok hok (start0_ok hrs) k
    unfold runB
    generalize runB ll (start0 ll.length rs) k = st at ih hk ⊢
    obtain ⟨y, sn, nx⟩ := st
    cases nx with
    | nil => exact ih
    | cons n r =>
      have hn : n < ll.length := hk.lt n (by simp)
      have hm := marks_mem (y ++ [n]) ll.length (ll.getD n []) hk.pop (fun m hm => hok n hn m hm)
      have e : ∀ i, i ∈ y ++ [n] ++ r ↔ i ∈ y ++ n :: r := fun i => by simp
      refine ⟨fun i hi => ?_, fun q hq => ?_, fun i hi m hmm => ?_⟩
      · rcases (hm i).1 hi with q | q
        · exact ih.sound i ((e i).1 q)
        · exact .step (ih.sound n (by simp)) q
      · exact (hm q).2 (.inl ((e q).2 (ih.roots q hq)))
      · rcases List.mem_append.1 hi with q | q
        · exact (hm m).2 (.inl ((e m).2 (ih.closed i q m hmm)))
        · rw [List.mem_singleton] at q; subst q
          exact (hm m).2 (.inr hmm)
theorem walkB_iff {ll : List (List Nat)} {rs : List Nat} (hok : LkOk ll) (hrs : ∀ r ∈ rs, r < ll.length) (i : Nat) : i ∈ walkB ll (start0 ll.length rs) ↔ Rch ll rs i := by
  have hT := runB_told hok hrs ll.length
  have hE := runB_end hok (start0_ok hrs)
  unfold walkB
  obtain ⟨h1, h2, h3⟩ := hT
  rw [hE, List.append_nil] at h1 h2 h3
  refine ⟨fun h => h1 i h, fun h => ?_⟩
  induction h with
  | root hr => exact h2 _ hr
  | step _ hm ih => exact h3 _ ih _ hm
theorem walkB_nodup {ll : List (List Nat)} {rs : List Nat} (hok : LkOk ll) (hrs : ∀ r ∈ rs, r < ll.length) : (walkB ll (start0 ll.length rs)).Nodup ∧ ∀ i ∈ walkB ll (start0 ll.length rs), i < ll.length := by
  have h := runB_ok hok (start0_ok hrs) ll.length
  exact ⟨(List.nodup_append.1 h.nodup).1, fun i hi => h.lt i (List.mem_append.2 (.inl hi))⟩
end Go.Proofs.Ytdllenoclnmmdaa
