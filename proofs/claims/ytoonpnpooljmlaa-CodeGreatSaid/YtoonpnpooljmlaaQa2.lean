/- Contracts of the code and of the reference, laid into one file: part 2 (what each says stands at its head). -/
import Derived.Test.YtoonpnpooljmlaaQa1
import Derived.SliceStrings
import Derived.ProofKit
import Derived.OpenShut
import Derived.WalkMore
import Derived.Sort.QuietIn
import Derived.StillTail

namespace Go.Proofs.Ytoonpnpooljmlaa
open Go.RowKit Go.Shelf

section
variable {F : Fence} {n : Nat} {P : Program} {b : Frame} {a : Act} {k : List Item} {cs : List Frame} {w : World} {Q : Exit → Act → World → Prop}
theorem stepR_scope {c : Code} : step P (lone (b.atR a (.code (.scope c) :: k)) cs w) = .next (lone (b.atR a (.code c :: .inScope c :: k)) cs w) :=
  step_lone_go (by simp [stepG, stepG.exec, Frame.atR])
theorem stepR_inScope {c : Code} : step P (lone (b.atR a (.inScope c :: k)) cs w) = .next (lone (b.atR a k) cs w) :=
  step_lone_go (by simp [stepG, stepG.exec, Frame.atR])
/-- A scope through which the run goes without a goto, inside any fence. -/
theorem wpIn_scope_any {c : Code} (h : c.wpIn F n P (Exit.noGoto Q) a w) : (Code.scope c).wpIn F n P Q a w := by
  intro b k cs hro hb hr
  have h0 : (lone (b.atR a (.code (.scope c) :: k)) cs w).fenced P F := fenced_calm hb hr rfl
  obtain ⟨e, a₁, w₁, hq, harr⟩ := h b (.inScope c :: k) cs hro hb hr
  cases e with
  | normal => exact ⟨.normal, a₁, w₁, hq, .head h0 stepR_scope (StepsIn.trans harr (.one (fenced_calm hb hr rfl) stepR_inScope))⟩
  | exit id =>
    have hx : exitTo id (.inScope c :: k) = exitTo id k := by simp [exitTo]
    exact ⟨.exit id, a₁, w₁, hq, fun k' hk => .head h0 stepR_scope (harr.1 k' (by rw [hx]; exact hk)),
      fun hr' hk => let ⟨k₁, h1, h2⟩ := harr.2 hr' (by rw [hx]; exact hk); ⟨k₁, h1, .head h0 stepR_scope h2⟩⟩
  | goto l => exact hq.elim
  | ret => exact ⟨_, a₁, w₁, hq, .of_steps (.one h0 stepR_scope) harr⟩
  | panic ch => exact ⟨_, a₁, w₁, hq, .of_steps (.one h0 stepR_scope) harr⟩
  | outgrown => exact ⟨_, a₁, w₁, hq, .of_steps (.one h0 stepR_scope) harr⟩
end
theorem ownFrom_but {β : Type} {B' : Nat} {R : Nat → Prop} (W₀ : World) : OwnFrom B' (fun (_ : β) W => CellsBut R W₀ W) := fun s A B row hs hg hr =>
  ⟨Nat.le_trans hs.size hg.size, fun k cs t fr hk hb => by
    have hA := hs.block k cs t fr hk hb
    have hlt : k < A.heap.size := (Array.getElem?_eq_some_iff.1 hA).1
    refine (hg.block k hlt (fun e => ?_)).trans hA
    obtain ⟨_, o, ho, hc⟩ := hr k e.symm
    rw [hA] at ho
    cases ho
    cases hc⟩
theorem keepsFrom_refl (B : Nat) (W : World) : KeepsFrom B W W := (KeepsOthers.refl W).from B
theorem wpIn_rangeFunc_S {F : Fence} {n : Nat} {P : Program} {α : Type} {g : Operand} {ps : Array Tmp} {assign body : Code} {Q : Exit → Act → World → Prop} {a : Act} {w : World}
    (hro : F.round = none) (h1 : 1 ≤ n) {gf : Nat} {lb : Array Value} (hg : a.eval g = .func (.func gf) #[] lb) (hFg : F.fn gf) (eg : ∀ args w, (callFunc gf args).run P w = .ok (.enter gf args) w)
    {encs : α → Array Value} {Kp : World → World → Prop} {S Sp : List α → Prop} {N : Nat} {w0 : World} (hseq : SeqStopsK F (n - 1) P gf lb encs Kp S Sp N w0)
    (hKr : ∀ A : World, Kp A A) (hKt : ∀ {A B C : World}, Kp A B → Kp B C → Kp A C) (hKb : ∀ (W : World) (l : Nat) (o o' : Obj), w.heap.size ≤ l → W.heap[l]? = some o → o.isCells = false → o.isWalk = false → Kp W (W.putObj l o')) (hb0 : Below w0.heap.size w0 w) (hps : ∀ x, (encs x).size = ps.size)
    (I : List α → World → Prop) (Ix : Code → List α → World → Prop) (hI : OwnFrom w.heap.size I) (hIx : ∀ c, OwnFrom w.heap.size (Ix c)) (h0 : I [] w)
    (hround : ∀ (l : Nat) (x : α) (W : World) (K : Act → World → Prop), (∀ a', (∀ (l : Nat) (pre : List α) (W : World), I pre W → pre.length < N → body.wpIn (F.inRound l) (n - 1 - 1) P (ownPostK Kp I Ix (pre ++ [x]) W) a' W) → K a' W) →
      assign.wpIn (F.inRound l) (n - 1 - 1) P (Exit.then K (fun _ _ _ => False)) { tmps := (ps.zip (encs x)).foldl (fun t (p, v) => t.setIfInBounds p v) a.tmps, defers := [] } W)
    (hdone : ∀ (D : Nat) (xs : List α) (W : World), w.heap.size ≤ D → S xs → I xs W → W.heap[D]? = some (.deferred (some [])) → Q .normal { a with defers := { target := .collected D, args := #[] } :: a.defers } W)
    (hstop : ∀ (D : Nat) (c : Code) (pre : List α) (W : World), w.heap.size ≤ D → Sp pre → Ix c pre W → W.heap[D]? = some (.deferred (some [])) → c.wpIn F n P Q { a with defers := { target := .collected D, args := #[] } :: a.defers } W) :
    (Code.rangeFunc g ps assign body).wpIn F n P Q a w := by
  refine wpIn_rangeFunc_ownH hro h1 hg hFg eg hseq (fun h k => hKt h k) hKb hb0 hps I Ix hI hIx h0
    (fun x a' _ => ∀ (l : Nat) (pre : List α) (W : World), I pre W → pre.length < N → body.wpIn (F.inRound l) (n - 1 - 1) P (ownPostK Kp I Ix (pre ++ [x]) W) a' W)
    (fun x a' => ownFrom_pure _ (fun _ => ∀ (l : Nat) (pre : List α) (W : World), I pre W → pre.length < N → body.wpIn (F.inRound l) (n - 1 - 1) P (ownPostK Kp I Ix (pre ++ [x]) W) a' W))
    (fun l pre x W K hi hK => hround l x W K (fun a' hb => hK a' W (keepsFrom_refl _ W) (hKr W) hi hb))
    (fun l pre x a' W _ _ hi hax hlen => wpIn_mono (hax l pre W hi hlen) ownPostG_of_ownPostK) hdone hstop
/-- The same where the assignments make blocks (a loop variable that an inner loop uses): what they made is told by a mark q and a word Bx on it. -/
theorem wpIn_rangeFunc_B {F : Fence} {n : Nat} {P : Program} {α β : Type} {g : Operand} {ps : Array Tmp} {assign body : Code} {Q : Exit → Act → World → Prop} {a : Act} {w : World}
    (hro : F.round = none) (h1 : 1 ≤ n) {gf : Nat} {lb : Array Value} (hg : a.eval g = .func (.func gf) #[] lb) (hFg : F.fn gf) (eg : ∀ args w, (callFunc gf args).run P w = .ok (.enter gf args) w)
    {encs : α → Array Value} {Kp : World → World → Prop} {S Sp : List α → Prop} {N : Nat} {w0 : World} (hseq : SeqStopsK F (n - 1) P gf lb encs Kp S Sp N w0)
    (hKt : ∀ {A B C : World}, Kp A B → Kp B C → Kp A C) (hKb : ∀ (W : World) (l : Nat) (o o' : Obj), w.heap.size ≤ l → W.heap[l]? = some o → o.isCells = false → o.isWalk = false → Kp W (W.putObj l o')) (hb0 : Below w0.heap.size w0 w) (hps : ∀ x, (encs x).size = ps.size)
    (I : List α → World → Prop) (Ix : Code → List α → World → Prop) (hI : OwnFrom w.heap.size I) (hIx : ∀ c, OwnFrom w.heap.size (Ix c)) (h0 : I [] w)
    (Bx : α → β → World → Prop) (hBx : ∀ x q, OwnFrom w.heap.size (fun (_ : Unit) W => Bx x q W))
    (hround : ∀ (l : Nat) (pre : List α) (x : α) (W : World) (K : Act → World → Prop), I pre W →
      (∀ a' W' q, KeepsFrom w.heap.size W W' → Kp W W' → I pre W' → Bx x q W' →
        (∀ (l : Nat) (pre : List α) (W : World), w.heap.size ≤ l → (∃ r, W.heap[l]? = some (.loop r)) → I pre W → Bx x q W → pre.length < N → body.wpIn (F.inRound l) (n - 1 - 1) P (ownPostG w.heap.size Kp I Ix (pre ++ [x]) W) a' W) → K a' W') →
      assign.wpIn (F.inRound l) (n - 1 - 1) P (Exit.then K (fun _ _ _ => False)) { tmps := (ps.zip (encs x)).foldl (fun t (p, v) => t.setIfInBounds p v) a.tmps, defers := [] } W)
    (hdone : ∀ (D : Nat) (xs : List α) (W : World), w.heap.size ≤ D → S xs → I xs W → W.heap[D]? = some (.deferred (some [])) → Q .normal { a with defers := { target := .collected D, args := #[] } :: a.defers } W)
    (hstop : ∀ (D : Nat) (c : Code) (pre : List α) (W : World), w.heap.size ≤ D → Sp pre → Ix c pre W → W.heap[D]? = some (.deferred (some [])) → c.wpIn F n P Q { a with defers := { target := .collected D, args := #[] } :: a.defers } W) :
    (Code.rangeFunc g ps assign body).wpIn F n P Q a w := by
  refine wpIn_rangeFunc_ownH hro h1 hg hFg eg hseq (fun h k => hKt h k) hKb hb0 hps I Ix hI hIx h0
    (fun x a' W => ∃ q, Bx x q W ∧ ∀ (l : Nat) (pre : List α) (W : World), w.heap.size ≤ l → (∃ r, W.heap[l]? = some (.loop r)) → I pre W → Bx x q W → pre.length < N → body.wpIn (F.inRound l) (n - 1 - 1) P (ownPostG w.heap.size Kp I Ix (pre ++ [x]) W) a' W)
    (fun x a' s A B row hs hg hr => by
      obtain ⟨q, hq, hb⟩ := hs
      exact ⟨q, hBx x q s A B row hq hg hr, hb⟩)
    (fun l pre x W K hi hK => hround l pre x W K hi (fun a' W' q k1 k2 k3 k4 k5 => hK a' W' k1 k2 k3 ⟨q, k4, k5⟩))
    (fun l pre x a' W hl hr hi hax hlen => by
      obtain ⟨q, hq, hb⟩ := hax
      exact hb l pre W hl hr hi hq hlen) hdone hstop
/-- Within a round of another range; the assignments make nothing. -/
theorem wpIn_rangeFunc_SN {F : Fence} {n : Nat} {P : Program} {α : Type} {g : Operand} {ps : Array Tmp} {assign body : Code} {Q : Exit → Act → World → Prop} {a : Act} {w : World}
    {l₀ : Nat} {r₀ : Loop} (hro : F.round = some l₀) (hl₀ : w.heap[l₀]? = some (.loop r₀)) (h1 : 1 ≤ n) {gf : Nat} {lb : Array Value} (hg : a.eval g = .func (.func gf) #[] lb) (hFg : F.fn gf) (eg : ∀ args w, (callFunc gf args).run P w = .ok (.enter gf args) w)
    {encs : α → Array Value} {Kp : World → World → Prop} {S Sp : List α → Prop} {N : Nat} {w0 : World} (hseq : SeqStopsK F (n - 1) P gf lb encs Kp S Sp N w0)
    (hKr : ∀ A : World, Kp A A) (hKt : ∀ {A B C : World}, Kp A B → Kp B C → Kp A C) (hKb : ∀ (W : World) (l : Nat) (o o' : Obj), w.heap.size ≤ l → W.heap[l]? = some o → o.isCells = false → o.isWalk = false → Kp W (W.putObj l o')) (hb0 : Below w0.heap.size w0 w) (hps : ∀ x, (encs x).size = ps.size)
    (I : List α → World → Prop) (Ix : Code → List α → World → Prop) (hI : OwnFrom w.heap.size I) (hIx : ∀ c, OwnFrom w.heap.size (Ix c)) (h0 : I [] w)
    (hround : ∀ (l : Nat) (x : α) (W : World) (K : Act → World → Prop), (∀ a', (∀ (l : Nat) (pre : List α) (W : World), I pre W → pre.length < N → body.wpIn (F.inRound l) (n - 1 - 1) P (ownPostK Kp I Ix (pre ++ [x]) W) a' W) → K a' W) →
      assign.wpIn (F.inRound l) (n - 1 - 1) P (Exit.then K (fun _ _ _ => False)) { tmps := (ps.zip (encs x)).foldl (fun t (p, v) => t.setIfInBounds p v) a.tmps, defers := [] } W)
    (hdone : ∀ (xs : List α) (W : World), S xs → I xs W → Q .normal a W)
    (hstop : ∀ (c : Code) (pre : List α) (W : World), Sp pre → Ix c pre W → c.wpIn F n P Q a W) :
    (Code.rangeFunc g ps assign body).wpIn F n P Q a w := by
  refine wpIn_rangeFunc_ownN hro hl₀ h1 hg hFg eg hseq (fun h k => hKt h k) hKb hb0 hps I Ix hI hIx h0
    (fun x a' _ => ∀ (l : Nat) (pre : List α) (W : World), I pre W → pre.length < N → body.wpIn (F.inRound l) (n - 1 - 1) P (ownPostK Kp I Ix (pre ++ [x]) W) a' W)
    (fun x a' => ownFrom_pure _ (fun _ => ∀ (l : Nat) (pre : List α) (W : World), I pre W → pre.length < N → body.wpIn (F.inRound l) (n - 1 - 1) P (ownPostK Kp I Ix (pre ++ [x]) W) a' W))
    (fun l pre x W K hi hK => hround l x W K (fun a' hb => hK a' W (keepsFrom_refl _ W) (hKr W) hi hb))
    (fun l pre x a' W _ _ hi hax hlen => wpIn_mono (hax l pre W hi hlen) ownPostG_of_ownPostK) hdone hstop
end Go.Proofs.Ytoonpnpooljmlaa

namespace Go.Proofs.Ytoonpnpooljmlaa
open Go.RowKit Go.Shelf
attribute [local go_sem] Oper.semAt_some

set_option maxRecDepth 100000 in
theorem powersq_any (k m s : Int) (w : World) :
    Calls Try.prog 50 #[.agg #[.int .i64 k, .int .i64 m, .int .i64 s]] w fun e w' => e = .returned (.func (.func 65) #[] #[.pointer (some ⟨w.heap.size, 0, none⟩)]) ∧
      w' = w.alloc (.cells #[.int .i64 k, .int .i64 m, .int .i64 s] 29) := by
  go_enter Try.func50, Try.ntmps50
  go_wp2
  go_ret
  exact ⟨rfl, rfl⟩

/-- the t-th of a shape's powers -/
def pwAt (K t : Nat) : Nat := allF (t / K) (t % K)
theorem pwAt_eq {K r c : Nat} (hc : c < K) : pwAt K (r * K + c) = allF r c := by
  unfold pwAt
  rw [Nat.mul_comm, Nat.mul_add_div (by omega), Nat.div_eq_of_lt hc, Nat.add_zero, Nat.mul_add_mod, Nat.mod_eq_of_lt hc]

set_option maxRecDepth 100000 in
set_option maxHeartbeats 2000000 in
theorem powersq_stops (n : Nat) (hn : 1 ≤ n) (R : Nat → Prop) (K M H s : Nat) (hH : H = K + M) (hK : 1 ≤ K ∧ K ≤ 8 ∧ M ≤ 6) (pt : Nat) (w : World)
    (hRt : ¬ R pt) (hpt : BlockAt w pt #[.int .i64 (K : Int), .int .i64 (M : Int), .int .i64 (s : Int)] 29) :
    SeqStopsK Fence.wide n Try.prog 65 #[.pointer (some ⟨pt, 0, none⟩)]
      (fun t : { t : Nat // t < H * K } => #[Value.int .u8 (pwAt K t.1 : Nat)]) (CellsBut R)
      (fun xs => ixs xs = List.range (H * K)) (fun pre => ∃ t, t < H * K ∧ ixs pre = List.range (t + 1)) (H * K) w := fun l J Jx W hW hJ _ hY h0 => by
  have hT := hpt.kept hW
  refine callsIn_of_wp Try.func65 rfl trivial ?_ rfl
  simp only [Try.ntmps65, List.size_toArray, List.length_nil, List.length_cons, Nat.reduceAdd, Nat.reduceSub, Array.replicate_succ, Array.replicate_zero, List.push_toArray, List.append_toArray, List.nil_append, List.cons_append]
  refine wpIn_wide.2 ?_
  have HJ := Lib.hid h0
  have HTT := Lib.hid hT
  clear hpt hW h0
  obtain ⟨c1, c2, _⟩ := box3 hT
  have eH : (K : Int) + (M : Int) = (H : Int) := by omega
  have HH := Lib.hid hH
  clear hT hH
  go_wp2_with fail
  refine wp_of_in n ?_
  gi_loopw [12] (fun i wr => ∃ r : Nat, r ≤ H ∧ i = .int .i64 r ∧ BlockAt wr pt #[.int .i64 (K : Int), .int .i64 (M : Int), .int .i64 (s : Int)] 29 ∧ ∃ pre : List { t : Nat // t < H * K }, ixs pre = List.range (r * K) ∧ J pre wr) (fun i _ => H - (intOf i).toNat)
  case atStart => exact ⟨0, by omega, rfl, HTT.out, [], by simp [ixs], HJ.out⟩
  case round =>
    obtain ⟨r, hr, rfl, hT, pre, hpre, hJk⟩ := hrel
    obtain ⟨c1, c2, _⟩ := box3 hT
    have HT := Lib.hid hT
    have HPre := Lib.hid hpre
    have HJK := Lib.hid hJk
    clear hpre hT hJk
    by_cases hlt : r < H
    · have hlti : (r : Int) < (H : Int) := by omega
      have HBL := Lib.hid (Gf.dbls_lt r)
      gi_wp2_with fail
      refine ⟨trivial, callsIn_wide.2 ((exp_any r (by omega) wr).mono ?_)⟩
      rintro e w' ⟨rfl, rfl⟩
      unfold two8
      gi_wp2_with fail
      gi_loopw [6, 22] (fun x i wr => ∃ c : Nat, c ≤ K ∧ i = .int .i64 c ∧ x = .int .u8 (allF r c : Nat) ∧ BlockAt wr pt #[.int .i64 (K : Int), .int .i64 (M : Int), .int .i64 (s : Int)] 29 ∧ ∃ pre : List { t : Nat // t < H * K }, ixs pre = List.range (r * K + c) ∧ J pre wr) (fun _ i _ => K - (intOf i).toNat)
      case atStart => exact ⟨0, by omega, rfl, rfl, HT.out, pre, HPre.out, HJK.out⟩
      case round =>
        obtain ⟨c, hc, rfl, rfl, hT, pre, hpre, hJk⟩ := hrel
        have HT := Lib.hid hT
        have HPre := Lib.hid hpre
        have hlen : pre.length = r * K + c := by have := congrArg List.length hpre; rw [ixs_length] at this; simpa using this
        have HLen := Lib.hid hlen
        clear hpre hlen hT
        by_cases hcl : c < K
        · have hcli : (c : Int) < (K : Int) := by omega
          have hkn : r * K + c < H * K := Nat.lt_of_lt_of_le (show r * K + c < (r + 1) * K by rw [Nat.succ_mul]; omega) (Nat.mul_le_mul_right K hlt)
          obtain ⟨f1, t1, a1, b1, hy1, hR1⟩ := hY pre ⟨r * K + c, hkn⟩ wr hJk (by rw [HLen.out]; exact hkn)
          simp only [pwAt_eq hcl] at hy1
          have HAL := Lib.hid (allF_bt r c)
          have hend : ∀ (e : Ending) (W3 : World), (e = .returned (.bool true) ∧ J (pre ++ [⟨r * K + c, hkn⟩]) W3 ∧ CellsBut R wr W3 ∨ e = .returned (.bool false) ∧ Jx (pre ++ [⟨r * K + c, hkn⟩]) W3) → (e = .returned (.bool true) ∧ BlockAt W3 pt #[.int .i64 (K : Int), .int .i64 (M : Int), .int .i64 (s : Int)] 29 ∧ J (pre ++ [⟨r * K + c, hkn⟩]) W3) ∨ (e = .returned (.bool false) ∧ Jx (pre ++ [⟨r * K + c, hkn⟩]) W3) := fun e W3 h => by
            rcases h with ⟨rfl, hJ3, hkp⟩ | ⟨rfl, hx3⟩
            · exact .inl ⟨rfl, HT.out.but hkp hRt, hJ3⟩
            · exact .inr ⟨rfl, hx3⟩
          have HEND := Lib.hid hend
          have HMR := Lib.hid (show (allF r (c + 1)) = Gf.mul (allF r c) (Gf.dbls r) from rfl)
          clear hend hJk
          gi_wp2_with fail
          refine hR1.mono ?_
          rintro e W3 h3
          rcases HEND.out _ _ h3 with ⟨rfl, hT3, hJ3⟩ | ⟨rfl, hx3⟩
          · have HT3 := Lib.hid hT3
            have HJ3 := Lib.hid hJ3
            clear h3 hT3 hJ3
            gi_wp2_with fail
            refine ⟨trivial, callsIn_wide.2 ((mul_any (allF r c) (Gf.dbls r) HAL.out HBL.out W3).mono ?_)⟩
            rintro e w' ⟨rfl, rfl⟩
            rw [← HMR.out]
            gi_wp2
            go_roundw
            case rel => exact ⟨c + 1, by omega, by go_num, rfl, HT3.out, pre ++ [⟨r * K + c, hkn⟩], by rw [ixs_snoc, HPre.out, ← Nat.add_assoc, List.range_succ], HJ3.out⟩
            case measure => simp [intOf]; omega
          · gi_wp2
            refine bodyPost_ret (results_none rfl _ _ _) rfl ?_
            exact ⟨⟨_, rfl⟩, .inr ⟨pre ++ [⟨r * K + c, hkn⟩], ⟨r * K + c, hkn, by rw [ixs_snoc, HPre.out, List.range_succ]⟩, hx3⟩⟩
        · have hce : c = K := by omega
          have HCE := Lib.hid (show r * K + c = (r + 1) * K by rw [hce, Nat.succ_mul])
          subst hce
          have HJK := Lib.hid hJk
          clear hJk
          gi_wp2
          go_roundw
          case rel => exact ⟨r + 1, by omega, by go_num, HT.out, pre, by rw [HPre.out, HCE.out], HJK.out⟩
          case measure => simp [intOf]; omega
    · have hre : r = H := by omega
      subst hre
      gi_wp2
      go_end0
      exact ⟨⟨_, rfl⟩, .inl ⟨pre, HPre.out, HJK.out⟩⟩
end Go.Proofs.Ytoonpnpooljmlaa

namespace Go.Proofs.Ytoonpnpooljmlaa
open Go.RowKit

/-- Cells read as r rows of c numbers. -/
def MatR (w : World) (b off r c : Nat) (F : Nat → Nat → Nat) : Prop := ∀ i j, i < r → j < c → w.cell? ⟨b, off + i * c + j, none⟩ = some (.int .u8 ((F i j : Nat) : Int))
theorem MatR.kept {w w' : World} {b off r c : Nat} {F : Nat → Nat → Nat} (h : MatR w b off r c F) (k : Kept w w') : MatR w' b off r c F := fun i j hi hj => k.cell (cell_lt (h i j hi hj)) (h i j hi hj)
/-- The same in a block that may be written. -/
structure Mat (w : World) (b off r c : Nat) (F : Nat → Nat → Nat) : Prop where
  blk : ∃ cs, BlockAt w b cs 5
  cell : MatR w b off r c F
theorem Mat.lt {w : World} {b off r c : Nat} {F : Nat → Nat → Nat} (h : Mat w b off r c F) : b < w.heap.size := by
  obtain ⟨cs, hb⟩ := h.blk; exact hb.lt
theorem Mat.free {w : World} {b off r c : Nat} {F : Nat → Nat → Nat} (h : Mat w b off r c F) (i : Nat) : w.frozen? ⟨b, i, none⟩ = false := by
  obtain ⟨cs, hb⟩ := h.blk; exact hb.free i
theorem Mat.kept {w w' : World} {b off r c : Nat} {F : Nat → Nat → Nat} (h : Mat w b off r c F) (k : Kept w w') : Mat w' b off r c F := by
  obtain ⟨cs, hb⟩ := h.blk; exact ⟨⟨cs, hb.kept k⟩, h.cell.kept k⟩
theorem Mat.congr {w : World} {b off r c : Nat} {F G : Nat → Nat → Nat} (h : Mat w b off r c F) (e : ∀ i j, i < r → j < c → F i j = G i j) : Mat w b off r c G :=
  ⟨h.blk, fun i j hi hj => by rw [← e i j hi hj]; exact h.cell i j hi hj⟩
theorem Mat.set {w : World} {b off r c i j : Nat} {F : Nat → Nat → Nat} (h : Mat w b off r c F) (hi : i < r) (hj : j < c) (v : Nat) : Mat (w.setCell ⟨b, off + i * c + j, none⟩ (.int .u8 (v : Int))) b off r c (upd F i j v) := by
  obtain ⟨cs, hb⟩ := h.blk
  refine ⟨⟨_, hb.set _⟩, fun i' j' hi' hj' => ?_⟩
  by_cases e : i' = i ∧ j' = j
  · obtain ⟨rfl, rfl⟩ := e
    rw [World.cell?_setCell_same _ _ _ (h.cell i' j' hi' hj')]
    simp [upd]
  · have hne : (⟨b, off + i * c + j, none⟩ : Addr) ≠ ⟨b, off + i' * c + j', none⟩ := fun h => e (by
      have h2 : off + i * c + j = off + i' * c + j' := (Addr.mk.inj h).2.1
      obtain ⟨e1, e2⟩ := idx_inj (c := c) (i := i) (j := j) (i' := i') (j' := j') hj hj' (by omega)
      exact ⟨e1.symm, e2.symm⟩)
    rw [World.cell?_setCell_other (h := hne), h.cell i' j' hi' hj']
    simp [upd, e]
theorem MatR.grown {w w' : World} {b off r c : Nat} {row : Option Nat} {F : Nat → Nat → Nat} (h : MatR w b off r c F) (g : w.grownBy w' row) (hne : some b ≠ row) : MatR w' b off r c F :=
  fun i j hi hj => (World.cell?_of_block (g.block b (cell_lt (h i j hi hj)) hne)).trans (h i j hi hj)
theorem Mat.grown {w w' : World} {b off r c : Nat} {row : Option Nat} {F : Nat → Nat → Nat} (h : Mat w b off r c F) (g : w.grownBy w' row) (hne : some b ≠ row) : Mat w' b off r c F := by
  obtain ⟨cs, hb⟩ := h.blk
  exact ⟨⟨cs, (g.block b hb.lt hne).trans hb⟩, h.cell.grown g hne⟩
theorem BlockAt.grown {w w' : World} {b : Nat} {C : Array Value} {t : TypeId} {row : Option Nat} (h : BlockAt w b C t) (g : w.grownBy w' row) (hne : some b ≠ row) : BlockAt w' b C t := (g.block b h.lt hne).trans h
theorem Mat.own {w w' : World} {b off r c : Nat} {row : Option Nat} {F : Nat → Nat → Nat} (h : Mat w b off r c F) (g : w.grownBy w' row) (hr : ∀ k, row = some k → ∃ o : Obj, w.heap[k]? = some o ∧ o.isCells = false) : Mat w' b off r c F := by
  refine h.grown g (fun e => ?_)
  obtain ⟨cs, hb⟩ := h.blk
  obtain ⟨o, ho, hc⟩ := hr b e.symm
  have hb' : w.heap[b]? = some (.cells cs 5 (0, 0)) := hb
  rw [hb'] at ho
  cases ho
  cases hc

theorem BlockAt.own {w w' : World} {b : Nat} {C : Array Value} {t : TypeId} {row : Option Nat} (h : BlockAt w b C t) (g : w.grownBy w' row) (hr : ∀ k, row = some k → ∃ o : Obj, w.heap[k]? = some o ∧ o.isCells = false) : BlockAt w' b C t := by
  refine h.grown g (fun e => ?_)
  obtain ⟨o, ho, hc⟩ := hr b e.symm
  have hb' : w.heap[b]? = some (.cells C t (0, 0)) := h
  rw [hb'] at ho
  cases ho
  cases hc

/-! ### worlds in which one block may have been written -/
theorem grown_refl (w : World) (row : Option Nat) : w.grownBy w row := ⟨rfl, rfl, rfl, Nat.le_refl _, fun _ _ _ => rfl⟩
theorem grown_trans {a b c : World} {row : Option Nat} (h : a.grownBy b row) (k : b.grownBy c row) : a.grownBy c row :=
  ⟨k.os.trans h.os, k.tape.trans h.tape, k.output.trans h.output, Nat.le_trans h.size k.size, fun i hi hne => (k.block i (Nat.lt_of_lt_of_le hi h.size) hne).trans (h.block i hi hne)⟩
theorem grown_kept {a b : World} (h : Kept a b) (row : Option Nat) : a.grownBy b row := ⟨Below.os h, Below.tape h, Below.output h, Below.size h, fun k hk _ => Below.block h k hk⟩
theorem grown_set (w : World) (b i : Nat) (v : Value) : w.grownBy (w.setCell ⟨b, i, none⟩ v) (some b) :=
  ⟨rfl, rfl, rfl, by simp, fun k _ hne => Below.heap_setCell w ⟨b, i, none⟩ v k (fun e => hne (by rw [e]))⟩
theorem Kept.grown {W a b : World} {row : Option Nat} (h : Kept W a) (g : a.grownBy b row) (hr : ∀ k, row = some k → W.heap.size ≤ k) : Kept W b := Below.grown h g (Below.size h) hr
theorem but_of_grown {R : Nat → Prop} {a b : World} {k : Nat} (g : a.grownBy b (some k)) (hR : R k) : CellsBut R a b :=
  ⟨g.size, fun i cs t fr hr hi => by
    have hlt : i < a.heap.size := (Array.getElem?_eq_some_iff.1 hi).1
    exact (g.block i hlt (fun e => hr (by cases e; exact hR))).trans hi⟩
theorem others_of_grown {a b : World} {k : Nat} (g : a.grownBy b (some k)) {cs : Array Value} {t : TypeId} (h : BlockAt a k cs t) : KeepsOthers a b :=
  KeepsOthers.of_grownBy g (fun j o e ho => by
    cases e
    have h' : a.heap[k]? = some (.cells cs t (0, 0)) := h
    rw [h'] at ho
    cases ho
    rfl)
theorem Mat.others {w w' : World} {b off r c : Nat} {F : Nat → Nat → Nat} (h : Mat w b off r c F) (g : w.grownBy w' (some b)) : KeepsOthers w w' := by
  obtain ⟨cs, hb⟩ := h.blk
  exact others_of_grown g hb
end Go.Proofs.Ytoonpnpooljmlaa

namespace Go.Proofs.Ytoonpnpooljmlaa
open Go.RowKit

def sideB (n : Int) : Bool := decide (1 ≤ n) && decide (n ≤ 16)
def matB (r c : Int) (l : Nat) : Bool := sideB r && sideB c && decide ((l : Int) = r * c)

theorem side_any (n : Int) (w : World) : Calls Try.prog 60 #[.int .i64 n] w fun e w' => e = .returned (.bool (sideB n)) ∧ w = w' := by
  unfold sideB
  go_enter Try.func60, Try.ntmps60
  by_cases h : 1 ≤ n
  · go_wp2
    go_ret
    exact ⟨by simp [h], rfl⟩
  · have hd : decide (1 ≤ n) = false := decide_eq_false h
    go_wp2
    go_ret
    exact ⟨rfl, rfl⟩
theorem between_any (n lo hi : Int) (w : World) : Calls Try.prog 34 #[.int .i64 n, .int .i64 lo, .int .i64 hi] w fun e w' => e = .returned (.bool (decide (lo ≤ n) && decide (n ≤ hi))) ∧ w = w' := by
  go_enter Try.func34, Try.ntmps34
  by_cases h : lo ≤ n
  · go_wp2
    go_ret
    exact ⟨by simp [h], rfl⟩
  · have hd : decide (lo ≤ n) = false := decide_eq_false h
    go_wp2
    go_ret
    exact ⟨rfl, rfl⟩
theorem sideB_bounds {n : Int} (h : sideB n = true) : 1 ≤ n ∧ n ≤ 16 := by
  simpa [sideB] using h
theorem prod_bounds {r c : Int} (h1 : 1 ≤ r ∧ r ≤ 16) (h2 : 1 ≤ c ∧ c ≤ 16) : 1 ≤ r * c ∧ r * c ≤ 256 := by
  have a := Int.mul_le_mul h1.1 h2.1 (by omega) (by omega)
  have b := Int.mul_le_mul h1.2 h2.2 (by omega) (by omega)
  omega

def matE (r c : Int) (l : Nat) : Int := if matB r c l then 0 else 1
theorem matE_bad {r c : Int} {l : Nat} (h : matB r c l = false) : matE r c l = 1 := by unfold matE; rw [h]; rfl
theorem matE_good {r c : Int} {l : Nat} (h : matB r c l = true) : matE r c l = 0 := by unfold matE; rw [h]; rfl
set_option maxRecDepth 100000 in
theorem check_any (r c : Int) (a : Option Addr) (l cap : Nat) (w : World) :
    Calls Try.prog 53 #[.agg #[.int .i64 r, .int .i64 c, .slice a l cap]] w fun e w' => e = .returned (.int .i64 (matE r c l)) ∧ Kept w w' := by
  go_enter Try.func53, Try.ntmps53
  go_wp2_with fail
  refine (side_any _ _).mono ?_
  rintro e w' ⟨rfl, rfl⟩
  cases hr : sideB r
  · have HM := Lib.hid (matE_bad (r := r) (c := c) (l := l) (by unfold matB; rw [hr]; rfl))
    clear hr
    go_wp2
    go_ret
    exact ⟨by rw [HM.out]; rfl, (Kept.refl w).alloc _⟩
  · go_wp2_with fail
    refine (side_any _ _).mono ?_
    rintro e w' ⟨rfl, rfl⟩
    cases hc : sideB c
    · have HM := Lib.hid (matE_bad (r := r) (c := c) (l := l) (by unfold matB; rw [hr, hc]; rfl))
      clear hr hc
      go_wp2
      go_ret
      exact ⟨by rw [HM.out]; rfl, (Kept.refl w).alloc _⟩
    · have hp := prod_bounds (sideB_bounds hr) (sideB_bounds hc)
      by_cases he : (l : Int) = r * c
      · have HM := Lib.hid (matE_good (r := r) (c := c) (l := l) (by unfold matB; rw [hr, hc, decide_eq_true he]; rfl))
        have hn : ((l : Int) != r * c) = false := by rw [he]; simp
        clear he hr hc
        go_wp2
        go_ret
        exact ⟨by rw [HM.out]; rfl, (Kept.refl w).alloc _⟩
      · have HM := Lib.hid (matE_bad (r := r) (c := c) (l := l) (by unfold matB; rw [hr, hc, decide_eq_false he]; rfl))
        have hn : ((l : Int) != r * c) = true := by rw [bne_iff_ne]; exact he
        clear he hr hc
        go_wp2
        go_ret
        exact ⟨by rw [HM.out]; rfl, (Kept.refl w).alloc _⟩
end Go.Proofs.Ytoonpnpooljmlaa

namespace Go.Proofs.Ytoonpnpooljmlaa
open Go.RowKit

/-! ### what they compute -/
def gm (x : UInt8) (c : Nat) : UInt8 := UInt8.ofNat (Gf.mul x.toNat c)
theorem gm_toNat (x : UInt8) (c : Nat) : (gm x c).toNat = Gf.mul x.toNat c := by
  have h := Gf.mul_lt (UInt8.toNat_lt x) c
  simp only [gm, UInt8.toNat_ofNat']
  exact Nat.mod_eq_of_lt h
def scaled (l : List UInt8) (c : Nat) : List UInt8 := l.map fun x => gm x c
def scaledS (s : ByteArray) (c : Nat) : ByteArray := ⟨(scaled s.data.toList c).toArray⟩
def byteAt (t : ByteArray) (i : Nat) : UInt8 := t.data.toList.getD i 0
theorem byteAt_get (t : ByteArray) (i : Nat) (h : i < t.size) : t[i] = byteAt t i := by
  unfold byteAt
  have h' : i < t.data.size := h
  rw [List.getD_eq_getElem?_getD, Array.getElem?_toList, Array.getElem?_eq_getElem h']
  rfl
def added (l : List UInt8) (t : ByteArray) : List UInt8 := l.mapIdx fun i x => x ^^^ byteAt t i
def addedS (s t : ByteArray) : ByteArray := ⟨(added s.data.toList t).toArray⟩

theorem xor_u8_bytes (x y : UInt8) : bits .xor .u8 (x.toNat : Int) (y.toNat : Int) = (((x ^^^ y).toNat : Nat) : Int) := by
  rw [xor_u8 _ _ (UInt8.toNat_lt x) (UInt8.toNat_lt y), UInt8.toNat_xor]

theorem mapIdx_same (f : UInt8 → UInt8) (l : List UInt8) : (l.mapIdx fun _ x => f x) = l.map f := by
  apply List.ext_getElem <;> simp

set_option maxRecDepth 100000 in
set_option maxHeartbeats 400000 in
theorem refscaled_any (s : ByteArray) (c : Nat) (hc : c < 256) (hs : s.size ≤ 9223372036854775807) (w : World) :
    Calls Try.prog 59 #[.string s, .int .u8 c] w fun e w' => e = .returned (.string (scaledS s c)) ∧ Kept w w' := by
  have hconv := bytes_of (P := Try.prog) 9 31 5 s Try.underlying9 Try.underlying31 Try.underlying5
  go_enter Try.func59, Try.ntmps59
  go_wp2
  have hk := bytesBehind_kept w 5 s
  have hb := bytesBehind_buf w 5 s
  have hB : w.heap.size ≤ w.heap.size := Nat.le_refl _
  clear hconv
  generalize bytesBehind w 5 s = w1 at hk hb ⊢
  generalize grownCap w s.size 0 5 = cap
  generalize hBe : w.heap.size = B at hb ⊢
  rw [hBe] at hB
  have HB := Lib.hid (Nat.le_of_eq hBe)
  clear hBe hB
  have hl := str_size s
  generalize hle : s.data.toList = l at hb hl
  have HL := Lib.hid hle
  have HN := Lib.hid hl
  clear hle hl
  go_loopw [6] (fun i wr => ∃ k : Nat, k ≤ s.size ∧ i = .int .i64 k ∧ Buf wr B (upto (fun _ x => gm x c) l k) ∧ Kept w wr) (fun i _ => s.size - (intOf i).toNat)
  case atStart => exact ⟨0, by omega, rfl, by rw [upto_zero]; exact hb, hk⟩
  case round =>
    obtain ⟨k, hks, rfl, hbuf, hkept⟩ := hrel
    have HBUF := Lib.hid hbuf
    have HK := Lib.hid hkept
    by_cases hlt : k < s.size
    · have hkl : k < l.length := by rw [HN.out]; exact hlt
      have hku : k < (upto (fun _ x => gm x c) l k).length := by rw [upto_length]; exact hkl
      have hcell := hbuf.cell k hku
      rw [upto_get _ _ _ hkl] at hcell
      have hfree := hbuf.free k hku
      have hx := UInt8.toNat_lt l[k]
      have hst := hbuf.set k hku (gm l[k] c)
      rw [upto_set (fun _ x => gm x c) l k hkl, gm_toNat] at hst
      have HST := Lib.hid hst
      clear hbuf hkept hst hku
      go_wp2_with fail
      refine (refmul_any l[k].toNat c hx hc _).mono ?_
      rintro e w' ⟨rfl, rfl⟩
      go_wp2
      go_roundw
      case rel => exact ⟨k + 1, by omega, by go_num, HST.out, HK.out.setCell HB.out _⟩
      case measure => simp [intOf]; omega
    · have hconv := hbuf.string (P := Try.prog) 31 9 5 Try.underlying31 Try.underlying5 Try.underlying9 cap
      rw [upto_length, HN.out, upto_all _ _ _ (by rw [HN.out]; omega)] at hconv
      clear hbuf hkept
      go_wp2
      go_ret
      refine ⟨?_, HK.out⟩
      show Ending.returned (.string ⟨(l.mapIdx fun _ x => gm x c).toArray⟩) = _
      rw [← HL.out, scaledS, scaled, mapIdx_same]

set_option maxRecDepth 100000 in
set_option maxHeartbeats 400000 in
theorem refadded_any (s t : ByteArray) (hst : s.size ≤ t.size) (hs : t.size ≤ 9223372036854775807) (w : World) :
    Calls Try.prog 58 #[.string s, .string t] w fun e w' => e = .returned (.string (addedS s t)) ∧ Kept w w' := by
  have hconv := bytes_of (P := Try.prog) 9 31 5 s Try.underlying9 Try.underlying31 Try.underlying5
  go_enter Try.func58, Try.ntmps58
  go_wp2
  have hk := bytesBehind_kept w 5 s
  have hb := bytesBehind_buf w 5 s
  have hB : w.heap.size ≤ w.heap.size := Nat.le_refl _
  clear hconv
  generalize bytesBehind w 5 s = w1 at hk hb ⊢
  generalize grownCap w s.size 0 5 = cap
  generalize hBe : w.heap.size = B at hb ⊢
  rw [hBe] at hB
  have HB := Lib.hid (Nat.le_of_eq hBe)
  clear hBe hB
  have hl := str_size s
  generalize hle : s.data.toList = l at hb hl
  have HL := Lib.hid hle
  have HN := Lib.hid hl
  clear hle hl
  go_loopw [6] (fun i wr => ∃ k : Nat, k ≤ s.size ∧ i = .int .i64 k ∧ Buf wr B (upto (fun i x => x ^^^ byteAt t i) l k) ∧ Kept w wr) (fun i _ => s.size - (intOf i).toNat)
  case atStart => exact ⟨0, by omega, rfl, by rw [upto_zero]; exact hb, hk⟩
  case round =>
    obtain ⟨k, hks, rfl, hbuf, hkept⟩ := hrel
    have HBUF := Lib.hid hbuf
    have HK := Lib.hid hkept
    by_cases hlt : k < s.size
    · have hkl : k < l.length := by rw [HN.out]; exact hlt
      have hkt : k < t.size := by omega
      have hku : k < (upto (fun i x => x ^^^ byteAt t i) l k).length := by rw [upto_length]; exact hkl
      have hcell := hbuf.cell k hku
      rw [upto_get _ _ _ hkl] at hcell
      have hfree := hbuf.free k hku
      have hst := hbuf.set k hku (l[k] ^^^ byteAt t k)
      rw [upto_set (fun i x => x ^^^ byteAt t i) l k hkl] at hst
      have hxx := xor_u8_bytes l[k] (byteAt t k)
      have HXX := Lib.hid hxx
      have HST := Lib.hid hst
      clear hbuf hkept hst hku hxx
      go_wp2
      go_region
      rw [byteAt_get t k hkt, HXX.out]
      go_wp2
      go_roundw
      case rel => exact ⟨k + 1, by omega, by go_num, HST.out.kept ((Kept.refl _).drew), (HK.out.setCell HB.out _).drew⟩
      case measure => simp [intOf]; omega
    · have hconv := hbuf.string (P := Try.prog) 31 9 5 Try.underlying31 Try.underlying5 Try.underlying9 cap
      rw [upto_length, HN.out, upto_all _ _ _ (by rw [HN.out]; omega)] at hconv
      clear hbuf hkept
      go_wp2
      go_ret
      refine ⟨?_, HK.out⟩
      show Ending.returned (.string ⟨(l.mapIdx fun i x => x ^^^ byteAt t i).toArray⟩) = _
      rw [← HL.out, addedS, added]
end Go.Proofs.Ytoonpnpooljmlaa

namespace Go.Proofs.Ytoonpnpooljmlaa
open Go.RowKit

def mulCell (c n j : Nat) : Nat := if j < 16 then (if j < n then Gf.mul c j else 0) else (if j < 16 + n then Gf.mul c ((j - 16) * 16) else 0)
def mulCells (c n : Nat) : Array Value := ((List.range 32).map fun j => Value.int .u8 ((mulCell c n j : Nat) : Int)).toArray
theorem mulCells_size (c n : Nat) : (mulCells c n).size = 32 := by simp [mulCells]
theorem mulCells_get (c n j : Nat) (hj : j < 32) : (mulCells c n)[j]? = some (.int .u8 ((mulCell c n j : Nat) : Int)) := by simp [mulCells, hj]
theorem mulCells_step (c n : Nat) (hn : n < 16) : ((mulCells c n).setIfInBounds n (.int .u8 (Gf.mul c n : Nat))).setIfInBounds (16 + n) (.int .u8 (Gf.mul c (n * 16) : Nat)) = mulCells c (n + 1) := by
  apply Array.ext
  · simp [mulCells]
  · intro j h1 h2
    have hj : j < 32 := by simpa [mulCells] using h2
    rw [Array.getElem_setIfInBounds (by simpa [mulCells] using hj), Array.getElem_setIfInBounds (by simpa [mulCells] using hj)]
    simp only [mulCells, List.getElem_toArray, List.getElem_map, List.getElem_range]
    by_cases e1 : 16 + n = j
    · subst e1
      rw [if_pos rfl]
      unfold mulCell
      rw [if_neg (by omega), if_pos (by omega), Nat.add_sub_cancel_left]
    · rw [if_neg e1]
      by_cases e2 : n = j
      · subst e2
        rw [if_pos rfl]
        simp [mulCell, hn]
      · rw [if_neg e2]
        have : mulCell c n j = mulCell c (n + 1) j := by
          unfold mulCell
          by_cases h : j < 16
          · rw [if_pos h, if_pos h]
            by_cases k : j < n
            · rw [if_pos k, if_pos (by omega)]
            · rw [if_neg k, if_neg (by omega)]
          · rw [if_neg h, if_neg h]
            by_cases k : j < 16 + n
            · rw [if_pos k, if_pos (by omega)]
            · rw [if_neg k, if_neg (by omega)]
        rw [this]
theorem mulCells_one (c n : Nat) : (mulCells c n).all (·.oneCell') = true := by
  rw [Array.all_eq_true]
  intro i hi
  simp [mulCells, Value.oneCell']

def z32 : Array Value := #[.int .u8 0, .int .u8 0, .int .u8 0, .int .u8 0, .int .u8 0, .int .u8 0, .int .u8 0, .int .u8 0, .int .u8 0, .int .u8 0, .int .u8 0, .int .u8 0, .int .u8 0, .int .u8 0, .int .u8 0, .int .u8 0, .int .u8 0, .int .u8 0, .int .u8 0, .int .u8 0, .int .u8 0, .int .u8 0, .int .u8 0, .int .u8 0, .int .u8 0, .int .u8 0, .int .u8 0, .int .u8 0, .int .u8 0, .int .u8 0, .int .u8 0, .int .u8 0]
theorem mulCells_zero (c : Nat) : mulCells c 0 = z32 := by
  have h : ∀ j, j < 32 → mulCell c 0 j = 0 := fun j hj => by
    unfold mulCell
    by_cases h : j < 16
    · rw [if_pos h, if_neg (by omega)]
    · rw [if_neg h, if_neg (by omega)]
  have e : mulCells c 0 = ((List.range 32).map fun _ => Value.int .u8 0).toArray := by
    unfold mulCells
    have e2 : ((List.range 32).map fun j => Value.int .u8 ((mulCell c 0 j : Nat) : Int)) = (List.range 32).map fun _ => Value.int .u8 0 := by
      apply List.map_congr_left
      intro j hj
      rw [h j (List.mem_range.1 hj)]
      rfl
    rw [e2]
  rw [e]
  rfl
theorem z32_one : z32.all (·.oneCell') = true := by kernel_rfl
theorem Try.zeroMult : (Try.prog.info? 120).map (·.zero) = some (some (.agg z32)) := by kernel_rfl
theorem Try.builtMult : Try.prog.built 120 [] = some z32 := by kernel_rfl
theorem Try.infoMult : (Try.prog.info? 120).map (·.size) = some 32 := by kernel_rfl

set_option maxRecDepth 100000 in
set_option maxHeartbeats 1000000 in
theorem multiplesOf_any (c : Nat) (hc : c < 256) (w : World) :
    Calls Try.prog 85 #[.int .u8 c] w fun e w' => e = .returned (.agg (mulCells c 16)) ∧ Kept w w' := by
  have HBK := Lib.hid (BlockAt.new (w.alloc (.cells z32 120)) z32 120)
  go_enter Try.func85, Try.ntmps85
  go_wp2_with (first
    | (with_reducible refine wpList_alloc_block rfl 120 rfl z32 Try.zeroMult ?_)
    | (with_reducible refine wpList_build_zero rfl 120 rfl z32 Try.builtMult ?_)
    | (refine wpList_store_block rfl 120 (.tmp 3) (.tmp 5) rfl (w.alloc (.cells z32 120)).heap.size z32 z32 120 rfl rfl HBK.out Try.infoMult rfl z32_one ?_))
  refine wp_named (fun w1 hw1 => ?_)
  have hk : Kept w w1 := by rw [hw1]; exact (((Kept.refl w).alloc _).alloc _).setRow (by omega) _
  have hb2 : BlockAt w1 (w.heap.size + 1) z32 120 := by
    have h := HBK.out.setRow z32
    rw [World.size_alloc] at h
    rw [hw1]
    exact h
  have hb1 : BlockAt w1 w.heap.size z32 120 := by
    rw [hw1]
    exact ((BlockAt.new w z32 120).kept ((Kept.refl _).alloc _)).other _ (by omega)
  clear hw1
  rw [← mulCells_zero c] at hb2
  go_loopw [6] (fun i wr => ∃ n : Nat, n ≤ 16 ∧ i = .int .i64 n ∧ BlockAt wr (w.heap.size + 1) (mulCells c n) 120 ∧ BlockAt wr w.heap.size z32 120 ∧ Kept w wr) (fun i _ => 16 - (intOf i).toNat)
  case atStart => exact ⟨0, by omega, rfl, hb2, hb1, hk⟩
  case round =>
    obtain ⟨n, hn, rfl, hb, hb1, hkept⟩ := hrel
    have HBL := Lib.hid hb
    have HB1 := Lib.hid hb1
    have HK := Lib.hid hkept
    by_cases hlt : n < 16
    · have hc1 := hb.cell n
      have hc2 := hb.cell (16 + n)
      rw [mulCells_get c n _ (by omega)] at hc1 hc2
      have hf1 := hb.free n
      have hf2 := hb.free (16 + n)
      have hn16 : n * 16 < 256 := by omega
      have hn256 : n < 256 := by omega
      clear hb hb1 hkept hb2 hk
      go_wp2_with fail
      refine (mul_any c n hc hn256 _).mono ?_
      rintro e w' ⟨rfl, rfl⟩
      go_wp2_with fail
      rw [show ((n : Int) * 16) = ((n * 16 : Nat) : Int) from by omega]
      refine (mul_any c (n * 16) hc hn16 _).mono ?_
      rintro e w' ⟨rfl, rfl⟩
      go_wp2
      go_roundw
      case rel => exact ⟨n + 1, by omega, by go_num, by rw [← mulCells_step c n hlt]; exact (HBL.out.set _).set _, (HB1.out.setOther _ (by omega)).setOther _ (by omega), (HK.out.setCell (by simp) _).setCell (by simp) _⟩
      case measure => simp [intOf]; omega
    · obtain rfl : n = 16 := by omega
      clear hb hb1 hkept hb2 hk
      go_wp2_with (first
        | (refine wpList_load_row rfl 120 (.tmp 3) rfl (w.heap.size + 1) rfl 120 (mulCells c 16) (0, 0) _ HBL.out Try.underlying120 rfl Try.infoMult ?_)
        | (refine wpList_store_block rfl 120 (.tmp 2) (.tmp 25) rfl w.heap.size (mulCells c 16) z32 120 rfl rfl HB1.out Try.infoMult (by rw [mulCells_size]; rfl) (mulCells_one c 16) ?_))
      refine bodyPost_ret (v := .agg (mulCells c 16)) ?_ rfl ⟨rfl, HK.out.setRow (Nat.le_refl _) _⟩
      exact results_cell_row rfl _ _ w.heap.size 120 (mulCells c 16) (0, 0) _ rfl (HB1.out.setRow _) Try.underlying120 rfl Try.infoMult
end Go.Proofs.Ytoonpnpooljmlaa

namespace Go.Proofs.Ytoonpnpooljmlaa
open Go.RowKit Go.Shelf

set_option maxRecDepth 100000 in
theorem halves (x : Nat) (hx : x < 256) : (x % 16) ^^^ (x / 16 * 16) = x := by
  simpa using Gf.below (fun x => (x % 16) ^^^ (x / 16 * 16) == x) (by decide +kernel) x hx
theorem mul_halves (c x : Nat) (hx : x < 256) : Gf.mul c (x % 16) ^^^ Gf.mul c (x / 16 * 16) = Gf.mul c x := by
  rw [← Gf.mul_right, halves x hx]
theorem and_15 (x : Nat) (hx : x < 256) : bits .and .u8 (x : Int) 15 = ((x % 16 : Nat) : Int) := by
  have h := u8_and_nat x 15 hx (by omega)
  rw [show x &&& 15 = x % 16 from Nat.and_two_pow_sub_one_eq_mod x 4] at h
  exact h

set_option maxRecDepth 100000 in
set_option maxHeartbeats 400000 in
theorem of_any (M c x : Nat) (hc : c < 256) (hx : x < 256) (w : World) (hb : BlockAt w M (mulCells c 16) 120) :
    Calls Try.prog 86 #[.pointer (some ⟨M, 0, none⟩), .int .u8 x] w fun e w' => e = .returned (.int .u8 (Gf.mul c x : Nat)) ∧ Kept w w' := by
  have h15 := and_15 x hx
  have hm : x % 16 < 16 := by omega
  have hd : x / 16 < 16 := by omega
  have c1 := hb.cell (x % 16)
  have c2 := hb.cell (16 + x / 16)
  rw [mulCells_get c 16 _ (by omega)] at c1 c2
  have e1 : mulCell c 16 (x % 16) = Gf.mul c (x % 16) := by unfold mulCell; rw [if_pos hm, if_pos hm]
  have e2 : mulCell c 16 (16 + x / 16) = Gf.mul c (x / 16 * 16) := by unfold mulCell; rw [if_neg (by omega), if_pos (by omega), Nat.add_sub_cancel_left]
  rw [e1] at c1
  rw [e2] at c2
  have m1 := Gf.mul_lt hc (x % 16)
  have m2 := Gf.mul_lt hc (x / 16 * 16)
  have HM := Lib.hid (mul_halves c x hx)
  clear hb e1 e2
  go_enter Try.func86, Try.ntmps86
  go_wp2
  go_quiet ((go_at_call 74; exact quietly (add_any _ _ m1 m2 _)))
  go_wp2
  go_ret
  exact ⟨ret_u8n HM.out, (Kept.refl w).drewN _⟩

theorem times_any (a : ByteArray) (c : Nat) (w : World) :
    Calls Try.prog 76 #[.string a, .int .u8 c] w fun e w' => e = .returned (.func (.func 84) #[] #[.pointer (some ⟨w.heap.size + 1, 0, none⟩), .pointer (some ⟨w.heap.size, 0, none⟩)]) ∧
      w' = (w.alloc (.cells #[.string a] 9)).alloc (.cells #[.int .u8 (c : Int)] 5) := by
  go_enter Try.func76, Try.ntmps76
  go_wp2
  go_ret
  exact ⟨rfl, rfl⟩
end Go.Proofs.Ytoonpnpooljmlaa

namespace Go.Proofs.Ytoonpnpooljmlaa
open Go.RowKit Go.Shelf
attribute [local go_sem] Oper.semAt_some

set_option maxRecDepth 100000 in
set_option maxHeartbeats 2000000 in
theorem times_stops (n : Nat) (hn : 1 ≤ n) (R : Nat → Prop) (a : ByteArray) (ha : a.size ≤ 9223372036854775807) (c : Nat) (hc : c < 256) (ba bc : Nat) (w : World)
    (hR : ∀ k, R k → k < w.heap.size) (hRa : ¬ R ba) (hba : BlockAt w ba #[.string a] 9) (hbc : BlockAt w bc #[.int .u8 (c : Int)] 5) :
    SeqStopsK Fence.wide n Try.prog 84 #[.pointer (some ⟨bc, 0, none⟩), .pointer (some ⟨ba, 0, none⟩)]
      (fun k : { k : Nat // k < a.size } => #[Value.int .i64 (k.1 : Int), .int .u8 (Gf.mul c (byteAt a k.1).toNat : Nat)]) (CellsBut R)
      (fun xs => ixs xs = List.range a.size) (fun pre => ∃ k, k < a.size ∧ ixs pre = List.range (k + 1)) a.size w := fun l J Jx W hW hJ _ hY h0 => by
  have hbaW : BlockAt W ba #[.string a] 9 := hba.kept hW
  have hbcW : BlockAt W bc #[.int .u8 (c : Int)] 5 := hbc.kept hW
  have ca := hbaW.cell 0
  have cc := hbcW.cell 0
  simp only [List.getElem?_toArray, List.getElem?_cons_zero] at ca cc
  refine callsIn_of_wp Try.func84 rfl trivial ?_ rfl
  simp only [Try.ntmps84, List.size_toArray, List.length_nil, List.length_cons, Nat.reduceAdd, Nat.reduceSub, Array.replicate_succ, Array.replicate_zero, List.push_toArray, List.append_toArray, List.nil_append, List.cons_append]
  refine wpIn_wide.2 ?_
  go_wp2_with fail
  refine (multiplesOf_any c hc _).mono ?_
  rintro e w1 ⟨rfl, hk1⟩
  have hka : Kept w1 ((w1.alloc (.cells z32 120)).setRow w1.heap.size (mulCells c 16)) := ((Kept.refl w1).alloc _).setRow (Nat.le_refl _) _
  have hkw := hk1.trans hka
  have ca1 := hkw.cell hbaW.lt ca
  have hM : BlockAt ((w1.alloc (.cells z32 120)).setRow w1.heap.size (mulCells c 16)) w1.heap.size (mulCells c 16) 120 := (BlockAt.new w1 z32 120).setRow _
  have hJ1 := AbidesFrom.kept hJ h0 hkw
  have hMR : ¬ R w1.heap.size := fun hr => by have := hR _ hr; have := Below.size hW; have := Below.size hk1; omega
  have hba1 := hbaW.kept hkw
  have HJ := Lib.hid hJ1
  have HM := Lib.hid hM
  have HA := Lib.hid hba1
  have HR := Lib.hid hMR
  clear hka hkw hM hJ1 hMR hba1 ca cc hbaW hbcW hba hbc h0 hW
  go_wp2_with (first
    | (with_reducible refine wpList_alloc_block rfl 120 rfl z32 Try.zeroMult ?_)
    | (refine wpList_store_block rfl 120 (.tmp 4) (.tmp 7) rfl _ (mulCells c 16) z32 120 rfl rfl (BlockAt.new _ z32 120) Try.infoMult (by rw [mulCells_size]; rfl) (mulCells_one c 16) ?_))
  generalize (w1.alloc (.cells z32 120)).setRow w1.heap.size (mulCells c 16) = w2 at HJ HM HA ca1 ⊢
  generalize w1.heap.size = M at HM HR ⊢
  refine wp_of_in n ?_
  gi_loopw [10] (fun i wr => ∃ k : Nat, k ≤ a.size ∧ i = .int .i64 k ∧ BlockAt wr M (mulCells c 16) 120 ∧ BlockAt wr ba #[.string a] 9 ∧ ∃ pre : List { k : Nat // k < a.size }, ixs pre = List.range k ∧ J pre wr) (fun i _ => a.size - (intOf i).toNat)
  case atStart => exact ⟨0, by omega, rfl, HM.out, HA.out, [], rfl, HJ.out⟩
  case round =>
    obtain ⟨k, hk, rfl, hM, hA, pre, hpre, hJk⟩ := hrel
    have ca := hA.cell 0
    simp only [List.getElem?_toArray, List.getElem?_cons_zero] at ca
    have HMk := Lib.hid hM
    have HAk := Lib.hid hA
    have HPre := Lib.hid hpre
    have hlen : pre.length = k := by have := congrArg List.length hpre; rw [ixs_length] at this; simpa using this
    have HLen := Lib.hid hlen
    clear hA hpre hlen
    by_cases hlt : k < a.size
    · have hx := UInt8.toNat_lt (byteAt a k)
      have hbk := byteAt_get a k hlt
      gi_wp2_with (refine ⟨trivial, ?_⟩; gi_at_call 86; refine (callsIn_wide.2 (of_any M c _ hc hx _ HMk.out)).mono ?_; rintro e w3 ⟨rfl, hk3⟩; obtain ⟨f1, t1, a1, b1, hy1, hR1⟩ := hY pre ⟨k, hlt⟩ w3 (AbidesFrom.kept hJ hJk hk3) (by rw [HLen.out]; exact hlt))
      refine hR1.mono ?_
      have HK3 := Lib.hid hk3
      clear hk3 hJk
      rintro e W3 (⟨rfl, hJ3, hkp⟩ | ⟨rfl, hx3⟩)
      · have HM3 := Lib.hid ((HMk.out.kept HK3.out).but hkp HR.out)
        have HA3 := Lib.hid ((HAk.out.kept HK3.out).but hkp hRa)
        have HJ3 := Lib.hid hJ3
        clear hkp hJ3
        gi_wp2
        go_roundw
        case rel => exact ⟨k + 1, by omega, by go_num, HM3.out, HA3.out, pre ++ [⟨k, hlt⟩], by rw [ixs_snoc, HPre.out, List.range_succ], HJ3.out⟩
        case measure => simp [intOf]; omega
      · gi_wp2
        refine bodyPost_ret (results_none rfl _ _ _) rfl ?_
        exact ⟨⟨_, rfl⟩, .inr ⟨pre ++ [⟨k, hlt⟩], ⟨k, hlt, by rw [ixs_snoc, HPre.out, List.range_succ]⟩, hx3⟩⟩
    · gi_wp2
      go_end0
      have hke : k = a.size := by omega
      exact ⟨⟨_, rfl⟩, .inl ⟨pre, by rw [HPre.out, hke], hJk⟩⟩
end Go.Proofs.Ytoonpnpooljmlaa

namespace Go.Proofs.Ytoonpnpooljmlaa
open Go.ChangeShapes Go.WideShapes Go.ChangeAt Go.RowKit Go.Joins

/-- A slice value that reads as these texts: nil or not in one word. -/
structure StrsIn (W : World) (a : Option Addr) (len : Nat) (ss : List ByteArray) : Prop where
  len_eq : ss.length = len
  le : len ≤ 9223372036854775807
  sizes : ∀ s ∈ ss, s.size ≤ 9223372036854775807
  cells : ∃ b off, (0 < len → a = some ⟨b, off, none⟩) ∧ ∀ i, i < len → b < W.heap.size ∧ W.cell? ⟨b, off + i, none⟩ = some (.string (ss.getD i ByteArray.empty))

theorem StrsIn.kept {W W' : World} {a : Option Addr} {len : Nat} {ss : List ByteArray} (h : StrsIn W a len ss) (k : Kept W W') : StrsIn W' a len ss := by
  obtain ⟨b, off, ha, hc⟩ := h.cells
  exact ⟨h.len_eq, h.le, h.sizes, b, off, ha, fun i hi => ⟨Nat.lt_of_lt_of_le (hc i hi).1 k.size, k.cell (hc i hi).1 (hc i hi).2⟩⟩
theorem StrsIn.size {W : World} {a : Option Addr} {len : Nat} {ss : List ByteArray} (h : StrsIn W a len ss) (i : Nat) (hi : i < len) : (ss.getD i ByteArray.empty).size ≤ 9223372036854775807 := by
  have hl : i < ss.length := by rw [h.len_eq]; exact hi
  exact h.sizes _ (by simp [List.getD, hl])
/-- A slice that a call builds of texts. -/
theorem StrsIn.built (W : World) (ss : List ByteArray) (t : TypeId) (hl : ss.length ≤ 9223372036854775807) (hs : ∀ s ∈ ss, s.size ≤ 9223372036854775807) :
    StrsIn (W.alloc (.cells (ss.map Value.string).toArray t)) (some ⟨W.heap.size, 0, none⟩) ss.length ss := by
  refine ⟨rfl, hl, hs, W.heap.size, 0, fun _ => rfl, fun i hi => ⟨by simp, ?_⟩⟩
  rw [Nat.zero_add, cell_new]
  simp [List.getD, hi]

theorem strs_in {H : Type} {enc : TypeId × Value → H} {P : Program} {t e : TypeId} (ht : P.underlying t = some (.slice e)) (he : P.underlying e = some .string) (hc : P.cellsOf e = 1) {W : World} {fuel : Nat} {v : Value} {y : DataW H × List MemPlace}
    (h0 : DataW.trod enc P W 0 (fun _ => true) true fuel t [v] = some y) :
    ∃ a len cap ss, v = .slice a len cap ∧ StrsIn W a len ss := by
  rcases open_strings ht he hc h0 with ⟨hcs, hx⟩ | ⟨a, len', cap', ss, hcs, _, hl, hm, hz, hx, hcell, hws⟩
  · simp only [List.cons.injEq, and_true] at hcs
    exact ⟨none, 0, 0, [], hcs, rfl, by omega, (fun s hs => (by cases hs)), 0, 0, fun h => absurd h (Nat.lt_irrefl 0), fun i hi => absurd hi (Nat.not_lt_zero i)⟩
  · simp only [List.cons.injEq, and_true] at hcs
    simp only [if_true] at hz
    unfold maxLen at hm hws
    by_cases hp : 0 < ss.length
    · obtain ⟨b, off, spot⟩ := a
      have hspot : spot = none := by simpa [Addr.add] using World.cell?_spot (hcell 0 hp)
      subst hspot
      have hcell' : ∀ j, j < ss.length → W.cell? ⟨b, off + j, none⟩ = some (.string (ss.getD j ByteArray.empty)) := fun j hj => by rw [← Go.WideShapes.add_plain]; exact hcell j hj
      refine ⟨_, len', cap', ss.take len', hcs, by rw [List.length_take]; omega, by omega, fun s hs => hws s (List.mem_of_mem_take hs), b, off, fun _ => rfl, fun i hi => ?_⟩
      have h1 := hcell' i (by omega)
      refine ⟨World.block_lt_of_cell? _ _ h1, ?_⟩
      rw [h1]
      simp [List.getD, hi]
    · exact ⟨_, len', cap', [], hcs, by simp; omega, by omega, (fun s hs => (by cases hs)), 0, 0, fun h => by omega, fun i hi => by omega⟩
end Go.Proofs.Ytoonpnpooljmlaa

namespace Go.Proofs.Ytoonpnpooljmlaa
open Go.RowKit

def long (s : ByteArray) : Bool := decide (8192 < s.size)
def unlike (ss : List ByteArray) (s : ByteArray) : Bool := decide (s.size ≠ (ss.getD 0 ByteArray.empty).size)
def fitE (ss : List ByteArray) : Int := if ss.any long then 2 else if ss.any (unlike ss) then 1 else 0
def fitTo (ss : List ByteArray) (k : Nat) : Int := if (ss.take k).any (unlike ss) then 1 else 0
theorem take_snoc (ss : List ByteArray) (k : Nat) (h : k < ss.length) : ss.take (k + 1) = ss.take k ++ [ss.getD k ByteArray.empty] := by
  rw [List.take_succ_eq_append_getElem h]; simp [List.getD, h]
theorem fitTo_snoc (ss : List ByteArray) (k : Nat) (h : k < ss.length) : fitTo ss (k + 1) = if unlike ss (ss.getD k ByteArray.empty) then 1 else fitTo ss k := by
  unfold fitTo
  rw [take_snoc ss k h, List.any_append]
  generalize ss.getD k ByteArray.empty = s
  simp only [List.any_cons, List.any_nil, Bool.or_false]
  cases unlike ss s <;> cases (ss.take k).any (unlike ss) <;> rfl
theorem fitE_long (ss : List ByteArray) (k : Nat) (h : k < ss.length) (hl : 8192 < (ss.getD k ByteArray.empty).size) : fitE ss = 2 := by
  unfold fitE
  rw [if_pos]
  rw [List.any_eq_true]
  exact ⟨ss.getD k ByteArray.empty, by simp [List.getD, h], by simpa [long] using hl⟩
theorem fitE_all (ss : List ByteArray) (h : (ss.take ss.length).any long = false) : fitE ss = fitTo ss ss.length := by
  unfold fitE fitTo
  rw [List.take_length] at h ⊢
  rw [h]
  rfl

set_option maxRecDepth 100000 in
set_option maxHeartbeats 1000000 in
theorem fit_any (a : Option Addr) (len cap : Nat) (ss : List ByteArray) (w : World) (hs : StrsIn w a len ss) :
    Calls Try.prog 73 #[.slice a len cap] w fun e w' => e = .returned (.int .i64 (fitE ss)) ∧ w = w' := by
  have hle := hs.le
  have hlen := hs.len_eq
  obtain ⟨b, off, hab, hc⟩ := hs.cells
  have HS := Lib.hid hs
  have HC := Lib.hid hc
  have HL := Lib.hid hlen
  clear hs hc hlen
  go_enter Try.func73, Try.ntmps73
  go_wp2
  go_step3
  go_wp2
  go_step3
  go_wp2
  go_loop [3, 8] (fun e i => ∃ k : Nat, k ≤ len ∧ i = .int .i64 k ∧ e = .int .i64 (fitTo ss k) ∧ (ss.take k).any long = false) (fun _ i => len - (intOf i).toNat)
  case atStart => exact ⟨0, by omega, rfl, rfl, rfl⟩
  case round =>
    obtain ⟨k, hk, rfl, rfl, hlong⟩ := hrel
    have HLong := Lib.hid hlong
    clear hlong
    by_cases hlt : k < len
    · obtain rfl := hab (by omega)
      have hck := (HC.out k hlt).2
      have hc0 := (HC.out 0 (by omega)).2
      rw [Nat.add_zero] at hc0
      have hkl : k < ss.length := by rw [HL.out]; exact hlt
      have hz1 := HS.out.size k hlt
      have hz0 := HS.out.size 0 (by omega)
      have hsn := Lib.hid (fitTo_snoc ss k hkl)
      have hlg := Lib.hid (fitE_long ss k hkl)
      have htk := Lib.hid (take_snoc ss k hkl)
      have hu : unlike ss (ss.getD k ByteArray.empty) = decide ((ss.getD k ByteArray.empty).size ≠ (ss.getD 0 ByteArray.empty).size) := rfl
      have HU := Lib.hid hu
      clear hu hab
      generalize ss.getD k ByteArray.empty = s at hck hz1 hsn hlg htk HU
      generalize ss.getD 0 ByteArray.empty = s0 at hc0 hz0 HU
      by_cases h8 : 8192 < s.size
      · go_wp2
        go_ret
        exact ⟨by rw [hlg.out h8]; rfl, rfl⟩
      · by_cases hne : s.size = s0.size
        · have hb : (((s.size : Nat) : Int) != ((s0.size : Nat) : Int)) = false := by rw [hne]; simp
          have HN := Lib.hid hne
          clear hne
          go_wp2
          go_round
          case rel => exact ⟨k + 1, by omega, by go_num, by rw [hsn.out, HU.out]; simp [HN.out], by rw [htk.out, List.any_append, HLong.out]; simp [long]; omega⟩
          case measure => simp [intOf]; omega
        · have hb : (((s.size : Nat) : Int) != ((s0.size : Nat) : Int)) = true := by rw [bne_iff_ne]; omega
          have HN := Lib.hid hne
          clear hne
          go_wp2
          go_round
          case rel => exact ⟨k + 1, by omega, by go_num, by rw [hsn.out, HU.out]; simp [HN.out], by rw [htk.out, List.any_append, HLong.out]; simp [long]; omega⟩
          case measure => simp [intOf]; omega
    · have hkl : k = ss.length := by rw [HL.out]; omega
      have hfin : fitE ss = fitTo ss k := by rw [hkl]; exact fitE_all ss (by rw [← hkl]; exact HLong.out)
      have HF := Lib.hid hfin
      clear hfin hkl
      go_wp2
      go_ret
      exact ⟨by rw [HF.out]; rfl, rfl⟩
end Go.Proofs.Ytoonpnpooljmlaa

namespace Go.Proofs.Ytoonpnpooljmlaa
open Go.RowKit Go.Shelf
attribute [local go_sem] Oper.semAt_some

theorem Try.infoU8 : (Try.prog.info? 5).map (fun i => (i.zero, i.size, i.bytes)) = some (some (.int .u8 0), 1, 1) := by kernel_rfl

/-- 'make([]byte, n)' -/
theorem make_bytes (n : Nat) (hn : n ≤ 281474976710656) : ∀ u : World, (Instr.makeSlice 31 (.int .i64 n) (.int .i64 n)).run Try.prog u =
    .ok (.slice (some ⟨u.heap.size, 0, none⟩) n n) (u.alloc (.cells (madeCells #[.int .u8 0] n) 5)) := fun u => by
  obtain ⟨i0, hi, hz0, hz1, hz2⟩ := info_parts Try.infoU8
  have h := run_make (P := Try.prog) u 31 5 i0 (.int .u8 0) Try.underlying31 hi hz0 .i64 .i64 (n : Int) (n : Int) (by omega) (Int.le_refl _) (by rw [hz2]; omega) (by omega)
  simpa [hz1, Value.cells] using h
theorem made_buf (u : World) (n : Nat) : Buf (u.alloc (.cells (madeCells #[.int .u8 0] n) 5)) u.heap.size (List.replicate n 0) := by
  refine ⟨by simp, fun i hi => ?_, fun i hi => ?_⟩
  · rw [cell_new]
    have hi' : i < n := by simpa using hi
    simp [madeCells, hi', Nat.mod_one]
  · exact (BlockAt.new u (madeCells #[.int .u8 0] n) 5).free i

theorem fitE_one (a : ByteArray) : fitE [a] = if 8192 < a.size then 2 else 0 := by
  unfold fitE
  by_cases h : 8192 < a.size
  · simp [long, h]
  · simp [long, unlike, h]

/-- the bytes of a lane, each times c -/
def gs (a : ByteArray) (c : Nat) : Nat → UInt8 → UInt8 := fun i _ => gm (byteAt a i) c
theorem gs_all (a : ByteArray) (c : Nat) : (List.replicate a.size (0 : UInt8)).mapIdx (gs a c) = scaled a.data.toList c := by
  apply List.ext_getElem
  · simp [scaled]
  · intro i h1 h2
    have hi : i < a.size := by simpa using h1
    simp only [List.getElem_mapIdx, gs, scaled, List.getElem_map, Array.getElem_toList]
    rw [← byteAt_get a i hi]
    rfl
theorem gs_toNat (a : ByteArray) (c : Nat) (hc : c < 256) (i : Nat) (x : UInt8) : (gs a c i x).toNat = Gf.mul c (byteAt a i).toNat := by
  unfold gs
  rw [gm_toNat, Gf.mul_comm _ _ (UInt8.toNat_lt _) hc]

end Go.Proofs.Ytoonpnpooljmlaa

namespace Go

section
variable {F : Fence} {n : Nat} {P : Program} {ops : Array Oper} {md : Region.Mode} {C : World → Prop}

def Oper.noDefer (o : Oper) : Bool := match o.op with | .defer _ => false | _ => true
theorem Oper.noDefer_ne {o : Oper} (h : o.noDefer = true) : ∀ c, o.op ≠ .defer c := by
  intro c e
  unfold Oper.noDefer at h
  rw [e] at h
  cases h

theorem Oper.wpIn_of_quietR {o : Oper} {a : Act} {K : Act → Prop} {K' : Act → World → Prop} {Q' : Exit → Act → World → Prop} {w : World} (hnd : o.noDefer = true) (hw : C w) (h : ∀ a w', C w' → K a → K' a w')
    (ha : o.askedIn F P a C) (hh : o.quietIn F n P a C K) : o.wpIn F n P a w K' Q' := by
  obtain ⟨v, h1, h2⟩ := hh
  have h3 := h1 w hw
  unfold Oper.quietAtIn at h3
  unfold Oper.wpIn
  refine ⟨ha w hw, ?_⟩
  rw [Oper.semAt_eq _ _ _ (Oper.noDefer_ne hnd)]
  generalize (execOp a.eval o).run P w = r at *
  cases r with
  | ok x w' =>
    cases x <;> simp only [Oper.quietUponIn] at h3 <;> simp only [Oper.uponIn]
    case value u =>
      obtain ⟨e1, e2⟩ := h3
      rw [e1, e2]
      exact h _ _ hw h2
    case skip =>
      obtain ⟨e1, e2⟩ := h3
      rw [e1, ← e2]
      exact h _ _ hw h2
    case enter f args =>
      obtain ⟨e1, hd, hc⟩ := h3
      rw [e1]
      exact ⟨hd, hc.mono fun e w'' ⟨he, hw''⟩ => by subst he; exact h _ _ hw'' h2⟩
  | halt x w' => simp only [Oper.quietUponIn] at h3

theorem wpOpIn_of_qOpInR {i : Nat} {a : Act} {K : Act → Prop} {K' : Act → World → Prop} {Q' : Exit → Act → World → Prop} {w : World} (hnd : ops.all Oper.noDefer = true) (hC : C w) (h : ∀ a w', C w' → K a → K' a w')
    (hh : qOpIn F n P ops C i K a) : wpOpIn F n P ops Q' i K' a w := by
  unfold qOpIn at hh
  unfold wpOpIn
  split
  · rename_i ho; simp only [ho] at hh; exact h _ _ hC hh
  · rename_i o ho
    simp only [ho] at hh
    obtain ⟨ha, hh⟩ := hh
    have ho' : o.noDefer = true := by
      obtain ⟨hi, he⟩ := Array.getElem?_eq_some_iff.1 ho
      exact Array.all_eq_true'.1 hnd o (he ▸ Array.getElem_mem hi)
    split
    · rename_i hw; simp only [hw, if_true] at hh; exact Oper.wpIn_of_quietR ho' hC h ha hh
    · rename_i hw; simp only [hw] at hh; exact ⟨ha w hC, h _ _ hC hh⟩

/-- Whatever order is picked, as long as something before the tail may come up. -/
def wpAnyQL (F : Fence) (n : Nat) (P : Program) (md : Region.Mode) (ops : Array Oper) (C : World → Prop) (m : Nat) (L : Array Bool → Act → Prop) : Nat → Array Bool → Act → Prop
  | 0, listed, a => L listed a
  | f + 1, listed, a =>
    Region.ready md ops listed ≠ [] ∧ ∀ i ∈ Region.ready md ops listed, i < m ∧ qOpIn F n P ops C i (wpAnyQL F n P md ops C m L f (listed.setIfInBounds i true)) a

theorem wpAnyIn_of_qhead {m g : Nat} {L : Array Bool → Act → Prop} {Q' : Exit → Act → World → Prop} (hnd : ops.all Oper.noDefer = true) (hL : ∀ listed a w, C w → L listed a → wpAnyIn F n P md ops Q' g listed a w) :
    ∀ (f : Nat) (listed : Array Bool) (a : Act) (w : World), C w → wpAnyQL F n P md ops C m L f listed a → wpAnyIn F n P md ops Q' (f + g) listed a w
  | 0, listed, a, w, hw, h => by rw [Nat.zero_add]; exact hL _ _ _ hw h
  | f + 1, listed, a, w, hw, h => by
    rw [show f + 1 + g = (f + g) + 1 by omega]
    exact ⟨fun h0 => absurd h0 h.1, fun i hi => wpOpIn_of_qOpInR hnd hw (fun a' w' hw' h' => wpAnyIn_of_qhead hnd hL f _ a' w' hw' h') (h.2 i hi).2⟩

theorem wpAnyQL_first {m i : Nat} {oi : Oper} {v : Value} {L : Array Bool → Act → Prop} (hi : ops[i]? = some oi) (hsel : ∀ (j : Nat) (o : Oper) cs b, ops[j]? = some o → o.op ≠ .select cs b)
    (hs : Region.sinkB md ops m = true) (hc : Region.chainB md ops m = true) (hn : m < ops.size) (hin : i < m)
    (hdone : ∀ listed a, L listed a → ∀ j ∈ Region.ready md ops listed, m ≤ j) :
    ∀ (f : Nat) (listed : Array Bool) (a : Act), HeadInv md ops m listed →
      (∀ j oj, ops[j]? = some oj → j ≠ i → listed.getD j true = false → (∀ e ∈ oj.after, Region.binds md e = true → e.on ≠ i) → oi.apart ops oj = true) →
      i ∈ Region.ready md ops listed → YieldsQuiet F n P ops C oi v a →
      wpAnyQL F n P md ops C m L f (listed.setIfInBounds i true) (a.put oi.dst v) → wpAnyQL F n P md ops C m L (f + 1) listed a := by
  intro f
  induction f with
  | zero =>
    intro listed a inv _ hr hy H
    have hun := (mem_ready.1 hr).1
    refine ⟨fun h => (by rw [h] at hr; cases hr), fun j hj => ?_⟩
    have hjn : j < m := by
      rcases Nat.lt_or_ge j m with h | h
      · exact h
      · exact absurd hj (tail_waits hs hc hn inv _ i rfl hin hun j h)
    refine ⟨hjn, ?_⟩
    by_cases hji : j = i
    · subst hji; exact hy.qOpIn hi H
    · have := hdone _ _ H j (ready_mono hj hji)
      omega
  | succ f ih =>
    intro listed a inv hfree hr hy H
    have hun := (mem_ready.1 hr).1
    refine ⟨fun h => (by rw [h] at hr; cases hr), fun j hj => ?_⟩
    have hjn : j < m := by
      rcases Nat.lt_or_ge j m with h | h
      · exact h
      · exact absurd hj (tail_waits hs hc hn inv _ i rfl hin hun j h)
    refine ⟨hjn, ?_⟩
    by_cases hji : j = i
    · subst hji; exact hy.qOpIn hi H
    · have h1 := (H.2 j (ready_mono hj hji)).2
      obtain ⟨hjun, oj, hoj, hall⟩ := mem_ready.1 hj
      have hnot : ∀ e ∈ oj.after, Region.binds md e = true → e.on ≠ i := fun e he hb heq => by
        have h1 := hall e he hb
        rw [heq, getD_both hun] at h1
        cases h1
      have h2 := qOpIn_put hoj (hfree j oj hoj hji hjun hnot) (fun cs b => hsel i oi cs b hi) (fun cs b => hsel j oj cs b hoj) hy h1
      have hfree' : ∀ k ok, ops[k]? = some ok → k ≠ i → (listed.setIfInBounds j true).getD k true = false →
          (∀ e ∈ ok.after, Region.binds md e = true → e.on ≠ i) → oi.apart ops ok = true := fun k ok hk hki hun hno => by
        refine hfree k ok hk hki ?_ hno
        by_cases hjk : j = k
        · subst hjk; exact hjun
        · rw [getD_set_ne true hjk] at hun; exact hun
      refine qOpIn_mono (fun a' h3 => ih (listed.setIfInBounds j true) a' (inv.set hj hjn) hfree' (ready_mono hr (Ne.symm hji)) h3.1 ?_) h2
      rw [Array.setIfInBounds_comm _ _ hji]
      exact h3.2

theorem wpAnyIn_of_seq {Q' : Exit → Act → World → Prop} : ∀ (l : List Oper) (k : Nat) (listed : Array Bool) (a : Act) (w : World), (∀ j, l[j]? = ops[k + j]?) →
    Region.seqB md ops l.length k listed = true → wpListIn F n P ops Q' l a w → wpAnyIn F n P md ops Q' l.length listed a w
  | [], _, _, _, _, _, hB, h => ⟨by simpa [Region.seqB] using hB, h⟩
  | o :: l, k, listed, a, w, hl, hB, h => by
    have h0 : ops[k]? = some o := by simpa using (hl 0).symm
    simp only [List.length_cons, Region.seqB, Bool.and_eq_true, decide_eq_true_eq] at hB
    refine ⟨fun h1 => (by rw [hB.1] at h1; cases h1), fun i hi => ?_⟩
    rw [hB.1] at hi
    have hik : i = k := by simpa using hi
    subst hik
    have hw : wpOpIn F n P ops Q' i (wpListIn F n P ops Q' l) a w := by unfold wpOpIn; simp only [h0]; exact h
    exact wpOpIn_mono (fun a' w' h' => wpAnyIn_of_seq l (i + 1) _ a' w' (fun j => by have := hl (j + 1); simpa [Nat.add_assoc, Nat.add_comm 1 j] using this) hB.2 h') hw

theorem wpAnyQL_lex {m g : Nat} {Lq : Act → Prop} (hsel : Region.noSelect ops = true) (hs : Region.sinkB md ops m = true) (hc : Region.chainB md ops m = true) (hn : m < ops.size) :
    ∀ (l : List Oper) (k : Nat) (listed : Array Bool) (a : Act), (∀ j, j < l.length → l[j]? = ops[k + j]?) → k + l.length = m → HeadInv md ops m listed →
    Region.lexHead md ops g l.length k listed = true → wpQuietIn F n P ops C Lq l a →
    wpAnyQL F n P md ops C m (fun listed' a' => Region.seqB md ops g m listed' = true ∧ Lq a') l.length listed a
  | [], k, listed, a, _, hk, _, hB, h => by
    have : k = m := by simpa using hk
    subst this
    exact ⟨by simpa [Region.lexHead] using hB, h⟩
  | o :: l, k, listed, a, hl, hk, inv, hB, h => by
    have h0 : ops[k]? = some o := by simpa using (hl 0 (by simp)).symm
    simp only [List.length_cons, Region.lexHead, Bool.and_eq_true] at hB
    obtain ⟨⟨hr, hf⟩, hB'⟩ := hB
    have hkn : k < m := by simp only [List.length_cons] at hk; omega
    have hr' : k ∈ Region.ready md ops listed := by simpa using hr
    have hst : qOpIn F n P ops C k (wpQuietIn F n P ops C Lq l) a := by unfold qOpIn; simp only [h0]; exact h
    obtain ⟨v, hy, hK⟩ := yieldsQuiet_of_qOpIn h0 hst
    exact wpAnyQL_first h0 (Region.noSelect_spec hsel) hs hc hn hkn (fun listed' a' hL => seqB_ready hL.1) l.length listed a inv (Region.free_spec h0 hf) hr' hy
      (wpAnyQL_lex hsel hs hc hn l (k + 1) _ _ (fun j hj => by have := hl (j + 1) (by simp; omega); simpa [Nat.add_assoc, Nat.add_comm 1 j] using this) (by simp only [List.length_cons] at hk; omega) (inv.set hr' hkn) hB' hK)

/-- the head in its lexical order, whatever the class of worlds; then the tail in every world of it -/
theorem wpIn_region_quiet_tail {id : Nat} {Q : Exit → Act → World → Prop} {a : Act} {w : World} {l : List Oper} (m : Nat) (hm : P.follows .mixedOrders = true) (hnd : l.toArray.all Oper.noDefer = true) (hB : Region.lexTailB .any l.toArray m = true) (hC : C { w with drawn := w.drawn + 1 })
    (h : wpQuietIn F n P l.toArray C (fun a' => ∀ w', C w' → wpListIn F n P l.toArray Q (l.drop m) a' w') (l.take m) a) : (Code.region id l.toArray true).wpIn F n P Q a w := by
  simp only [Region.lexTailB, Bool.and_eq_true, decide_eq_true_eq] at hB
  obtain ⟨⟨⟨⟨hsel, hn⟩, hs⟩, hc⟩, hlex⟩ := hB
  have hn' : m < l.length := by simpa using hn
  have htl : (l.take m).length = m := by simp; omega
  have hdl : (l.drop m).length = l.toArray.size - m := by simp
  have inv0 : HeadInv .any l.toArray m (Array.replicate l.toArray.size false) :=
    ⟨by simp, fun j oj _ hl => (by rw [getD_replicate_false] at hl; cases hl), fun t _ ht => getD_in (by simpa using ht) (getD_replicate_false _ _)⟩
  have H := wpAnyQL_lex (F := F) (n := n) (C := C) (md := .any) (g := l.toArray.size - m) hsel hs hc hn (l.take m) 0 _ a (fun j hj => by
    have hj' : j < m := by rw [htl] at hj; exact hj
    simp [hj']) (by simpa using htl) inv0 (by rw [htl]; exact hlex) h
  refine wpIn_region_any hm ?_
  have := wpAnyIn_of_qhead (Q' := Q) (g := l.toArray.size - m) hnd (fun listed a' w' hw' hL => by
    have := wpAnyIn_of_seq (F := F) (n := n) (md := .any) (Q' := Q) (l.drop m) m listed a' w' (fun j => by simp [List.getElem?_drop]) (by rw [hdl]; exact hL.1) (hL.2 w' hw')
    rwa [hdl] at this) _ _ _ _ hC H
  rw [htl, show m + (l.toArray.size - m) = l.toArray.size by omega] at this
  exact this

/-- The same for the class 'w after some draws'. -/
theorem wpIn_region_quiet_tail_lit {id : Nat} {Q : Exit → Act → World → Prop} {a : Act} {w : World} {l : List Oper} (m : Nat) (hm : P.follows .mixedOrders = true) (hnd : l.toArray.all Oper.noDefer = true) (hB : Region.lexTailB .any l.toArray m = true)
    (h : wpQuietIn F n P l.toArray (fun w' => ∃ n, w' = w.drewN n) (fun a' => ∀ w', (∃ n, w' = w.drewN n) → wpListIn F n P l.toArray Q (l.drop m) a' w') (l.take m) a) : (Code.region id l.toArray true).wpIn F n P Q a w :=
  wpIn_region_quiet_tail m hm hnd hB ⟨1, rfl⟩ h
@[simp] theorem wide_inRound_fn (l : Nat) (f : FuncId) : (Fence.wide.inRound l).fn f = True := rfl
@[simp] theorem wide_fn' (f : FuncId) : Fence.wide.fn f = True := rfl
@[simp] theorem wide_depth' : Fence.wide.depth.isSome = false := rfl
@[simp] theorem wide_inRound_depth (l : Nat) : (Fence.wide.inRound l).depth.isSome = false := rfl
end

end Go

namespace Go.Proofs.Ytoonpnpooljmlaa
open Go.RowKit

set_option maxRecDepth 100000 in
set_option maxHeartbeats 400000 in
theorem row_any (r c b off cap n : Nat) (hr : r ≤ 64) (hc : 1 ≤ c ∧ c ≤ 64) (hn : n < r) (hcap : r * c ≤ cap) (w : World) :
    Calls Try.prog 62 #[.agg #[.int .i64 r, .int .i64 c, .slice (some ⟨b, off, none⟩) (r * c) cap], .int .i64 n] w fun e w' => e = .returned (.slice (some ⟨b, off + n * c, none⟩) c (cap - n * c)) ∧ Kept w w' := by
  have h1 := Nat.mul_le_mul hr hc.2
  have h2 := idx_lt (c := c) (j := 0) hn (by omega)
  have h3 := Nat.mul_le_mul_right c (Nat.succ_le_of_lt hn)
  rw [Nat.succ_mul] at h3
  have hm1 : (n : Int) * (c : Int) = ((n * c : Nat) : Int) := by simp
  have hm2 : ((n : Int) + 1) * (c : Int) = ((n * c + c : Nat) : Int) := by rw [Int.add_mul]; simp
  generalize n * c = p at *
  generalize r * c = l at *
  obtain ⟨q, hq⟩ : ∃ q, q = p + c := ⟨_, rfl⟩
  rw [← hq] at hm2
  have hlt : p < q := by omega
  have hqc : q ≤ cap := by omega
  have hpc : p < cap := by omega
  have hql : q ≤ 4096 := by omega
  have hne : ¬ cap = p := by omega
  have HQ := Lib.hid (show q - p = c by omega)
  clear hq h2 h3
  go_enter Try.func62, Try.ntmps62
  go_wp2
  go_ret
  exact ⟨by simp [HQ.out], (Kept.refl w).alloc _⟩
set_option maxRecDepth 100000 in
set_option maxHeartbeats 400000 in
theorem scale_row (r c b off cap a v : Nat) (F : Nat → Nat → Nat) (hF : Bt F) (hc : c ≤ 64) (ha : a < r) (hv : v < 256) (w : World) (h : Mat w b off r c F) :
    Calls Try.prog 80 #[.slice (some ⟨b, off + a * c, none⟩) c cap, .int .u8 v] w fun e w' => (∃ u, e = .returned u) ∧ Mat w' b off r c (scaleF F a v) ∧ w.grownBy w' (some b) := by
  have HM := Lib.hid h
  have HG := Lib.hid (grown_refl w (some b))
  clear h
  go_enter Try.func80, Try.ntmps80
  go_wp2
  go_loopw [8] (fun i wr => ∃ k : Nat, k ≤ c ∧ i = .int .i64 k ∧ Mat wr b off r c (rowTo F (scaleF F a v) a k) ∧ w.grownBy wr (some b)) (fun i _ => c - (intOf i).toNat)
  case atStart => exact ⟨0, by omega, rfl, by rw [rowTo_zero]; exact HM.out, HG.out⟩
  case round =>
    obtain ⟨k, hk, rfl, hm, hg⟩ := hrel
    have HK := Lib.hid hm
    have HG2 := Lib.hid hg
    by_cases hlt : k < c
    · have hcell := hm.cell a k ha hlt
      rw [rowTo_at] at hcell
      have hfree := hm.free (off + a * c + k)
      have hst := hm.set ha hlt (Gf.mul (F a k) v)
      have hsc : Gf.mul (F a k) v = scaleF F a v a k := by simp [scaleF]
      rw [hsc, rowTo_succ, ← hsc] at hst
      have hx := hF a k
      generalize F a k = x at hcell hst hx
      have HST := Lib.hid hst
      clear hm hg hst hsc
      go_wp2_with fail
      refine (mul_any x v hx hv _).mono ?_
      rintro e w' ⟨rfl, rfl⟩
      go_wp2
      go_roundw
      case rel => exact ⟨k + 1, by omega, by go_num, HST.out, grown_trans HG2.out (grown_set _ _ _ _)⟩
      case measure => simp [intOf]; omega
    · obtain rfl : k = c := by omega
      have hfin := hm.congr (G := scaleF F a v) (fun i j _ hj => by
        unfold rowTo scaleF
        by_cases e : i = a
        · rw [if_pos ⟨e, hj⟩]
        · rw [if_neg (fun h => e h.1), if_neg e])
      have HF := Lib.hid hfin
      clear hm hg hfin
      go_wp2
      go_end0
      exact ⟨⟨_, rfl⟩, HF.out, HG2.out⟩
/-- a row and v times other numbers -/
def addRowF (F : Nat → Nat → Nat) (a : Nat) (H : Nat → Nat) (v : Nat) : Nat → Nat → Nat := fun i j => if i = a then F a j ^^^ Gf.mul (H j) v else F i j
set_option maxRecDepth 100000 in
set_option maxHeartbeats 400000 in
theorem add_row (r c b off cap a v b2 o2 cap2 : Nat) (F : Nat → Nat → Nat) (H : Nat → Nat) (hF : Bt F) (hH : ∀ j, H j < 256) (hc : c ≤ 64) (ha : a < r) (hv : v < 256) (w : World) (h : Mat w b off r c F)
    (hsrc : ∀ wr k, w.grownBy wr (some b) → Mat wr b off r c (rowTo F (addRowF F a H v) a k) → ∀ j, j < c → wr.cell? ⟨b2, o2 + j, none⟩ = some (.int .u8 ((H j : Nat) : Int))) :
    Calls Try.prog 64 #[.slice (some ⟨b, off + a * c, none⟩) c cap, .slice (some ⟨b2, o2, none⟩) c cap2, .int .u8 v] w fun e w' => (∃ u, e = .returned u) ∧ Mat w' b off r c (addRowF F a H v) ∧ w.grownBy w' (some b) := by
  have HM := Lib.hid h
  have HG := Lib.hid (grown_refl w (some b))
  have HS := Lib.hid hsrc
  clear h hsrc
  go_enter Try.func64, Try.ntmps64
  go_wp2
  go_loopw [10] (fun i wr => ∃ k : Nat, k ≤ c ∧ i = .int .i64 k ∧ Mat wr b off r c (rowTo F (addRowF F a H v) a k) ∧ w.grownBy wr (some b)) (fun i _ => c - (intOf i).toNat)
  case atStart => exact ⟨0, by omega, rfl, by rw [rowTo_zero]; exact HM.out, HG.out⟩
  case round =>
    obtain ⟨k, hk, rfl, hm, hg⟩ := hrel
    have HK := Lib.hid hm
    have HG2 := Lib.hid hg
    by_cases hlt : k < c
    · have hcell := hm.cell a k ha hlt
      rw [rowTo_at] at hcell
      have hfree := hm.free (off + a * c + k)
      have hsc2 := HS.out wr k hg hm k hlt
      have hst := fun q => (hm.kept ((Kept.refl wr).drewN q)).set ha hlt (F a k ^^^ Gf.mul (H k) v)
      have hsc : F a k ^^^ Gf.mul (H k) v = addRowF F a H v a k := by simp [addRowF]
      rw [hsc] at hst
      simp only [rowTo_succ] at hst
      rw [← hsc] at hst
      have hx := hF a k
      have hy := hH k
      generalize F a k = x at hcell hst hx
      generalize H k = y at hst hsc2 hy
      have hmy := Gf.mul_lt hy v
      have HST := Lib.hid hst
      clear hm hg hst hsc
      go_wp2_with fail
      refine (wpIn_wide (n := 0)).1 ?_
      refine wpIn_region_quiet_tail_lit 11 (by kernel_rfl) (by kernel_rfl) (by kernel_rfl) ?_
      simp only [List.take_succ_cons, List.take_zero, List.drop_succ_cons, List.drop_zero]
      repeat (gi_big_quiet_step ((first | (gi_at_call 67; exact callsIn_wide.2 (quietly (mul_any _ _ hy hv _))) | (gi_at_call 74; exact callsIn_wide.2 (quietly (add_any _ _ hx hmy _))))))
      refine wpQuietIn_nil ?_
      intro _ hw'
      obtain ⟨nq, hw''⟩ := hw'
      subst hw''
      gi_wp2
      go_wp2
      go_roundw
      case rel => exact ⟨k + 1, by omega, by go_num, HST.out nq, grown_trans HG2.out (grown_trans (grown_kept ((Kept.refl wr).drewN nq) _) (grown_set _ _ _ _))⟩
      case measure => simp [intOf]; omega
    · obtain rfl : k = c := by omega
      have hfin := hm.congr (G := addRowF F a H v) (fun i j _ hj => by
        unfold rowTo addRowF
        by_cases e : i = a
        · rw [if_pos ⟨e, hj⟩]
        · rw [if_neg (fun h => e h.1), if_neg e])
      have HF := Lib.hid hfin
      clear hm hg hfin
      go_wp2
      go_end0
      exact ⟨⟨_, rfl⟩, HF.out, HG2.out⟩
set_option maxRecDepth 100000 in
set_option maxHeartbeats 800000 in
theorem swap_rows (r c b off cap cap2 a a2 : Nat) (F : Nat → Nat → Nat) (hF : Bt F) (hc : c ≤ 64) (ha : a < r) (ha2 : a2 < r) (hne : a ≠ a2) (w : World) (h : Mat w b off r c F) :
    Calls Try.prog 78 #[.slice (some ⟨b, off + a * c, none⟩) c cap, .slice (some ⟨b, off + a2 * c, none⟩) c cap2] w fun e w' => (∃ u, e = .returned u) ∧ Mat w' b off r c (swapF F a a2) ∧ w.grownBy w' (some b) := by
  have HM := Lib.hid h
  have HG := Lib.hid (grown_refl w (some b))
  have HN := Lib.hid hne
  clear h hne
  go_enter Try.func78, Try.ntmps78
  go_wp2
  go_loopw [7] (fun i wr => ∃ k : Nat, k ≤ c ∧ i = .int .i64 k ∧ Mat wr b off r c (rowTo (rowTo F (swapF F a a2) a k) (swapF F a a2) a2 k) ∧ w.grownBy wr (some b)) (fun i _ => c - (intOf i).toNat)
  case atStart => exact ⟨0, by omega, rfl, by rw [rowTo_zero, rowTo_zero]; exact HM.out, HG.out⟩
  case round =>
    obtain ⟨k, hk, rfl, hm, hg⟩ := hrel
    have HK := Lib.hid hm
    have HG2 := Lib.hid hg
    by_cases hlt : k < c
    · have hcell := hm.cell a k ha hlt
      have hcell2 := hm.cell a2 k ha2 hlt
      have e1 : rowTo (rowTo F (swapF F a a2) a k) (swapF F a a2) a2 k a k = F a k := by simp [rowTo, HN.out]
      have e2 : rowTo (rowTo F (swapF F a a2) a k) (swapF F a a2) a2 k a2 k = F a2 k := by simp [rowTo]
      rw [e1] at hcell
      rw [e2] at hcell2
      have hfree := hm.free (off + a * c + k)
      have hfree2 := hm.free (off + a2 * c + k)
      have hst := (hm.set ha hlt (F a2 k)).set ha2 hlt (F a k)
      have hx := hF a k
      have hy := hF a2 k
      have hfin : upd (upd (rowTo (rowTo F (swapF F a a2) a k) (swapF F a a2) a2 k) a k (F a2 k)) a2 k (F a k) = rowTo (rowTo F (swapF F a a2) a (k + 1)) (swapF F a a2) a2 (k + 1) := by
        have g1 : swapF F a a2 a k = F a2 k := by simp [swapF]
        have g2 : swapF F a a2 a2 k = F a k := by simp [swapF, Ne.symm HN.out]
        rw [← g1, ← g2, ← rowTo_succ F, ← rowTo_succ]
        congr 1
        funext i j
        have hn := HN.out
        unfold upd rowTo
        by_cases h1 : i = a2
        · subst h1; simp [Ne.symm hn]
        · simp [h1]
      rw [hfin] at hst
      have haddr : (⟨b, off + a * c + k, none⟩ : Addr) ≠ ⟨b, off + a2 * c + k, none⟩ := fun h => HN.out (by
        have h2 : off + a * c + k = off + a2 * c + k := (Addr.mk.inj h).2.1
        exact (idx_inj (c := c) (j := k) (j' := k) hlt hlt (by omega)).1)
      have hcell3 : ∀ u, (wr.setCell ⟨b, off + a * c + k, none⟩ u).cell? ⟨b, off + a2 * c + k, none⟩ = some (.int .u8 ((F a2 k : Nat) : Int)) := fun u => by
        rw [World.cell?_setCell_other (h := haddr)]; exact hcell2
      generalize F a k = x at hcell hst hx
      generalize F a2 k = y at hcell2 hst hy hcell3
      generalize off + a * c = o1 at *
      generalize off + a2 * c = o2 at *
      have HST := Lib.hid hst
      clear hm hg hst e1 e2 hfin haddr
      go_wp2_with fail
      go_region
      go_wp2
      go_roundw
      case rel => exact ⟨k + 1, by omega, by go_num, HST.out.kept ((Kept.refl _).drew), grown_trans HG2.out (grown_trans (grown_set _ _ _ _) (grown_trans (grown_set _ _ _ _) (grown_kept ((Kept.refl _).drew) _)))⟩
      case measure => simp [intOf]; omega
    · obtain rfl : k = c := by omega
      have hfin := hm.congr (G := swapF F a a2) (fun i j _ hj => by
        have hn := HN.out
        unfold rowTo swapF
        by_cases e : i = a2
        · rw [if_pos ⟨e, hj⟩]
        · rw [if_neg (fun h => e h.1)]
          by_cases e2 : i = a
          · rw [if_pos ⟨e2, hj⟩]
          · rw [if_neg (fun h => e2 h.1), if_neg e2, if_neg e])
      have HF := Lib.hid hfin
      clear hm hg hfin
      go_wp2
      go_end0
      exact ⟨⟨_, rfl⟩, HF.out, HG2.out⟩
set_option maxRecDepth 100000 in
set_option maxHeartbeats 800000 in
theorem swap_same (r c b off cap cap2 a : Nat) (F : Nat → Nat → Nat) (hF : Bt F) (hc : c ≤ 64) (ha : a < r) (w : World) (h : Mat w b off r c F) :
    Calls Try.prog 78 #[.slice (some ⟨b, off + a * c, none⟩) c cap, .slice (some ⟨b, off + a * c, none⟩) c cap2] w fun e w' => (∃ u, e = .returned u) ∧ Mat w' b off r c F ∧ w.grownBy w' (some b) := by
  have HM := Lib.hid h
  have HG := Lib.hid (grown_refl w (some b))
  clear h
  go_enter Try.func78, Try.ntmps78
  go_wp2
  go_loopw [7] (fun i wr => ∃ k : Nat, k ≤ c ∧ i = .int .i64 k ∧ Mat wr b off r c F ∧ w.grownBy wr (some b)) (fun i _ => c - (intOf i).toNat)
  case atStart => exact ⟨0, by omega, rfl, HM.out, HG.out⟩
  case round =>
    obtain ⟨k, hk, rfl, hm, hg⟩ := hrel
    have HK := Lib.hid hm
    have HG2 := Lib.hid hg
    by_cases hlt : k < c
    · have hcell := hm.cell a k ha hlt
      have hfree := hm.free (off + a * c + k)
      have hst := (hm.set ha hlt (F a k)).set ha hlt (F a k)
      have hsame : upd (upd F a k (F a k)) a k (F a k) = F := by
        funext i j
        unfold upd
        by_cases e : i = a ∧ j = k
        · rw [if_pos e, e.1, e.2]
        · rw [if_neg e, if_neg e]
      rw [hsame] at hst
      have hx := hF a k
      have hcell3 : ∀ u, (wr.setCell ⟨b, off + a * c + k, none⟩ u).cell? ⟨b, off + a * c + k, none⟩ = some u := fun u => World.cell?_setCell_same _ _ _ hcell
      generalize F a k = x at hcell hst hx
      generalize off + a * c = o1 at *
      have HST := Lib.hid hst
      clear hm hg hst hsame
      go_wp2_with fail
      go_region
      go_wp2
      go_roundw
      case rel => exact ⟨k + 1, by omega, by go_num, HST.out.kept ((Kept.refl _).drew), grown_trans HG2.out (grown_trans (grown_set _ _ _ _) (grown_trans (grown_set _ _ _ _) (grown_kept ((Kept.refl _).drew) _)))⟩
      case measure => simp [intOf]; omega
    · clear hm hg
      go_wp2
      go_end0
      exact ⟨⟨_, rfl⟩, HK.out, HG2.out⟩
theorem swap_any (r c b off cap cap2 a a2 : Nat) (F : Nat → Nat → Nat) (hF : Bt F) (hc : c ≤ 64) (ha : a < r) (ha2 : a2 < r) (w : World) (h : Mat w b off r c F) :
    Calls Try.prog 78 #[.slice (some ⟨b, off + a * c, none⟩) c cap, .slice (some ⟨b, off + a2 * c, none⟩) c cap2] w fun e w' => (∃ u, e = .returned u) ∧ Mat w' b off r c (swapF F a a2) ∧ w.grownBy w' (some b) := by
  by_cases e : a = a2
  · subst e
    rw [swapF_same]
    exact swap_same r c b off cap cap2 a F hF hc ha w h
  · exact swap_rows r c b off cap cap2 a a2 F hF hc ha ha2 e w h
end Go.Proofs.Ytoonpnpooljmlaa

namespace Go.Proofs.Ytoonpnpooljmlaa
open Go.RowKit Go.Shelf
attribute [local go_sem] Oper.semAt_some

/-- a matrix as a value; its cells in a box -/
def matV (r c b off cap : Nat) : Value := .agg #[.int .i64 r, .int .i64 c, .slice (some ⟨b, off, none⟩) (r * c) cap]
def matC (r c b off cap : Nat) : Array Value := #[.int .i64 r, .int .i64 c, .slice (some ⟨b, off, none⟩) (r * c) cap]
theorem rows_any (r c b off cap : Nat) (w : World) :
    Calls Try.prog 55 #[.agg #[.int .i64 r, .int .i64 c, .slice (some ⟨b, off, none⟩) (r * c) cap]] w fun e w' => e = .returned (.func (.func 75) #[] #[.pointer (some ⟨w.heap.size, 0, none⟩)]) ∧
      w' = w.alloc (.cells #[.int .i64 r, .int .i64 c, .slice (some ⟨b, off, none⟩) (r * c) cap] 33) := by
  go_enter Try.func55, Try.ntmps55
  go_wp2
  go_ret
  exact ⟨rfl, rfl⟩

set_option maxRecDepth 100000 in
set_option maxHeartbeats 2000000 in
theorem rows_stops (n : Nat) (hn : 1 ≤ n) (R : Nat → Prop) (r c b off cap bm : Nat) (hr : r ≤ 64) (hc : 1 ≤ c ∧ c ≤ 64) (hcap : r * c ≤ cap) (w : World)
    (hRa : ¬ R bm) (hbm : BlockAt w bm #[.int .i64 r, .int .i64 c, .slice (some ⟨b, off, none⟩) (r * c) cap] 33) :
    SeqStopsK Fence.wide n Try.prog 75 #[.pointer (some ⟨bm, 0, none⟩)]
      (fun k : { k : Nat // k < r } => #[Value.int .i64 (k.1 : Int), .slice (some ⟨b, off + k.1 * c, none⟩) c (cap - k.1 * c)]) (CellsBut R)
      (fun xs => ixs xs = List.range r) (fun pre => ∃ k, k < r ∧ ixs pre = List.range (k + 1)) r w := fun l J Jx W hW hJ _ hY h0 => by
  have hbmW := hbm.kept hW
  have c0 := hbmW.cell 0
  have c1 := hbmW.cell 1
  have c2 := hbmW.cell 2
  simp only [List.getElem?_toArray, List.getElem?_cons_zero, List.getElem?_cons_succ] at c0 c1 c2
  have HB := Lib.hid hbmW
  have HJ := Lib.hid h0
  clear hbmW hbm h0 hW
  refine callsIn_of_wp Try.func75 rfl trivial ?_ rfl
  simp only [Try.ntmps75, List.size_toArray, List.length_nil, List.length_cons, Nat.reduceAdd, Nat.reduceSub, Array.replicate_succ, Array.replicate_zero, List.push_toArray, List.append_toArray, List.nil_append, List.cons_append]
  gi_wp2
  gi_loopw [6] (fun i wr => ∃ k : Nat, k ≤ r ∧ i = .int .i64 k ∧ BlockAt wr bm #[.int .i64 r, .int .i64 c, .slice (some ⟨b, off, none⟩) (r * c) cap] 33 ∧ ∃ pre : List { k : Nat // k < r }, ixs pre = List.range k ∧ J pre wr) (fun i _ => r - (intOf i).toNat)
  case atStart => exact ⟨0, by omega, rfl, HB.out, [], rfl, HJ.out⟩
  case round =>
    obtain ⟨k, hk, rfl, hM, pre, hpre, hJk⟩ := hrel
    have c0 := hM.cell 0
    have c1 := hM.cell 1
    have c2 := hM.cell 2
    simp only [List.getElem?_toArray, List.getElem?_cons_zero, List.getElem?_cons_succ] at c0 c1 c2
    have HMk := Lib.hid hM
    have HPre := Lib.hid hpre
    have hlen : pre.length = k := by have := congrArg List.length hpre; rw [ixs_length] at this; simpa using this
    have HLen := Lib.hid hlen
    clear hM hpre hlen
    by_cases hlt : k < r
    · gi_wp2_with fail
      refine (callsIn_wide.2 (row_any r c b off cap k hr hc hlt hcap _)).mono ?_
      rintro e w3 ⟨rfl, hk3⟩
      obtain ⟨f1, t1, a1, b1, hy1, hR1⟩ := hY pre ⟨k, hlt⟩ w3 (AbidesFrom.kept hJ hJk hk3) (by rw [HLen.out]; exact hlt)
      have HK3 := Lib.hid hk3
      clear hk3 hJk
      gi_wp2_with fail
      refine hR1.mono ?_
      rintro e W3 (⟨rfl, hJ3, hkp⟩ | ⟨rfl, hx3⟩)
      · have HM3 := Lib.hid ((HMk.out.kept HK3.out).but hkp hRa)
        have HJ3 := Lib.hid hJ3
        clear hkp hJ3
        gi_wp2
        go_roundw
        case rel => exact ⟨k + 1, by omega, by go_num, HM3.out, pre ++ [⟨k, hlt⟩], by rw [ixs_snoc, HPre.out, List.range_succ], HJ3.out⟩
        case measure => simp [intOf]; omega
      · gi_wp2
        refine bodyPost_ret (results_none rfl _ _ _) rfl ?_
        exact ⟨⟨_, rfl⟩, .inr ⟨pre ++ [⟨k, hlt⟩], ⟨k, hlt, by rw [ixs_snoc, HPre.out, List.range_succ]⟩, hx3⟩⟩
    · gi_wp2
      go_end0
      have hke : k = r := by omega
      exact ⟨⟨_, rfl⟩, .inl ⟨pre, by rw [HPre.out, hke], hJk⟩⟩
end Go.Proofs.Ytoonpnpooljmlaa

namespace Go.Proofs.Ytoonpnpooljmlaa
open Go.RowKit

theorem Try.infoMat : (Try.prog.info? 33).map (·.size) = some 3 := by kernel_rfl
def zeroF : Nat → Nat → Nat := fun _ _ => 0
theorem zeroF_bt : Bt zeroF := fun _ _ => by show 0 < 256; omega
theorem made_mat (u : World) (r c : Nat) : Mat (u.alloc (.cells (madeCells #[.int .u8 0] (r * c)) 5)) u.heap.size 0 r c zeroF := by
  refine ⟨⟨_, BlockAt.new _ _ _⟩, fun i j hi hj => ?_⟩
  have hb := made_buf u (r * c)
  have hlt := idx_lt hi hj
  have h := hb.cell (i * c + j) (by simpa using hlt)
  rw [Nat.zero_add, h]
  simp [zeroF]
set_option maxRecDepth 100000 in
theorem blank_any (r c : Nat) (hr : r ≤ 64) (hc : c ≤ 64) (w : World) :
    Calls Try.prog 61 #[.int .i64 r, .int .i64 c] w fun e w' => ∃ b off, e = .returned (.agg #[.int .i64 r, .int .i64 c, .slice (some ⟨b, off, none⟩) (r * c) (r * c)]) ∧ w.heap.size ≤ b ∧ Mat w' b off r c zeroF ∧ Kept w w' := by
  have hp : r * c ≤ 4096 := Nat.mul_le_mul hr hc
  have hmk := make_bytes (r * c) (by omega)
  have hb := fun u : World => made_mat u r c
  have hm : (r : Int) * (c : Int) = ((r * c : Nat) : Int) := by simp
  generalize r * c = m at hp hmk hb hm ⊢
  generalize madeCells #[.int .u8 0] m = Z at hmk hb
  have HB := Lib.hid hb
  clear hb
  go_enter Try.func61, Try.ntmps61
  go_wp2
  have hb := HB.out (w.alloc (.cells #[.int .i64 r, .int .i64 c, .slice (some ⟨w.heap.size + 1, 0, none⟩) m m] 33))
  rw [World.size_alloc] at hb
  refine bodyPost_ret (v := .agg #[.int .i64 r, .int .i64 c, .slice (some ⟨w.heap.size + 1, 0, none⟩) m m]) ?_ rfl ⟨_, _, rfl, by omega, hb, ((Kept.refl w).alloc _).alloc _⟩
  exact results_cell_row rfl _ _ w.heap.size 33 #[.int .i64 r, .int .i64 c, .slice (some ⟨w.heap.size + 1, 0, none⟩) m m] (0, 0) _ rfl
    ((BlockAt.new w #[.int .i64 r, .int .i64 c, .slice (some ⟨w.heap.size + 1, 0, none⟩) m m] 33).kept ((Kept.refl _).alloc _)) Try.underlying33 rfl Try.infoMat
end Go.Proofs.Ytoonpnpooljmlaa

namespace Go.Proofs.Ytoonpnpooljmlaa
open Go.RowKit Go.Shelf
attribute [local go_sem] Oper.semAt_some

end Go.Proofs.Ytoonpnpooljmlaa

namespace Go.Proofs.Ytoonpnpooljmlaa
instance (w : World) : Nonempty (Later w) := ⟨⟨w, Kept.refl w⟩⟩
theorem wpIn_region_later_tail {F : Fence} {n : Nat} {P : Program} {id : Nat} {Q : Exit → Act → World → Prop} {a : Act} {w : World} {l : List Oper} (m : Nat) (hm : P.follows .mixedOrders = true) (hnd : l.toArray.all Oper.noDefer = true) (hB : Region.lexTailB .any l.toArray m = true)
    (h : wpQuietIn F n P l.toArray (fun w' => ∃ u : Later w, w' = u.1) (fun a' => ∀ w', (∃ u : Later w, w' = u.1) → wpListIn F n P l.toArray Q (l.drop m) a' w') (l.take m) a) : (Code.region id l.toArray true).wpIn F n P Q a w :=
  wpIn_region_quiet_tail m hm hnd hB ⟨⟨{ w with drawn := w.drawn + 1 }, ⟨rfl, rfl, rfl, Nat.le_refl _, fun _ _ => rfl⟩⟩, rfl⟩ h
end Go.Proofs.Ytoonpnpooljmlaa
