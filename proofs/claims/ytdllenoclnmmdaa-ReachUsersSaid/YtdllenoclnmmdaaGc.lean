/- Contracts laid together: what each says stands at its head (no conditions). -/
import Derived.Test.YtdllenoclnmmdaaGz
import Derived.Test.YtdllenoclnmmdaaGb
import Derived.Test.YtdllenoclnmmdaaIns
import Derived.Test.YtdllenoclnmmdaaGr
namespace Go.Proofs.Ytdllenoclnmmdaa
open Go.RowKit Go.Shelf

/-- the i-th blob, its digest -/
def chB (s : ByteArray) (i : Nat) : ByteArray := (⟨#[98, 108, 111, 98, 32]⟩ ++ s) ++ ⟨#[UInt8.ofNat (97 + i)]⟩
def chD (s : ByteArray) (i : Nat) : ByteArray := dg (chB s i).data.toList
/-- the digest of the i-th manifest -/
def chN (s : ByteArray) : Nat → ByteArray
  | 0 => dg (mfT ⟨0, [chD s 0], []⟩).data.toList
  | i + 1 => dg (mfT ⟨((i + 1 : Nat) : Int), [chD s (i + 1)], [chN s i]⟩).data.toList
def chMf (s : ByteArray) : Nat → Mf
  | 0 => ⟨0, [chD s 0], []⟩
  | i + 1 => ⟨((i + 1 : Nat) : Int), [chD s (i + 1)], [chN s i]⟩
theorem chN_eq (s : ByteArray) : ∀ i, chN s i = dg (mfT (chMf s i)).data.toList
  | 0 => rfl
  | _ + 1 => rfl
/-- in its place -/
def putL (ts : List Th) (t : Th) : List Th := ts.take (lbF ts t.d) ++ [t] ++ ts.drop (lbF ts t.d)
def chL (s : ByteArray) : Nat → List Th
  | 0 => []
  | i + 1 => putL (putL (chL s i) ⟨chD s i, chB s i, false⟩) ⟨chN s i, mfT (chMf s i), true⟩
end Go.Proofs.Ytdllenoclnmmdaa

namespace Go.Proofs.Ytdllenoclnmmdaa
open Go.RowKit Go.Shelf
attribute [local go_sem] Oper.semAt_some

theorem thC_one (ts : List Th) : ∀ u ∈ ts.flatMap thC, u.oneCell' = true := fun u hu => by
  obtain ⟨x, _, hx⟩ := List.mem_flatMap.1 hu
  simp [thC] at hx
  rcases hx with rfl | rfl | rfl <;> rfl
theorem lbF_below (d : ByteArray) : ∀ (ts : List Th) (q : Nat), q < lbF ts d → ltB (ts.getD q th00).d d = true
  | [], q, h => by unfold lbF at h; simp at h
  | x :: r, q, h => by
    unfold lbF at h
    rw [List.takeWhile_cons] at h
    cases hx : ltB x.d d with
    | false => rw [hx] at h; simp at h
    | true =>
      rw [hx] at h
      cases q with
      | zero => simpa [List.getD] using hx
      | succ q =>
        have := lbF_below d r q (by unfold lbF; simpa using h)
        simpa [List.getD] using this
theorem lbF_stop (d : ByteArray) : ∀ (ts : List Th), lbF ts d < ts.length → ltB (ts.getD (lbF ts d) th00).d d = false
  | [], h => by simp at h
  | x :: r, h => by
    unfold lbF at h ⊢
    rw [List.takeWhile_cons] at h ⊢
    cases hx : ltB x.d d with
    | false => simpa [List.getD] using hx
    | true =>
      rw [hx] at h
      have := lbF_stop d r (by unfold lbF; simpa using h)
      unfold lbF at this
      simpa [List.getD] using this
theorem ths_take {W : World} {a : Option Addr} {l : Nat} {ts : List Th} (h : ThsIn W a l ts) {n : Nat} (hn : n ≤ l) : ThsIn W a n (ts.take n) := by
  obtain ⟨b, off, ha, hc⟩ := h.cells
  refine ⟨by rw [List.length_take, h.len_eq]; omega, by have := h.le; omega, fun s hs => h.sizes s (List.mem_of_mem_take hs), b, off, fun h0 => ha (by omega), fun i hi => ?_⟩
  have e : (ts.take n).getD i th00 = ts.getD i th00 := by
    rw [List.getD_eq_getElem?_getD, List.getD_eq_getElem?_getD, List.getElem?_take_of_lt hi]
  rw [e]
  exact hc i (by omega)
theorem thC_cell {W : World} {b off : Nat} {ts : List Th} (hc : ∀ i, i < ts.length → W.cell? ⟨b, off + i * 3, none⟩ = some (.string (ts.getD i th00).d) ∧ W.cell? ⟨b, off + i * 3 + 1, none⟩ = some (.string (ts.getD i th00).t) ∧ W.cell? ⟨b, off + i * 3 + 2, none⟩ = some (.bool (ts.getD i th00).m))
    (j : Nat) (u : Value) (hj : (ts.flatMap thC)[j]? = some u) : W.cell? ⟨b, off + j, none⟩ = some u := by
  have hlt : j < ts.length * 3 := by rw [← thC_len]; exact (List.getElem?_eq_some_iff.1 hj).1
  obtain ⟨i, r, rfl, hr⟩ : ∃ i r, j = i * 3 + r ∧ r < 3 := ⟨j / 3, j % 3, by omega, by omega⟩
  have hi : i < ts.length := by omega
  obtain ⟨h0, h1, h2⟩ := thC_at ts i hi
  obtain ⟨c0, c1, c2⟩ := hc i hi
  match r, hr with
  | 0, _ => rw [Nat.add_zero] at hj ⊢; rw [h0] at hj; rw [c0, hj]
  | 1, _ => rw [h1] at hj; rw [← Nat.add_assoc, c1, hj]
  | 2, _ => rw [h2] at hj; rw [← Nat.add_assoc, c2, hj]
/-- what is behind the k-th of a list of things, as a slice -/
theorem tail_ths (ax : Option Addr) (n cx : Nat) (X : List Th) (k : Nat) (hk : k ≤ n) (hc : n ≤ cx) (w : World) (h : ThsIn w ax n X) (hnone : ax = none → cx = 0) : ∃ az : Option Addr, Hid ((if cx = k then ax else Option.map (fun x => x.add (k * 3)) ax) = az) ∧
    Hid (az = none → n - k = 0) ∧ Hid (∀ w', Kept w w' → ((X.drop k).flatMap thC).length = (n - k) * 3 ∧ ∀ ad, az = some ad → ∀ j u, ((X.drop k).flatMap thC)[j]? = some u → w'.cell? (ad.add j) = some u) := by
  have hl : ((X.drop k).flatMap thC).length = (n - k) * 3 := by rw [thC_len, List.length_drop, h.len_eq]
  refine ⟨_, Lib.hid rfl, Lib.hid (fun e => ?_), Lib.hid (fun w' kk => ⟨hl, fun ad e j u hj => ?_⟩)⟩
  · cases ax with
    | none => have := hnone rfl; omega
    | some p =>
      by_cases hck : cx = k
      · rw [if_pos hck] at e; cases e
      · rw [if_neg hck] at e; cases e
  · have hj2 : j < (n - k) * 3 := by
      have := (List.getElem?_eq_some_iff.1 hj).1
      omega
    obtain ⟨b, off, ha, hcs⟩ := h.cells
    have ha := ha (by omega)
    subst ha
    rw [if_neg (by omega)] at e
    have e2 : ad = ⟨b, off + k * 3, none⟩ := by
      have := Option.some.inj e
      rw [← this]
      unfold Addr.add
      show (if k * 3 = 0 then (⟨b, off, none⟩ : Addr) else ⟨b, off + k * 3, none⟩) = _
      split <;> simp_all
    subst e2
    rw [show (⟨b, off + k * 3, none⟩ : Addr).add j = ⟨b, off + k * 3 + j, none⟩ by unfold Addr.add; split <;> simp_all]
    refine thC_cell (ts := X.drop k) (fun i hi => ?_) j u hj
    rw [List.length_drop, h.len_eq] at hi
    have e3 : (X.drop k).getD i th00 = X.getD (k + i) th00 := by simp [List.getD, List.getElem?_drop]
    obtain ⟨h1, h2, h3, h4⟩ := hcs (k + i) (by omega)
    rw [e3, show off + k * 3 + i * 3 = off + (k + i) * 3 by omega]
    exact ⟨kk.cell h1 h2, kk.cell h1 h3, kk.cell h1 h4⟩
set_option maxRecDepth 100000 in
set_option maxHeartbeats 8000000 in
theorem put_any (ax : Option Addr) (l cx : Nat) (ts : List Th) (xd xt : ByteArray) (xm : Bool) (w : World) (h : ThsIn w ax l ts) (hnone : ax = none → cx = 0) (hlc : l ≤ cx) (hl : l ≤ 1000) :
    Calls Try.prog 57 #[.slice ax l cx, .agg #[.string xd, .string xt, .bool xm]] w fun e w' => ∃ a' c', e = .returned (.slice a' (l + 1) c') ∧ w'.ownsRow w.heap.size 65 3 (.slice a' (l + 1) c') (l + 1) ((putL ts ⟨xd, xt, xm⟩).flatMap thC) ∧ Kept w w' := by
  have HS := Lib.hid h
  have HL := Lib.hid h.len_eq
  have HNC := Lib.hid hnone
  obtain ⟨i0, hi, hz0, hz1, hz2⟩ := info_th Try.prog Try.infoTh
  have HI := Lib.hid (And.intro hi (And.intro hz0 (And.intro hz1 hz2)))
  have HB := Lib.hid (BlockAt.new w #[.string xd, .string xt, .bool xm] 65)
  have HK := Lib.hid ((Kept.refl w).alloc (.cells #[.string xd, .string xt, .bool xm] 65))
  obtain ⟨P, hP⟩ : ∃ P, P = lbF ts xd := ⟨_, rfl⟩
  have hPn : P ≤ l := by rw [hP, ← HL.out]; exact lbF_le ts xd
  have HPB := Lib.hid (show ∀ q, q < P → ltB (ts.getD q th00).d xd = true from fun q hq => lbF_below xd ts q (by rw [← hP]; exact hq))
  have HPA := Lib.hid (show P < l → ltB (ts.getD P th00).d xd = false from fun hq => by have := lbF_stop xd ts (by rw [← hP, HL.out]; exact hq); rw [← hP] at this; exact this)
  have HPU := Lib.hid (show putL ts ⟨xd, xt, xm⟩ = ts.take P ++ [⟨xd, xt, xm⟩] ++ ts.drop P by unfold putL; rw [hP])
  clear hP h hnone hi hz0 hz1 hz2
  go_enter Try.func57, Try.ntmps57
  go_upto_region 1 with (fail)
  generalize w.alloc (.cells #[.string xd, .string xt, .bool xm] 65) = w1 at *
  go_wp2_with fail
  go_loopw [5] (fun kv wx => ∃ k : Nat, k ≤ P ∧ kv = .int .i64 k ∧ Kept w1 wx) (fun kv _ => l - (intOf kv).toNat)
  case atStart => exact ⟨0, by omega, rfl, Kept.refl _⟩
  case round =>
    rename World => wx
    obtain ⟨k, hk, rfl, hkx⟩ := hrel
    have HKX := Lib.hid hkx
    obtain ⟨a0, a1, a2⟩ := box3 (HB.out.kept hkx)
    clear hkx
    by_cases hkn : k < l
    · have hdk : decide (k < l) = true := decide_eq_true hkn
      obtain ⟨bx, ox, hax, hcx⟩ := HS.out.at (by omega)
      obtain ⟨c0, c1, c2⟩ := hcx k hkn _ (HK.out.trans HKX.out)
      obtain ⟨u, hu⟩ : ∃ u, u = (ts.getD k th00).d := ⟨_, rfl⟩
      rw [← hu] at c0
      by_cases hkP : k < P
      · have hq : ltB u xd = true := by rw [hu]; exact HPB.out k hkP
        have hop : Op.bytesLess u.toList xd.toList = true := hq
        subst hax
        clear hq hcx hu
        go_wp2_with fail
        go_quiet (fail)
        go_wp2
        go_roundw
        case rel => exact ⟨k + 1, by omega, by go_num, HKX.out.drewN nq⟩
        case measure => simp [intOf]; omega
      · obtain rfl : k = P := by omega
        have hq : ltB u xd = false := by rw [hu]; exact HPA.out hkn
        have hop : Op.bytesLess u.toList xd.toList = false := hq
        have hax2 := Lib.hid hax
        subst hax
        clear hq hcx hu
        go_wp2_with fail
        go_quiet (fail)
        have HKN := Lib.hid (HKX.out.drewN nq)
        generalize wx.drewN nq = wq at *
        clear hop c0 c1 c2 a0 a1 a2 hax2
        generalize hax2 : (some ⟨bx, ox, none⟩ : Option Addr) = ax at *
        clear hax2
        have HKW := Lib.hid (HK.out.trans HKN.out)
        have HBX := Lib.hid (show ∀ w', Kept wq w' → w'.cell? ⟨w.heap.size, 0, none⟩ = some (.string xd) ∧ w'.cell? ⟨w.heap.size, 1, none⟩ = some (.string xt) ∧ w'.cell? ⟨w.heap.size, 2, none⟩ = some (.bool xm) from fun w' kk => box3 (HB.out.kept (HKN.out.trans kk)))
        have HST2 := Lib.hid (HS.out.kept HKW.out)
        obtain ⟨aq, HSL, HNO, HTL⟩ := tail_ths ax l cx ts k (by omega) hlc wq HST2.out HNC.out
        have HCP := Lib.hid (show ∀ w', Kept wq w' → Calls Try.prog 21 #[.slice ax k cx] w' fun e w2 => ∃ a' c', e = .returned (.slice a' k c') ∧ w2.ownsRow w'.heap.size 65 3 (.slice a' k c') k ((ts.take k).flatMap thC) ∧ Kept w' w2 from fun w' kk => copy_things ax k cx (ts.take k) w' (ths_take (HST2.out.kept kk) (by omega)))
        have hHQ : k ≤ cx := by omega
        have HLN := Lib.hid (show k + 1 + (l - k) = l + 1 by omega)
        have HPV := Lib.hid (show (putL ts ⟨xd, xt, xm⟩).flatMap thC = (ts.take k).flatMap thC ++ [.string xd, .string xt, .bool xm] ++ (ts.drop k).flatMap thC by
          rw [HPU.out, List.flatMap_append, List.flatMap_append]; rfl)
        clear HPU HPA HPB
        go_wp2_with fail
        refine Pj.wp_region_step (fun az0 L az w => ∃ V : Nat → Value, az = Pj.puts [(22, 0), (23, 1), (24, 2), (25, 3), (26, 4), (27, 5), (28, 6), (29, 7), (30, 8), (31, 9), (32, 10), (4, 11)] V az0 ∧ Pj.J wq [Pj.Is (.slice ax l cx), Pj.Is (.int .i64 k), Pj.Is (.slice ax k cx), (fun _ v => ∃ a c, v = .slice a k c), Pj.Is (.agg #[.string xd, .string xt, .bool xm]), (fun _ v => ∃ g : Nat, v = .slice (some ⟨g, 0, none⟩) 1 1), (fun _ v => ∃ a c, v = .slice a (k + 1) c), Pj.Is (.slice ax l cx), Pj.Is (.int .i64 k), Pj.Is (.slice aq (l - k) (cx - k)), (fun _ v => ∃ a c, v = .slice a (k + 1 + (l - k)) c), (fun _ _ => True)] L V w ∧ Pj.Ins wq.heap.size 65 3 k (l - k) ((ts.take k).flatMap thC) [.string xd, .string xt, .bool xm] ((ts.drop k).flatMap thC) 3 5 6 10 L V w ∧ (L 11 → L 10 ∧ V 11 = V 10)) (by as_aux_lemma => kernel_rfl) (by as_aux_lemma => kernel_rfl) ?eh0 ?ehs ?ehe
        case eh0 =>
          intro L hL
          exact ⟨_, Pj.puts_self _ (fun j => ([22, 23, 24, 25, 26, 27, 28, 29, 30, 31, 32, 4] : List Nat).getD j 0) [0, 1, 2, 3, 4, 5, 6, 7, 8, 9, 10, 11], Pj.J.none (n := 12) (Nat.le_refl _) hL ((Kept.refl _).drew), Pj.Ins.start (hL 3 (by decide)) (hL 5 (by decide)) (hL 6 (by decide)) (hL 10 (by decide)), fun h => absurd h (hL 11 (by decide))⟩
        case ehs =>
          rintro L L' az w iz opz Kq ⟨V, rfl, hJ, hI, hc11⟩ ho hopen hdep hL hKq
          have hP : Pj.AllFlat [Pj.Is (.slice ax l cx), Pj.Is (.int .i64 k), Pj.Is (.slice ax k cx), (fun _ v => ∃ a c, v = .slice a k c), Pj.Is (.agg #[.string xd, .string xt, .bool xm]), (fun _ v => ∃ g : Nat, v = .slice (some ⟨g, 0, none⟩) 1 1), (fun _ v => ∃ a c, v = .slice a (k + 1) c), Pj.Is (.slice ax l cx), Pj.Is (.int .i64 k), Pj.Is (.slice aq (l - k) (cx - k)), (fun _ v => ∃ a c, v = .slice a (k + 1 + (l - k)) c), (fun _ _ => True)] := ⟨Pj.Is.flat _, Pj.Is.flat _, Pj.Is.flat _, (fun _ _ _ h _ => h), Pj.Is.flat _, (fun _ _ _ h _ => h), (fun _ _ _ h _ => h), Pj.Is.flat _, Pj.Is.flat _, Pj.Is.flat _, (fun _ _ _ h _ => h), (fun _ _ _ _ _ => trivial), trivial⟩
          have HP := Lib.hid hP
          clear hP
          match iz, ho with
          | 0, ho =>
            simp only [List.getElem?_toArray, List.getElem?_cons_zero, Option.some.injEq] at ho
            have HJ := Lib.hid hJ
            clear hJ
            have HXhI := Lib.hid hI
            clear hI
            subst ho
            refine Pj.Step.free rfl ?_
            simp only [Pj.puts, List.foldl_cons, List.foldl_nil, Act.put, List.setIfInBounds_toArray, List.set_cons_zero, List.set_cons_succ]
            go_simp
            exact hKq _ _ ⟨Pj.vset V 0 (.slice ax l cx), by simp only [Pj.puts, List.foldl_cons, List.foldl_nil, Act.put, List.setIfInBounds_toArray, List.set_cons_zero, List.set_cons_succ, Pj.vset, Nat.reduceEqDiff, if_true, if_false], HJ.out.flat HP.out hL (HJ.out.kp.trans (Kept.refl _)) (Kept.size (Kept.refl _)) (rfl), HXhI.out.keep (by decide) (by decide) (by decide) (by decide) hL (Kept.refl _), fun h => ⟨(hL 10).2 (.inr (hc11 (((hL 11).1 h).resolve_left (by decide))).1), by rw [Pj.vset_other _ _ (by decide), Pj.vset_other _ _ (by decide)]; exact (hc11 (((hL 11).1 h).resolve_left (by decide))).2⟩⟩
          | 1, ho =>
            simp only [List.getElem?_toArray, List.getElem?_cons_zero, List.getElem?_cons_succ, Option.some.injEq] at ho
            have HJ := Lib.hid hJ
            clear hJ
            have HXhI := Lib.hid hI
            clear hI
            subst ho
            refine Pj.Step.free rfl ?_
            simp only [Pj.puts, List.foldl_cons, List.foldl_nil, Act.put, List.setIfInBounds_toArray, List.set_cons_zero, List.set_cons_succ]
            go_simp
            exact hKq _ _ ⟨Pj.vset V 1 (.int .i64 k), by simp only [Pj.puts, List.foldl_cons, List.foldl_nil, Act.put, List.setIfInBounds_toArray, List.set_cons_zero, List.set_cons_succ, Pj.vset, Nat.reduceEqDiff, if_true, if_false], HJ.out.flat HP.out hL (HJ.out.kp.trans (Kept.refl _)) (Kept.size (Kept.refl _)) (rfl), HXhI.out.keep (by decide) (by decide) (by decide) (by decide) hL (Kept.refl _), fun h => ⟨(hL 10).2 (.inr (hc11 (((hL 11).1 h).resolve_left (by decide))).1), by rw [Pj.vset_other _ _ (by decide), Pj.vset_other _ _ (by decide)]; exact (hc11 (((hL 11).1 h).resolve_left (by decide))).2⟩⟩
          | 2, ho =>
            simp only [List.getElem?_toArray, List.getElem?_cons_zero, List.getElem?_cons_succ, Option.some.injEq] at ho
            have e0 : V 0 = .slice ax l cx := hJ.h 0 (hdep 0 (by rw [← ho]; kernel_rfl))
            have e1 : V 1 = .int .i64 k := hJ.h 1 (hdep 1 (by rw [← ho]; kernel_rfl))
            have HJ := Lib.hid hJ
            clear hJ
            have HXhI := Lib.hid hI
            clear hI
            subst ho
            refine Pj.Step.free rfl ?_
            simp only [Pj.puts, List.foldl_cons, List.foldl_nil, Act.put, List.setIfInBounds_toArray, List.set_cons_zero, List.set_cons_succ, e0, e1]
            go_simp
            exact hKq _ _ ⟨Pj.vset V 2 (.slice ax k cx), by simp only [Pj.puts, List.foldl_cons, List.foldl_nil, Act.put, List.setIfInBounds_toArray, List.set_cons_zero, List.set_cons_succ, Pj.vset, Nat.reduceEqDiff, if_true, if_false, e0, e1], HJ.out.flat HP.out hL (HJ.out.kp.trans (Kept.refl _)) (Kept.size (Kept.refl _)) (rfl), HXhI.out.keep (by decide) (by decide) (by decide) (by decide) hL (Kept.refl _), fun h => ⟨(hL 10).2 (.inr (hc11 (((hL 11).1 h).resolve_left (by decide))).1), by rw [Pj.vset_other _ _ (by decide), Pj.vset_other _ _ (by decide)]; exact (hc11 (((hL 11).1 h).resolve_left (by decide))).2⟩⟩
          | 3, ho =>
            simp only [List.getElem?_toArray, List.getElem?_cons_zero, List.getElem?_cons_succ, Option.some.injEq] at ho
            have e2 : V 2 = .slice ax k cx := hJ.h 2 (hdep 2 (by rw [← ho]; kernel_rfl))
            have hcp := HCP.out w hJ.kp
            have HJ := Lib.hid hJ
            clear hJ
            have HXhI := Lib.hid hI
            clear hI
            subst ho
            refine Pj.Step.free rfl ?_
            simp only [Pj.puts, List.foldl_cons, List.foldl_nil, Act.put, List.setIfInBounds_toArray, List.set_cons_zero, List.set_cons_succ, e2]
            go_simp
            refine hcp.mono ?_
            rintro e w' ⟨a5, c5, rfl, hown5', hk9⟩
            have hown5 := own_base hown5' (Kept.size HJ.out.kp)
            exact hKq _ _ ⟨Pj.vset V 3 (.slice a5 k c5), by simp only [Pj.puts, List.foldl_cons, List.foldl_nil, Act.put, List.setIfInBounds_toArray, List.set_cons_zero, List.set_cons_succ, Pj.vset, Nat.reduceEqDiff, if_true, if_false, e2], HJ.out.flat HP.out hL (HJ.out.kp.trans (hk9)) (Kept.size (hk9)) (⟨_, _, rfl⟩), HXhI.out.copied hopen (by decide) (by decide) (by decide) hL hk9 hown5, fun h => ⟨(hL 10).2 (.inr (hc11 (((hL 11).1 h).resolve_left (by decide))).1), by rw [Pj.vset_other _ _ (by decide), Pj.vset_other _ _ (by decide)]; exact (hc11 (((hL 11).1 h).resolve_left (by decide))).2⟩⟩
          | 4, ho =>
            simp only [List.getElem?_toArray, List.getElem?_cons_zero, List.getElem?_cons_succ, Option.some.injEq] at ho
            obtain ⟨d0, d1, d2⟩ := HBX.out _ hJ.kp
            have HJ := Lib.hid hJ
            clear hJ
            have HXhI := Lib.hid hI
            clear hI
            subst ho
            refine Pj.Step.free rfl ?_
            simp only [Pj.puts, List.foldl_cons, List.foldl_nil, Act.put, List.setIfInBounds_toArray, List.set_cons_zero, List.set_cons_succ]
            go_simp
            exact hKq _ _ ⟨Pj.vset V 4 (.agg #[.string xd, .string xt, .bool xm]), by simp only [Pj.puts, List.foldl_cons, List.foldl_nil, Act.put, List.setIfInBounds_toArray, List.set_cons_zero, List.set_cons_succ, Pj.vset, Nat.reduceEqDiff, if_true, if_false], HJ.out.flat HP.out hL (HJ.out.kp.trans (Kept.refl _)) (Kept.size (Kept.refl _)) (rfl), HXhI.out.keep (by decide) (by decide) (by decide) (by decide) hL (Kept.refl _), fun h => ⟨(hL 10).2 (.inr (hc11 (((hL 11).1 h).resolve_left (by decide))).1), by rw [Pj.vset_other _ _ (by decide), Pj.vset_other _ _ (by decide)]; exact (hc11 (((hL 11).1 h).resolve_left (by decide))).2⟩⟩
          | 5, ho =>
            simp only [List.getElem?_toArray, List.getElem?_cons_zero, List.getElem?_cons_succ, Option.some.injEq] at ho
            have e4 : V 4 = .agg #[.string xd, .string xt, .bool xm] := hJ.h 4 (hdep 4 (by rw [← ho]; kernel_rfl))
            have HJ := Lib.hid hJ
            clear hJ
            have HXhI := Lib.hid hI
            clear hI
            subst ho
            refine Pj.Step.free rfl ?_
            simp only [Pj.puts, List.foldl_cons, List.foldl_nil, Act.put, List.setIfInBounds_toArray, List.set_cons_zero, List.set_cons_succ, e4]
            go_simp
            exact hKq _ _ ⟨Pj.vset V 5 (.slice (some ⟨w.heap.size, 0, none⟩) 1 1), by simp only [Pj.puts, List.foldl_cons, List.foldl_nil, Act.put, List.setIfInBounds_toArray, List.set_cons_zero, List.set_cons_succ, Pj.vset, Nat.reduceEqDiff, if_true, if_false, e4], HJ.out.flat HP.out hL (HJ.out.kp.trans ((Kept.refl _).alloc _)) (Kept.size ((Kept.refl _).alloc _)) (⟨_, rfl⟩), HXhI.out.built hopen (by decide) (by decide) (by decide) hL, fun h => ⟨(hL 10).2 (.inr (hc11 (((hL 11).1 h).resolve_left (by decide))).1), by rw [Pj.vset_other _ _ (by decide), Pj.vset_other _ _ (by decide)]; exact (hc11 (((hL 11).1 h).resolve_left (by decide))).2⟩⟩
          | 6, ho =>
            simp only [List.getElem?_toArray, List.getElem?_cons_zero, List.getElem?_cons_succ, Option.some.injEq] at ho
            have l3 := hdep 3 (by rw [← ho]; kernel_rfl)
            obtain ⟨a3, c3, e3⟩ := hJ.h 3 l3
            have l5 := hdep 5 (by rw [← ho]; kernel_rfl)
            obtain ⟨g5, e5⟩ := hJ.h 5 l5
            obtain ⟨g, eg, hgb⟩ := hI.b1 l5 hopen
            have hown := hI.c1 l3 hopen
            rw [e3] at hown
            rw [e5] at eg
            cases eg
            have HJ := Lib.hid hJ
            clear hJ
            have HXhI := Lib.hid hI
            clear hI
            subst ho
            refine Pj.Step.free rfl ?_
            simp only [Pj.puts, List.foldl_cons, List.foldl_nil, Act.put, List.setIfInBounds_toArray, List.set_cons_zero, List.set_cons_succ, e3, e5]
            refine Pj.oper_takes _ _ 46 rfl wq.heap.size 65 i0 (.agg #[.string ByteArray.empty, .string ByteArray.empty, .bool false]) 3 40 Try.underlying46 HI.out.1 HI.out.2.1 HI.out.2.2.1 HI.out.2.2.2 rfl (by decide) (.slice a3 k c3) k ((ts.take k).flatMap thC) rfl hown (some ⟨g5, 0, none⟩) 1 1 [.string xd, .string xt, .bool xm] rfl (fun e => by cases e) rfl (fun ad e j u hj => by cases e; exact Pj.block_cells hgb j u hj) (by intro u hu; simp at hu; rcases hu with rfl | rfl | rfl <;> rfl) (by omega) (by decide) HJ.out.kp.size ?_
            intro v' w' hown' hgrow
            obtain ⟨a6, c6, rfl⟩ := slice_of_own1 hown'
            simp only [Act.put, List.setIfInBounds_toArray, List.set_cons_zero, List.set_cons_succ]
            exact hKq _ _ ⟨Pj.vset V 6 (.slice a6 (k + 1) c6), by simp only [Pj.puts, List.foldl_cons, List.foldl_nil, Act.put, List.setIfInBounds_toArray, List.set_cons_zero, List.set_cons_succ, Pj.vset, Nat.reduceEqDiff, if_true, if_false, e3, e5], HJ.out.flat HP.out hL (kept_gr1 HJ.out.kp hgrow (fun q e => (hown.lt q e).1) (Nat.le_refl _)) (hgrow.size) (⟨_, _, rfl⟩), HXhI.out.one hopen l3 l5 (by decide) (by decide) (by decide) hL hown', fun h => ⟨(hL 10).2 (.inr (hc11 (((hL 11).1 h).resolve_left (by decide))).1), by rw [Pj.vset_other _ _ (by decide), Pj.vset_other _ _ (by decide)]; exact (hc11 (((hL 11).1 h).resolve_left (by decide))).2⟩⟩
          | 7, ho =>
            simp only [List.getElem?_toArray, List.getElem?_cons_zero, List.getElem?_cons_succ, Option.some.injEq] at ho
            have HJ := Lib.hid hJ
            clear hJ
            have HXhI := Lib.hid hI
            clear hI
            subst ho
            refine Pj.Step.free rfl ?_
            simp only [Pj.puts, List.foldl_cons, List.foldl_nil, Act.put, List.setIfInBounds_toArray, List.set_cons_zero, List.set_cons_succ]
            go_simp
            exact hKq _ _ ⟨Pj.vset V 7 (.slice ax l cx), by simp only [Pj.puts, List.foldl_cons, List.foldl_nil, Act.put, List.setIfInBounds_toArray, List.set_cons_zero, List.set_cons_succ, Pj.vset, Nat.reduceEqDiff, if_true, if_false], HJ.out.flat HP.out hL (HJ.out.kp.trans (Kept.refl _)) (Kept.size (Kept.refl _)) (rfl), HXhI.out.keep (by decide) (by decide) (by decide) (by decide) hL (Kept.refl _), fun h => ⟨(hL 10).2 (.inr (hc11 (((hL 11).1 h).resolve_left (by decide))).1), by rw [Pj.vset_other _ _ (by decide), Pj.vset_other _ _ (by decide)]; exact (hc11 (((hL 11).1 h).resolve_left (by decide))).2⟩⟩
          | 8, ho =>
            simp only [List.getElem?_toArray, List.getElem?_cons_zero, List.getElem?_cons_succ, Option.some.injEq] at ho
            have HJ := Lib.hid hJ
            clear hJ
            have HXhI := Lib.hid hI
            clear hI
            subst ho
            refine Pj.Step.free rfl ?_
            simp only [Pj.puts, List.foldl_cons, List.foldl_nil, Act.put, List.setIfInBounds_toArray, List.set_cons_zero, List.set_cons_succ]
            go_simp
            exact hKq _ _ ⟨Pj.vset V 8 (.int .i64 k), by simp only [Pj.puts, List.foldl_cons, List.foldl_nil, Act.put, List.setIfInBounds_toArray, List.set_cons_zero, List.set_cons_succ, Pj.vset, Nat.reduceEqDiff, if_true, if_false], HJ.out.flat HP.out hL (HJ.out.kp.trans (Kept.refl _)) (Kept.size (Kept.refl _)) (rfl), HXhI.out.keep (by decide) (by decide) (by decide) (by decide) hL (Kept.refl _), fun h => ⟨(hL 10).2 (.inr (hc11 (((hL 11).1 h).resolve_left (by decide))).1), by rw [Pj.vset_other _ _ (by decide), Pj.vset_other _ _ (by decide)]; exact (hc11 (((hL 11).1 h).resolve_left (by decide))).2⟩⟩
          | 9, ho =>
            simp only [List.getElem?_toArray, List.getElem?_cons_zero, List.getElem?_cons_succ, Option.some.injEq] at ho
            have e7 : V 7 = .slice ax l cx := hJ.h 7 (hdep 7 (by rw [← ho]; kernel_rfl))
            have e8 : V 8 = .int .i64 k := hJ.h 8 (hdep 8 (by rw [← ho]; kernel_rfl))
            have hsl := HSL.out
            have HJ := Lib.hid hJ
            clear hJ
            have HXhI := Lib.hid hI
            clear hI
            subst ho
            refine Pj.Step.free rfl ?_
            simp only [Pj.puts, List.foldl_cons, List.foldl_nil, Act.put, List.setIfInBounds_toArray, List.set_cons_zero, List.set_cons_succ, e7, e8]
            go_simp
            exact hKq _ _ ⟨Pj.vset V 9 (.slice aq (l - k) (cx - k)), by simp only [Pj.puts, List.foldl_cons, List.foldl_nil, Act.put, List.setIfInBounds_toArray, List.set_cons_zero, List.set_cons_succ, Pj.vset, Nat.reduceEqDiff, if_true, if_false, e7, e8], HJ.out.flat HP.out hL (HJ.out.kp.trans (Kept.refl _)) (Kept.size (Kept.refl _)) (rfl), HXhI.out.keep (by decide) (by decide) (by decide) (by decide) hL (Kept.refl _), fun h => ⟨(hL 10).2 (.inr (hc11 (((hL 11).1 h).resolve_left (by decide))).1), by rw [Pj.vset_other _ _ (by decide), Pj.vset_other _ _ (by decide)]; exact (hc11 (((hL 11).1 h).resolve_left (by decide))).2⟩⟩
          | 10, ho =>
            simp only [List.getElem?_toArray, List.getElem?_cons_zero, List.getElem?_cons_succ, Option.some.injEq] at ho
            have l6 := hdep 6 (by rw [← ho]; kernel_rfl)
            obtain ⟨a6, c6, e6⟩ := hJ.h 6 l6
            have e9 : V 9 = .slice aq (l - k) (cx - k) := hJ.h 9 (hdep 9 (by rw [← ho]; kernel_rfl))
            have hown := hI.p1 l6 hopen
            rw [e6] at hown
            have htl := HTL.out w hJ.kp
            have HJ := Lib.hid hJ
            clear hJ
            have HXhI := Lib.hid hI
            clear hI
            subst ho
            refine Pj.Step.free rfl ?_
            simp only [Pj.puts, List.foldl_cons, List.foldl_nil, Act.put, List.setIfInBounds_toArray, List.set_cons_zero, List.set_cons_succ, e6, e9]
            refine Pj.oper_takes _ _ 46 rfl wq.heap.size 65 i0 (.agg #[.string ByteArray.empty, .string ByteArray.empty, .bool false]) 3 40 Try.underlying46 HI.out.1 HI.out.2.1 HI.out.2.2.1 HI.out.2.2.2 rfl (by decide) (.slice a6 (k + 1) c6) (k + 1) (((ts.take k).flatMap thC) ++ [.string xd, .string xt, .bool xm]) rfl hown aq (l - k) (cx - k) ((ts.drop k).flatMap thC) rfl HNO.out htl.1 htl.2 (fun u hu => thC_one _ u hu) (by omega) (by decide) HJ.out.kp.size ?_
            intro v' w' hown' hgrow
            obtain ⟨a6, c6, rfl⟩ := slice_of_own1 hown'
            simp only [Act.put, List.setIfInBounds_toArray, List.set_cons_zero, List.set_cons_succ]
            exact hKq _ _ ⟨Pj.vset V 10 (.slice a6 (k + 1 + (l - k)) c6), by simp only [Pj.puts, List.foldl_cons, List.foldl_nil, Act.put, List.setIfInBounds_toArray, List.set_cons_zero, List.set_cons_succ, Pj.vset, Nat.reduceEqDiff, if_true, if_false, e6, e9], HJ.out.flat HP.out hL (kept_gr1 HJ.out.kp hgrow (fun q e => (hown.lt q e).1) (Nat.le_refl _)) (hgrow.size) (⟨_, _, rfl⟩), HXhI.out.tail l6 (by decide) hL hown', fun h => absurd (hc11 (((hL 11).1 h).resolve_left (by decide))).1 hopen⟩
          | 11, ho =>
            simp only [List.getElem?_toArray, List.getElem?_cons_zero, List.getElem?_cons_succ, Option.some.injEq] at ho
            have l10 := hdep 10 (by rw [← ho]; kernel_rfl)
            obtain ⟨a10, c10, e10⟩ := hJ.h 10 l10
            have HJ := Lib.hid hJ
            clear hJ
            have HXhI := Lib.hid hI
            clear hI
            subst ho
            refine Pj.Step.free rfl ?_
            simp only [Pj.puts, List.foldl_cons, List.foldl_nil, Act.put, List.setIfInBounds_toArray, List.set_cons_zero, List.set_cons_succ, e10]
            go_simp
            exact hKq _ _ ⟨Pj.vset V 11 (V 10), by simp only [Pj.puts, List.foldl_cons, List.foldl_nil, Act.put, List.setIfInBounds_toArray, List.set_cons_zero, List.set_cons_succ, Pj.vset, Nat.reduceEqDiff, if_true, if_false, e10], HJ.out.flat HP.out hL (HJ.out.kp.trans (Kept.refl _)) (Kept.size (Kept.refl _)) (trivial), HXhI.out.keep (by decide) (by decide) (by decide) (by decide) hL (Kept.refl _), fun _ => ⟨(hL 10).2 (.inr l10), by rw [Pj.vset_same, Pj.vset_other _ _ (by decide)]⟩⟩
          | n + 12, ho => simp at ho
        case ehe =>
          rintro L az w ⟨V, rfl, hJ, hI, hc11⟩ hall
          have e11 : V 11 = V 10 := (hc11 (hall 11 (by decide))).2
          obtain ⟨a10, c10, e10⟩ := hJ.h 10 (hall 10 (by decide))
          have hq9 := hI.q1 (hall 10 (by decide))
          rw [e10] at hq9
          have HQ9 := Lib.hid hq9
          clear hq9
          have HKj := Lib.hid hJ.kp
          clear hJ hall hI hc11
          simp only [Pj.puts, List.foldl_cons, List.foldl_nil, Act.put, List.setIfInBounds_toArray, List.set_cons_zero, List.set_cons_succ, e11, e10]
          clear e11 e10
          have HWQ := Lib.hid HKW.out.size
          go_wp2_with fail
          go_ret
          rw [HLN.out]
          refine ⟨_, _, rfl, ?_, HKW.out.trans HKj.out⟩
          have h := HQ9.out
          rw [HLN.out] at h
          rw [HPV.out]
          exact own_base h HWQ.out
    · obtain rfl : k = P := by omega
      have hdk : decide (k < l) = false := decide_eq_false hkn
      go_wp2_with fail
      go_quiet (fail)
      have HKN := Lib.hid (HKX.out.drewN nq)
      generalize wx.drewN nq = wq at *
      clear a0 a1 a2
      have HKW := Lib.hid (HK.out.trans HKN.out)
      have HBX := Lib.hid (show ∀ w', Kept wq w' → w'.cell? ⟨w.heap.size, 0, none⟩ = some (.string xd) ∧ w'.cell? ⟨w.heap.size, 1, none⟩ = some (.string xt) ∧ w'.cell? ⟨w.heap.size, 2, none⟩ = some (.bool xm) from fun w' kk => box3 (HB.out.kept (HKN.out.trans kk)))
      have HST2 := Lib.hid (HS.out.kept HKW.out)
      obtain ⟨aq, HSL, HNO, HTL⟩ := tail_ths ax l cx ts k (by omega) hlc wq HST2.out HNC.out
      have HCP := Lib.hid (show ∀ w', Kept wq w' → Calls Try.prog 21 #[.slice ax k cx] w' fun e w2 => ∃ a' c', e = .returned (.slice a' k c') ∧ w2.ownsRow w'.heap.size 65 3 (.slice a' k c') k ((ts.take k).flatMap thC) ∧ Kept w' w2 from fun w' kk => copy_things ax k cx (ts.take k) w' (ths_take (HST2.out.kept kk) (by omega)))
      have hHQ : k ≤ cx := by omega
      have HLN := Lib.hid (show k + 1 + (l - k) = l + 1 by omega)
      have HPV := Lib.hid (show (putL ts ⟨xd, xt, xm⟩).flatMap thC = (ts.take k).flatMap thC ++ [.string xd, .string xt, .bool xm] ++ (ts.drop k).flatMap thC by
        rw [HPU.out, List.flatMap_append, List.flatMap_append]; rfl)
      clear HPU HPA HPB
      go_wp2_with fail
      refine Pj.wp_region_step (fun az0 L az w => ∃ V : Nat → Value, az = Pj.puts [(22, 0), (23, 1), (24, 2), (25, 3), (26, 4), (27, 5), (28, 6), (29, 7), (30, 8), (31, 9), (32, 10), (4, 11)] V az0 ∧ Pj.J wq [Pj.Is (.slice ax l cx), Pj.Is (.int .i64 k), Pj.Is (.slice ax k cx), (fun _ v => ∃ a c, v = .slice a k c), Pj.Is (.agg #[.string xd, .string xt, .bool xm]), (fun _ v => ∃ g : Nat, v = .slice (some ⟨g, 0, none⟩) 1 1), (fun _ v => ∃ a c, v = .slice a (k + 1) c), Pj.Is (.slice ax l cx), Pj.Is (.int .i64 k), Pj.Is (.slice aq (l - k) (cx - k)), (fun _ v => ∃ a c, v = .slice a (k + 1 + (l - k)) c), (fun _ _ => True)] L V w ∧ Pj.Ins wq.heap.size 65 3 k (l - k) ((ts.take k).flatMap thC) [.string xd, .string xt, .bool xm] ((ts.drop k).flatMap thC) 3 5 6 10 L V w ∧ (L 11 → L 10 ∧ V 11 = V 10)) (by as_aux_lemma => kernel_rfl) (by as_aux_lemma => kernel_rfl) ?eh0 ?ehs ?ehe
      case eh0 =>
        intro L hL
        exact ⟨_, Pj.puts_self _ (fun j => ([22, 23, 24, 25, 26, 27, 28, 29, 30, 31, 32, 4] : List Nat).getD j 0) [0, 1, 2, 3, 4, 5, 6, 7, 8, 9, 10, 11], Pj.J.none (n := 12) (Nat.le_refl _) hL ((Kept.refl _).drew), Pj.Ins.start (hL 3 (by decide)) (hL 5 (by decide)) (hL 6 (by decide)) (hL 10 (by decide)), fun h => absurd h (hL 11 (by decide))⟩
      case ehs =>
        rintro L L' az w iz opz Kq ⟨V, rfl, hJ, hI, hc11⟩ ho hopen hdep hL hKq
        have hP : Pj.AllFlat [Pj.Is (.slice ax l cx), Pj.Is (.int .i64 k), Pj.Is (.slice ax k cx), (fun _ v => ∃ a c, v = .slice a k c), Pj.Is (.agg #[.string xd, .string xt, .bool xm]), (fun _ v => ∃ g : Nat, v = .slice (some ⟨g, 0, none⟩) 1 1), (fun _ v => ∃ a c, v = .slice a (k + 1) c), Pj.Is (.slice ax l cx), Pj.Is (.int .i64 k), Pj.Is (.slice aq (l - k) (cx - k)), (fun _ v => ∃ a c, v = .slice a (k + 1 + (l - k)) c), (fun _ _ => True)] := ⟨Pj.Is.flat _, Pj.Is.flat _, Pj.Is.flat _, (fun _ _ _ h _ => h), Pj.Is.flat _, (fun _ _ _ h _ => h), (fun _ _ _ h _ => h), Pj.Is.flat _, Pj.Is.flat _, Pj.Is.flat _, (fun _ _ _ h _ => h), (fun _ _ _ _ _ => trivial), trivial⟩
        have HP := Lib.hid hP
        clear hP
        match iz, ho with
        | 0, ho =>
          simp only [List.getElem?_toArray, List.getElem?_cons_zero, Option.some.injEq] at ho
          have HJ := Lib.hid hJ
          clear hJ
          have HXhI := Lib.hid hI
          clear hI
          subst ho
          refine Pj.Step.free rfl ?_
          simp only [Pj.puts, List.foldl_cons, List.foldl_nil, Act.put, List.setIfInBounds_toArray, List.set_cons_zero, List.set_cons_succ]
          go_simp
          exact hKq _ _ ⟨Pj.vset V 0 (.slice ax l cx), by simp only [Pj.puts, List.foldl_cons, List.foldl_nil, Act.put, List.setIfInBounds_toArray, List.set_cons_zero, List.set_cons_succ, Pj.vset, Nat.reduceEqDiff, if_true, if_false], HJ.out.flat HP.out hL (HJ.out.kp.trans (Kept.refl _)) (Kept.size (Kept.refl _)) (rfl), HXhI.out.keep (by decide) (by decide) (by decide) (by decide) hL (Kept.refl _), fun h => ⟨(hL 10).2 (.inr (hc11 (((hL 11).1 h).resolve_left (by decide))).1), by rw [Pj.vset_other _ _ (by decide), Pj.vset_other _ _ (by decide)]; exact (hc11 (((hL 11).1 h).resolve_left (by decide))).2⟩⟩
        | 1, ho =>
          simp only [List.getElem?_toArray, List.getElem?_cons_zero, List.getElem?_cons_succ, Option.some.injEq] at ho
          have HJ := Lib.hid hJ
          clear hJ
          have HXhI := Lib.hid hI
          clear hI
          subst ho
          refine Pj.Step.free rfl ?_
          simp only [Pj.puts, List.foldl_cons, List.foldl_nil, Act.put, List.setIfInBounds_toArray, List.set_cons_zero, List.set_cons_succ]
          go_simp
          exact hKq _ _ ⟨Pj.vset V 1 (.int .i64 k), by simp only [Pj.puts, List.foldl_cons, List.foldl_nil, Act.put, List.setIfInBounds_toArray, List.set_cons_zero, List.set_cons_succ, Pj.vset, Nat.reduceEqDiff, if_true, if_false], HJ.out.flat HP.out hL (HJ.out.kp.trans (Kept.refl _)) (Kept.size (Kept.refl _)) (rfl), HXhI.out.keep (by decide) (by decide) (by decide) (by decide) hL (Kept.refl _), fun h => ⟨(hL 10).2 (.inr (hc11 (((hL 11).1 h).resolve_left (by decide))).1), by rw [Pj.vset_other _ _ (by decide), Pj.vset_other _ _ (by decide)]; exact (hc11 (((hL 11).1 h).resolve_left (by decide))).2⟩⟩
        | 2, ho =>
          simp only [List.getElem?_toArray, List.getElem?_cons_zero, List.getElem?_cons_succ, Option.some.injEq] at ho
          have e0 : V 0 = .slice ax l cx := hJ.h 0 (hdep 0 (by rw [← ho]; kernel_rfl))
          have e1 : V 1 = .int .i64 k := hJ.h 1 (hdep 1 (by rw [← ho]; kernel_rfl))
          have HJ := Lib.hid hJ
          clear hJ
          have HXhI := Lib.hid hI
          clear hI
          subst ho
          refine Pj.Step.free rfl ?_
          simp only [Pj.puts, List.foldl_cons, List.foldl_nil, Act.put, List.setIfInBounds_toArray, List.set_cons_zero, List.set_cons_succ, e0, e1]
          go_simp
          exact hKq _ _ ⟨Pj.vset V 2 (.slice ax k cx), by simp only [Pj.puts, List.foldl_cons, List.foldl_nil, Act.put, List.setIfInBounds_toArray, List.set_cons_zero, List.set_cons_succ, Pj.vset, Nat.reduceEqDiff, if_true, if_false, e0, e1], HJ.out.flat HP.out hL (HJ.out.kp.trans (Kept.refl _)) (Kept.size (Kept.refl _)) (rfl), HXhI.out.keep (by decide) (by decide) (by decide) (by decide) hL (Kept.refl _), fun h => ⟨(hL 10).2 (.inr (hc11 (((hL 11).1 h).resolve_left (by decide))).1), by rw [Pj.vset_other _ _ (by decide), Pj.vset_other _ _ (by decide)]; exact (hc11 (((hL 11).1 h).resolve_left (by decide))).2⟩⟩
        | 3, ho =>
          simp only [List.getElem?_toArray, List.getElem?_cons_zero, List.getElem?_cons_succ, Option.some.injEq] at ho
          have e2 : V 2 = .slice ax k cx := hJ.h 2 (hdep 2 (by rw [← ho]; kernel_rfl))
          have hcp := HCP.out w hJ.kp
          have HJ := Lib.hid hJ
          clear hJ
          have HXhI := Lib.hid hI
          clear hI
          subst ho
          refine Pj.Step.free rfl ?_
          simp only [Pj.puts, List.foldl_cons, List.foldl_nil, Act.put, List.setIfInBounds_toArray, List.set_cons_zero, List.set_cons_succ, e2]
          go_simp
          refine hcp.mono ?_
          rintro e w' ⟨a5, c5, rfl, hown5', hk9⟩
          have hown5 := own_base hown5' (Kept.size HJ.out.kp)
          exact hKq _ _ ⟨Pj.vset V 3 (.slice a5 k c5), by simp only [Pj.puts, List.foldl_cons, List.foldl_nil, Act.put, List.setIfInBounds_toArray, List.set_cons_zero, List.set_cons_succ, Pj.vset, Nat.reduceEqDiff, if_true, if_false, e2], HJ.out.flat HP.out hL (HJ.out.kp.trans (hk9)) (Kept.size (hk9)) (⟨_, _, rfl⟩), HXhI.out.copied hopen (by decide) (by decide) (by decide) hL hk9 hown5, fun h => ⟨(hL 10).2 (.inr (hc11 (((hL 11).1 h).resolve_left (by decide))).1), by rw [Pj.vset_other _ _ (by decide), Pj.vset_other _ _ (by decide)]; exact (hc11 (((hL 11).1 h).resolve_left (by decide))).2⟩⟩
        | 4, ho =>
          simp only [List.getElem?_toArray, List.getElem?_cons_zero, List.getElem?_cons_succ, Option.some.injEq] at ho
          obtain ⟨d0, d1, d2⟩ := HBX.out _ hJ.kp
          have HJ := Lib.hid hJ
          clear hJ
          have HXhI := Lib.hid hI
          clear hI
          subst ho
          refine Pj.Step.free rfl ?_
          simp only [Pj.puts, List.foldl_cons, List.foldl_nil, Act.put, List.setIfInBounds_toArray, List.set_cons_zero, List.set_cons_succ]
          go_simp
          exact hKq _ _ ⟨Pj.vset V 4 (.agg #[.string xd, .string xt, .bool xm]), by simp only [Pj.puts, List.foldl_cons, List.foldl_nil, Act.put, List.setIfInBounds_toArray, List.set_cons_zero, List.set_cons_succ, Pj.vset, Nat.reduceEqDiff, if_true, if_false], HJ.out.flat HP.out hL (HJ.out.kp.trans (Kept.refl _)) (Kept.size (Kept.refl _)) (rfl), HXhI.out.keep (by decide) (by decide) (by decide) (by decide) hL (Kept.refl _), fun h => ⟨(hL 10).2 (.inr (hc11 (((hL 11).1 h).resolve_left (by decide))).1), by rw [Pj.vset_other _ _ (by decide), Pj.vset_other _ _ (by decide)]; exact (hc11 (((hL 11).1 h).resolve_left (by decide))).2⟩⟩
        | 5, ho =>
          simp only [List.getElem?_toArray, List.getElem?_cons_zero, List.getElem?_cons_succ, Option.some.injEq] at ho
          have e4 : V 4 = .agg #[.string xd, .string xt, .bool xm] := hJ.h 4 (hdep 4 (by rw [← ho]; kernel_rfl))
          have HJ := Lib.hid hJ
          clear hJ
          have HXhI := Lib.hid hI
          clear hI
          subst ho
          refine Pj.Step.free rfl ?_
          simp only [Pj.puts, List.foldl_cons, List.foldl_nil, Act.put, List.setIfInBounds_toArray, List.set_cons_zero, List.set_cons_succ, e4]
          go_simp
          exact hKq _ _ ⟨Pj.vset V 5 (.slice (some ⟨w.heap.size, 0, none⟩) 1 1), by simp only [Pj.puts, List.foldl_cons, List.foldl_nil, Act.put, List.setIfInBounds_toArray, List.set_cons_zero, List.set_cons_succ, Pj.vset, Nat.reduceEqDiff, if_true, if_false, e4], HJ.out.flat HP.out hL (HJ.out.kp.trans ((Kept.refl _).alloc _)) (Kept.size ((Kept.refl _).alloc _)) (⟨_, rfl⟩), HXhI.out.built hopen (by decide) (by decide) (by decide) hL, fun h => ⟨(hL 10).2 (.inr (hc11 (((hL 11).1 h).resolve_left (by decide))).1), by rw [Pj.vset_other _ _ (by decide), Pj.vset_other _ _ (by decide)]; exact (hc11 (((hL 11).1 h).resolve_left (by decide))).2⟩⟩
        | 6, ho =>
          simp only [List.getElem?_toArray, List.getElem?_cons_zero, List.getElem?_cons_succ, Option.some.injEq] at ho
          have l3 := hdep 3 (by rw [← ho]; kernel_rfl)
          obtain ⟨a3, c3, e3⟩ := hJ.h 3 l3
          have l5 := hdep 5 (by rw [← ho]; kernel_rfl)
          obtain ⟨g5, e5⟩ := hJ.h 5 l5
          obtain ⟨g, eg, hgb⟩ := hI.b1 l5 hopen
          have hown := hI.c1 l3 hopen
          rw [e3] at hown
          rw [e5] at eg
          cases eg
          have HJ := Lib.hid hJ
          clear hJ
          have HXhI := Lib.hid hI
          clear hI
          subst ho
          refine Pj.Step.free rfl ?_
          simp only [Pj.puts, List.foldl_cons, List.foldl_nil, Act.put, List.setIfInBounds_toArray, List.set_cons_zero, List.set_cons_succ, e3, e5]
          refine Pj.oper_takes _ _ 46 rfl wq.heap.size 65 i0 (.agg #[.string ByteArray.empty, .string ByteArray.empty, .bool false]) 3 40 Try.underlying46 HI.out.1 HI.out.2.1 HI.out.2.2.1 HI.out.2.2.2 rfl (by decide) (.slice a3 k c3) k ((ts.take k).flatMap thC) rfl hown (some ⟨g5, 0, none⟩) 1 1 [.string xd, .string xt, .bool xm] rfl (fun e => by cases e) rfl (fun ad e j u hj => by cases e; exact Pj.block_cells hgb j u hj) (by intro u hu; simp at hu; rcases hu with rfl | rfl | rfl <;> rfl) (by omega) (by decide) HJ.out.kp.size ?_
          intro v' w' hown' hgrow
          obtain ⟨a6, c6, rfl⟩ := slice_of_own1 hown'
          simp only [Act.put, List.setIfInBounds_toArray, List.set_cons_zero, List.set_cons_succ]
          exact hKq _ _ ⟨Pj.vset V 6 (.slice a6 (k + 1) c6), by simp only [Pj.puts, List.foldl_cons, List.foldl_nil, Act.put, List.setIfInBounds_toArray, List.set_cons_zero, List.set_cons_succ, Pj.vset, Nat.reduceEqDiff, if_true, if_false, e3, e5], HJ.out.flat HP.out hL (kept_gr1 HJ.out.kp hgrow (fun q e => (hown.lt q e).1) (Nat.le_refl _)) (hgrow.size) (⟨_, _, rfl⟩), HXhI.out.one hopen l3 l5 (by decide) (by decide) (by decide) hL hown', fun h => ⟨(hL 10).2 (.inr (hc11 (((hL 11).1 h).resolve_left (by decide))).1), by rw [Pj.vset_other _ _ (by decide), Pj.vset_other _ _ (by decide)]; exact (hc11 (((hL 11).1 h).resolve_left (by decide))).2⟩⟩
        | 7, ho =>
          simp only [List.getElem?_toArray, List.getElem?_cons_zero, List.getElem?_cons_succ, Option.some.injEq] at ho
          have HJ := Lib.hid hJ
          clear hJ
          have HXhI := Lib.hid hI
          clear hI
          subst ho
          refine Pj.Step.free rfl ?_
          simp only [Pj.puts, List.foldl_cons, List.foldl_nil, Act.put, List.setIfInBounds_toArray, List.set_cons_zero, List.set_cons_succ]
          go_simp
          exact hKq _ _ ⟨Pj.vset V 7 (.slice ax l cx), by simp only [Pj.puts, List.foldl_cons, List.foldl_nil, Act.put, List.setIfInBounds_toArray, List.set_cons_zero, List.set_cons_succ, Pj.vset, Nat.reduceEqDiff, if_true, if_false], HJ.out.flat HP.out hL (HJ.out.kp.trans (Kept.refl _)) (Kept.size (Kept.refl _)) (rfl), HXhI.out.keep (by decide) (by decide) (by decide) (by decide) hL (Kept.refl _), fun h => ⟨(hL 10).2 (.inr (hc11 (((hL 11).1 h).resolve_left (by decide))).1), by rw [Pj.vset_other _ _ (by decide), Pj.vset_other _ _ (by decide)]; exact (hc11 (((hL 11).1 h).resolve_left (by decide))).2⟩⟩
        | 8, ho =>
          simp only [List.getElem?_toArray, List.getElem?_cons_zero, List.getElem?_cons_succ, Option.some.injEq] at ho
          have HJ := Lib.hid hJ
          clear hJ
          have HXhI := Lib.hid hI
          clear hI
          subst ho
          refine Pj.Step.free rfl ?_
          simp only [Pj.puts, List.foldl_cons, List.foldl_nil, Act.put, List.setIfInBounds_toArray, List.set_cons_zero, List.set_cons_succ]
          go_simp
          exact hKq _ _ ⟨Pj.vset V 8 (.int .i64 k), by simp only [Pj.puts, List.foldl_cons, List.foldl_nil, Act.put, List.setIfInBounds_toArray, List.set_cons_zero, List.set_cons_succ, Pj.vset, Nat.reduceEqDiff, if_true, if_false], HJ.out.flat HP.out hL (HJ.out.kp.trans (Kept.refl _)) (Kept.size (Kept.refl _)) (rfl), HXhI.out.keep (by decide) (by decide) (by decide) (by decide) hL (Kept.refl _), fun h => ⟨(hL 10).2 (.inr (hc11 (((hL 11).1 h).resolve_left (by decide))).1), by rw [Pj.vset_other _ _ (by decide), Pj.vset_other _ _ (by decide)]; exact (hc11 (((hL 11).1 h).resolve_left (by decide))).2⟩⟩
        | 9, ho =>
          simp only [List.getElem?_toArray, List.getElem?_cons_zero, List.getElem?_cons_succ, Option.some.injEq] at ho
          have e7 : V 7 = .slice ax l cx := hJ.h 7 (hdep 7 (by rw [← ho]; kernel_rfl))
          have e8 : V 8 = .int .i64 k := hJ.h 8 (hdep 8 (by rw [← ho]; kernel_rfl))
          have hsl := HSL.out
          have HJ := Lib.hid hJ
          clear hJ
          have HXhI := Lib.hid hI
          clear hI
          subst ho
          refine Pj.Step.free rfl ?_
          simp only [Pj.puts, List.foldl_cons, List.foldl_nil, Act.put, List.setIfInBounds_toArray, List.set_cons_zero, List.set_cons_succ, e7, e8]
          go_simp
          exact hKq _ _ ⟨Pj.vset V 9 (.slice aq (l - k) (cx - k)), by simp only [Pj.puts, List.foldl_cons, List.foldl_nil, Act.put, List.setIfInBounds_toArray, List.set_cons_zero, List.set_cons_succ, Pj.vset, Nat.reduceEqDiff, if_true, if_false, e7, e8], HJ.out.flat HP.out hL (HJ.out.kp.trans (Kept.refl _)) (Kept.size (Kept.refl _)) (rfl), HXhI.out.keep (by decide) (by decide) (by decide) (by decide) hL (Kept.refl _), fun h => ⟨(hL 10).2 (.inr (hc11 (((hL 11).1 h).resolve_left (by decide))).1), by rw [Pj.vset_other _ _ (by decide), Pj.vset_other _ _ (by decide)]; exact (hc11 (((hL 11).1 h).resolve_left (by decide))).2⟩⟩
        | 10, ho =>
          simp only [List.getElem?_toArray, List.getElem?_cons_zero, List.getElem?_cons_succ, Option.some.injEq] at ho
          have l6 := hdep 6 (by rw [← ho]; kernel_rfl)
          obtain ⟨a6, c6, e6⟩ := hJ.h 6 l6
          have e9 : V 9 = .slice aq (l - k) (cx - k) := hJ.h 9 (hdep 9 (by rw [← ho]; kernel_rfl))
          have hown := hI.p1 l6 hopen
          rw [e6] at hown
          have htl := HTL.out w hJ.kp
          have HJ := Lib.hid hJ
          clear hJ
          have HXhI := Lib.hid hI
          clear hI
          subst ho
          refine Pj.Step.free rfl ?_
          simp only [Pj.puts, List.foldl_cons, List.foldl_nil, Act.put, List.setIfInBounds_toArray, List.set_cons_zero, List.set_cons_succ, e6, e9]
          refine Pj.oper_takes _ _ 46 rfl wq.heap.size 65 i0 (.agg #[.string ByteArray.empty, .string ByteArray.empty, .bool false]) 3 40 Try.underlying46 HI.out.1 HI.out.2.1 HI.out.2.2.1 HI.out.2.2.2 rfl (by decide) (.slice a6 (k + 1) c6) (k + 1) (((ts.take k).flatMap thC) ++ [.string xd, .string xt, .bool xm]) rfl hown aq (l - k) (cx - k) ((ts.drop k).flatMap thC) rfl HNO.out htl.1 htl.2 (fun u hu => thC_one _ u hu) (by omega) (by decide) HJ.out.kp.size ?_
          intro v' w' hown' hgrow
          obtain ⟨a6, c6, rfl⟩ := slice_of_own1 hown'
          simp only [Act.put, List.setIfInBounds_toArray, List.set_cons_zero, List.set_cons_succ]
          exact hKq _ _ ⟨Pj.vset V 10 (.slice a6 (k + 1 + (l - k)) c6), by simp only [Pj.puts, List.foldl_cons, List.foldl_nil, Act.put, List.setIfInBounds_toArray, List.set_cons_zero, List.set_cons_succ, Pj.vset, Nat.reduceEqDiff, if_true, if_false, e6, e9], HJ.out.flat HP.out hL (kept_gr1 HJ.out.kp hgrow (fun q e => (hown.lt q e).1) (Nat.le_refl _)) (hgrow.size) (⟨_, _, rfl⟩), HXhI.out.tail l6 (by decide) hL hown', fun h => absurd (hc11 (((hL 11).1 h).resolve_left (by decide))).1 hopen⟩
        | 11, ho =>
          simp only [List.getElem?_toArray, List.getElem?_cons_zero, List.getElem?_cons_succ, Option.some.injEq] at ho
          have l10 := hdep 10 (by rw [← ho]; kernel_rfl)
          obtain ⟨a10, c10, e10⟩ := hJ.h 10 l10
          have HJ := Lib.hid hJ
          clear hJ
          have HXhI := Lib.hid hI
          clear hI
          subst ho
          refine Pj.Step.free rfl ?_
          simp only [Pj.puts, List.foldl_cons, List.foldl_nil, Act.put, List.setIfInBounds_toArray, List.set_cons_zero, List.set_cons_succ, e10]
          go_simp
          exact hKq _ _ ⟨Pj.vset V 11 (V 10), by simp only [Pj.puts, List.foldl_cons, List.foldl_nil, Act.put, List.setIfInBounds_toArray, List.set_cons_zero, List.set_cons_succ, Pj.vset, Nat.reduceEqDiff, if_true, if_false, e10], HJ.out.flat HP.out hL (HJ.out.kp.trans (Kept.refl _)) (Kept.size (Kept.refl _)) (trivial), HXhI.out.keep (by decide) (by decide) (by decide) (by decide) hL (Kept.refl _), fun _ => ⟨(hL 10).2 (.inr l10), by rw [Pj.vset_same, Pj.vset_other _ _ (by decide)]⟩⟩
        | n + 12, ho => simp at ho
      case ehe =>
        rintro L az w ⟨V, rfl, hJ, hI, hc11⟩ hall
        have e11 : V 11 = V 10 := (hc11 (hall 11 (by decide))).2
        obtain ⟨a10, c10, e10⟩ := hJ.h 10 (hall 10 (by decide))
        have hq9 := hI.q1 (hall 10 (by decide))
        rw [e10] at hq9
        have HQ9 := Lib.hid hq9
        clear hq9
        have HKj := Lib.hid hJ.kp
        clear hJ hall hI hc11
        simp only [Pj.puts, List.foldl_cons, List.foldl_nil, Act.put, List.setIfInBounds_toArray, List.set_cons_zero, List.set_cons_succ, e11, e10]
        clear e11 e10
        have HWQ := Lib.hid HKW.out.size
        go_wp2_with fail
        go_ret
        rw [HLN.out]
        refine ⟨_, _, rfl, ?_, HKW.out.trans HKj.out⟩
        have h := HQ9.out
        rw [HLN.out] at h
        rw [HPV.out]
        exact own_base h HWQ.out
end Go.Proofs.Ytdllenoclnmmdaa

namespace Go.Proofs.Ytdllenoclnmmdaa
open Go.RowKit Go.Shelf
attribute [local go_sem] Oper.semAt_some

theorem cat_step {t u : ByteArray} {h : List UInt8} {bs : List ByteArray} {j : Nat} (ht : t.data.toList = h ++ cats (bs.take j)) (hj : j < bs.length) (hu : u = bs.getD j ByteArray.empty) : (t ++ u).data.toList = h ++ cats (bs.take (j + 1)) := by
  rw [cats_snoc bs j hj, ← List.append_assoc, ← ht, hu]
  simp [txt]
theorem bytes_by {t : ByteArray} {l : List UInt8} (h : t.data.toList = l) : t = ⟨l.toArray⟩ := by
  rw [← h]
theorem retsB {a b : ByteArray} (h : b = a) : Ending.returned (.string a) = .returned (.string b) := by rw [h]
theorem size_step {t u : ByteArray} {H : List UInt8} {l : List ByteArray} {j : Nat} (ht : t.data.toList = H ++ cats (l.take j)) (hs : szB l = true) (hj : j < l.length) (hu : u = l.getD j ByteArray.empty) (hH : H.length ≤ 1000) (hl : l.length ≤ 20) : ¬ (t.size + u.size > 9223372036854775807) := by
  have h1 : u.size = 32 := by rw [hu]; exact szB_at hs hj
  have h2 := str_size t
  rw [ht, List.length_append, cats_len _ (szB_take hs j), List.length_take] at h2
  omega
set_option maxRecDepth 100000 in
set_option maxHeartbeats 4000000 in
theorem rbytes_any (k : Int) (ab : Option Addr) (lb cb : Nat) (au : Option Addr) (lu cu : Nat) (bs us : List ByteArray) (w : World) (hb : StrsIn w ab lb bs) (hu : StrsIn w au lu us) (hm : mfB ⟨k, bs, us⟩ = true) :
    Calls Try.prog 56 #[.agg #[.int .i64 k, .slice ab lb cb, .slice au lu cu]] w fun e w' => e = .returned (.string (mfT ⟨k, bs, us⟩)) ∧ Kept w w' := by
  obtain ⟨h20, hk0, hk1, hsb, hsu, -, -⟩ := mfB_true hm
  dsimp only at h20 hk0 hk1 hsb hsu
  have HSB := Lib.hid hsb
  have HSU := Lib.hid hsu
  clear hsb hsu
  rw [hb.len_eq, hu.len_eq] at h20
  obtain ⟨K, rfl⟩ : ∃ K : Nat, k = K := ⟨k.toNat, by omega⟩
  have HT := Lib.hid (show mfT ⟨K, bs, us⟩ = ⟨(([77, 65, 78, 70, UInt8.ofNat K, UInt8.ofNat lb, UInt8.ofNat lu] ++ cats bs) ++ cats us).toArray⟩ by unfold mfT mfBytes; dsimp only; rw [hb.len_eq, hu.len_eq, Int.toNat_natCast])
  have HB := Lib.hid (BlockAt.new w #[.int .i64 K, .slice ab lb cb, .slice au lu cu] 28)
  have HK := Lib.hid ((Kept.refl w).alloc (.cells #[.int .i64 K, .slice ab lb cb, .slice au lu cu] 28))
  have HBS := Lib.hid hb
  have HUS := Lib.hid hu
  have HLB := Lib.hid hb.len_eq
  have HLU := Lib.hid hu.len_eq
  clear hb hu hm
  obtain ⟨R, hR⟩ : ∃ R, R = mfT ⟨K, bs, us⟩ := ⟨_, rfl⟩
  rw [← hR] at HT ⊢
  clear hR
  go_enter Try.func56, Try.ntmps56
  go_upto_region 1 with (fail)
  generalize w.alloc (.cells #[.int .i64 K, .slice ab lb cb, .slice au lu cu] 28) = w1 at *
  obtain ⟨a0, a1, a2⟩ := box3 HB.out
  have hK2' : UInt8.toNat (UInt8.ofNat K) = K := by simp; omega
  have hlb' : UInt8.toNat (UInt8.ofNat lb) = lb := by simp; omega
  have hlu' : UInt8.toNat (UInt8.ofNat lu) = lu := by simp; omega
  have hcv : (convert 70 9 (.slice (some ⟨w1.heap.size, 0, none⟩) 3 3)).run Try.prog (w1.alloc (.cells #[.int .u8 (K : Int), .int .u8 (lb : Int), .int .u8 (lu : Int)] 5)) = .ok (.string ⟨#[UInt8.ofNat K, UInt8.ofNat lb, UInt8.ofNat lu]⟩) (w1.alloc (.cells #[.int .u8 (K : Int), .int .u8 (lb : Int), .int .u8 (lu : Int)] 5)) := by
    refine run_convert_bytes_back (P := Try.prog) _ 70 9 5 ⟨w1.heap.size, 0, none⟩ 3 [UInt8.ofNat K, UInt8.ofNat lb, UInt8.ofNat lu] Try.underlying70 Try.underlying5 Try.underlying9 (fun j hj => ?_)
    rw [addr_add, cell_new]
    match j, hj with
    | 0, hj => simp [hK2']
    | 1, hj => simp [hlb']
    | 2, hj => simp [hlu']
    | j + 3, hj => simp at hj; omega
  have HB2 := Lib.hid (HB.out.kept ((Kept.refl w1).alloc (.cells #[.int .u8 (K : Int), .int .u8 (lb : Int), .int .u8 (lu : Int)] 5)))
  have HK2 := Lib.hid (HK.out.alloc (.cells #[.int .u8 (K : Int), .int .u8 (lb : Int), .int .u8 (lu : Int)] 5))
  go_upto_region 2 with (fail)
  clear hcv
  generalize w1.alloc (.cells #[.int .u8 (K : Int), .int .u8 (lb : Int), .int .u8 (lu : Int)] 5) = w2 at *
  obtain ⟨t0, ht0⟩ : ∃ t0 : ByteArray, t0 = (⟨#[77, 65, 78, 70]⟩ ++ ⟨#[UInt8.ofNat K, UInt8.ofNat lb, UInt8.ofNat lu]⟩) := ⟨_, rfl⟩
  rw [← ht0]
  have HT0 := Lib.hid (show t0.data.toList = [77, 65, 78, 70, UInt8.ofNat K, UInt8.ofNat lb, UInt8.ofNat lu] ++ cats (bs.take 0) by rw [ht0]; simp [cats])
  obtain ⟨hd, hhd⟩ : ∃ x : List UInt8, x = [77, 65, 78, 70, UInt8.ofNat K, UInt8.ofNat lb, UInt8.ofNat lu] := ⟨_, rfl⟩
  rw [← hhd] at HT HT0
  have HD7 := Lib.hid (show hd.length = 7 by rw [hhd]; rfl)
  have HCB := Lib.hid (show (cats bs).length = 32 * lb by rw [cats_len bs HSB.out, HLB.out])
  clear hhd ht0 a0 a1 a2 hK2' hlb' hlu'
  go_wp2_with fail
  go_loopw [3, 4] (fun s v wr => ∃ (j : Nat) (t : ByteArray), j ≤ lb ∧ v = .int .i64 j ∧ s = .string t ∧ Hid (t.data.toList = hd ++ cats (bs.take j)) ∧ Kept w2 wr) (fun _ v _ => lb - (intOf v).toNat)
  case atStart => exact ⟨0, _, by omega, rfl, rfl, HT0, Kept.refl _⟩
  case round =>
    rename World => wr1
    obtain ⟨j, t, hj, rfl, rfl, HTJ, hkr⟩ := hrel
    have HKR1 := Lib.hid hkr
    obtain ⟨a0, a1, a2⟩ := box3k HB2.out hkr
    clear hkr
    by_cases hlt : j < lb
    · have hd1 : decide (j < lb) = true := decide_eq_true hlt
      obtain ⟨b, off, rfl, hc⟩ := HBS.out.at (by omega)
      have c0 := hc j hlt _ (HK2.out.trans HKR1.out)
      obtain ⟨u, hu⟩ : ∃ u, u = bs.getD j ByteArray.empty := ⟨_, rfl⟩
      rw [← hu] at c0
      have HN := Lib.hid (cat_step HTJ.out (by rw [HLB.out]; exact hlt) hu)
      have hsz := size_step HTJ.out HSB.out (by rw [HLB.out]; exact hlt) hu (by rw [HD7.out]; omega) (by rw [HLB.out]; omega)
      clear hc hu
      go_wp2_with fail
      go_roundw
      case rel => exact ⟨j + 1, _, by omega, by go_num, rfl, HN, HKR1.out⟩
      case measure => simp [intOf]; omega
    · obtain rfl : lb = j := by omega
      have hd1 : decide (lb < lb) = false := decide_eq_false (by omega)
      have HT1 := Lib.hid (show t.data.toList = (hd ++ cats bs) ++ cats (us.take 0) by
        rw [HTJ.out, List.take_of_length_le (by rw [HLB.out]; exact Nat.le_refl _)]; simp [cats])
      clear HTJ
      go_wp2_with fail
      clear a0 a1 a2
      go_loopw [3, 5] (fun s v wr => ∃ (j : Nat) (t : ByteArray), j ≤ lu ∧ v = .int .i64 j ∧ s = .string t ∧ Hid (t.data.toList = (hd ++ cats bs) ++ cats (us.take j)) ∧ Kept w2 wr) (fun _ v _ => lu - (intOf v).toNat)
      case atStart => exact ⟨0, _, by omega, rfl, rfl, HT1, HKR1.out⟩
      case round =>
        rename World => wr2
        obtain ⟨j, t, hj, rfl, rfl, HTJ, hkr⟩ := hrel
        have HKR2 := Lib.hid hkr
        obtain ⟨a0, a1, a2⟩ := box3k HB2.out hkr
        clear hkr
        by_cases hlt : j < lu
        · have hd1 : decide (j < lu) = true := decide_eq_true hlt
          obtain ⟨b, off, rfl, hc⟩ := HUS.out.at (by omega)
          have c0 := hc j hlt _ (HK2.out.trans HKR2.out)
          obtain ⟨u, hu⟩ : ∃ u, u = us.getD j ByteArray.empty := ⟨_, rfl⟩
          rw [← hu] at c0
          have HN := Lib.hid (cat_step HTJ.out (by rw [HLU.out]; exact hlt) hu)
          have hsz := size_step HTJ.out HSU.out (by rw [HLU.out]; exact hlt) hu (by rw [List.length_append, HD7.out, HCB.out]; omega) (by rw [HLU.out]; omega)
          clear hc hu
          go_wp2_with fail
          go_roundw
          case rel => exact ⟨j + 1, _, by omega, by go_num, rfl, HN, HKR2.out⟩
          case measure => simp [intOf]; omega
        · obtain rfl : lu = j := by omega
          have hd1 : decide (lu < lu) = false := decide_eq_false (by omega)
          have HR := Lib.hid (show R = t by
            rw [HT.out, bytes_by HTJ.out, List.take_of_length_le (by rw [HLU.out]; exact Nat.le_refl _)])
          go_wp2
          go_ret
          exact ⟨retsB HR.out, HK2.out.trans HKR2.out⟩
end Go.Proofs.Ytdllenoclnmmdaa

namespace Go.Proofs.Ytdllenoclnmmdaa
open Go.RowKit Go.Shelf
attribute [local go_sem] Oper.semAt_some

theorem rname_any (s : ByteArray) (hs : s.size ≤ 9223372036854775807) (w : World) :
    Calls Try.prog 40 #[.string s] w fun e w' => e = .returned (.string (dg s.data.toList)) ∧ Kept w w' := by
  go_enter Try.func40, Try.ntmps40
  go_wp2_with fail
  refine (rdigest_any s hs _).mono ?_
  rintro e w' ⟨rfl, hk⟩
  have HK := Lib.hid hk
  clear hk
  obtain ⟨D, hD⟩ : ∃ D, D = dg s.data.toList := ⟨_, rfl⟩
  rw [← hD]
  go_wp2
  go_ret
  exact ⟨rfl, HK.out⟩
theorem chD_size (s : ByteArray) (i : Nat) : (chD s i).size = 32 := dg_size _
theorem mfT_small {m : Mf} (h : mfB m = true) : (mfT m).size ≤ 647 := by
  rw [mfT_size h]
  obtain ⟨h20, _⟩ := mfB_true h
  omega
theorem chN_size (s : ByteArray) (i : Nat) : (chN s i).size = 32 := by rw [chN_eq]; exact dg_size _
theorem chB_size (s : ByteArray) (i : Nat) : (chB s i).size = 5 + s.size + 1 := by
  unfold chB
  rw [ByteArray.size_append, ByteArray.size_append]
  rfl
theorem chMf_ok (s : ByteArray) (i : Nat) (hi : i ≤ 255) : mfB (chMf s i) = true := by
  have hd : szB [chD s i] = true := by simp [szB, chD_size]
  have hr : ∀ x : ByteArray, riB [x] = true := fun x => rfl
  cases i with
  | zero =>
    unfold mfB mfFew mfMade chMf
    rw [hd, hr]
    rfl
  | succ i =>
    have hn : szB [chN s i] = true := by simp [szB, chN_size]
    unfold mfB mfFew mfMade chMf
    rw [hd, hn, hr, hr]
    simp
    omega
theorem putL_len (ts : List Th) (t : Th) : (putL ts t).length = ts.length + 1 := by
  unfold putL
  have := lbF_le ts t.d
  simp
  omega
theorem chL_len (s : ByteArray) : ∀ i, (chL s i).length = 2 * i
  | 0 => rfl
  | i + 1 => by
    show (putL (putL (chL s i) _) _).length = _
    rw [putL_len, putL_len, chL_len s i]
    omega
theorem putL_mem {ts : List Th} {t x : Th} (h : x ∈ putL ts t) : x = t ∨ x ∈ ts := by
  unfold putL at h
  rcases List.mem_append.1 h with h | h
  · rcases List.mem_append.1 h with h | h
    · exact .inr (List.mem_of_mem_take h)
    · exact .inl (List.mem_singleton.1 h)
  · exact .inr (List.mem_of_mem_drop h)
theorem chL_small (s : ByteArray) (hs : s.size ≤ 100) : ∀ i, i ≤ 100 → ∀ x ∈ chL s i, x.d.size ≤ 140737488351232 ∧ x.t.size ≤ 140737488351232
  | 0, _, x, h => by cases h
  | i + 1, hi, x, h => by
    have h1 : x ∈ putL (putL (chL s i) ⟨chD s i, chB s i, false⟩) ⟨chN s i, mfT (chMf s i), true⟩ := h
    rcases putL_mem h1 with rfl | h1
    · have := mfT_small (chMf_ok s i (by omega))
      have h2 := chN_size s i
      exact ⟨by show (chN s i).size ≤ _; omega, by show (mfT (chMf s i)).size ≤ _; omega⟩
    · rcases putL_mem h1 with rfl | h1
      · have h2 := chD_size s i
        have h3 := chB_size s i
        exact ⟨by show (chD s i).size ≤ _; omega, by show (chB s i).size ≤ _; omega⟩
      · exact chL_small s hs i (by omega) x h1
theorem one_strs {W : World} {g : Nat} {d : ByteArray} (hd : d.size ≤ 9223372036854775807) (h : BlockAt W g #[.string d] 9) : StrsIn W (some ⟨g, 0, none⟩) 1 [d] :=
  ⟨rfl, by omega, (fun x hx => by rw [List.mem_singleton] at hx; subst hx; exact hd), g, 0, fun _ => rfl, fun i hi => by
    obtain rfl : i = 0 := by omega
    exact ⟨h.lt, h.cell 0⟩⟩
theorem own_row3 {A B : World} {base n sz : Nat} {t : TypeId} {v : Value} {ys : List Value} {row : Option Nat} (h : A.ownsRow base t sz v n ys) (g : A.grownBy B row) (hr : ∀ q C, BlockAt A q C t → some q ≠ row) : B.ownsRow base t sz v n ys := by
  obtain ⟨h1, h2 | ⟨q, cap, cur, hv, hb, hg, h3⟩⟩ := h
  · exact ⟨h1, .inl h2⟩
  · exact ⟨h1, .inr ⟨q, cap, cur, hv, hb, block_grown (show BlockAt A q cur t from hg) g (hr q cur hg), h3⟩⟩
theorem own_th {w : World} {base l cap : Nat} {a : Option Addr} {ts : List Th} (ho : w.ownsRow base 65 3 (.slice a l cap) l (ts.flatMap thC)) (hl : ts.length = l) (hf : l ≤ 3518437208883) (hs : ∀ x ∈ ts, x.d.size ≤ 140737488351232 ∧ x.t.size ≤ 140737488351232) :
    ThsIn w a l ts ∧ (a = none → cap = 0) ∧ l ≤ cap := by
  obtain ⟨a', c', e, h⟩ := ths_own ho hl hf hs
  cases e
  refine ⟨h, ?_⟩
  rcases ho.2 with ⟨e, h0⟩ | ⟨g, c, cur, e, _, _, hn, _⟩
  · cases e; exact ⟨fun _ => rfl, Nat.le_refl _⟩
  · cases e; exact ⟨(fun e => by cases e), hn⟩
/-- the digest that is named next -/
def nxN (s : ByteArray) : Nat → ByteArray
  | 0 => ByteArray.empty
  | i + 1 => chN s i
set_option maxRecDepth 100000 in
set_option maxHeartbeats 8000000 in
theorem chain_any (n : Nat) (hn : n ≤ 9) (s : ByteArray) (hs : s.size ≤ 100) (w : World) :
    Calls Try.prog 39 #[.int .i64 n, .string s] w fun e w' => ∃ a c a2 c2, e = .returned (.tuple #[.slice a (2 * n) c, .slice a2 n c2]) ∧ ThsIn w' a (2 * n) (chL s n) ∧
      w'.ownsRow w.heap.size 9 1 (.slice a2 n c2) n (((List.range n).map (chN s)).map Value.string) ∧ Kept w w' := by
  obtain ⟨i0, hi1, hz0, hz1, hz2⟩ := info_parts Try.infoSt
  have HI := Lib.hid (And.intro hi1 (And.intro hz0 (And.intro hz1 hz2)))
  clear hi1 hz0 hz1 hz2
  go_enter Try.func39, Try.ntmps39
  go_wp2_with fail
  go_loopw [6, 7, 8, 9] (fun lv ov nv iv wr => ∃ i : Nat, i ≤ n ∧ iv = .int .i64 i ∧ nv = .string (nxN s i) ∧ wr.ownsRow w.heap.size 65 3 lv (2 * i) ((chL s i).flatMap thC) ∧ wr.ownsRow w.heap.size 9 1 ov i (((List.range i).map (chN s)).map Value.string) ∧ Kept w wr) (fun _ _ _ iv _ => n - (intOf iv).toNat)
  case atStart => exact ⟨0, by omega, rfl, rfl, World.ownsRow_nil _ _ _ _, World.ownsRow_nil _ _ _ _, Kept.refl _⟩
  case round =>
    rename_i lv ov
    obtain ⟨i, hi, rfl, rfl, hl, ho, hk⟩ := hrel
    have HL := Lib.hid hl
    have HO := Lib.hid ho
    have HK := Lib.hid hk
    obtain ⟨al, cl, rfl⟩ := slice_of_own1 hl
    obtain ⟨ao, co, rfl⟩ := slice_of_own1 ho
    clear hl ho hk
    by_cases hin : i < n
    · have hd1 : decide (i < n) = true := decide_eq_true hin
      obtain ⟨b, hb⟩ : ∃ b, b = chB s i := ⟨_, rfl⟩
      have hbs : b.size ≤ 200 := by rw [hb, chB_size]; omega
      have hw97 : IntKind.i64.wrap (97 + (i : Int)) = 97 + (i : Int) := IntWalk.i64_in _ (by omega)
      have hw8 : IntKind.u8.wrap (97 + (i : Int)) = 97 + (i : Int) := IntWalk.u8_in _ (by omega)
      have hu8 : (97 + i) % 256 = 97 + i := by omega
      obtain ⟨cc, hcc⟩ : ∃ cc : ByteArray, cc = ⟨#[UInt8.ofNat (97 + i)]⟩ := ⟨_, rfl⟩
      have hcv : (convert 70 9 (.slice (some ⟨wr.heap.size, 0, none⟩) 1 1)).run Try.prog (wr.alloc (.cells #[.int .u8 (97 + (i : Int))] 5)) = .ok (.string cc) (wr.alloc (.cells #[.int .u8 (97 + (i : Int))] 5)) := by
        rw [hcc]
        refine run_convert_bytes_back (P := Try.prog) _ 70 9 5 ⟨wr.heap.size, 0, none⟩ 1 [UInt8.ofNat (97 + i)] Try.underlying70 Try.underlying5 Try.underlying9 (fun j hj => ?_)
        rw [addr_add, cell_new]
        match j, hj with
        | 0, hj => simp [hu8]
        | j + 1, hj => simp at hj
      clear hu8
      have HBB := Lib.hid hb
      have hbe : ((⟨#[98, 108, 111, 98, 32]⟩ : ByteArray) ++ s) ++ cc = b := by rw [hb, hcc]; rfl
      have hcz : cc.size = 1 := by rw [hcc]; rfl
      clear hb hcc
      go_upto_region 8 with (fail)
      have HK1 := Lib.hid (HK.out.alloc (.cells #[.int .u8 (97 + (i : Int))] 5))
      have HKA := Lib.hid ((Kept.refl wr).alloc (.cells #[.int .u8 (97 + (i : Int))] 5))
      clear hcv hbe hw97 hw8 hcz
      generalize wr.alloc (.cells #[.int .u8 (97 + (i : Int))] 5) = w1 at *
      go_wp2_with fail
      refine (rname_any b (by omega) _).mono ?_
      rintro e w2 ⟨rfl, hk⟩
      have HK2 := Lib.hid (HKA.out.trans hk)
      obtain ⟨d, hd⟩ : ∃ d, d = dg b.data.toList := ⟨_, rfl⟩
      rw [← hd]
      have HD := Lib.hid (show d = chD s i by rw [hd, HBB.out]; rfl)
      have hds : d.size = 32 := by rw [HD.out]; exact chD_size s i
      clear hk hd HKA HK1
      obtain ⟨nx, hnx⟩ : ∃ nx, nx = nxN s i := ⟨_, rfl⟩
      rw [← hnx]
      have HNX := Lib.hid hnx
      by_cases hi0 : i = 0
      · have hem : nx.toList.isEmpty = true := by rw [hnx, hi0]; show (ByteArray.empty).toList.isEmpty = true; rw [ByteArray.toList_eq]; rfl
        have HMF := Lib.hid (show (⟨(i : Int), [d], []⟩ : Mf) = chMf s i by rw [HD.out]; subst hi0; rfl)
        clear hnx hi0
        go_wp2_with fail
        have HSD := Lib.hid (show StrsIn ((w2.alloc (.cells #[.string d] 9)).alloc (.cells #[.int .i64 (i : Int), .slice (some ⟨w2.heap.size, 0, none⟩) 1 1, .slice none 0 0] 28)) (some ⟨w2.heap.size, 0, none⟩) 1 [d] from one_strs (by omega) ((BlockAt.new w2 #[.string d] 9).kept ((Kept.refl _).alloc _)))
        have HKW := Lib.hid (show Kept w2 ((w2.alloc (.cells #[.string d] 9)).alloc (.cells #[.int .i64 (i : Int), .slice (some ⟨w2.heap.size, 0, none⟩) 1 1, .slice none 0 0] 28)) from ((Kept.refl w2).alloc _).alloc _)
        generalize ((w2.alloc (.cells #[.string d] 9)).alloc (.cells #[.int .i64 (i : Int), .slice (some ⟨w2.heap.size, 0, none⟩) 1 1, .slice none 0 0] 28)) = w3 at *
        refine (rbytes_any (i : Int) (some ⟨w2.heap.size, 0, none⟩) 1 1 none 0 0 [d] [] _ HSD.out (nil_strs _ _) (by rw [HMF.out]; exact chMf_ok s i (by omega))).mono ?_
        rintro e w4 ⟨rfl, hk⟩
        have HK4 := Lib.hid (HK2.out.trans (HKW.out.trans hk))
        obtain ⟨t, ht⟩ : ∃ t, t = mfT (chMf s i) := ⟨_, rfl⟩
        rw [HMF.out, ← ht]
        have htz : t.size ≤ 647 := by rw [ht]; exact mfT_small (chMf_ok s i (by omega))
        have HTT := Lib.hid ht
        clear hk ht hem
        go_wp2_with fail
        refine (rname_any t (by omega) _).mono ?_
        rintro e w5 ⟨rfl, hk⟩
        have HK5 := Lib.hid (HK4.out.trans hk)
        obtain ⟨D, hD⟩ : ∃ D, D = dg t.data.toList := ⟨_, rfl⟩
        rw [← hD]
        have HDN := Lib.hid (show D = chN s i by rw [hD, HTT.out, chN_eq])
        clear hk hD
        have HOT := Lib.hid (own_th (own_kept HL.out HK5.out) (chL_len s i) (by omega) (chL_small s hs i (by omega)))
        go_wp2_with fail
        refine (put_any al (2 * i) cl (chL s i) d b false _ HOT.out.1 HOT.out.2.1 HOT.out.2.2 (by omega)).mono ?_
        rintro e w6 ⟨a6, c6, rfl, hown, hk⟩
        have HK6 := Lib.hid (HK5.out.trans hk)
        have HL1 := Lib.hid (show (putL (chL s i) ⟨d, b, false⟩).length = 2 * i + 1 by rw [putL_len, chL_len])
        have HSM := Lib.hid (show ∀ x ∈ putL (chL s i) ⟨d, b, false⟩, x.d.size ≤ 140737488351232 ∧ x.t.size ≤ 140737488351232 from fun x hx => by
          rcases putL_mem hx with rfl | hx
          · exact ⟨by show d.size ≤ _; omega, by show b.size ≤ _; omega⟩
          · exact chL_small s hs i (by omega) x hx)
        have HOT6 := Lib.hid (own_th hown HL1.out (by omega) HSM.out)
        clear hk hown
        go_wp2_with fail
        refine (put_any a6 (2 * i + 1) c6 (putL (chL s i) ⟨d, b, false⟩) D t true _ HOT6.out.1 HOT6.out.2.1 HOT6.out.2.2 (by omega)).mono ?_
        rintro e w7 ⟨a7, c7, rfl, hown, hk⟩
        have HK7 := Lib.hid (HK6.out.trans hk)
        have HR7 := Lib.hid (show w7.ownsRow w.heap.size 65 3 (.slice a7 (2 * i + 1 + 1) c7) (2 * i + 1 + 1) ((chL s (i + 1)).flatMap thC) by
          have h := own_base hown (base' := w.heap.size) (by have h1 := HK.out.size; have h2 := HK6.out.size; omega)
          rw [HD.out, HBB.out, HDN.out, HTT.out] at h
          exact h)
        have HO7 := Lib.hid (own_kept HO.out HK7.out)
        have HWR := Lib.hid (HK.out.trans HK7.out)
        clear hk hown
        go_wp2_with (at_builtin; refine wpList_append_held rfl _ _ 23 rfl w.heap.size 9 i0 (.string ByteArray.empty) 16 Try.underlying23 HI.out.1 HI.out.2.1 HI.out.2.2.1 HI.out.2.2.2 rfl _ _ _ rfl (own_kept HO7.out ((Kept.refl w7).alloc _)) (some ⟨w7.heap.size, 0, none⟩) 1 1 [.string D] rfl (held_one w7 _ _ rfl) ?c1 ?c2 ?c3 ?_)
        case c1 => unfold maxLen; omega
        case c2 => omega
        case c3 => have := HWR.out.size; rw [World.size_alloc]; omega
        intro v' w8 hown hgr _
        have HK8 := Lib.hid (kept_gr (HWR.out.alloc _) hgr (fun r e => (HO7.out.lt r e).1))
        have HR8 := Lib.hid (own_row3 (own_kept HR7.out ((Kept.refl w7).alloc (.cells #[.string D] 9))) hgr (Pj.row_types (own_kept HO7.out ((Kept.refl w7).alloc (.cells #[.string D] 9))) (by decide)))
        have HO8 := Lib.hid (show w8.ownsRow w.heap.size 9 1 v' (i + 1) (((List.range (i + 1)).map (chN s)).map Value.string) by
          rw [List.range_succ, List.map_append, List.map_append]
          have h := hown
          rw [HDN.out] at h
          simpa using h)
        have HE := Lib.hid (show 2 * (i + 1) = 2 * i + 1 + 1 by omega)
        clear hown hgr
        go_wp2_with fail
        go_roundw
        case rel => exact ⟨i + 1, by omega, by go_num, by rw [HDN.out]; rfl, by rw [HE.out]; exact HR8.out, HO8.out, HK8.out⟩
        case measure => simp [intOf]; omega
      · have hem : nx.toList.isEmpty = false := by
          obtain ⟨j, rfl⟩ : ∃ j, i = j + 1 := ⟨i - 1, by omega⟩
          have h1 := chN_size s j
          rw [hnx, ByteArray.toList_eq]
          show (chN s j).data.toList.isEmpty = false
          cases hh : (chN s j).data.toList with
          | nil =>
            have : (chN s j).data.toList.length = 32 := by rw [Array.length_toList]; exact h1
            rw [hh] at this; cases this
          | cons x y => rfl
        have hnz : nx.size = 32 := by
          obtain ⟨j, rfl⟩ : ∃ j, i = j + 1 := ⟨i - 1, by omega⟩
          rw [hnx]; exact chN_size s j
        have HMF := Lib.hid (show (⟨(i : Int), [d], [nx]⟩ : Mf) = chMf s i by
          rw [HD.out, hnx]
          obtain ⟨j, rfl⟩ : ∃ j, i = j + 1 := ⟨i - 1, by omega⟩
          rfl)
        clear hnx hi0
        go_wp2_with fail
        have HSD := Lib.hid (show StrsIn (((w2.alloc (.cells #[.string d] 9)).alloc (.cells #[.int .i64 (i : Int), .slice (some ⟨w2.heap.size, 0, none⟩) 1 1, .slice (some ⟨w2.heap.size + 1 + 1, 0, none⟩) 1 1] 28)).alloc (.cells #[.string nx] 9)) (some ⟨w2.heap.size, 0, none⟩) 1 [d] from one_strs (by omega) ((BlockAt.new w2 #[.string d] 9).kept (((Kept.refl _).alloc _).alloc _)))
        have HSN := Lib.hid (show StrsIn (((w2.alloc (.cells #[.string d] 9)).alloc (.cells #[.int .i64 (i : Int), .slice (some ⟨w2.heap.size, 0, none⟩) 1 1, .slice (some ⟨w2.heap.size + 1 + 1, 0, none⟩) 1 1] 28)).alloc (.cells #[.string nx] 9)) (some ⟨w2.heap.size + 1 + 1, 0, none⟩) 1 [nx] from one_strs (by omega) (by
          have h := BlockAt.new ((w2.alloc (.cells #[.string d] 9)).alloc (.cells #[.int .i64 (i : Int), .slice (some ⟨w2.heap.size, 0, none⟩) 1 1, .slice (some ⟨w2.heap.size + 1 + 1, 0, none⟩) 1 1] 28)) #[.string nx] 9
          simpa using h))
        have HKW := Lib.hid (show Kept w2 (((w2.alloc (.cells #[.string d] 9)).alloc (.cells #[.int .i64 (i : Int), .slice (some ⟨w2.heap.size, 0, none⟩) 1 1, .slice (some ⟨w2.heap.size + 1 + 1, 0, none⟩) 1 1] 28)).alloc (.cells #[.string nx] 9)) from (((Kept.refl w2).alloc _).alloc _).alloc _)
        generalize (((w2.alloc (.cells #[.string d] 9)).alloc (.cells #[.int .i64 (i : Int), .slice (some ⟨w2.heap.size, 0, none⟩) 1 1, .slice (some ⟨w2.heap.size + 1 + 1, 0, none⟩) 1 1] 28)).alloc (.cells #[.string nx] 9)) = w3 at *
        refine (rbytes_any (i : Int) (some ⟨w2.heap.size, 0, none⟩) 1 1 (some ⟨w2.heap.size + 1 + 1, 0, none⟩) 1 1 [d] [nx] _ HSD.out HSN.out (by rw [HMF.out]; exact chMf_ok s i (by omega))).mono ?_
        rintro e w4 ⟨rfl, hk⟩
        have HK4 := Lib.hid (HK2.out.trans (HKW.out.trans hk))
        obtain ⟨t, ht⟩ : ∃ t, t = mfT (chMf s i) := ⟨_, rfl⟩
        rw [HMF.out, ← ht]
        have htz : t.size ≤ 647 := by rw [ht]; exact mfT_small (chMf_ok s i (by omega))
        have HTT := Lib.hid ht
        clear hk ht hem
        go_wp2_with fail
        refine (rname_any t (by omega) _).mono ?_
        rintro e w5 ⟨rfl, hk⟩
        have HK5 := Lib.hid (HK4.out.trans hk)
        obtain ⟨D, hD⟩ : ∃ D, D = dg t.data.toList := ⟨_, rfl⟩
        rw [← hD]
        have HDN := Lib.hid (show D = chN s i by rw [hD, HTT.out, chN_eq])
        clear hk hD
        have HOT := Lib.hid (own_th (own_kept HL.out HK5.out) (chL_len s i) (by omega) (chL_small s hs i (by omega)))
        go_wp2_with fail
        refine (put_any al (2 * i) cl (chL s i) d b false _ HOT.out.1 HOT.out.2.1 HOT.out.2.2 (by omega)).mono ?_
        rintro e w6 ⟨a6, c6, rfl, hown, hk⟩
        have HK6 := Lib.hid (HK5.out.trans hk)
        have HL1 := Lib.hid (show (putL (chL s i) ⟨d, b, false⟩).length = 2 * i + 1 by rw [putL_len, chL_len])
        have HSM := Lib.hid (show ∀ x ∈ putL (chL s i) ⟨d, b, false⟩, x.d.size ≤ 140737488351232 ∧ x.t.size ≤ 140737488351232 from fun x hx => by
          rcases putL_mem hx with rfl | hx
          · exact ⟨by show d.size ≤ _; omega, by show b.size ≤ _; omega⟩
          · exact chL_small s hs i (by omega) x hx)
        have HOT6 := Lib.hid (own_th hown HL1.out (by omega) HSM.out)
        clear hk hown
        go_wp2_with fail
        refine (put_any a6 (2 * i + 1) c6 (putL (chL s i) ⟨d, b, false⟩) D t true _ HOT6.out.1 HOT6.out.2.1 HOT6.out.2.2 (by omega)).mono ?_
        rintro e w7 ⟨a7, c7, rfl, hown, hk⟩
        have HK7 := Lib.hid (HK6.out.trans hk)
        have HR7 := Lib.hid (show w7.ownsRow w.heap.size 65 3 (.slice a7 (2 * i + 1 + 1) c7) (2 * i + 1 + 1) ((chL s (i + 1)).flatMap thC) by
          have h := own_base hown (base' := w.heap.size) (by have h1 := HK.out.size; have h2 := HK6.out.size; omega)
          rw [HD.out, HBB.out, HDN.out, HTT.out] at h
          exact h)
        have HO7 := Lib.hid (own_kept HO.out HK7.out)
        have HWR := Lib.hid (HK.out.trans HK7.out)
        clear hk hown
        go_wp2_with (at_builtin; refine wpList_append_held rfl _ _ 23 rfl w.heap.size 9 i0 (.string ByteArray.empty) 16 Try.underlying23 HI.out.1 HI.out.2.1 HI.out.2.2.1 HI.out.2.2.2 rfl _ _ _ rfl (own_kept HO7.out ((Kept.refl w7).alloc _)) (some ⟨w7.heap.size, 0, none⟩) 1 1 [.string D] rfl (held_one w7 _ _ rfl) ?c1 ?c2 ?c3 ?_)
        case c1 => unfold maxLen; omega
        case c2 => omega
        case c3 => have := HWR.out.size; rw [World.size_alloc]; omega
        intro v' w8 hown hgr _
        have HK8 := Lib.hid (kept_gr (HWR.out.alloc _) hgr (fun r e => (HO7.out.lt r e).1))
        have HR8 := Lib.hid (own_row3 (own_kept HR7.out ((Kept.refl w7).alloc (.cells #[.string D] 9))) hgr (Pj.row_types (own_kept HO7.out ((Kept.refl w7).alloc (.cells #[.string D] 9))) (by decide)))
        have HO8 := Lib.hid (show w8.ownsRow w.heap.size 9 1 v' (i + 1) (((List.range (i + 1)).map (chN s)).map Value.string) by
          rw [List.range_succ, List.map_append, List.map_append]
          have h := hown
          rw [HDN.out] at h
          simpa using h)
        have HE := Lib.hid (show 2 * (i + 1) = 2 * i + 1 + 1 by omega)
        clear hown hgr
        go_wp2_with fail
        go_roundw
        case rel => exact ⟨i + 1, by omega, by go_num, by rw [HDN.out]; rfl, by rw [HE.out]; exact HR8.out, HO8.out, HK8.out⟩
        case measure => simp [intOf]; omega
    · obtain rfl : n = i := by omega
      have hd1 : decide (n < n) = false := decide_eq_false (by omega)
      have HTI := Lib.hid (own_th HL.out (chL_len s n) (by omega) (chL_small s hs n (by omega))).1
      go_wp2_with fail
      go_ret2
      exact ⟨_, _, _, _, rfl, HTI.out, HO.out, HK.out⟩
end Go.Proofs.Ytdllenoclnmmdaa

