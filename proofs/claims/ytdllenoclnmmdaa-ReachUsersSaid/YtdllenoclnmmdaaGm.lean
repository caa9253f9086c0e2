/- Contracts laid together: what each says stands at its head (no conditions). -/
import Derived.Test.YtdllenoclnmmdaaMt4
import Derived.Maps.OwnIn
namespace Go.Proofs.Ytdllenoclnmmdaa
open Go.RowKit Go.Shelf
attribute [local go_sem] Oper.semAt_some

def byt (s : ByteArray) (i : Nat) : UInt8 := s.data.toList.getD i 0
theorem byt_get (s : ByteArray) (i : Nat) (h : i < s.size) : s[i] = byt s i := by
  unfold byt
  rw [List.getD_eq_getElem?_getD, List.getElem?_eq_getElem (by simpa using h)]
  rfl
/-- what lies behind a manifest's first seven bytes -/
def tlM (s : ByteArray) : ByteArray := s.extract 7 s.size
def dgL (t : ByteArray) : List ByteArray := (List.range (nDg t)).map (dgAt t)
theorem dgL_length (t : ByteArray) : (dgL t).length = nDg t := by simp [dgL]
/-- what manifest.Take reads, ahead of its looking whether it is so -/
def rawM (s : ByteArray) : Mf := ⟨((byt s 4).toNat : Int), (dgL (tlM s)).take (byt s 5).toNat, (dgL (tlM s)).drop (byt s 5).toNat⟩
def takeM (s : ByteArray) : Option Mf := if 7 ≤ s.size ∧ s.size ≤ 647 ∧ mfB (rawM s) = true ∧ mfT (rawM s) = s then some (rawM s) else none
/-- the blobs lie in a row of the call's own; what is appended there touches the subs not -/
def BlobsOwn (w w' : World) (ab : Option Addr) (cb : Nat) (au : Option Addr) (m : Mf) : Prop :=
  m.bs.length ≤ cb ∧ w'.ownsRow w.heap.size 9 1 (.slice ab m.bs.length cb) m.bs.length (m.bs.map Value.string) ∧ ∀ W2, w'.grownBy W2 (Value.slice ab m.bs.length cb).ownBlock → StrsIn W2 au m.us.length m.us
/-- what manifest.Take tells: the manifest in new memory, or nothing -/
def TakeMP (w : World) (o : Option Mf) (e : Ending) (w' : World) : Prop :=
  (o = none → e = .returned (.tuple #[.agg #[.int .i64 0, .slice none 0 0, .slice none 0 0], .int .i64 7])) ∧
  (∀ m, o = some m → ∃ ab cb au cu, e = .returned (.tuple #[.agg #[.int .i64 m.k, .slice ab m.bs.length cb, .slice au m.us.length cu], .int .i64 0]) ∧ BlobsOwn w w' ab cb au m ∧ StrsIn w' ab m.bs.length m.bs ∧ StrsIn w' au m.us.length m.us) ∧ Kept w w'
theorem Try.infoMf : (Try.prog.info? 28).map (·.size) = some 3 := by kernel_rfl
theorem one3m (r : Int) (a : Option Addr) (l cap : Nat) (b : Option Addr) (m cap' : Nat) : (#[Value.int .i64 r, .slice a l cap, .slice b m cap'] : Array Value).all (·.oneCell') = true := by simp [Value.oneCell']
def mf0 : Array Value := #[.int .i64 0, .slice none 0 0, .slice none 0 0]
set_option maxRecDepth 100000 in
set_option maxHeartbeats 1000000 in
theorem take_wide (s : ByteArray) (w : World) (h : s.size < 7 ∨ 647 < s.size) : Calls Try.prog 17 #[.string s] w (TakeMP w none) := by
  have HK0 := Lib.hid ((Kept.refl w).alloc (.cells #[.int .i64 0, .slice none 0 0, .slice none 0 0] 28))
  have HR := Lib.hid (BlockAt.new w #[.int .i64 0, .slice none 0 0, .slice none 0 0] 28)
  rcases h with h | h
  · have hd : decide (s.size < 7) = true := decide_eq_true h
    go_enter Try.func17, Try.ntmps17
    go_wp2_with (refine wpList_store_block rfl 28 (.tmp 2) (.tmp 17) rfl _ #[.int .i64 0, .slice none 0 0, .slice none 0 0] #[.int .i64 0, .slice none 0 0, .slice none 0 0] 28 rfl rfl HR.out Try.infoMf rfl (one3m _ _ _ _ _ _ _) ?_)
    refine bodyPost_ret (v := .tuple #[.agg #[.int .i64 0, .slice none 0 0, .slice none 0 0], .int .i64 7]) ?_ rfl ⟨fun _ => rfl, (fun m e => by cases e), HK0.out.setRow (by omega) _⟩
    exact results_row_tmp rfl _ _ w.heap.size 28 #[.int .i64 0, .slice none 0 0, .slice none 0 0] _ rfl (HR.out.setRow _) Try.underlying28 rfl Try.infoMf _ rfl
  · have hd : decide (s.size < 7) = false := decide_eq_false (by omega)
    have hd2 : decide (647 < (s.size : Int)) = true := decide_eq_true (by omega)
    have hd3 : decide (647 < s.size) = true := decide_eq_true (by omega)
    go_enter Try.func17, Try.ntmps17
    go_wp2_with (refine wpList_store_block rfl 28 (.tmp 2) (.tmp 17) rfl _ #[.int .i64 0, .slice none 0 0, .slice none 0 0] #[.int .i64 0, .slice none 0 0, .slice none 0 0] 28 rfl rfl HR.out Try.infoMf rfl (one3m _ _ _ _ _ _ _) ?_)
    refine bodyPost_ret (v := .tuple #[.agg #[.int .i64 0, .slice none 0 0, .slice none 0 0], .int .i64 7]) ?_ rfl ⟨fun _ => rfl, (fun m e => by cases e), HK0.out.setRow (by omega) _⟩
    exact results_row_tmp rfl _ _ w.heap.size 28 #[.int .i64 0, .slice none 0 0, .slice none 0 0] _ rfl (HR.out.setRow _) Try.underlying28 rfl Try.infoMf _ rfl
end Go.Proofs.Ytdllenoclnmmdaa

namespace Go.Proofs.Ytdllenoclnmmdaa
open Go.RowKit Go.Shelf
attribute [local go_sem] Oper.semAt_some

theorem Try.infoSt : (Try.prog.info? 9).map (fun i => (i.zero, i.size, i.bytes)) = some (some (.string ByteArray.empty), 1, 16) := by kernel_rfl
theorem take_snoc_lt {α : Type} (l : List α) (x : α) (b : Nat) (h : l.length < b) : (l ++ [x]).take b = l.take b ++ [x] ∧ (l ++ [x]).drop b = l.drop b := by
  constructor
  · rw [List.take_of_length_le (by simp; omega), List.take_of_length_le (by omega)]
  · rw [List.drop_eq_nil_of_le (by simp; omega), List.drop_eq_nil_of_le (by omega)]
theorem take_snoc_ge {α : Type} (l : List α) (x : α) (b : Nat) (h : b ≤ l.length) : (l ++ [x]).take b = l.take b ∧ (l ++ [x]).drop b = l.drop b ++ [x] := by
  constructor
  · rw [List.take_append_of_le_length h]
  · rw [List.drop_append_of_le_length h]
theorem own_apart {A B : World} {base : Nat} {e : TypeId} {s n : Nat} {v : Value} {xs : List Value} {row : Option Nat} (h : A.ownsRow base e s v n xs) (g : A.grownBy B row) (hr : ∀ k, v.ownBlock = some k → row ≠ some k) : B.ownsRow base e s v n xs :=
  h.kept g (by
    cases hv : v.ownBlock with
    | none => exact .inl rfl
    | some k => exact .inr fun e => hr k hv e.symm)
/-- a store into a block that holds no texts touches no list of texts -/
theorem strs_set {W W' : World} {g l : Nat} {C : Array Value} {t : TypeId} {a : Option Addr} {ss : List ByteArray} (h : StrsIn W a l ss) (hg : BlockAt W g C t) (hn : ∀ (i : Nat) (x : ByteArray), C[i]? ≠ some (Value.string x)) (k : W.grownBy W' (some g)) : StrsIn W' a l ss := by
  obtain ⟨b, off, ha, hc⟩ := h.cells
  refine ⟨h.len_eq, h.le, h.sizes, b, off, ha, fun i hi => ?_⟩
  obtain ⟨h1, h2⟩ := hc i hi
  refine ⟨Nat.lt_of_lt_of_le h1 k.size, ?_⟩
  have hne : b ≠ g := fun e => by
    subst e
    rw [hg.cell] at h2
    exact hn _ _ h2
  have := k.block b h1 (fun e => hne (by cases e; rfl))
  unfold World.cell? at h2 ⊢
  rw [this]
  exact h2
theorem mf0_no (k : Int) (a b : Option Addr) (l m c d : Nat) : ∀ (i : Nat) (s : ByteArray), (#[.int .i64 k, .slice a l c, .slice b m d] : Array Value)[i]? ≠ some (Value.string s) := fun i s e => by
  match i, e with
  | 0, e => simp at e
  | 1, e => simp at e
  | 2, e => simp at e
  | i + 3, e => simp at e
theorem nil_block : (Value.slice none 0 0).ownBlock = none := rfl
set_option maxRecDepth 100000 in
set_option maxHeartbeats 4000000 in
theorem take_main (s : ByteArray) (wo : World) (h7 : 7 ≤ s.size) (h8 : s.size ≤ 647) : Calls Try.prog 17 #[.string s] wo (TakeMP wo (takeM s)) := by
  have HT := Lib.hid (show takeM s = if mfB (rawM s) = true ∧ mfT (rawM s) = s then some (rawM s) else none by unfold takeM; simp only [h7, h8, true_and])
  have HRW := Lib.hid (show rawM s = ⟨((byt s 4).toNat : Int), (dgL (tlM s)).take (byt s 5).toNat, (dgL (tlM s)).drop (byt s 5).toNat⟩ from rfl)
  generalize takeM s = O at HT ⊢
  generalize rawM s = rm at HT HRW
  have hi4 : 4 < s.size := by omega
  have hi5 : 5 < s.size := by omega
  have e4 := byt_get s 4 hi4
  have e5 := byt_get s 5 hi5
  have hb4 : (byt s 4).toNat < 256 := UInt8.toNat_lt _
  have hb5 : (byt s 5).toNat < 256 := UInt8.toNat_lt _
  have hd1 : decide (s.size < 7) = false := decide_eq_false (by omega)
  have hd2 : decide (647 < s.size) = false := decide_eq_false (by omega)
  have hxt : s.extract 7 s.size = tlM s := rfl
  have hts : (tlM s).size ≤ 640 := by unfold tlM; rw [ByteArray.size_extract]; omega
  generalize tlM s = t at hxt hts HRW
  have h4i : ((s[4]).toNat : Int) = (((byt s 4).toNat : Nat) : Int) := by rw [e4]
  have h5i : ((s[5]).toNat : Int) = (((byt s 5).toNat : Nat) : Int) := by rw [e5]
  clear e4 e5
  generalize (byt s 4).toNat = b4 at *
  generalize (byt s 5).toNat = b5 at *
  obtain ⟨i0, hi, hz0, hz1, hz2⟩ := info_parts Try.infoSt
  have HI := Lib.hid (And.intro hi (And.intro hz0 (And.intro hz1 hz2)))
  clear hi hz0 hz1 hz2
  refine callsIn_wide.1 (callsIn_of_wp_marks (n := 8) Try.func17 rfl trivial ?_ rfl)
  simp only [Try.ntmps17, List.size_toArray, List.length_nil, List.length_cons, Nat.reduceAdd, Nat.reduceSub, Array.replicate_succ, Array.replicate_zero, List.push_toArray, List.append_toArray, List.nil_append, List.cons_append]
  refine wpIn_wide.2 ?_
  go_upto_region 5 with (fail)
  obtain ⟨p, hp⟩ : ∃ p, p = wo.heap.size := ⟨_, rfl⟩
  have hr0 := ((BlockAt.new wo #[.int .i64 0, .slice none 0 0, .slice none 0 0] 28).kept ((Kept.refl _).alloc (.cells #[.int .i64 b4, .slice none 0 0, .slice none 0 0] 28))).kept ((Kept.refl _).alloc (.cells #[.int .i64 b5] 3))
  have hm0 := (BlockAt.new1 wo #[.int .i64 b4, .slice none 0 0, .slice none 0 0] 28 (.cells #[.int .i64 0, .slice none 0 0, .slice none 0 0] 28)).kept ((Kept.refl _).alloc (.cells #[.int .i64 b5] 3))
  have hn0 := BlockAt.new2 wo #[.int .i64 b5] 3 (.cells #[.int .i64 0, .slice none 0 0, .slice none 0 0] 28) (.cells #[.int .i64 b4, .slice none 0 0, .slice none 0 0] 28)
  have k0 := (((Kept.refl wo).alloc (.cells #[.int .i64 0, .slice none 0 0, .slice none 0 0] 28)).alloc (.cells #[.int .i64 b4, .slice none 0 0, .slice none 0 0] 28)).alloc (.cells #[.int .i64 b5] 3)
  generalize hwa : (((wo.alloc (.cells #[.int .i64 0, .slice none 0 0, .slice none 0 0] 28)).alloc (.cells #[.int .i64 b4, .slice none 0 0, .slice none 0 0] 28)).alloc (.cells #[.int .i64 b5] 3)) = wa at *
  have hza : wa.heap.size = wo.heap.size + 3 := by rw [← hwa]; simp
  clear hwa
  rw [← hp] at hr0 hm0 hn0 hza ⊢
  have HR0 := Lib.hid hr0
  have HM0 := Lib.hid hm0
  have HN0 := Lib.hid hn0
  have HK0 := Lib.hid k0
  have HP := Lib.hid hp
  clear hr0 hm0 hn0 k0 hp
  go_wp2_with fail
  refine (digestsq_any t _).mono ?_
  rintro e w5 ⟨rfl, hw5⟩
  have hk5 : Kept wa w5 := by rw [hw5]; exact (Kept.refl _).alloc _
  have HX := Lib.hid (show BlockAt w5 wa.heap.size #[.string t] 9 by rw [hw5]; exact BlockAt.new _ _ _)
  have HR5 := Lib.hid (HR0.out.kept hk5)
  have HM5 := Lib.hid (HM0.out.kept hk5)
  have HN5 := Lib.hid (HN0.out.kept hk5)
  have HKZ := Lib.hid (HK0.out.trans hk5)
  have hx5 : p + 3 < w5.heap.size := by rw [hw5]; simp; omega
  rw [hza] at HX ⊢
  clear hk5 hw5 HR0 HM0 HN0 HK0 hza
  go_wp2_with fail
  refine wp_of_in 8 ?_
  obtain ⟨R, hR⟩ : ∃ R : Nat → Prop, R = fun g => p + 4 ≤ g := ⟨_, rfl⟩
  have HRZ := Lib.hid (show ¬ R p by rw [hR]; exact fun h => by omega)
  have HRL := Lib.hid (show ¬ R (p + 1) by rw [hR]; exact fun h => by omega)
  have HRN2 := Lib.hid (show ¬ R (p + 2) by rw [hR]; exact fun h => by omega)
  have HRN := Lib.hid (show ∀ g, p + 4 ≤ g → R g by rw [hR]; exact fun g h => h)
  have HRX := Lib.hid (show ∀ g, R g → p + 4 ≤ g by rw [hR]; exact fun g h => h)
  have hrt : ¬ (R (p + 3) ∨ p + 3 = p + 1) := by rw [hR]; exact fun h => by omega
  have HPW := Lib.hid (show wo.heap.size = p from HP.out.symm)
  clear hR
  refine wpIn_rangeFunc_S rfl (by omega) (gf := 63) (lb := #[.pointer (some ⟨p + 3, 0, none⟩)]) rfl trivial (enters_of Try.func63 (by kernel_rfl) rfl)
    (digestsq_stops 7 (by omega) (fun g => R g ∨ g = p + 1) t (by omega) (p + 3) w5 hrt HX.out) (CellsBut.refl _) CellsBut.trans CellsBut.putObj (Below.refl _ _) (fun _ => rfl)
    (fun pre W => (∃ vb vu, BlockAt W (p + 1) #[.int .i64 b4, vb, vu] 28 ∧ BlockAt W p #[.int .i64 0, .slice none 0 0, .slice none 0 0] 28 ∧ BlockAt W (p + 2) #[.int .i64 b5] 3 ∧
      W.ownsRow wo.heap.size 9 1 vb (min pre.length b5) ((pre.map fun i => Value.string (dgAt t i.1)).take b5) ∧ W.ownsRow wo.heap.size 9 1 vu (pre.length - b5) ((pre.map fun i => Value.string (dgAt t i.1)).drop b5) ∧
      (∀ g, vb.ownBlock = some g → R g) ∧ (∀ g, vu.ownBlock = some g → R g) ∧ (∀ g, vb.ownBlock = some g → vu.ownBlock ≠ some g)) ∧ (p + 4 ≤ W.heap.size ∧ Below wo.heap.size wo W))
    (fun _ _ _ => False)
    ?hI (fun _ _ _ _ _ hs _ _ => hs) ?h0 ?round ?done ?stop
  case hI =>
    refine OwnFrom.and (Own.from (fun s A B row hs hg hr => ?_) _) (OwnFrom.and (Own.from (fun s A B row hs hg hr => Nat.le_trans hs hg.size) _) (ownFrom_below (Nat.le_refl _) (by have := HPW.out; omega)))
    obtain ⟨vb, vu, h1, h2, h3, h4, h5, h6⟩ := hs
    exact ⟨vb, vu, block_own h1 hg hr, block_own h2 hg hr, block_own h3 hg hr, own_own h4 hg hr, own_own h5 hg hr, h6⟩
  case h0 => exact ⟨⟨_, _, HM5.out, HR5.out, HN5.out, by simpa using World.ownsRow_nil _ _ _ _, by simpa using World.ownsRow_nil _ _ _ _, (fun g e => by cases e), (fun g e => by cases e), (fun g e => by cases e)⟩, by omega, HKZ.out⟩
  case round =>
    rintro l ⟨i, hi⟩ W K hK
    have HK := Lib.hid hK
    clear hK
    gi_wp2
    refine HK.out _ ?_
    clear HK
    rintro l pre W ⟨⟨vb, vu, hpm, hp0, hpn, hob, hou, hrb, hru, hap⟩, hx2, hB⟩ hlen
    have HB := Lib.hid hB
    have HPM := Lib.hid hpm
    have HP0 := Lib.hid hp0
    have HPN := Lib.hid hpn
    have HOB := Lib.hid hob
    have HOU := Lib.hid hou
    have HRB := Lib.hid hrb
    have HRU := Lib.hid hru
    have HAP := Lib.hid hap
    have HPR := Lib.hid (show (pre ++ [(⟨i, hi⟩ : { k : Nat // k < nDg t })]).map (fun i => Value.string (dgAt t i.1)) = pre.map (fun i => Value.string (dgAt t i.1)) ++ [Value.string (dgAt t i)] by simp)
    have hn : pre.length < 1000 := by have : nDg t ≤ 20 := by unfold nDg; omega
                                      omega
    have HPSL := Lib.hid (show (pre.map fun i => Value.string (dgAt t i.1)).length = pre.length by simp)
    have hpo1 : wo.heap.size ≤ p := Nat.le_of_eq HPW.out
    have hpo2 : p ≤ wo.heap.size := Nat.le_of_eq HPW.out.symm
    obtain ⟨ab, cb, rfl⟩ := slice_of_own1 hob
    obtain ⟨au, cu, rfl⟩ := slice_of_own1 hou
    clear hpm hp0 hpn hob hou hrb hru hap hB
    generalize pre.map (fun i => Value.string (dgAt t i.1)) = ps at *
    generalize dgAt t i = ti at *
    obtain ⟨k, hk⟩ : ∃ k, k = pre.length := ⟨_, rfl⟩
    obtain ⟨nb, hnb⟩ : ∃ nb, nb = min pre.length b5 := ⟨_, rfl⟩
    obtain ⟨nu, hnu⟩ : ∃ nu, nu = pre.length - b5 := ⟨_, rfl⟩
    rw [← hnb] at HPM HOB HRB HAP
    rw [← hnu] at HPM HOU HRU HAP
    rw [← hk] at hnb hnu hn
    have HKL := Lib.hid hk.symm
    have HNB := Lib.hid hnb
    have HNU := Lib.hid hnu
    have hwl := HB.out.size
    have hbn : nb ≤ 1000 := by omega
    have hun : nu ≤ 1000 := by omega
    obtain ⟨c0, c1, c2⟩ := box3 HPM.out
    have c3 := box1 HPN.out
    by_cases hkb : k < b5
    · have hdk : decide (nb < b5) = true := decide_eq_true (by omega)
      clear hk hnb hnu hlen
      gi_wp2_with (gi_at_builtin; refine wpListIn_append_own_at _ rfl _ _ 23 rfl wo.heap.size 9 i0 (.string ByteArray.empty) 1 16 Try.underlying23 HI.out.1 HI.out.2.1 HI.out.2.2.1 HI.out.2.2.2 rfl (by decide) _ _ _ rfl (HOB.out.alloc _) ⟨W.heap.size, 0, none⟩ 1 1 [.string ti] rfl rfl ?c1 ?c2 ?c3 ?c4 ?c5 ?_)
      case c1 =>
        intro j' u hj'
        match j', hj' with
        | 0, hj' => simp at hj'; subst hj'; simp [Addr.add]
      case c2 => intro u hu; simp at hu; subst hu; rfl
      case c3 => unfold maxLen; omega
      case c4 => omega
      case c5 => simp; omega
      intro v' w9 hown9 hgrow _ hat
      obtain ⟨a9, c9, hv9⟩ := slice_of_own1 hown9
      have kx := (Kept.refl W).alloc (.cells #[.string ti] 9)
      have hown1 := own_kept HOB.out kx
      have hpl9 := block_grown (HPM.out.kept kx) hgrow (fun e => HRL.out (HRB.out _ e.symm))
      have hp09 := block_grown (HP0.out.kept kx) hgrow (fun e => HRZ.out (HRB.out _ e.symm))
      have hpn9 := block_grown (HPN.out.kept kx) hgrow (fun e => HRN2.out (HRB.out _ e.symm))
      have hot9 := own_apart (own_kept HOU.out kx) hgrow (fun g e h => HAP.out g h e)
      have hR9 : ∀ g, v'.ownBlock = some g → R g := fun g e => by
        rcases hat with h | h
        · exact HRB.out g (h ▸ e)
        · rw [h] at e
          cases e
          exact HRN.out _ (by have := kx.size; omega)
      have hpg : ∀ g, v'.ownBlock = some g → some (p + 1) ≠ some g := fun g e h => HRL.out (by cases h; exact hR9 _ e)
      have hset : w9.grownBy (w9.setCell ⟨p + 1, 1, none⟩ v') (some (p + 1)) := ⟨rfl, rfl, rfl, by simp, fun k _ hne => Below.heap_setCell w9 ⟨p + 1, 1, none⟩ v' k (fun e => hne (by rw [e]))⟩
      have HE1 := Lib.hid ((((others_kept kx).trans (others_own hown1 hgrow))).trans (KeepsOthers.setCell w9 ⟨p + 1, 1, none⟩ v'))
      have HE2 := Lib.hid (((CellsBut.of_kept kx).trans (but_own hgrow (fun j e => Or.inl (HRB.out j e)))).trans (CellsBut.setCell (R := fun j => R j ∨ j = p + 1) (b := p + 1) (i := 1) w9 v' (.inr rfl)))
      have HE3 := Lib.hid (((kept_gr1 (HB.out.trans (Below.mono kx (by omega))) hgrow (fun g e => by have := (HOB.out.lt g e).1; omega))).setCell (p := ⟨p + 1, 1, none⟩) (by show wo.heap.size ≤ p + 1; omega) v')
      have HE4 := Lib.hid (own_apart hown9 hset hpg)
      have HE9 := Lib.hid (own_apart hot9 hset (fun g e h => HRL.out (by cases h; exact HRU.out _ e)))
      have HE5 := Lib.hid (show BlockAt (w9.setCell ⟨p + 1, 1, none⟩ v') (p + 1) #[.int .i64 b4, v', .slice au nu cu] 28 by have := hpl9.set (i := 1) v'; simpa using this)
      have HE7 := Lib.hid (block_grown hp09 hset (by simp))
      have HE8 := Lib.hid (block_grown hpn9 hset (by simp))
      have HE6 := Lib.hid hR9
      have HE10 := Lib.hid (show ∀ g, (v' : Value).ownBlock = some g → (Value.slice au nu cu).ownBlock ≠ some g from fun g e h => by
      rcases hat with q | q
      · exact HAP.out g (q ▸ e) h
      · rw [q] at e
        cases e
        have := (HOU.out.lt _ h).2
        have := kx.size
        simp at this
        omega)
      have f0 := hpl9.free 1
      obtain ⟨d0, d1, d2⟩ := box3 hpl9
      have hs9 : W.heap.size ≤ (w9.setCell ⟨p + 1, 1, none⟩ v').heap.size := by have := kx.size; have := hgrow.size; simp only [World.size_setCell]; omega
      subst hv9
      clear hown9 hgrow hat kx hown1 hpl9 hp09 hpn9 hot9 hR9 hpg hset
      gi_wp2
      refine ⟨HE1.out, HE2.out, ⟨⟨_, _, HE5.out, HE7.out, HE8.out, ?_, ?_, HE6.out, HRU.out, HE10.out⟩, (by omega), HE3.out⟩⟩
      · rw [HPR.out, (take_snoc_lt ps _ b5 (by rw [HPSL.out, HKL.out]; exact hkb)).1, List.length_append, show min (pre.length + [(⟨i, hi⟩ : { k : Nat // k < nDg t })].length) b5 = nb + 1 by have := HKL.out; have := HNB.out; simp; omega]
        exact HE4.out
      · rw [HPR.out, (take_snoc_lt ps _ b5 (by rw [HPSL.out, HKL.out]; exact hkb)).2, List.length_append, show pre.length + [(⟨i, hi⟩ : { k : Nat // k < nDg t })].length - b5 = nu by have := HKL.out; have := HNU.out; simp; omega]
        exact HE9.out
    · have hdk : decide (nb < b5) = false := decide_eq_false (by omega)
      clear hk hnb hnu hlen
      gi_wp2_with (gi_at_builtin; refine wpListIn_append_own_at _ rfl _ _ 23 rfl wo.heap.size 9 i0 (.string ByteArray.empty) 1 16 Try.underlying23 HI.out.1 HI.out.2.1 HI.out.2.2.1 HI.out.2.2.2 rfl (by decide) _ _ _ rfl (HOU.out.alloc _) ⟨W.heap.size, 0, none⟩ 1 1 [.string ti] rfl rfl ?c1 ?c2 ?c3 ?c4 ?c5 ?_)
      case c1 =>
        intro j' u hj'
        match j', hj' with
        | 0, hj' => simp at hj'; subst hj'; simp [Addr.add]
      case c2 => intro u hu; simp at hu; subst hu; rfl
      case c3 => unfold maxLen; omega
      case c4 => omega
      case c5 => simp; omega
      intro v' w9 hown9 hgrow _ hat
      obtain ⟨a9, c9, hv9⟩ := slice_of_own1 hown9
      have kx := (Kept.refl W).alloc (.cells #[.string ti] 9)
      have hown1 := own_kept HOU.out kx
      have hpl9 := block_grown (HPM.out.kept kx) hgrow (fun e => HRL.out (HRU.out _ e.symm))
      have hp09 := block_grown (HP0.out.kept kx) hgrow (fun e => HRZ.out (HRU.out _ e.symm))
      have hpn9 := block_grown (HPN.out.kept kx) hgrow (fun e => HRN2.out (HRU.out _ e.symm))
      have hot9 := own_apart (own_kept HOB.out kx) hgrow (fun g e h => HAP.out g e h)
      have hR9 : ∀ g, v'.ownBlock = some g → R g := fun g e => by
        rcases hat with h | h
        · exact HRU.out g (h ▸ e)
        · rw [h] at e
          cases e
          exact HRN.out _ (by have := kx.size; omega)
      have hpg : ∀ g, v'.ownBlock = some g → some (p + 1) ≠ some g := fun g e h => HRL.out (by cases h; exact hR9 _ e)
      have hset : w9.grownBy (w9.setCell ⟨p + 1, 2, none⟩ v') (some (p + 1)) := ⟨rfl, rfl, rfl, by simp, fun k _ hne => Below.heap_setCell w9 ⟨p + 1, 2, none⟩ v' k (fun e => hne (by rw [e]))⟩
      have HE1 := Lib.hid ((((others_kept kx).trans (others_own hown1 hgrow))).trans (KeepsOthers.setCell w9 ⟨p + 1, 2, none⟩ v'))
      have HE2 := Lib.hid (((CellsBut.of_kept kx).trans (but_own hgrow (fun j e => Or.inl (HRU.out j e)))).trans (CellsBut.setCell (R := fun j => R j ∨ j = p + 1) (b := p + 1) (i := 2) w9 v' (.inr rfl)))
      have HE3 := Lib.hid (((kept_gr1 (HB.out.trans (Below.mono kx (by omega))) hgrow (fun g e => by have := (HOU.out.lt g e).1; omega))).setCell (p := ⟨p + 1, 2, none⟩) (by show wo.heap.size ≤ p + 1; omega) v')
      have HE4 := Lib.hid (own_apart hown9 hset hpg)
      have HE9 := Lib.hid (own_apart hot9 hset (fun g e h => HRL.out (by cases h; exact HRB.out _ e)))
      have HE5 := Lib.hid (show BlockAt (w9.setCell ⟨p + 1, 2, none⟩ v') (p + 1) #[.int .i64 b4, .slice ab nb cb, v'] 28 by have := hpl9.set (i := 2) v'; simpa using this)
      have HE7 := Lib.hid (block_grown hp09 hset (by simp))
      have HE8 := Lib.hid (block_grown hpn9 hset (by simp))
      have HE6 := Lib.hid hR9
      have HE10 := Lib.hid (show ∀ g, (Value.slice ab nb cb).ownBlock = some g → (v' : Value).ownBlock ≠ some g from fun g h e => by
      rcases hat with q | q
      · exact HAP.out g h (q ▸ e)
      · rw [q] at e
        cases e
        have := (HOB.out.lt _ h).2
        have := kx.size
        simp at this
        omega)
      have f0 := hpl9.free 2
      obtain ⟨d0, d1, d2⟩ := box3 hpl9
      have hs9 : W.heap.size ≤ (w9.setCell ⟨p + 1, 2, none⟩ v').heap.size := by have := kx.size; have := hgrow.size; simp only [World.size_setCell]; omega
      subst hv9
      clear hown9 hgrow hat kx hown1 hpl9 hp09 hpn9 hot9 hR9 hpg hset
      gi_wp2
      refine ⟨HE1.out, HE2.out, ⟨⟨_, _, HE5.out, HE7.out, HE8.out, ?_, ?_, HRB.out, HE6.out, HE10.out⟩, (by omega), HE3.out⟩⟩
      · rw [HPR.out, (take_snoc_ge ps _ b5 (by rw [HPSL.out, HKL.out]; omega)).1, List.length_append, show min (pre.length + [(⟨i, hi⟩ : { k : Nat // k < nDg t })].length) b5 = nb by have := HKL.out; have := HNB.out; simp; omega]
        exact HE9.out
      · rw [HPR.out, (take_snoc_ge ps _ b5 (by rw [HPSL.out, HKL.out]; omega)).2, List.length_append, show pre.length + [(⟨i, hi⟩ : { k : Nat // k < nDg t })].length - b5 = nu + 1 by have := HKL.out; have := HNU.out; simp; omega]
        exact HE4.out
  case done =>
    rintro D ys W hD hys ⟨⟨vb, vu, hpm, hp0, hpn, hob, hou, hrb, hru, hap⟩, hx2, hB⟩ hK
    have hlen : ys.length = nDg t := by have := congrArg List.length hys; rw [ixs_length] at this; simpa using this
    have hmap : ys.map (fun i => Value.string (dgAt t i.1)) = (dgL t).map Value.string := by
      unfold dgL
      rw [← hys]
      unfold ixs
      rw [List.map_map, List.map_map]
      rfl
    rw [hlen, hmap, ← List.map_take] at hob
    rw [hlen, hmap, ← List.map_drop] at hou
    have hsz : ∀ z ∈ dgL t, z.size ≤ 9223372036854775807 := fun z hz => by
      unfold dgL at hz
      rw [List.mem_map] at hz
      obtain ⟨q, hq, rfl⟩ := hz
      rw [dgAt_size (List.mem_range.1 hq)]
      decide
    have hl1 : ((dgL t).take b5).length = min (nDg t) b5 := by rw [List.length_take, dgL_length]; omega
    have hl2 : ((dgL t).drop b5).length = nDg t - b5 := by rw [List.length_drop, dgL_length]
    obtain ⟨ab, cb, rfl, hcb, hsb⟩ := strs_own hob hl1 (fun z hz => hsz z (List.mem_of_mem_take hz))
    obtain ⟨au, cu, rfl, hcu, hsu⟩ := strs_own hou hl2 (fun z hz => hsz z (List.mem_of_mem_drop hz))
    have hnd : nDg t ≤ 20 := by unfold nDg; omega
    have HCB := Lib.hid hcb
    rw [← hl1] at hsb hpm HCB hob
    rw [← hl2] at hsu hpm hou
    have hrb' := hrb
    have hru' := hru
    have hap' := hap
    rw [← hl1] at hrb' hap'
    rw [← hl2] at hru' hap'
    have HRB := Lib.hid hrb'
    have HRU := Lib.hid hru'
    have HAP := Lib.hid hap'
    have HOB := Lib.hid hob
    have HOU := Lib.hid hou
    clear hrb' hru' hap'
    have HRL2 := Lib.hid (show ((dgL t).take b5).length ≤ 1000000 ∧ ((dgL t).drop b5).length ≤ 1000000 by rw [hl1, hl2]; omega)
    clear hob hou hlen hmap hys hsz hl1 hl2 hrb hru hap hcb hcu
    generalize (dgL t).take b5 = bs at *
    generalize (dgL t).drop b5 = us at *
    have HSB0 := Lib.hid hsb
    have HSU0 := Lib.hid hsu
    have HB := Lib.hid hB
    have HPM := Lib.hid hpm
    have HP0 := Lib.hid hp0
    have HKD := Lib.hid hK
    have hDW : D < W.heap.size := (Array.getElem?_eq_some_iff.1 hK).1
    obtain ⟨c0, c1, c2⟩ := box3 hpm
    have hbl := hsb.le
    have hul := hsu.le
    clear hsb hsu hB hpm hp0 hpn hK
    cases hmf : mfB rm with
    | false =>
      have HO := Lib.hid (show O = none by rw [HT.out, if_neg (by rw [hmf]; simp)])
      have hmf2 : mfB ⟨(b4 : Int), bs, us⟩ = false := by rw [← HRW.out]; exact hmf
      clear hmf
      go_wp2_with fail
      refine (mbytes_bad b4 ab bs.length cb au us.length cu bs us _ HSB0.out HSU0.out ?hl hmf2).mono ?_
      case hl => have h := HRL2.out; exact ⟨by omega, by omega⟩
      rintro e w6 ⟨rfl, hk6⟩
      have HK6 := Lib.hid (Kept.trans HB.out hk6)
      have HR6 := Lib.hid (HP0.out.kept hk6)
      have HD6 := Lib.hid ((Below.block hk6 D hDW).trans HKD.out)
      clear hk6 c0 c1 c2 hmf2
      go_wp2_with (refine wpList_store_block rfl 28 (.tmp 2) (.tmp 58) rfl _ #[.int .i64 0, .slice none 0 0, .slice none 0 0] #[.int .i64 0, .slice none 0 0, .slice none 0 0] 28 rfl rfl HR6.out Try.infoMf rfl (one3m _ _ _ _ _ _ _) ?_)
      have HSB := Lib.hid (HR6.out.setRow #[.int .i64 0, .slice none 0 0, .slice none 0 0])
      have HSK := Lib.hid (Kept.setRow HK6.out (g := p) (by have := HPW.out; omega) #[.int .i64 0, .slice none 0 0, .slice none 0 0])
      have HSD := Lib.hid ((setRow_other w6 p D #[.int .i64 0, .slice none 0 0, .slice none 0 0] (by omega)).trans HD6.out)
      generalize w6.setRow p #[.int .i64 0, .slice none 0 0, .slice none 0 0] = w8 at *
      refine ⟨by simp, .inl ⟨_, _, rfl, run_takeDeferred HSD.out, ?_⟩⟩
      refine ⟨_, results_row_tmp rfl _ _ p 28 #[.int .i64 0, .slice none 0 0, .slice none 0 0] _ rfl (block_grown HSB.out (grown_put w8 D (.deferred none)) (by simp; omega)) Try.underlying28 rfl Try.infoMf _ rfl, ?_⟩
      refine ⟨fun _ => rfl, (fun m e => by rw [HO.out] at e; cases e), ?_⟩
      exact Below.grown HSK.out (grown_put w8 D (.deferred none)) (by have := HSK.out.size; simp; omega) (fun k e => by cases e; have := HPW.out; omega)
    | true =>
      have hmf2 : mfB ⟨(b4 : Int), bs, us⟩ = true := by rw [← HRW.out]; exact hmf
      obtain ⟨T9, hT9⟩ : ∃ T9, T9 = mfT rm := ⟨_, rfl⟩
      have HT9 := Lib.hid hT9
      go_wp2_with fail
      refine (mbytes_good b4 ab bs.length cb au us.length cu bs us _ HSB0.out HSU0.out hmf2).mono ?_
      rw [show mfT ⟨(b4 : Int), bs, us⟩ = T9 by rw [hT9, ← HRW.out]]
      rintro e w6 ⟨rfl, hk6⟩
      have HK6 := Lib.hid (Kept.trans HB.out hk6)
      have HR6 := Lib.hid (HP0.out.kept hk6)
      have HM6 := Lib.hid (HPM.out.kept hk6)
      have HD6 := Lib.hid ((Below.block hk6 D hDW).trans HKD.out)
      have HSB6 := Lib.hid (HSB0.out.kept hk6)
      have HSU6 := Lib.hid (HSU0.out.kept hk6)
      have HOB6 := Lib.hid (own_kept HOB.out hk6)
      have HOU6 := Lib.hid (own_kept HOU.out hk6)
      have HMF := Lib.hid hmf
      have hD6 : D < w6.heap.size := by have := hk6.size; omega
      clear hk6 c0 c1 c2 hmf2 hmf hT9
      by_cases hs9 : T9 = s
      · have HO := Lib.hid (show O = some rm by rw [HT.out, if_pos ⟨HMF.out, by rw [← HT9.out, hs9]⟩])
        subst hs9
        obtain ⟨c0, c1, c2⟩ := box3 HM6.out
        go_wp2_with (refine wpList_store_block rfl 28 (.tmp 2) (.tmp 59) rfl _ #[.int .i64 b4, .slice ab bs.length cb, .slice au us.length cu] #[.int .i64 0, .slice none 0 0, .slice none 0 0] 28 rfl rfl HR6.out Try.infoMf rfl (one3m _ _ _ _ _ _ _) ?_)
        have HSB := Lib.hid (HR6.out.setRow #[.int .i64 b4, .slice ab bs.length cb, .slice au us.length cu])
        have g8 := grown_row w6 p #[.int .i64 b4, .slice ab bs.length cb, .slice au us.length cu]
        have HSK := Lib.hid (Kept.setRow HK6.out (g := p) (by have := HPW.out; omega) #[.int .i64 b4, .slice ab bs.length cb, .slice au us.length cu])
        have HSD := Lib.hid ((setRow_other w6 p D #[.int .i64 b4, .slice ab bs.length cb, .slice au us.length cu] (by omega)).trans HD6.out)
        have HSB8 := Lib.hid (strs_set HSB6.out HR6.out (mf0_no _ _ _ _ _ _ _) g8)
        have HSU8 := Lib.hid (strs_set HSU6.out HR6.out (mf0_no _ _ _ _ _ _ _) g8)
        have HOB8 := Lib.hid (own_own1 HOB6.out g8 (fun e => HRZ.out (HRB.out p e.symm)))
        have HOU8 := Lib.hid (own_own1 HOU6.out g8 (fun e => HRZ.out (HRU.out p e.symm)))
        clear HOB6 HOU6
        generalize w6.setRow p #[.int .i64 b4, .slice ab bs.length cb, .slice au us.length cu] = w8 at *
        refine ⟨by simp, .inl ⟨_, _, rfl, run_takeDeferred HSD.out, ?_⟩⟩
        refine ⟨_, results_row_tmp rfl _ _ p 28 #[.int .i64 b4, .slice ab bs.length cb, .slice au us.length cu] _ rfl (block_grown HSB.out (grown_put w8 D (.deferred none)) (by simp; omega)) Try.underlying28 rfl Try.infoMf _ rfl, ?_⟩
        refine ⟨(fun e => by rw [HO.out] at e; cases e), fun m e => ?_, ?_⟩
        · rw [HO.out] at e
          cases e
          rw [HRW.out]
          exact ⟨ab, cb, au, cu, rfl, ⟨HCB.out, own_own HOB8.out (grown_put w8 D (.deferred none)) (fun k e => by cases e; exact ⟨_, HSD.out, rfl⟩), fun W2 g2 => by
            obtain ⟨a', c', e', _, h'⟩ := strs_own (own_apart (own_own HOU8.out (grown_put w8 D (.deferred none)) (fun k e => by cases e; exact ⟨_, HSD.out, rfl⟩)) g2 (fun k hk e => HAP.out k e hk)) rfl HSU0.out.sizes
            cases e'
            exact h'⟩, strs_put HSB8.out HSD.out rfl, strs_put HSU8.out HSD.out rfl⟩
        · exact Below.grown HSK.out (grown_put w8 D (.deferred none)) (by have := HSK.out.size; simp; omega) (fun k e => by cases e; have := HPW.out; omega)
      · have HO := Lib.hid (show O = none by rw [HT.out, if_neg (fun h => hs9 (by rw [HT9.out]; exact h.2))])
        have hne : ¬ T9.toList = s.toList := fun e => hs9 (toList_inj e)
        have hne2 : (T9.toList != s.toList) = true := by simpa using hne
        have hne3 : (T9.toList == s.toList) = false := by simpa using hne
        clear hs9
        go_wp2_with (refine wpList_store_block rfl 28 (.tmp 2) (.tmp 58) rfl _ #[.int .i64 0, .slice none 0 0, .slice none 0 0] #[.int .i64 0, .slice none 0 0, .slice none 0 0] 28 rfl rfl HR6.out Try.infoMf rfl (one3m _ _ _ _ _ _ _) ?_)
        have HSB := Lib.hid (HR6.out.setRow #[.int .i64 0, .slice none 0 0, .slice none 0 0])
        have HSK := Lib.hid (Kept.setRow HK6.out (g := p) (by have := HPW.out; omega) #[.int .i64 0, .slice none 0 0, .slice none 0 0])
        have HSD := Lib.hid ((setRow_other w6 p D #[.int .i64 0, .slice none 0 0, .slice none 0 0] (by omega)).trans HD6.out)
        generalize w6.setRow p #[.int .i64 0, .slice none 0 0, .slice none 0 0] = w8 at *
        refine ⟨by simp, .inl ⟨_, _, rfl, run_takeDeferred HSD.out, ?_⟩⟩
        refine ⟨_, results_row_tmp rfl _ _ p 28 #[.int .i64 0, .slice none 0 0, .slice none 0 0] _ rfl (block_grown HSB.out (grown_put w8 D (.deferred none)) (by simp; omega)) Try.underlying28 rfl Try.infoMf _ rfl, ?_⟩
        refine ⟨fun _ => rfl, (fun m e => by rw [HO.out] at e; cases e), ?_⟩
        exact Below.grown HSK.out (grown_put w8 D (.deferred none)) (by have := HSK.out.size; simp; omega) (fun k e => by cases e; have := HPW.out; omega)
  case stop => rintro _ _ _ _ _ _ h; exact h.elim
theorem mtake_any (s : ByteArray) (w : World) : Calls Try.prog 17 #[.string s] w (TakeMP w (takeM s)) := by
  by_cases h : s.size < 7 ∨ 647 < s.size
  · have e : takeM s = none := by unfold takeM; rw [if_neg (by omega)]
    rw [e]
    exact take_wide s w h
  · exact take_main s w (by omega) (by omega)
end Go.Proofs.Ytdllenoclnmmdaa

