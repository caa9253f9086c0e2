/- manifest.Bytes (lists of no great length). -/
import Derived.Test.YtdllenoclnmmdaaMt2
import Derived.Test.YtdllenoclnmmdaaOwn
import Derived.Maps.AppendAt
import Derived.ArgAppend
import Derived.Lib.SlBytesConst
import Derived.Lib.AppendStr
namespace Go.Proofs.Ytdllenoclnmmdaa
open Go.RowKit Go.Shelf
attribute [local go_sem] Oper.semAt_some

def cats (l : List ByteArray) : List UInt8 := l.flatMap fun s => s.data.toList
/-- a manifest's bytes -/
def mfBytes (m : Mf) : List UInt8 := [77, 65, 78, 70, UInt8.ofNat m.k.toNat, UInt8.ofNat m.bs.length, UInt8.ofNat m.us.length] ++ cats m.bs ++ cats m.us
def mfT (m : Mf) : ByteArray := ⟨(mfBytes m).toArray⟩
theorem cats_snoc (l : List ByteArray) (k : Nat) (h : k < l.length) : cats (l.take (k + 1)) = cats (l.take k) ++ (txt l k).data.toList := by
  unfold cats txt
  rw [List.take_succ_eq_append_getElem h, List.flatMap_append]
  simp [List.getD, h]
theorem cats_len : ∀ l : List ByteArray, szB l = true → (cats l).length = 32 * l.length
  | [], _ => rfl
  | s :: l, h => by
    unfold szB at h
    rw [List.all_cons, Bool.and_eq_true] at h
    have h1 := of_decide_eq_true h.1
    have := cats_len l h.2
    unfold cats at this ⊢
    rw [List.flatMap_cons, List.length_append, this, List.length_cons]
    have : s.data.toList.length = 32 := by simpa using h1
    omega
theorem szB_take {l : List ByteArray} (h : szB l = true) (n : Nat) : szB (l.take n) = true := by
  unfold szB at h ⊢
  rw [List.all_eq_true] at h ⊢
  exact fun x hx => h x (List.mem_of_mem_take hx)
theorem szB_at {l : List ByteArray} (h : szB l = true) {k : Nat} (hk : k < l.length) : (txt l k).size = 32 := by
  unfold szB at h
  rw [List.all_eq_true] at h
  have := of_decide_eq_true (h l[k] (List.getElem_mem hk))
  unfold txt
  simpa [List.getD, hk] using this
theorem mfB_true {m : Mf} (h : mfB m = true) : m.bs.length + m.us.length ≤ 20 ∧ 0 ≤ m.k ∧ m.k ≤ 255 ∧ szB m.bs = true ∧ szB m.us = true ∧ riB m.bs = true ∧ riB m.us = true := by
  unfold mfB mfFew mfMade at h
  simp only [Bool.and_eq_true, decide_eq_true_eq] at h
  exact ⟨h.1, h.2.1.1, h.2.1.2.1, h.2.1.2.2.1, h.2.1.2.2.2, h.2.2.1, h.2.2.2⟩
theorem cell_newm (W : World) (xs : Array Value) (t : TypeId) (m : Nat × Nat) (i : Nat) : (W.alloc (.cells xs t m)).cell? ⟨W.heap.size, i, none⟩ = xs[i]? := by
  unfold World.cell?
  have : (W.alloc (.cells xs t m)).heap[W.heap.size]? = some (.cells xs t m) := by
    show (W.heap.push (.cells xs t m))[W.heap.size]? = _
    simp
  rw [this]
  simp
theorem rets2 {a b : ByteArray} {x : Value} (h : b = a) : Ending.returned (.tuple #[.string a, x]) = .returned (.tuple #[.string b, x]) := by rw [h]
theorem addr_add (b j : Nat) : (⟨b, 0, none⟩ : Addr).add j = ⟨b, j, none⟩ := by unfold Addr.add; split <;> simp_all
def lit4 : List Value := [.int .u8 77, .int .u8 65, .int .u8 78, .int .u8 70]
theorem mbytes_bad (k : Int) (ab : Option Addr) (lb cb : Nat) (au : Option Addr) (lu cu : Nat) (bs us : List ByteArray) (w : World) (hb : StrsIn w ab lb bs) (hu : StrsIn w au lu us) (hl : lb ≤ 1000000 ∧ lu ≤ 1000000) (hm : mfB ⟨k, bs, us⟩ = false) :
    Calls Try.prog 16 #[.agg #[.int .i64 k, .slice ab lb cb, .slice au lu cu]] w fun e w' => e = .returned (.tuple #[.string ByteArray.empty, .int .i64 1]) ∧ Kept w w' := by
  have HB := Lib.hid (BlockAt.new w #[.int .i64 k, .slice ab lb cb, .slice au lu cu] 28)
  have HK := Lib.hid ((Kept.refl w).alloc (.cells #[.int .i64 k, .slice ab lb cb, .slice au lu cu] 28))
  have hck := fun w h1 h2 => mcheck_any k ab lb cb au lu cu bs us w h1 h2 hl
  rw [show mfE ⟨k, bs, us⟩ = 1 by unfold mfE; rw [hm]; rfl] at hck
  have HCK := Lib.hid hck
  have HBS := Lib.hid hb
  have HUS := Lib.hid hu
  clear hb hu hm hck
  go_enter Try.func16, Try.ntmps16
  go_upto_region 1 with (fail)
  generalize w.alloc (.cells #[.int .i64 k, .slice ab lb cb, .slice au lu cu] 28) = w1 at *
  obtain ⟨a0, a1, a2⟩ := box3 HB.out
  go_wp2_with fail
  refine (HCK.out _ (HBS.out.kept HK.out) (HUS.out.kept HK.out)).mono ?_
  rintro e w2 ⟨rfl, hk2⟩
  have HK2 := Lib.hid (HK.out.trans hk2)
  clear a0 a1 a2 hk2
  go_wp2
  go_ret2
  exact ⟨rfl, HK2.out⟩
set_option maxRecDepth 100000 in
set_option maxHeartbeats 2000000 in
theorem mbytes_good (k : Int) (ab : Option Addr) (lb cb : Nat) (au : Option Addr) (lu cu : Nat) (bs us : List ByteArray) (w : World) (hb : StrsIn w ab lb bs) (hu : StrsIn w au lu us) (hm : mfB ⟨k, bs, us⟩ = true) :
    Calls Try.prog 16 #[.agg #[.int .i64 k, .slice ab lb cb, .slice au lu cu]] w fun e w' => e = .returned (.tuple #[.string (mfT ⟨k, bs, us⟩), .int .i64 0]) ∧ Kept w w' := by
  obtain ⟨h20, hk0, hk1, hsb, hsu, -, -⟩ := mfB_true hm
  dsimp only at h20 hk0 hk1 hsb hsu
  rw [hb.len_eq, hu.len_eq] at h20
  obtain ⟨K, rfl⟩ : ∃ K : Nat, k = K := ⟨k.toNat, by omega⟩
  have hck := fun w h1 h2 => mcheck_any K ab lb cb au lu cu bs us w h1 h2 (by omega)
  rw [show mfE ⟨K, bs, us⟩ = 0 by unfold mfE; rw [hm]; rfl] at hck
  have HT := Lib.hid (show mfT ⟨K, bs, us⟩ = ⟨([77, 65, 78, 70, UInt8.ofNat K, UInt8.ofNat lb, UInt8.ofNat lu] ++ cats bs ++ cats us).toArray⟩ by unfold mfT mfBytes; dsimp only; rw [hb.len_eq, hu.len_eq, Int.toNat_natCast])
  have HB := Lib.hid (BlockAt.new w #[.int .i64 K, .slice ab lb cb, .slice au lu cu] 28)
  have HK := Lib.hid ((Kept.refl w).alloc (.cells #[.int .i64 K, .slice ab lb cb, .slice au lu cu] 28))
  have HCK := Lib.hid hck
  have HBS := Lib.hid hb
  have HUS := Lib.hid hu
  have HLB := Lib.hid hb.len_eq
  have HLU := Lib.hid hu.len_eq
  have HSB := Lib.hid hsb
  have HSU := Lib.hid hsu
  have HLN := Lib.hid (cats_len bs hsb)
  have HLM := Lib.hid (cats_len us hsu)
  obtain ⟨i0, hi, hz0, hz1, hz2⟩ := info_parts Try.infoU8
  have HIN := Lib.hid (And.intro hi (And.intro hz0 (And.intro hz1 hz2)))
  clear hb hu hm hck hsb hsu hi hz0 hz1 hz2
  go_enter Try.func16, Try.ntmps16
  go_upto_region 1 with (fail)
  generalize w.alloc (.cells #[.int .i64 K, .slice ab lb cb, .slice au lu cu] 28) = w1 at *
  obtain ⟨a0, a1, a2⟩ := box3 HB.out
  have hpb := HB.out.lt
  go_wp2_with fail
  refine (HCK.out _ (HBS.out.kept HK.out) (HUS.out.kept HK.out)).mono ?_
  rintro e w2 ⟨rfl, hk2⟩
  have HK2 := Lib.hid (HK.out.trans hk2)
  have HB2 := Lib.hid (HB.out.kept hk2)
  clear a0 a1 a2 hk2 HB HK
  obtain ⟨a0, a1, a2⟩ := box3 HB2.out
  go_upto_region 3 with (fail)
  have kc := fun (w : World) (C : Array Value) (n c : Nat) => Lib.run_convert_bytes_const (P := Try.prog) w 70 5 C n c Try.underlying70 Try.underlying5
  have km := (Kept.refl w2).alloc (.cells #[.int .u8 77, .int .u8 65, .int .u8 78, .int .u8 70] 5 (4, 5))
  obtain ⟨b0, b1, b2⟩ := box3k HB2.out km
  go_wp2_with (at_builtin; refine wpList_append_grows _ rfl _ _ 70 rfl 5 i0 (.int .u8 0) 1 1 Try.underlying70 HIN.out.1 HIN.out.2.1 HIN.out.2.2.1 HIN.out.2.2.2 rfl (by decide) _ _ _ lit4 rfl (fun e => by cases e) rfl ?c1 _ _ _ [.int .u8 (K : Int), .int .u8 (lb : Int), .int .u8 (lu : Int)] rfl rfl ?c2 ?c3 (by decide) (by decide) (by decide) ?_)
  case c1 =>
    intro b hb j u hj
    cases hb
    have e : (⟨w2.heap.size, 0, none⟩ : Addr).add j = ⟨w2.heap.size, j, none⟩ := addr_add _ _
    have hlt : w2.heap.size < (w2.alloc (.cells #[.int .u8 77, .int .u8 65, .int .u8 78, .int .u8 70] 5 (4, 5))).heap.size := by simp
    rw [e]
    refine Kept.cell ((Kept.refl _).alloc _) hlt ?_
    rw [cell_newm]
    match j, hj with
    | 0, hj => simpa [lit4] using hj
    | 1, hj => simpa [lit4] using hj
    | 2, hj => simpa [lit4] using hj
    | 3, hj => simpa [lit4] using hj
    | j + 4, hj => simp [lit4] at hj
  case c2 =>
    intro j u hj
    have e : (⟨(w2.alloc (.cells #[.int .u8 77, .int .u8 65, .int .u8 78, .int .u8 70] 5 (4, 5))).heap.size, 0, none⟩ : Addr).add j = ⟨(w2.alloc (.cells #[.int .u8 77, .int .u8 65, .int .u8 78, .int .u8 70] 5 (4, 5))).heap.size, j, none⟩ := addr_add _ _
    have hc := cell_new (w2.alloc (.cells #[.int .u8 77, .int .u8 65, .int .u8 78, .int .u8 70] 5 (4, 5))) #[.int .u8 (K : Int), .int .u8 (lb : Int), .int .u8 (lu : Int)] 5 j
    rw [← e] at hc
    simp only [size_alloc] at hc
    rw [hc]
    match j, hj with
    | 0, hj => simpa using hj
    | 1, hj => simpa using hj
    | 2, hj => simpa using hj
    | j + 3, hj => simp at hj
  case c3 => intro u hu; simp at hu; rcases hu with rfl | rfl | rfl <;> rfl
  intro v0 u0 hown hgrow
  have hK2' : UInt8.toNat (UInt8.ofNat K) = K := by simp; omega
  have hlb' : UInt8.toNat (UInt8.ofNat lb) = lb := by simp; omega
  have hlu' : UInt8.toNat (UInt8.ofNat lu) = lu := by simp; omega
  have hku : Kept w u0 := by
    refine HK2.out.trans (Kept.trans (km.alloc (.cells #[.int .u8 (K : Int), .int .u8 (lb : Int), .int .u8 (lu : Int)] 5)) ?_)
    exact ⟨hgrow.os, hgrow.tape, hgrow.output, hgrow.size, fun k hk => hgrow.block k hk (fun e => by cases e)⟩
  obtain ⟨hd7, hhd7⟩ : ∃ x : List UInt8, x = [77, 65, 78, 70, UInt8.ofNat K, UInt8.ofNat lb, UInt8.ofNat lu] := ⟨_, rfl⟩
  rw [← hhd7] at HT
  have HO0 := Lib.hid (show u0.ownsRow w.heap.size 5 1 v0 7 (bv hd7) by
    have h := own_base hown (show w.heap.size ≤ w2.heap.size + 1 + 1 by have := HK2.out.size; omega)
    have e : lit4 ++ [.int .u8 (K : Int), .int .u8 (lb : Int), .int .u8 (lu : Int)] = bv hd7 := by
      rw [hhd7]
      unfold lit4 bv
      simp only [List.map_cons, List.map_nil, hK2', hlb', hlu']
      rfl
    rw [← e]
    exact h)
  have HKU := Lib.hid hku
  have HBU := Lib.hid (HB2.out.kept (show Kept w2 u0 from Kept.trans (km.alloc (.cells #[.int .u8 (K : Int), .int .u8 (lb : Int), .int .u8 (lu : Int)] 5)) ⟨hgrow.os, hgrow.tape, hgrow.output, hgrow.size, fun k hk => hgrow.block k hk (fun e => by cases e)⟩))
  clear hown hgrow km kc a0 a1 a2 b0 b1 b2 hK2' hlb' hlu' hku hhd7
  obtain ⟨a0, a1, a2⟩ := box3 HBU.out
  go_wp2_with fail
  go_loopw [4, 30] (fun v q wr => ∃ (j : Nat) (V : Value), j ≤ lb ∧ V = v ∧ q = .int .i64 j ∧ wr.ownsRow w.heap.size 5 1 V (7 + 32 * j) (bv (hd7 ++ cats (bs.take j))) ∧ Spare w.heap.size 5 u0 wr) (fun _ q _ => lb - (intOf q).toNat)
  case atStart => exact ⟨0, _, by omega, rfl, rfl, by simpa [cats] using HO0.out, Spare.refl _ _ _⟩
  case round =>
    obtain ⟨j, vL, hj, rfl, rfl, ho, hs⟩ := hrel
    have HO4 := Lib.hid ho
    have HS4 := Lib.hid hs
    have hz := HKU.out.size
    clear ho hs
    by_cases hlt : j < lb
    · have hd1 : decide (j < lb) = true := decide_eq_true hlt
      obtain ⟨bl, ol, rfl, hc⟩ := HBS.out.at (by omega)
      have c0 := hc j hlt _ (((Spare.of_kept (base := w.heap.size) (e := 5) HKU.out).trans HS4.out).kept)
      have HSN := Lib.hid (cats_snoc bs j (by rw [HLB.out]; exact hlt))
      have hts : (txt bs j).size = 32 := szB_at HSB.out (by rw [HLB.out]; exact hlt)
      unfold txt at HSN hts
      generalize bs.getD j ByteArray.empty = t at c0 HSN hts
      have hz4 := HS4.out.size
      have HTS := Lib.hid hts
      clear hc hts
      go_wp2_with (at_builtin; refine Lib.wpList_append_own_string _ rfl _ _ 70 9 rfl w.heap.size 5 i0 Try.underlying70 Try.underlying9 HIN.out.1 HIN.out.2.1 HIN.out.2.2.1 HIN.out.2.2.2 vL (7 + 32 * j) _ rfl HO4.out t rfl (by rw [HTS.out]; unfold maxLen; omega) (by rw [HTS.out]; omega) (by omega) ?_)
      intro v5 u5 ho hg _
      have HS5 := Lib.hid (HS4.out.trans (Spare.of_grown HO4.out hg))
      have HO5 := Lib.hid (show u5.ownsRow w.heap.size 5 1 v5 (7 + 32 * (j + 1)) (bv (hd7 ++ cats (bs.take (j + 1)))) by
        rw [HSN.out, ← List.append_assoc, bv_append, show 7 + 32 * (j + 1) = 7 + 32 * j + t.size by rw [HTS.out]; omega]
        exact ho)
      clear ho hg c0
      go_wp2
      go_roundw
      case rel => exact ⟨j + 1, _, by omega, rfl, by go_num, HO5.out, HS5.out⟩
      case measure => simp [intOf]; omega
    · obtain rfl : lb = j := by omega
      have hd1 : decide (lb < lb) = false := decide_eq_false (by omega)
      rw [List.take_of_length_le (by rw [HLB.out]; omega)] at HO4
      have hz4 := HS4.out.size
      obtain ⟨a0, a1, a2⟩ := box3 (HS4.out.at HBU.out (by decide))
      generalize hd8 : hd7 ++ cats bs = h8 at HO4
      rw [hd8] at HT
      clear hd8
      go_wp2_with fail
      go_loopw [4, 41] (fun v q wq => ∃ (j : Nat) (V : Value), j ≤ lu ∧ V = v ∧ q = .int .i64 j ∧ wq.ownsRow w.heap.size 5 1 V (7 + 32 * lb + 32 * j) (bv (h8 ++ cats (us.take j))) ∧ Spare w.heap.size 5 wr wq) (fun _ q _ => lu - (intOf q).toNat)
      case atStart => exact ⟨0, _, by omega, rfl, rfl, by simpa [cats] using HO4.out, Spare.refl _ _ _⟩
      case round =>
        rename World => wq
        obtain ⟨j, vM, hj, rfl, rfl, ho, hs⟩ := hrel
        have HO6 := Lib.hid ho
        have HS6 := Lib.hid hs
        clear ho hs
        have hz6 := HS6.out.size
        have HKQ := Lib.hid ((((Spare.of_kept (base := w.heap.size) (e := 5) HKU.out).trans HS4.out).trans HS6.out).kept)
        by_cases hlt : j < lu
        · have hd1 : decide (j < lu) = true := decide_eq_true hlt
          obtain ⟨bl, ol, rfl, hc⟩ := HUS.out.at (by omega)
          have c0 := hc j hlt _ HKQ.out
          have HSN := Lib.hid (cats_snoc us j (by rw [HLU.out]; exact hlt))
          have hts : (txt us j).size = 32 := szB_at HSU.out (by rw [HLU.out]; exact hlt)
          unfold txt at HSN hts
          generalize us.getD j ByteArray.empty = t at c0 HSN hts
          have HTS := Lib.hid hts
          clear hc hts a0 a1 a2
          go_wp2_with (at_builtin; refine Lib.wpList_append_own_string _ rfl _ _ 70 9 rfl w.heap.size 5 i0 Try.underlying70 Try.underlying9 HIN.out.1 HIN.out.2.1 HIN.out.2.2.1 HIN.out.2.2.2 vM (7 + 32 * lb + 32 * j) _ rfl HO6.out t rfl (by rw [HTS.out]; unfold maxLen; omega) (by rw [HTS.out]; omega) (by omega) ?_)
          intro v5 u5 ho hg _
          have HS5 := Lib.hid (HS6.out.trans (Spare.of_grown HO6.out hg))
          have HO5 := Lib.hid (show u5.ownsRow w.heap.size 5 1 v5 (7 + 32 * lb + 32 * (j + 1)) (bv (h8 ++ cats (us.take (j + 1)))) by
            rw [HSN.out, ← List.append_assoc, bv_append, show 7 + 32 * lb + 32 * (j + 1) = 7 + 32 * lb + 32 * j + t.size by rw [HTS.out]; omega]
            exact ho)
          clear ho hg c0
          go_wp2
          go_roundw
          case rel => exact ⟨j + 1, _, by omega, rfl, by go_num, HO5.out, HS5.out⟩
          case measure => simp [intOf]; omega
        · obtain rfl : lu = j := by omega
          have hd1 : decide (lu < lu) = false := decide_eq_false (by omega)
          rw [List.take_of_length_le (by rw [HLU.out]; omega)] at HO6
          have hlen : (h8 ++ cats us).length = 7 + 32 * lb + 32 * lu := by
            have h := HO6.out.1
            rw [bv_length] at h
            omega
          have hcv := own_string HO6.out hlen
          clear a0 a1 a2 hlen
          go_wp2
          go_ret2
          exact ⟨rets2 HT.out, HKQ.out⟩
end Go.Proofs.Ytdllenoclnmmdaa
