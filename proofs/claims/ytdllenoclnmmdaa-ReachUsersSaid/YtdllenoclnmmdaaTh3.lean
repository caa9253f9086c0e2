/- reach.Check; the reference's Things, At, Named (no conditions but that lengths fit). -/
import Derived.Test.YtdllenoclnmmdaaTh2
namespace Go.Proofs.Ytdllenoclnmmdaa
open Go.RowKit Go.Shelf
attribute [local go_sem] Oper.semAt_some

/-- may things be? -/
def thsB (ts : List Th) : Bool := decide (ts.length ≤ 60) && (ts.all thB && riB (digs ts))
def lastF (ts : List Th) (k : Nat) : ByteArray := if k = 0 then ByteArray.empty else (ts.getD (k - 1) th00).d
theorem ltB_empty {x : ByteArray} (h : x.size = 32) : ltB ByteArray.empty x = true := by
  unfold ltB
  rw [ByteArray.toList_eq, ByteArray.toList_eq]
  obtain ⟨⟨l⟩⟩ := x
  cases l with
  | nil => cases h
  | cons a r => rfl
theorem thB_32 {x : Th} (h : thB x = true) : x.d.size = 32 := by
  unfold thB at h
  rw [Bool.and_eq_true] at h
  exact of_decide_eq_true h.1
theorem chk_bad1 {ts : List Th} {k : Nat} (hk : k < ts.length) (h : thB (ts.getD k th00) = false) : thsB ts = false := by
  unfold thsB
  rw [all_at ts thB k th00 hk h, Bool.false_and, Bool.and_false]
theorem chk_bad2 {ts : List Th} {k : Nat} (hk : k < ts.length) (h0 : 0 < k) (h : ltB (ts.getD (k - 1) th00).d (ts.getD k th00).d = false) : thsB ts = false := by
  have : riB (digs ts) = false := riK_false (i := k) (by unfold digs; rw [List.length_map]; exact hk) h0 (by rw [txt_digs, txt_digs]; exact h)
  unfold thsB
  rw [this, Bool.and_false, Bool.and_false]
def chkK (ts : List Th) (k : Nat) : Prop := (ts.take k).all thB = true ∧ riK (digs ts) k = true
theorem chk_next {ts : List Th} {k : Nat} (hk : k < ts.length) (h : chkK ts k) (h1 : thB (ts.getD k th00) = true) (h2 : 0 < k → ltB (ts.getD (k - 1) th00).d (ts.getD k th00).d = true) : chkK ts (k + 1) := by
  refine ⟨by rw [all_snoc ts thB k th00 hk, h.1, h1]; rfl, ?_⟩
  rw [riK_succ, h.2, txt_digs, txt_digs]
  by_cases e : k = 0
  · rw [decide_eq_true e]; rfl
  · rw [h2 (by omega)]; simp
theorem chk_all {ts : List Th} (h : chkK ts ts.length) : thsB ts = decide (ts.length ≤ 60) := by
  unfold thsB riB
  have h1 := h.1
  rw [List.take_of_length_le (Nat.le_refl _)] at h1
  have h2 := h.2
  rw [h1, show (digs ts).length = ts.length by unfold digs; rw [List.length_map], h2]
  simp
theorem thsB_few {ts : List Th} (h : thsB ts = true) : ts.length ≤ 60 := by
  unfold thsB at h
  rw [Bool.and_eq_true] at h
  exact of_decide_eq_true h.1
theorem thsB_ri {ts : List Th} (h : thsB ts = true) : riB (digs ts) = true := by
  unfold thsB at h
  rw [Bool.and_eq_true, Bool.and_eq_true] at h
  exact h.2.2
theorem thsB_th {ts : List Th} (h : thsB ts = true) : ∀ x ∈ ts, thB x = true := by
  unfold thsB at h
  rw [Bool.and_eq_true, Bool.and_eq_true] at h
  exact List.all_eq_true.1 h.2.1
set_option maxRecDepth 100000 in
set_option maxHeartbeats 2000000 in
theorem rcheck_any (a : Option Addr) (l cap : Nat) (ts : List Th) (w : World) (h : ThsIn w a l ts) :
    Calls Try.prog 26 #[.slice a l cap] w fun e w' => e = .returned (.int .i64 (if thsB ts = true then 0 else 1)) ∧ Kept w w' := by
  have hle := h.le
  have HS := Lib.hid h
  have HL := Lib.hid h.len_eq
  clear h
  obtain ⟨R, hR⟩ : ∃ R : Int, R = if thsB ts = true then 0 else 1 := ⟨_, rfl⟩
  rw [← hR]
  have HR := Lib.hid hR
  clear hR
  by_cases h60 : l ≤ 60
  · have d60 : decide (60 < (l : Int)) = false := decide_eq_false (by omega)
    go_enter Try.func26, Try.ntmps26
    go_wp2_with fail
    go_loopw [3, 11] (fun x i wr => ∃ k : Nat, k ≤ l ∧ i = .int .i64 k ∧ x = .string (lastF ts k) ∧ Hid (chkK ts k) ∧ Kept w wr) (fun _ i _ => l - (intOf i).toNat)
    case atStart => exact ⟨0, by omega, rfl, rfl, Lib.hid ⟨rfl, rfl⟩, Kept.refl _⟩
    case round =>
      obtain ⟨k, hk, rfl, rfl, HZ, hkr⟩ := hrel
      have HK := Lib.hid hkr
      clear hkr
      by_cases hlt : k < l
      · have hd1 : decide (k < l) = true := decide_eq_true hlt
        obtain ⟨b, off, rfl, hc⟩ := HS.out.at (by omega)
        obtain ⟨c0, c1, c2⟩ := hc k hlt _ HK.out
        have hkt : k < ts.length := by rw [HL.out]; exact hlt
        have HB1 := Lib.hid (fun h => chk_bad1 hkt h)
        have HB2 := Lib.hid (fun h0 h => chk_bad2 hkt h0 h)
        have HNX := Lib.hid (fun h1 h2 => chk_next hkt HZ.out h1 h2)
        obtain ⟨la, hla⟩ : ∃ la, la = lastF ts k := ⟨_, rfl⟩
        have HLN := Lib.hid (show lastF ts (k + 1) = (ts.getD k th00).d by unfold lastF; rw [if_neg (by omega), Nat.add_sub_cancel])
        have HLA := Lib.hid (show (k = 0 ∧ la = ByteArray.empty) ∨ (0 < k ∧ la = (ts.getD (k - 1) th00).d) by
          rw [hla]; unfold lastF
          by_cases e : k = 0
          · rw [if_pos e]; exact .inl ⟨e, rfl⟩
          · rw [if_neg e]; exact .inr ⟨by omega, rfl⟩)
        rw [← hla]
        obtain ⟨x, hx⟩ : ∃ x, x = ts.getD k th00 := ⟨_, rfl⟩
        rw [← hx] at c0 c1 c2 HB1 HB2 HNX HLN
        clear hc hx hla hkt
        go_upto_region 7 with (fail)
        have HBX := Lib.hid (BlockAt.new wr #[.string x.d, .string x.t, .bool x.m] 65)
        have HK2 := Lib.hid (HK.out.alloc (.cells #[.string x.d, .string x.t, .bool x.m] 65))
        clear c0 c1 c2
        generalize wr.alloc (.cells #[.string x.d, .string x.t, .bool x.m] 65) = w2 at *
        obtain ⟨a0, a1, a2⟩ := box3 HBX.out
        have htg := thing_any x w2
        obtain ⟨B, hB⟩ : ∃ B, B = thB x := ⟨_, rfl⟩
        rw [← hB] at htg HB1 HNX
        have HTG := Lib.hid htg
        have HBB := Lib.hid hB
        clear htg hB
        go_wp2_with fail
        refine HTG.out.mono ?_
        rintro e w3 ⟨rfl, hk3⟩
        have HK3 := Lib.hid (HK2.out.trans hk3)
        clear a0 a1 a2
        obtain ⟨a0, a1, a2⟩ := box3k HBX.out hk3
        clear hk3
        cases B with
        | false =>
          have HE := Lib.hid (show R = 1 by rw [HR.out, HB1.out rfl]; rfl)
          go_wp2
          go_ret
          exact ⟨reti HE.out, HK3.out⟩
        | true =>
          cases hq : ltB la x.d with
          | true =>
            have hop := run_leq hq
            have HN := Lib.hid (HNX.out rfl (fun h0 => by
              rcases HLA.out with ⟨e, _⟩ | ⟨_, e⟩
              · omega
              · rw [← e]; exact hq))
            clear hq
            go_wp2_with fail
            go_roundw
            case rel => exact ⟨k + 1, by omega, by go_num, by rw [HLN.out], HN, HK3.out⟩
            case measure => simp [intOf]; omega
          | false =>
            have hop := run_leq hq
            have HE := Lib.hid (show R = 1 by
              rw [HR.out, HB2.out ?_ ?_]
              · rfl
              · rcases HLA.out with ⟨_, e⟩ | ⟨e, _⟩
                · rw [e, ltB_empty (thB_32 HBB.out.symm)] at hq; cases hq
                · exact e
              · rcases HLA.out with ⟨_, e⟩ | ⟨_, e⟩
                · rw [e, ltB_empty (thB_32 HBB.out.symm)] at hq; cases hq
                · rw [← e]; exact hq)
            clear hq
            go_wp2
            go_ret
            exact ⟨reti HE.out, HK3.out⟩
      · obtain rfl : l = k := by omega
        have hd1 : decide (l < l) = false := decide_eq_false (by omega)
        have HE := Lib.hid (show R = 0 by
          rw [HR.out, chk_all (by rw [HL.out]; exact HZ.out), HL.out, decide_eq_true h60]; rfl)
        go_wp2
        go_ret
        exact ⟨reti HE.out, HK.out⟩
  · have d60 : decide (60 < (l : Int)) = true := decide_eq_true (by omega)
    have HE := Lib.hid (show R = 1 by
      rw [HR.out, show thsB ts = false by unfold thsB; rw [HL.out, decide_eq_false h60]; rfl]; rfl)
    go_enter Try.func26, Try.ntmps26
    go_wp2
    go_ret
    exact ⟨reti HE.out, Kept.refl _⟩
end Go.Proofs.Ytdllenoclnmmdaa
