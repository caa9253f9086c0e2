/- Which digest any letters are: digest.Take and the reference's Unhex (no conditions but on lengths). -/
import Derived.Test.YtldfamccobcpjaaDoorBl14
namespace Go.Proofs.YtldfamccobcpjaaDoor
open Go.RowKit Go.Shelf
attribute [local go_sem] Oper.semAt_some

/-- the number that a letter stands for -/
def dgt (n : Nat) : Option Nat := if 48 ≤ n ∧ n ≤ 57 then some (n - 48) else if 97 ≤ n ∧ n ≤ 102 then some (n - 97 + 10) else none
def putD (L : List UInt8) (k d : Nat) : List UInt8 := L.set (k / 2) (UInt8.ofNat ((L.getD (k / 2) 0).toNat * 16 % 256 ||| d))
def unh (l : List UInt8) : Nat → Option (List UInt8)
  | 0 => some (List.replicate 32 0)
  | k + 1 => (unh l k).bind fun L => (dgt (l.getD k 0).toNat).map (putD L k)
theorem unh_length {l : List UInt8} : ∀ {k : Nat} {L : List UInt8}, unh l k = some L → L.length = 32
  | 0, L, h => by simp only [unh, Option.some.injEq] at h; subst h; simp
  | k + 1, L, h => by
    simp only [unh, Option.bind_eq_some_iff, Option.map_eq_some_iff] at h
    obtain ⟨M, hM, d, _, rfl⟩ := h
    unfold putD
    rw [List.length_set]
    exact unh_length hM
theorem unh_none {l : List UInt8} {k : Nat} (h : unh l k = none) : ∀ j, unh l (k + j) = none
  | 0 => h
  | j + 1 => by show (unh l (k + j)).bind _ = none; rw [unh_none h j]; rfl
/-- which digest a text of letters is -/
def tk (s : ByteArray) : Option (List UInt8) := if s.size = 64 then unh s.data.toList 64 else none
def tkB (s : ByteArray) : ByteArray := match tk s with | some L => ⟨L.toArray⟩ | none => ⟨#[]⟩
def tkE (s : ByteArray) : Int := match tk s with | some _ => 0 | none => 7
theorem tk_bad {s : ByteArray} (h : s.size ≠ 64) : tk s = none := if_neg h
theorem tk_none {s : ByteArray} (h : s.size = 64) {k : Nat} (hk : k < 64) {L : List UInt8} (hL : unh s.data.toList k = some L) (hd : dgt (s.data.toList.getD k 0).toNat = none) : tk s = none := by
  unfold tk
  rw [if_pos h, show 64 = k + 1 + (63 - k) by omega]
  refine unh_none ?_ _
  simp only [unh, hL, hd, Option.bind_some, Option.map_none]
theorem tk_some {s : ByteArray} (h : s.size = 64) {L : List UInt8} (hL : unh s.data.toList 64 = some L) : tk s = some L := by unfold tk; rw [if_pos h, hL]
theorem list_at (s : ByteArray) (k : Nat) (h : k < s.size) : s.data.toList.getD k 0 = s[k] := by
  have h' : k < s.data.toList.length := by rw [Array.length_toList]; exact h
  rw [List.getD_eq_getElem?_getD, List.getElem?_eq_getElem h', Array.getElem_toList]
  rfl
theorem dgt_lt {n d : Nat} (h : dgt n = some d) : d < 16 := by
  unfold dgt at h
  split at h
  · simp at h; omega
  · split at h
    · simp at h; omega
    · cases h
set_option maxRecDepth 100000 in
theorem digit_any (c : Nat) (hc : c < 256) (w : World) : Calls Tryd.prog 32 #[.int .u8 c] w fun e w' => e = .returned (.tuple #[.int .u8 ((dgt c).getD 0 : Nat), .bool (dgt c).isSome]) ∧ w' = w := by
  by_cases h1 : 48 ≤ c ∧ c ≤ 57
  · obtain ⟨d, hd⟩ : ∃ d, d = c - 48 := ⟨_, rfl⟩
    have e : dgt c = some d := by unfold dgt; rw [if_pos h1, hd]
    rw [e]
    have e1 : (c : Int) - 48 = (d : Int) := by omega
    obtain ⟨ha, hb⟩ := h1
    clear hd e
    go_enter Tryd.func32, Tryd.ntmps32
    go_wp2
    go_ret2
    exact ⟨rfl, rfl⟩
  · by_cases h2 : 97 ≤ c ∧ c ≤ 102
    · obtain ⟨d0, hd0⟩ : ∃ d0, d0 = c - 97 := ⟨_, rfl⟩
      obtain ⟨d, hd⟩ : ∃ d, d = d0 + 10 := ⟨_, rfl⟩
      have e : dgt c = some d := by unfold dgt; rw [if_neg h1, if_pos h2, hd, hd0]
      rw [e]
      have e1 : (c : Int) - 97 = (d0 : Int) := by omega
      have e2 : (d0 : Int) + 10 = (d : Int) := by omega
      obtain ⟨ha, hb⟩ := h2
      have hn : ¬ c ≤ 57 := by omega
      clear hd hd0 e h1
      go_enter Tryd.func32, Tryd.ntmps32
      go_wp2
      go_ret2
      exact ⟨rfl, rfl⟩
    · have e : dgt c = none := by unfold dgt; rw [if_neg h1, if_neg h2]
      rw [e]
      have h3 : c < 48 ∨ (57 < c ∧ c < 97) ∨ 102 < c := by omega
      clear e h1 h2
      rcases h3 with h | ⟨h, h'⟩ | h
      all_goals
        go_enter Tryd.func32, Tryd.ntmps32
        go_wp2
        go_ret2
        exact ⟨rfl, rfl⟩
def z32 : Array Value := Array.replicate 32 (.int .u8 0)
theorem Tryd.zero32 : (Tryd.prog.info? 58).map (·.zero) = some (some (.agg z32)) := by kernel_rfl
theorem Tryd.built32 : Tryd.prog.built 58 [] = some z32 := by kernel_rfl
theorem Tryd.info32b : (Tryd.prog.info? 58).map (·.size) = some z32.size := by kernel_rfl
theorem z32_one : z32.all (·.oneCell') = true := by kernel_rfl
theorem z32_buf {w : World} {b : Nat} {t : TypeId} (h : BlockAt w b z32 t) : Buf w b (List.replicate 32 0) := by
  refine ⟨h.lt, fun i hi => ?_, fun i _ => h.free i⟩
  have hi' : i < 32 := by simpa using hi
  rw [h.cell, z32, List.getElem_replicate, Array.getElem?_replicate, if_pos hi']
  rfl
/-- what a letter makes of a byte -/
theorem put_byte (x d : Nat) (hd : d < 16) : bits .or .u8 ((x * 16 % 256 : Nat) : Int) (d : Int) = ((UInt8.ofNat (x * 16 % 256 ||| d)).toNat : Int) := by
  rw [u8_or_nat _ d (Nat.mod_lt _ (by decide)) (by omega), UInt8.toNat_ofNat', Nat.mod_eq_of_lt (Nat.or_lt_two_pow (n := 8) (Nat.mod_lt _ (by decide)) (by omega))]
theorem buf_at {w : World} {b : Nat} {L : List UInt8} (h : Buf w b L) (i : Nat) (hi : i < L.length) : w.cell? ⟨b, i, none⟩ = some (.int .u8 ((L.getD i 0).toNat : Nat)) := by
  rw [h.cell i hi]
  simp [List.getD, hi]
set_option maxRecDepth 100000 in
set_option maxHeartbeats 2000000 in
theorem take_any (s : ByteArray) (hs : s.size ≤ 6000) (w : World) :
    Calls Tryd.prog 21 #[.string s] w fun e w' => e = .returned (.tuple #[.string (tkB s), .int .i64 (tkE s)]) ∧ Kept w w' := by
  by_cases h64 : s.size = 64
  · have hd1 : ((s.size : Int) != 64) = false := by rw [bne_eq_false_iff_eq]; omega
    have H64 := Lib.hid h64
    go_enter Tryd.func21, Tryd.ntmps21
    clear h64
    go_upto_region 4 with (first
      | (with_reducible refine wpList_alloc_block rfl 58 rfl z32 Tryd.zero32 ?_)
      | (with_reducible refine wpList_build_zero rfl 58 rfl z32 Tryd.built32 ?_)
      | (refine wpList_store_block rfl 58 (.tmp 4) (.tmp 11) rfl w.heap.size z32 z32 58 rfl rfl (BlockAt.new _ _ _) Tryd.info32b rfl z32_one ?_))
    obtain ⟨w1, hw1⟩ : ∃ w1, w1 = (w.alloc (.cells z32 58)).setRow w.heap.size z32 := ⟨_, rfl⟩
    rw [← hw1]
    have HK1 := Lib.hid (show Kept w w1 by rw [hw1]; exact ((Kept.refl w).alloc _).setRow (Nat.le_refl _) _)
    have HB1 := Lib.hid (show Buf w1 w.heap.size (List.replicate 32 0) by rw [hw1]; exact z32_buf ((BlockAt.new w _ _).setRow _))
    obtain ⟨pd, hpd⟩ : ∃ pd, pd = w.heap.size := ⟨_, rfl⟩
    have HPD := Lib.hid hpd
    rw [← hpd] at HB1 ⊢
    clear hw1 hpd hd1
    simp only [Act.put, List.setIfInBounds_toArray, List.set_cons_zero, List.set_cons_succ]
    go_wp2_with fail
    go_loopw [14] (fun i wx => ∃ (k : Nat) (L : List UInt8), k ≤ s.size ∧ i = .int .i64 k ∧ unh s.data.toList k = some L ∧ Buf wx pd L ∧ Kept w wx) (fun i _ => s.size - (intOf i).toNat)
    case atStart => exact ⟨0, _, by omega, rfl, rfl, HB1.out, HK1.out⟩
    case round =>
      obtain ⟨k, L, hk, rfl, hL, hbf, hkw⟩ := hrel
      have HL := Lib.hid hL
      have HBu := Lib.hid hbf
      have HK := Lib.hid hkw
      have hln := unh_length hL
      have HLN := Lib.hid hln
      clear hL hbf hkw hln
      by_cases hlt : k < s.size
      · have hx := UInt8.toNat_lt s[k]
        have hat := list_at s k hlt
        have HAT := Lib.hid hat
        clear hat
        obtain ⟨dr, hdr⟩ : ∃ dr, dr = dgt s[k].toNat := ⟨_, rfl⟩
        have HDG := Lib.hid (show ∀ w, Calls Tryd.prog 32 #[.int .u8 (s[k].toNat : Nat)] w fun e w' => e = .returned (.tuple #[.int .u8 (dr.getD 0 : Nat), .bool dr.isSome]) ∧ w' = w from fun w => by rw [hdr]; exact digit_any _ hx w)
        have HDR := Lib.hid hdr
        clear hdr
        cases dr with
        | none =>
          as_aux_lemma =>
            go_wp2_with fail
            refine (HDG.out _).mono ?_
            rintro e w' ⟨rfl, rfl⟩
            have ht : tk s = none := tk_none H64.out (by have := H64.out; omega) HL.out (by rw [HAT.out]; exact HDR.out.symm)
            have hb : tkB s = ⟨#[]⟩ := by unfold tkB; rw [ht]
            have he : tkE s = 7 := by unfold tkE; rw [ht]
            have HT := Lib.hid (And.intro hb he)
            clear ht hb he
            go_wp2
            go_ret2
            exact ⟨by rw [HT.out.1, HT.out.2]; rfl, HK.out⟩
        | some d =>
          as_aux_lemma =>
            have hd16 : d < 16 := dgt_lt HDR.out.symm
            obtain ⟨q, hq⟩ : ∃ q, q = k / 2 := ⟨_, rfl⟩
            have hq32 : q < 32 := by have := H64.out; omega
            have hq2 : (k : Int) / 2 = (q : Int) := by omega
            have c1 := buf_at HBu.out q (by rw [HLN.out]; exact hq32)
            have f1 := HBu.out.free q (by rw [HLN.out]; exact hq32)
            have hxl := UInt8.toNat_lt (L.getD q 0)
            have e2 := put_byte (L.getD q 0).toNat d hd16
            have HB2 := Lib.hid (HBu.out.set q (by rw [HLN.out]; exact hq32) (UInt8.ofNat ((L.getD q 0).toNat * 16 % 256 ||| d)))
            have HU := Lib.hid (show unh s.data.toList (k + 1) = some (L.set q (UInt8.ofNat ((L.getD q 0).toNat * 16 % 256 ||| d))) by
              simp only [unh, HL.out, Option.bind_some, HAT.out, ← HDR.out, Option.map_some]
              unfold putD
              rw [← hq])
            generalize UInt8.ofNat ((L.getD q 0).toNat * 16 % 256 ||| d) = y at *
            generalize (L.getD q 0).toNat = x at *
            have e1 : ((x : Int) * 16) % 256 = ((x * 16 % 256 : Nat) : Int) := by omega
            obtain ⟨x2, hx2⟩ : ∃ x2, x2 = x * 16 % 256 := ⟨_, rfl⟩
            rw [← hx2] at e1 e2
            have HKS := Lib.hid (HK.out.setCell (p := ⟨pd, q, none⟩) (by show w.heap.size ≤ pd; rw [HPD.out]; exact Nat.le_refl _) (.int .u8 (y.toNat : Int)))
            clear hq hx2
            go_wp2_with fail
            refine (HDG.out _).mono ?_
            rintro e w' ⟨rfl, rfl⟩
            go_wp2
            go_roundw
            case rel => exact ⟨k + 1, _, by omega, by go_num, HU.out, HB2.out, HKS.out⟩
            case measure => simp [intOf]; omega
      · as_aux_lemma =>
          obtain rfl : k = s.size := by omega
          have hcv := HBu.out.string (P := Tryd.prog) 29 9 5 Tryd.underlying29 Tryd.underlying5 Tryd.underlying9 32
          rw [HLN.out] at hcv
          have hu := HL.out
          rw [H64.out] at hu
          have ht := tk_some H64.out hu
          have hb : tkB s = ⟨L.toArray⟩ := by unfold tkB; rw [ht]
          have he : tkE s = 0 := by unfold tkE; rw [ht]
          rw [← hb] at hcv
          have HT := Lib.hid he
          obtain ⟨D, hD⟩ : ∃ D, D = tkB s := ⟨_, rfl⟩
          have HD := Lib.hid hD
          rw [← hD] at hcv
          clear ht hb he hu hD
          go_wp2
          go_ret2
          exact ⟨by rw [← HD.out, HT.out]; rfl, HK.out⟩
  · have hd1 : ((s.size : Int) != 64) = true := by rw [bne_iff_ne]; omega
    have hb : tkB s = ⟨#[]⟩ := by unfold tkB; rw [tk_bad h64]
    have he : tkE s = 7 := by unfold tkE; rw [tk_bad h64]
    rw [hb, he]
    clear h64 hb he
    go_enter Tryd.func21, Tryd.ntmps21
    go_wp2
    go_ret2
    exact ⟨rfl, Kept.refl _⟩
set_option maxRecDepth 100000 in
set_option maxHeartbeats 4000000 in
theorem unhex_any (s : ByteArray) (w : World) :
    Calls Tryd.prog 22 #[.string s] w fun e w' => e = .returned (.tuple #[.string (tkB s), .bool (tk s).isSome]) ∧ Kept w w' := by
  by_cases h64 : s.size = 64
  · have hd1 : ((s.size : Int) != 64) = false := by rw [bne_eq_false_iff_eq]; omega
    have H64 := Lib.hid h64
    have hmk : ∀ w : World, (Instr.makeSlice 29 (.int .i64 32) (.int .i64 32)).run Tryd.prog w = .ok (.slice (some ⟨w.heap.size, 0, none⟩) 32 32) (w.alloc (.cells (madeCells #[.int .u8 0] 32) 5)) := makeB 32 (by decide)
    have HB1 := Lib.hid (madeB w 32)
    have HK1 := Lib.hid ((Kept.refl w).alloc (.cells (madeCells #[.int .u8 0] 32) 5))
    clear h64
    go_enter Tryd.func22, Tryd.ntmps22
    go_upto_region 4 with (fail)
    obtain ⟨pd, hpd⟩ : ∃ pd, pd = w.heap.size := ⟨_, rfl⟩
    have HPD := Lib.hid hpd
    rw [← hpd] at HB1 ⊢
    clear hpd hd1 hmk
    generalize w.alloc (.cells (madeCells #[.int .u8 0] 32) 5) = w1 at *
    go_wp2_with fail
    go_loopw [5] (fun i wx => ∃ (k : Nat) (L : List UInt8), k ≤ 64 ∧ i = .int .i64 k ∧ unh s.data.toList k = some L ∧ Buf wx pd L ∧ Kept w wx) (fun i _ => 64 - (intOf i).toNat)
    case atStart => exact ⟨0, _, by omega, rfl, rfl, HB1.out, HK1.out⟩
    case round =>
      obtain ⟨k, L, hk, rfl, hL, hbf, hkw⟩ := hrel
      have HL := Lib.hid hL
      have HBu := Lib.hid hbf
      have HK := Lib.hid hkw
      have hln := unh_length hL
      have HLN := Lib.hid hln
      clear hL hbf hkw hln
      by_cases h6 : k < 64
      · have hlt : k < s.size := by have := H64.out; omega
        have hx := UInt8.toNat_lt s[k]
        have HAT := Lib.hid (list_at s k hlt)
        obtain ⟨c, hc⟩ : ∃ c : Nat, c = s[k].toNat := ⟨_, rfl⟩
        have hix : ∀ w : World, (Instr.index 9 (.string s) (.int .i64 k)).run Tryd.prog w = .ok (.int .u8 (c : Int)) w := fun w => by
          rw [run_index_string _ _ _ _ _ Tryd.underlying9, dif_pos (by omega), hc]
          rfl
        rw [← hc] at hx
        have HC := Lib.hid hc
        clear hc
        by_cases hin : (48 ≤ c ∧ c ≤ 57) ∨ (97 ≤ c ∧ c ≤ 102)
        · obtain ⟨d, hdd⟩ : ∃ d, dgt c = some d := by
            rcases hin with q | q
            · exact ⟨_, if_pos q⟩
            · exact ⟨_, by unfold dgt; rw [if_neg (by omega), if_pos q]⟩
          have hd16 : d < 16 := dgt_lt hdd
          obtain ⟨q, hq⟩ : ∃ q, q = k / 2 := ⟨_, rfl⟩
          have hq32 : q < 32 := by omega
          have hq2 : (k : Int) / 2 = (q : Int) := by omega
          have c1 := buf_at HBu.out q (by rw [HLN.out]; exact hq32)
          have f1 := HBu.out.free q (by rw [HLN.out]; exact hq32)
          have e2 := put_byte (L.getD q 0).toNat d hd16
          have HB2 := Lib.hid (HBu.out.set q (by rw [HLN.out]; exact hq32) (UInt8.ofNat ((L.getD q 0).toNat * 16 % 256 ||| d)))
          have HU := Lib.hid (show unh s.data.toList (k + 1) = some (L.set q (UInt8.ofNat ((L.getD q 0).toNat * 16 % 256 ||| d))) by
            simp only [unh, HL.out, Option.bind_some, HAT.out, ← HC.out, hdd, Option.map_some]
            unfold putD
            rw [← hq])
          have hxl := UInt8.toNat_lt (L.getD q 0)
          generalize UInt8.ofNat ((L.getD q 0).toNat * 16 % 256 ||| d) = y at *
          generalize (L.getD q 0).toNat = x at *
          have e1 : ((x : Int) * 16) % 256 = ((x * 16 % 256 : Nat) : Int) := by omega
          obtain ⟨x2, hx2⟩ : ∃ x2, x2 = x * 16 % 256 := ⟨_, rfl⟩
          rw [← hx2] at e1 e2
          have HKS := Lib.hid (HK.out.setCell (p := ⟨pd, q, none⟩) (by show w.heap.size ≤ pd; rw [HPD.out]; exact Nat.le_refl _) (.int .u8 (y.toNat : Int)))
          rcases hin with ⟨ha, hb⟩ | ⟨ha, hb⟩
          · as_aux_lemma =>
              have ed : (c : Int) - 48 = (d : Int) := by
                unfold dgt at hdd
                rw [if_pos ⟨ha, hb⟩] at hdd
                simp at hdd
                omega
              clear hq hx2 hdd
              go_wp2
              go_roundw
              case rel => exact ⟨k + 1, _, by omega, by go_num, HU.out, HB2.out, HKS.out⟩
              case measure => simp [intOf]; omega
          · as_aux_lemma =>
              obtain ⟨d0, hd0⟩ : ∃ d0, d0 = c - 97 := ⟨_, rfl⟩
              have ed0 : (c : Int) - 97 = (d0 : Int) := by omega
              have ed : (d0 : Int) + 10 = (d : Int) := by
                unfold dgt at hdd
                rw [if_neg (by omega), if_pos ⟨ha, hb⟩] at hdd
                simp at hdd
                omega
              clear hq hx2 hdd hd0
              go_wp2
              go_roundw
              case rel => exact ⟨k + 1, _, by omega, by go_num, HU.out, HB2.out, HKS.out⟩
              case measure => simp [intOf]; omega
        · have hdn : dgt c = none := by unfold dgt; rw [if_neg (fun q => hin (.inl q)), if_neg (fun q => hin (.inr q))]
          have ht : tk s = none := tk_none H64.out h6 HL.out (by rw [HAT.out, ← HC.out]; exact hdn)
          have hb : tkB s = ⟨#[]⟩ := by unfold tkB; rw [ht]
          have HT := Lib.hid (And.intro hb ht)
          have h3 : c < 48 ∨ (57 < c ∧ c < 97) ∨ 102 < c := by omega
          clear ht hb hdn hin
          rcases h3 with h | ⟨h, h'⟩ | h
          all_goals
            go_wp2
            go_ret2
            exact ⟨by rw [HT.out.1, HT.out.2]; rfl, HK.out⟩
      · as_aux_lemma =>
          obtain rfl : k = 64 := by omega
          have hcv := HBu.out.string (P := Tryd.prog) 29 9 5 Tryd.underlying29 Tryd.underlying5 Tryd.underlying9 32
          rw [HLN.out] at hcv
          have ht := tk_some H64.out HL.out
          have hb : tkB s = ⟨L.toArray⟩ := by unfold tkB; rw [ht]
          rw [← hb] at hcv
          have HT := Lib.hid ht
          obtain ⟨D, hD⟩ : ∃ D, D = tkB s := ⟨_, rfl⟩
          have HD := Lib.hid hD
          rw [← hD] at hcv
          clear ht hb hD
          go_wp2
          go_ret2
          exact ⟨by rw [← HD.out, HT.out]; rfl, HK.out⟩
  · have hd1 : ((s.size : Int) != 64) = true := by rw [bne_iff_ne]; omega
    have hb : tkB s = ⟨#[]⟩ := by unfold tkB; rw [tk_bad h64]
    rw [hb, tk_bad h64]
    clear h64 hb
    go_enter Tryd.func22, Tryd.ntmps22
    go_wp2
    go_ret2
    exact ⟨rfl, Kept.refl _⟩
end Go.Proofs.YtldfamccobcpjaaDoor
