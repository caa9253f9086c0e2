/- names.parts: what stands between a text's slashes, one by one (a text of no great length). -/
import Derived.Test.YtjiefcjjgadjiaaDoorNmS
import Derived.Test.YtjiefcjjgadjiaaDoorNm3
import Derived.Test.YtjiefcjjgadjiaaDoorRound
import Derived.Test.YtjiefcjjgadjiaaDoorRes
namespace Go.Proofs.YtjiefcjjgadjiaaDoor
open Go.RowKit Go.Shelf
attribute [local go_sem] Oper.semAt_some

/-- the k-th piece of a text -/
def pcN (s : ByteArray) (k : Nat) : ByteArray := s.extract (posN s.data.toList k) (segEnd s.data.toList (posN s.data.toList k))
theorem pcN_list (s : ByteArray) (k : Nat) : (pcN s k).data.toList = pieceAt s.data.toList k := seg_of s _ _
theorem pcN_size (s : ByteArray) (k : Nat) : (pcN s k).size ≤ s.size := by unfold pcN; rw [ByteArray.size_extract]; omega
theorem parts_nm (s : ByteArray) (w : World) :
    Calls Tryd.prog 25 #[.string s] w fun e w' => e = .returned (.func (.func 33) #[] #[.pointer (some ⟨w.heap.size, 0, none⟩)]) ∧ w' = w.alloc (.cells #[.string s] 9) := by
  go_enter Tryd.func25, Tryd.ntmps25
  go_wp2
  go_ret
  exact ⟨rfl, rfl⟩
set_option maxRecDepth 100000 in
set_option maxHeartbeats 4000000 in
theorem parts_stops (n : Nat) (hn : 1 ≤ n) (R : Nat → Prop) (s : ByteArray) (hs : s.size ≤ 1000000) (pt : Nat) (w : World)
    (hRt : ¬ R pt) (hpt : BlockAt w pt #[.string s] 9) :
    SeqStopsK Fence.wide n Tryd.prog 33 #[.pointer (some ⟨pt, 0, none⟩)]
      (fun k : { k : Nat // k < cntN s.data.toList } => #[Value.string (pcN s k.1)]) (CellsBut R)
      (fun xs => ixs xs = List.range (cntN s.data.toList)) (fun pre => ∃ k, k < cntN s.data.toList ∧ ixs pre = List.range (k + 1)) (cntN s.data.toList) w := fun l J Jx W hW hJ _ hY h0 => by
  have hT := hpt.kept hW
  have HLN := Lib.hid (show s.data.toList.length = s.size from rfl)
  have HBI := Lib.hid (fun i (h : i < s.size) => byte_of s i h)
  refine callsIn_of_wp Tryd.func33 rfl trivial ?_ rfl
  simp only [Tryd.ntmps33, List.size_toArray, List.length_nil, List.length_cons, Nat.reduceAdd, Nat.reduceSub, Array.replicate_succ, Array.replicate_zero, List.push_toArray, List.append_toArray, List.nil_append, List.cons_append]
  have HJ := Lib.hid h0
  have HTT := Lib.hid hT
  clear hpt hW h0 hT
  have HSE := Lib.hid (fun k => posN_succ s.data.toList k)
  have HCL := Lib.hid (fun k => show k < cntN s.data.toList ↔ posN s.data.toList k ≤ s.size from cntN_lt s.data.toList k)
  have HSL := Lib.hid (fun low (h : low ≤ s.size) => show low ≤ segEnd s.data.toList low ∧ segEnd s.data.toList low ≤ s.size from ⟨segEnd_ge _ _, segEnd_le s.data.toList low h⟩)
  have HSI := Lib.hid (fun low j (h1 : low ≤ j) (h2 : j < segEnd s.data.toList low) (hj : j < s.size) => show ¬ s[j].toNat = 47 from fun e => by
    have h3 := seg_in s.data.toList low j h1 h2
    have hq : (s[j] == (47 : UInt8)) = decide (s[j].toNat = 47) := byte_eq s[j] 47 (by omega)
    rw [← byte_of s j hj, hq, decide_eq_true e] at h3
    cases h3)
  have HSA := Lib.hid (fun low (h : low ≤ s.size) (h2 : segEnd s.data.toList low < s.size) => show (s[segEnd s.data.toList low]'h2).toNat = 47 from by
    have h3 := seg_at s.data.toList low h h2
    have hq : ((s[segEnd s.data.toList low]'h2) == (47 : UInt8)) = decide ((s[segEnd s.data.toList low]'h2).toNat = 47) := byte_eq _ 47 (by omega)
    rw [← byte_of s _ h2, hq] at h3
    exact of_decide_eq_true h3)
  gi_wp2
  refine wpIn_scope ?_
  gi_wp2
  refine wpIn_label ?_
  have c1 := box1 HTT.out
  gi_wp2_with fail
  gi_loopw [3] (fun i wr => ∃ k m : Nat, m = posN s.data.toList k ∧ k ≤ cntN s.data.toList ∧ m ≤ s.size + 1 ∧ i = .int .i64 m ∧ BlockAt wr pt #[.string s] 9 ∧ ∃ pre : List { k : Nat // k < cntN s.data.toList }, ixs pre = List.range k ∧ J pre wr) (fun i _ => s.size + 2 - (intOf i).toNat)
  case atStart => exact ⟨0, 0, rfl, by omega, by omega, rfl, HTT.out, [], rfl, HJ.out⟩
  case round =>
    obtain ⟨k, m, hm, hk, hm2, rfl, hT, pre, hpre, hJk⟩ := hrel
    have c1 := box1 hT
    have HT := Lib.hid hT
    have HPre := Lib.hid hpre
    have hlen : pre.length = k := by have := congrArg List.length hpre; rw [ixs_length] at this; simpa using this
    have HLen := Lib.hid hlen
    have hcl := HCL.out k
    rw [← hm] at hcl
    have hpc : pcN s k = s.extract m (segEnd s.data.toList m) := by rw [hm]; rfl
    have hsu := HSE.out k
    rw [← hm] at hsu
    have HM := Lib.hid hm
    have HSU := Lib.hid hsu
    have HCK := Lib.hid hcl
    clear hpre hlen hT hm hcl hsu
    by_cases hml : m ≤ s.size
    · have hd1 : decide (m ≤ s.size) = true := decide_eq_true hml
      have hkn : k < cntN s.data.toList := HCK.out.2 hml
      obtain ⟨hme, hes⟩ := HSL.out m hml
      have HIN := Lib.hid (HSI.out m)
      have HAT := Lib.hid (HSA.out m hml)
      obtain ⟨f1, t1, a1, b1, hy1, hR1⟩ := hY pre ⟨k, hkn⟩ wr hJk (by rw [HLen.out]; exact hkn)
      simp only [hpc] at hy1
      clear hpc
      generalize hE : segEnd s.data.toList m = E at *
      have hend : ∀ (e : Ending) (W3 : World), (e = .returned (.bool true) ∧ J (pre ++ [⟨k, hkn⟩]) W3 ∧ CellsBut R wr W3 ∨ e = .returned (.bool false) ∧ Jx (pre ++ [⟨k, hkn⟩]) W3) → (e = .returned (.bool true) ∧ BlockAt W3 pt #[.string s] 9 ∧ J (pre ++ [⟨k, hkn⟩]) W3) ∨ (e = .returned (.bool false) ∧ Jx (pre ++ [⟨k, hkn⟩]) W3) := fun e W3 h => by
        rcases h with ⟨rfl, hJ3, hkp⟩ | ⟨rfl, hx3⟩
        · exact .inl ⟨rfl, HT.out.but hkp hRt, hJ3⟩
        · exact .inr ⟨rfl, hx3⟩
      have HEND := Lib.hid hend
      clear hend hJk hE
      obtain ⟨wz, rfl⟩ : ∃ wz, wz = wr := ⟨_, rfl⟩
      gi_wp2_with fail
      refine wpIn_scope_any ?_
      gi_wp2_with fail
      refine wpIn_label ?_
      gi_wp2_with fail
      gi_loopw [4] (fun h wx => ∃ h' : Nat, m ≤ h' ∧ h' ≤ E ∧ h = .int .i64 h' ∧ wz = wx) (fun h _ => s.size - (intOf h).toNat)
      case atStart => exact ⟨m, by omega, by omega, rfl, by trivial⟩
      case round =>
        obtain ⟨h, hmh, hhE, rfl, rfl⟩ := hrel
        by_cases hhs : h < s.size
        · have hd2 : decide (h < s.size) = true := decide_eq_true hhs
          by_cases hh : h < E
          · have hb : ((s[h].toNat : Int) == 47) = false := beq_eq_false_iff_ne.2 (by have := HIN.out h hmh hh hhs; omega)
            gi_wp2
            go_roundw
            case rel => exact ⟨h + 1, by omega, by omega, by go_num, by trivial⟩
            case measure => simp [intOf]; omega
          · obtain rfl : h = E := by omega
            have hb : ((s[h].toNat : Int) == 47) = true := beq_iff_eq.2 (by have := HAT.out hhs; omega)
            gi_wp2_with fail
            refine hR1.mono ?_
            rintro e W3 h3
            rcases HEND.out _ _ h3 with ⟨rfl, hT3, hJ3⟩ | ⟨rfl, hx3⟩
            · have d2 := box1 hT3
              have HT3 := Lib.hid hT3
              have HJ3 := Lib.hid hJ3
              clear h3 hT3 hJ3 c1
              gi_wp2
              rw [Exit.noGoto_normal]
              gi_wp2
              go_roundw
              case rel => exact ⟨k + 1, h + 1, by rw [HSU.out], by omega, by omega, by go_num, HT3.out, pre ++ [⟨k, hkn⟩], by rw [ixs_snoc, HPre.out, List.range_succ], HJ3.out⟩
              case measure => simp [intOf]; omega
            · gi_wp2
              rw [Exit.noGoto_exit]
              gi_wp2
              rw [Exit.noGoto_normal]
              go_end0
              exact ⟨⟨_, rfl⟩, .inr ⟨pre ++ [⟨k, hkn⟩], ⟨k, hkn, by rw [ixs_snoc, HPre.out, List.range_succ]⟩, hx3⟩⟩
        · obtain rfl : h = E := by omega
          have hd2 : decide (h < s.size) = false := decide_eq_false hhs
          gi_wp2_with fail
          refine hR1.mono ?_
          rintro e W3 h3
          rcases HEND.out _ _ h3 with ⟨rfl, hT3, hJ3⟩ | ⟨rfl, hx3⟩
          · have d2 := box1 hT3
            have HT3 := Lib.hid hT3
            have HJ3 := Lib.hid hJ3
            clear h3 hT3 hJ3 c1
            gi_wp2
            rw [Exit.noGoto_normal]
            gi_wp2
            go_roundw
            case rel => exact ⟨k + 1, h + 1, by rw [HSU.out], by omega, by omega, by go_num, HT3.out, pre ++ [⟨k, hkn⟩], by rw [ixs_snoc, HPre.out, List.range_succ], HJ3.out⟩
            case measure => simp [intOf]; omega
          · gi_wp2
            rw [Exit.noGoto_exit]
            gi_wp2
            rw [Exit.noGoto_normal]
            go_end0
            exact ⟨⟨_, rfl⟩, .inr ⟨pre ++ [⟨k, hkn⟩], ⟨k, hkn, by rw [ixs_snoc, HPre.out, List.range_succ]⟩, hx3⟩⟩
    · have hd1 : decide (m ≤ s.size) = false := decide_eq_false hml
      have hke : k = cntN s.data.toList := by
        have : ¬ k < cntN s.data.toList := fun h => hml (HCK.out.1 h)
        omega
      have HKE := Lib.hid hke
      clear hke hpc
      gi_wp2
      rw [Exit.noGoto_normal]
      go_end0
      exact ⟨⟨_, rfl⟩, .inl ⟨pre, by rw [HPre.out, HKE.out], hJk⟩⟩
end Go.Proofs.YtjiefcjjgadjiaaDoor
