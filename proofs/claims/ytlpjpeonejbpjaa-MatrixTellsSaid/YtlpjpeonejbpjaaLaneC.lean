/- The iterator over a lane's bytes, each times a factor: its contract (no condition but that the factor is a byte, and the lane fits an int). -/
import Derived.Test.YtlpjpeonejbpjaaLaneB
namespace Go.Proofs.Ytlpjpeonejbpjaa
open Go.RowKit Go.Shelf
attribute [local go_sem] Oper.semAt_some

set_option maxRecDepth 100000 in
set_option maxHeartbeats 2000000 in
theorem times_stops (n : Nat) (hn : 1 ≤ n) (R : Nat → Prop) (a : ByteArray) (ha : a.size ≤ 9223372036854775807) (c : Nat) (hc : c < 256) (ba bc : Nat) (w : World)
    (hR : ∀ k, R k → k < w.heap.size) (hRa : ¬ R ba) (hba : BlockAt w ba #[.string a] 9) (hbc : BlockAt w bc #[.int .u8 (c : Int)] 5) :
    SeqStopsK Fence.wide n Try.prog 83 #[.pointer (some ⟨bc, 0, none⟩), .pointer (some ⟨ba, 0, none⟩)]
      (fun k : { k : Nat // k < a.size } => #[Value.int .i64 (k.1 : Int), .int .u8 (Gf.mul c (byteAt a k.1).toNat : Nat)]) (CellsBut R)
      (fun xs => ixs xs = List.range a.size) (fun pre => ∃ k, k < a.size ∧ ixs pre = List.range (k + 1)) a.size w := fun l J Jx W hW hJ _ hY h0 => by
  have hbaW : BlockAt W ba #[.string a] 9 := hba.kept hW
  have hbcW : BlockAt W bc #[.int .u8 (c : Int)] 5 := hbc.kept hW
  have ca := hbaW.cell 0
  have cc := hbcW.cell 0
  simp only [List.getElem?_toArray, List.getElem?_cons_zero] at ca cc
  refine callsIn_of_wp Try.func83 rfl trivial ?_ rfl
  simp only [Try.ntmps83, List.size_toArray, List.length_nil, List.length_cons, Nat.reduceAdd, Nat.reduceSub, Array.replicate_succ, Array.replicate_zero, List.push_toArray, List.append_toArray, List.nil_append, List.cons_append]
  refine wpIn_wide.2 ?_
  go_wp2_with fail
  refine (multiplesOf_any c hc _).mono ?_
  rintro e w1 ⟨rfl, hk1⟩
  have hka : Kept w1 ((w1.alloc (.cells z32 114)).setRow w1.heap.size (mulCells c 16)) := ((Kept.refl w1).alloc _).setRow (Nat.le_refl _) _
  have hkw := hk1.trans hka
  have ca1 := hkw.cell hbaW.lt ca
  have hM : BlockAt ((w1.alloc (.cells z32 114)).setRow w1.heap.size (mulCells c 16)) w1.heap.size (mulCells c 16) 114 := (BlockAt.new w1 z32 114).setRow _
  have hJ1 := AbidesFrom.kept hJ h0 hkw
  have hMR : ¬ R w1.heap.size := fun hr => by have := hR _ hr; have := Below.size hW; have := Below.size hk1; omega
  have hba1 := hbaW.kept hkw
  have HJ := Lib.hid hJ1
  have HM := Lib.hid hM
  have HA := Lib.hid hba1
  have HR := Lib.hid hMR
  clear hka hkw hM hJ1 hMR hba1 ca cc hbaW hbcW hba hbc h0 hW
  go_wp2_with (first
    | (with_reducible refine wpList_alloc_block rfl 114 rfl z32 Try.zeroMult ?_)
    | (refine wpList_store_block rfl 114 (.tmp 4) (.tmp 7) rfl _ (mulCells c 16) z32 114 rfl rfl (BlockAt.new _ z32 114) Try.infoMult (by rw [mulCells_size]; rfl) (mulCells_one c 16) ?_))
  generalize (w1.alloc (.cells z32 114)).setRow w1.heap.size (mulCells c 16) = w2 at HJ HM HA ca1 ⊢
  generalize w1.heap.size = M at HM HR ⊢
  refine wp_of_in n ?_
  gi_loopw [10] (fun i wr => ∃ k : Nat, k ≤ a.size ∧ i = .int .i64 k ∧ BlockAt wr M (mulCells c 16) 114 ∧ BlockAt wr ba #[.string a] 9 ∧ ∃ pre : List { k : Nat // k < a.size }, ixs pre = List.range k ∧ J pre wr) (fun i _ => a.size - (intOf i).toNat)
  case atStart => exact ⟨0, by omega, rfl, HM.out, HA.out, [], rfl, HJ.out⟩
  case round =>
    obtain ⟨k, hk, rfl, hM, hA, pre, hpre, hJk⟩ := hrel
    have ca := hA.cell 0
    simp only [List.getElem?_toArray, List.getElem?_cons_zero] at ca
    have HMk := Lib.hid hM
    have HAk := Lib.hid hA
    have HPre := Lib.hid hpre
    have hlen : pre.length = k := by have := congrArg List.length hpre; rw [ixs_length] at this; simpa using this
    have HLen := Lib.hid hlen
    clear hA hpre hlen
    by_cases hlt : k < a.size
    · have hx := UInt8.toNat_lt (byteAt a k)
      have hbk := byteAt_get a k hlt
      gi_wp2_with (refine ⟨trivial, ?_⟩; gi_at_call 85; refine (callsIn_wide.2 (of_any M c _ hc hx _ HMk.out)).mono ?_; rintro e w3 ⟨rfl, hk3⟩; obtain ⟨f1, t1, a1, b1, hy1, hR1⟩ := hY pre ⟨k, hlt⟩ w3 (AbidesFrom.kept hJ hJk hk3) (by rw [HLen.out]; exact hlt))
      refine hR1.mono ?_
      have HK3 := Lib.hid hk3
      clear hk3 hJk
      rintro e W3 (⟨rfl, hJ3, hkp⟩ | ⟨rfl, hx3⟩)
      · have HM3 := Lib.hid ((HMk.out.kept HK3.out).but hkp HR.out)
        have HA3 := Lib.hid ((HAk.out.kept HK3.out).but hkp hRa)
        have HJ3 := Lib.hid hJ3
        clear hkp hJ3
        gi_wp2
        go_roundw
        case rel => exact ⟨k + 1, by omega, by go_num, HM3.out, HA3.out, pre ++ [⟨k, hlt⟩], by rw [ixs_snoc, HPre.out, List.range_succ], HJ3.out⟩
        case measure => simp [intOf]; omega
      · gi_wp2
        refine bodyPost_ret (results_none rfl _ _ _) rfl ?_
        exact ⟨⟨_, rfl⟩, .inr ⟨pre ++ [⟨k, hlt⟩], ⟨k, hlt, by rw [ixs_snoc, HPre.out, List.range_succ]⟩, hx3⟩⟩
    · gi_wp2
      go_end0
      have hke : k = a.size := by omega
      exact ⟨⟨_, rfl⟩, .inl ⟨pre, by rw [HPre.out, hke], hJk⟩⟩
end Go.Proofs.Ytlpjpeonejbpjaa
