/- The eight laws of one kind each: what each answers, once silolaw13.kind hands back an ask that reads as one. -/
import Derived.Test.YtoanldoocmmhjaaRl8
import Derived.Test.YtoanldoocmmhjaaRk0
namespace Go.Proofs.Ytoanldoocmmhjaa
open Go.RowKit
set_option maxRecDepth 100000 in
theorem recordPrepares_any (hk : KindOK 1) (ar : Option Addr) (cr : Nat) (aa : Option Addr) (cs : Nat) (an : Option Addr) (nn cn : Nat) (rs : List Rec) (ss : List ByteArray) (w : World) (h : RecsIn w ar rs.length cr rs) (hnm : ∀ r ∈ rs, r.name.size ≤ 140737488351232) (h2 : TextsIn w aa ss.length cs ss) :
    Calls Try.prog 4 #[.agg (askCells ar rs.length cr aa ss.length cs an nn cn)] w fun e w' => e = .returned (.bool true) ∧ Kept w w' := by
  have hk2 := hk ar rs.length cr aa ss.length cs an nn cn rs
  unfold askCells at hk2 ⊢
  have k0 := (Kept.refl w).alloc (.cells #[.slice ar rs.length cr, .slice aa ss.length cs, .slice an nn cn] 26)
  have hb := BlockAt.new w #[.slice ar rs.length cr, .slice aa ss.length cs, .slice an nn cn] 26
  have HK := Lib.hid hk2
  have HR := Lib.hid (h.kept k0)
  have HT := Lib.hid (h2.kept k0)
  clear h h2 hk hk2
  go_enter Try.func4, Try.ntmps4
  go_upto_region 1 with (fail)
  generalize w.alloc (.cells #[.slice ar rs.length cr, .slice aa ss.length cs, .slice an nn cn] 26) = wa at *
  obtain ⟨a0, a1, a2⟩ := box3 hb
  go_wp2_with fail
  refine (HK.out _ HR.out hnm).mono ?_
  rintro e w1 ⟨ar', nr', cr', rs', rfl, hr, k1⟩
  obtain rfl := hr.len_eq
  unfold askCells
  have HR1 := Lib.hid hr
  have HT1 := Lib.hid (HT.out.kept k1)
  have HK1 := Lib.hid (k0.trans k1)
  clear hr k1 k0 hb a0 a1 a2 HK HR HT
  go_wp2_with fail
  refine (record_bytes ar' cr' aa cs an nn cn rs' ss _ HR1.out HT1.out).mono ?_
  rintro e w2 ⟨rfl, k2⟩
  have HK2 := Lib.hid (HK1.out.trans k2)
  clear k2
  go_wp2
  go_ret
  exact ⟨rfl, HK2.out⟩
set_option maxRecDepth 100000 in
theorem recordCommits_any (hk : KindOK 2) (ar : Option Addr) (cr : Nat) (aa : Option Addr) (cs : Nat) (an : Option Addr) (nn cn : Nat) (rs : List Rec) (ss : List ByteArray) (w : World) (h : RecsIn w ar rs.length cr rs) (hnm : ∀ r ∈ rs, r.name.size ≤ 140737488351232) (h2 : TextsIn w aa ss.length cs ss) :
    Calls Try.prog 5 #[.agg (askCells ar rs.length cr aa ss.length cs an nn cn)] w fun e w' => e = .returned (.bool true) ∧ Kept w w' := by
  have hk2 := hk ar rs.length cr aa ss.length cs an nn cn rs
  unfold askCells at hk2 ⊢
  have k0 := (Kept.refl w).alloc (.cells #[.slice ar rs.length cr, .slice aa ss.length cs, .slice an nn cn] 26)
  have hb := BlockAt.new w #[.slice ar rs.length cr, .slice aa ss.length cs, .slice an nn cn] 26
  have HK := Lib.hid hk2
  have HR := Lib.hid (h.kept k0)
  have HT := Lib.hid (h2.kept k0)
  clear h h2 hk hk2
  go_enter Try.func5, Try.ntmps5
  go_upto_region 1 with (fail)
  generalize w.alloc (.cells #[.slice ar rs.length cr, .slice aa ss.length cs, .slice an nn cn] 26) = wa at *
  obtain ⟨a0, a1, a2⟩ := box3 hb
  go_wp2_with fail
  refine (HK.out _ HR.out hnm).mono ?_
  rintro e w1 ⟨ar', nr', cr', rs', rfl, hr, k1⟩
  obtain rfl := hr.len_eq
  unfold askCells
  have HR1 := Lib.hid hr
  have HT1 := Lib.hid (HT.out.kept k1)
  have HK1 := Lib.hid (k0.trans k1)
  clear hr k1 k0 hb a0 a1 a2 HK HR HT
  go_wp2_with fail
  refine (record_bytes ar' cr' aa cs an nn cn rs' ss _ HR1.out HT1.out).mono ?_
  rintro e w2 ⟨rfl, k2⟩
  have HK2 := Lib.hid (HK1.out.trans k2)
  clear k2
  go_wp2
  go_ret
  exact ⟨rfl, HK2.out⟩
set_option maxRecDepth 100000 in
theorem recordFrees_any (hk : KindOK 3) (ar : Option Addr) (cr : Nat) (aa : Option Addr) (cs : Nat) (an : Option Addr) (nn cn : Nat) (rs : List Rec) (ss : List ByteArray) (w : World) (h : RecsIn w ar rs.length cr rs) (hnm : ∀ r ∈ rs, r.name.size ≤ 140737488351232) (h2 : TextsIn w aa ss.length cs ss) :
    Calls Try.prog 6 #[.agg (askCells ar rs.length cr aa ss.length cs an nn cn)] w fun e w' => e = .returned (.bool true) ∧ Kept w w' := by
  have hk2 := hk ar rs.length cr aa ss.length cs an nn cn rs
  unfold askCells at hk2 ⊢
  have k0 := (Kept.refl w).alloc (.cells #[.slice ar rs.length cr, .slice aa ss.length cs, .slice an nn cn] 26)
  have hb := BlockAt.new w #[.slice ar rs.length cr, .slice aa ss.length cs, .slice an nn cn] 26
  have HK := Lib.hid hk2
  have HR := Lib.hid (h.kept k0)
  have HT := Lib.hid (h2.kept k0)
  clear h h2 hk hk2
  go_enter Try.func6, Try.ntmps6
  go_upto_region 1 with (fail)
  generalize w.alloc (.cells #[.slice ar rs.length cr, .slice aa ss.length cs, .slice an nn cn] 26) = wa at *
  obtain ⟨a0, a1, a2⟩ := box3 hb
  go_wp2_with fail
  refine (HK.out _ HR.out hnm).mono ?_
  rintro e w1 ⟨ar', nr', cr', rs', rfl, hr, k1⟩
  obtain rfl := hr.len_eq
  unfold askCells
  have HR1 := Lib.hid hr
  have HT1 := Lib.hid (HT.out.kept k1)
  have HK1 := Lib.hid (k0.trans k1)
  clear hr k1 k0 hb a0 a1 a2 HK HR HT
  go_wp2_with fail
  refine (record_bytes ar' cr' aa cs an nn cn rs' ss _ HR1.out HT1.out).mono ?_
  rintro e w2 ⟨rfl, k2⟩
  have HK2 := Lib.hid (HK1.out.trans k2)
  clear k2
  go_wp2
  go_ret
  exact ⟨rfl, HK2.out⟩
set_option maxRecDepth 100000 in
theorem recordBlobs_any (hk : KindOK 4) (ar : Option Addr) (cr : Nat) (aa : Option Addr) (cs : Nat) (an : Option Addr) (nn cn : Nat) (rs : List Rec) (ss : List ByteArray) (w : World) (h : RecsIn w ar rs.length cr rs) (hnm : ∀ r ∈ rs, r.name.size ≤ 140737488351232) (h2 : TextsIn w aa ss.length cs ss) :
    Calls Try.prog 7 #[.agg (askCells ar rs.length cr aa ss.length cs an nn cn)] w fun e w' => e = .returned (.bool true) ∧ Kept w w' := by
  have hk2 := hk ar rs.length cr aa ss.length cs an nn cn rs
  unfold askCells at hk2 ⊢
  have k0 := (Kept.refl w).alloc (.cells #[.slice ar rs.length cr, .slice aa ss.length cs, .slice an nn cn] 26)
  have hb := BlockAt.new w #[.slice ar rs.length cr, .slice aa ss.length cs, .slice an nn cn] 26
  have HK := Lib.hid hk2
  have HR := Lib.hid (h.kept k0)
  have HT := Lib.hid (h2.kept k0)
  clear h h2 hk hk2
  go_enter Try.func7, Try.ntmps7
  go_upto_region 1 with (fail)
  generalize w.alloc (.cells #[.slice ar rs.length cr, .slice aa ss.length cs, .slice an nn cn] 26) = wa at *
  obtain ⟨a0, a1, a2⟩ := box3 hb
  go_wp2_with fail
  refine (HK.out _ HR.out hnm).mono ?_
  rintro e w1 ⟨ar', nr', cr', rs', rfl, hr, k1⟩
  obtain rfl := hr.len_eq
  unfold askCells
  have HR1 := Lib.hid hr
  have HT1 := Lib.hid (HT.out.kept k1)
  have HK1 := Lib.hid (k0.trans k1)
  clear hr k1 k0 hb a0 a1 a2 HK HR HT
  go_wp2_with fail
  refine (record_bytes ar' cr' aa cs an nn cn rs' ss _ HR1.out HT1.out).mono ?_
  rintro e w2 ⟨rfl, k2⟩
  have HK2 := Lib.hid (HK1.out.trans k2)
  clear k2
  go_wp2
  go_ret
  exact ⟨rfl, HK2.out⟩
set_option maxRecDepth 100000 in
theorem recordManifests_any (hk : KindOK 5) (ar : Option Addr) (cr : Nat) (aa : Option Addr) (cs : Nat) (an : Option Addr) (nn cn : Nat) (rs : List Rec) (ss : List ByteArray) (w : World) (h : RecsIn w ar rs.length cr rs) (hnm : ∀ r ∈ rs, r.name.size ≤ 140737488351232) (h2 : TextsIn w aa ss.length cs ss) :
    Calls Try.prog 8 #[.agg (askCells ar rs.length cr aa ss.length cs an nn cn)] w fun e w' => e = .returned (.bool true) ∧ Kept w w' := by
  have hk2 := hk ar rs.length cr aa ss.length cs an nn cn rs
  unfold askCells at hk2 ⊢
  have k0 := (Kept.refl w).alloc (.cells #[.slice ar rs.length cr, .slice aa ss.length cs, .slice an nn cn] 26)
  have hb := BlockAt.new w #[.slice ar rs.length cr, .slice aa ss.length cs, .slice an nn cn] 26
  have HK := Lib.hid hk2
  have HR := Lib.hid (h.kept k0)
  have HT := Lib.hid (h2.kept k0)
  clear h h2 hk hk2
  go_enter Try.func8, Try.ntmps8
  go_upto_region 1 with (fail)
  generalize w.alloc (.cells #[.slice ar rs.length cr, .slice aa ss.length cs, .slice an nn cn] 26) = wa at *
  obtain ⟨a0, a1, a2⟩ := box3 hb
  go_wp2_with fail
  refine (HK.out _ HR.out hnm).mono ?_
  rintro e w1 ⟨ar', nr', cr', rs', rfl, hr, k1⟩
  obtain rfl := hr.len_eq
  unfold askCells
  have HR1 := Lib.hid hr
  have HT1 := Lib.hid (HT.out.kept k1)
  have HK1 := Lib.hid (k0.trans k1)
  clear hr k1 k0 hb a0 a1 a2 HK HR HT
  go_wp2_with fail
  refine (record_bytes ar' cr' aa cs an nn cn rs' ss _ HR1.out HT1.out).mono ?_
  rintro e w2 ⟨rfl, k2⟩
  have HK2 := Lib.hid (HK1.out.trans k2)
  clear k2
  go_wp2
  go_ret
  exact ⟨rfl, HK2.out⟩
set_option maxRecDepth 100000 in
theorem recordDrops_any (hk : KindOK 6) (ar : Option Addr) (cr : Nat) (aa : Option Addr) (cs : Nat) (an : Option Addr) (nn cn : Nat) (rs : List Rec) (ss : List ByteArray) (w : World) (h : RecsIn w ar rs.length cr rs) (hnm : ∀ r ∈ rs, r.name.size ≤ 140737488351232) (h2 : TextsIn w aa ss.length cs ss) :
    Calls Try.prog 9 #[.agg (askCells ar rs.length cr aa ss.length cs an nn cn)] w fun e w' => e = .returned (.bool true) ∧ Kept w w' := by
  have hk2 := hk ar rs.length cr aa ss.length cs an nn cn rs
  unfold askCells at hk2 ⊢
  have k0 := (Kept.refl w).alloc (.cells #[.slice ar rs.length cr, .slice aa ss.length cs, .slice an nn cn] 26)
  have hb := BlockAt.new w #[.slice ar rs.length cr, .slice aa ss.length cs, .slice an nn cn] 26
  have HK := Lib.hid hk2
  have HR := Lib.hid (h.kept k0)
  have HT := Lib.hid (h2.kept k0)
  clear h h2 hk hk2
  go_enter Try.func9, Try.ntmps9
  go_upto_region 1 with (fail)
  generalize w.alloc (.cells #[.slice ar rs.length cr, .slice aa ss.length cs, .slice an nn cn] 26) = wa at *
  obtain ⟨a0, a1, a2⟩ := box3 hb
  go_wp2_with fail
  refine (HK.out _ HR.out hnm).mono ?_
  rintro e w1 ⟨ar', nr', cr', rs', rfl, hr, k1⟩
  obtain rfl := hr.len_eq
  unfold askCells
  have HR1 := Lib.hid hr
  have HT1 := Lib.hid (HT.out.kept k1)
  have HK1 := Lib.hid (k0.trans k1)
  clear hr k1 k0 hb a0 a1 a2 HK HR HT
  go_wp2_with fail
  refine (record_bytes ar' cr' aa cs an nn cn rs' ss _ HR1.out HT1.out).mono ?_
  rintro e w2 ⟨rfl, k2⟩
  have HK2 := Lib.hid (HK1.out.trans k2)
  clear k2
  go_wp2
  go_ret
  exact ⟨rfl, HK2.out⟩
set_option maxRecDepth 100000 in
theorem recordTags_any (hk : KindOK 7) (ar : Option Addr) (cr : Nat) (aa : Option Addr) (cs : Nat) (an : Option Addr) (nn cn : Nat) (rs : List Rec) (ss : List ByteArray) (w : World) (h : RecsIn w ar rs.length cr rs) (hnm : ∀ r ∈ rs, r.name.size ≤ 140737488351232) (h2 : TextsIn w aa ss.length cs ss) :
    Calls Try.prog 10 #[.agg (askCells ar rs.length cr aa ss.length cs an nn cn)] w fun e w' => e = .returned (.bool true) ∧ Kept w w' := by
  have hk2 := hk ar rs.length cr aa ss.length cs an nn cn rs
  unfold askCells at hk2 ⊢
  have k0 := (Kept.refl w).alloc (.cells #[.slice ar rs.length cr, .slice aa ss.length cs, .slice an nn cn] 26)
  have hb := BlockAt.new w #[.slice ar rs.length cr, .slice aa ss.length cs, .slice an nn cn] 26
  have HK := Lib.hid hk2
  have HR := Lib.hid (h.kept k0)
  have HT := Lib.hid (h2.kept k0)
  clear h h2 hk hk2
  go_enter Try.func10, Try.ntmps10
  go_upto_region 1 with (fail)
  generalize w.alloc (.cells #[.slice ar rs.length cr, .slice aa ss.length cs, .slice an nn cn] 26) = wa at *
  obtain ⟨a0, a1, a2⟩ := box3 hb
  go_wp2_with fail
  refine (HK.out _ HR.out hnm).mono ?_
  rintro e w1 ⟨ar', nr', cr', rs', rfl, hr, k1⟩
  obtain rfl := hr.len_eq
  unfold askCells
  have HR1 := Lib.hid hr
  have HT1 := Lib.hid (HT.out.kept k1)
  have HK1 := Lib.hid (k0.trans k1)
  clear hr k1 k0 hb a0 a1 a2 HK HR HT
  go_wp2_with fail
  refine (record_bytes ar' cr' aa cs an nn cn rs' ss _ HR1.out HT1.out).mono ?_
  rintro e w2 ⟨rfl, k2⟩
  have HK2 := Lib.hid (HK1.out.trans k2)
  clear k2
  go_wp2
  go_ret
  exact ⟨rfl, HK2.out⟩
set_option maxRecDepth 100000 in
theorem recordUntags_any (hk : KindOK 8) (ar : Option Addr) (cr : Nat) (aa : Option Addr) (cs : Nat) (an : Option Addr) (nn cn : Nat) (rs : List Rec) (ss : List ByteArray) (w : World) (h : RecsIn w ar rs.length cr rs) (hnm : ∀ r ∈ rs, r.name.size ≤ 140737488351232) (h2 : TextsIn w aa ss.length cs ss) :
    Calls Try.prog 11 #[.agg (askCells ar rs.length cr aa ss.length cs an nn cn)] w fun e w' => e = .returned (.bool true) ∧ Kept w w' := by
  have hk2 := hk ar rs.length cr aa ss.length cs an nn cn rs
  unfold askCells at hk2 ⊢
  have k0 := (Kept.refl w).alloc (.cells #[.slice ar rs.length cr, .slice aa ss.length cs, .slice an nn cn] 26)
  have hb := BlockAt.new w #[.slice ar rs.length cr, .slice aa ss.length cs, .slice an nn cn] 26
  have HK := Lib.hid hk2
  have HR := Lib.hid (h.kept k0)
  have HT := Lib.hid (h2.kept k0)
  clear h h2 hk hk2
  go_enter Try.func11, Try.ntmps11
  go_upto_region 1 with (fail)
  generalize w.alloc (.cells #[.slice ar rs.length cr, .slice aa ss.length cs, .slice an nn cn] 26) = wa at *
  obtain ⟨a0, a1, a2⟩ := box3 hb
  go_wp2_with fail
  refine (HK.out _ HR.out hnm).mono ?_
  rintro e w1 ⟨ar', nr', cr', rs', rfl, hr, k1⟩
  obtain rfl := hr.len_eq
  unfold askCells
  have HR1 := Lib.hid hr
  have HT1 := Lib.hid (HT.out.kept k1)
  have HK1 := Lib.hid (k0.trans k1)
  clear hr k1 k0 hb a0 a1 a2 HK HR HT
  go_wp2_with fail
  refine (record_bytes ar' cr' aa cs an nn cn rs' ss _ HR1.out HT1.out).mono ?_
  rintro e w2 ⟨rfl, k2⟩
  have HK2 := Lib.hid (HK1.out.trans k2)
  clear k2
  go_wp2
  go_ret
  exact ⟨rfl, HK2.out⟩
end Go.Proofs.Ytoanldoocmmhjaa
