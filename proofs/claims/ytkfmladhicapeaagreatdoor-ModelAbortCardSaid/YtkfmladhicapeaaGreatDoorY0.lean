import Derived.Test.YtkfmladhicapeaaGreatDoorProg
import Derived.ProofKit
import Derived.WalkKit
import Derived.BigQuiet
import Derived.Deep.QuietTactic
import Derived.Lib.Hide
import Derived.Lib.SmallJoins
import Derived.Laws.IdiomStrings
import Derived.Laws.Rows
import Derived.Laws.Tables
import Derived.Laws.CopyRow
import Derived.RangeFuncNested
import Derived.RangeFuncBound
import Derived.RangeFuncCalls
import Derived.RangeFuncLeaves
import Derived.Shelf.Abstract
import Derived.Shelf.RegionOpen
import Derived.OwnWalkIn
import Derived.TacticsInMore
import Derived.LoopNIn
import Derived.LoopIn
import Derived.Maps.AppendAt
import Derived.SliceStrings
import Derived.OpenShut
import Derived.Laws.OwnMore
import Derived.Maps.OwnIn
import Derived.IntWalk
import Derived.Outline
import Derived.Deep.DeepCutAuto
import Derived.Deep.LoopGhost
import Derived.Orders
import Derived.RegionTactic
import Derived.Shelf.Strings.Trim
import Derived.Shelf.Small.Utf8
import Derived.Shelf.Small.Strs
import Derived.Shelf.LaysM
import Derived.Shelf.Strconv.Clone
import Derived.Shelf.Strings.Search1
import Derived.Shelf.Strings.Search2
import Derived.Shelf.Strings.Cut
import Derived.Shelf.Strings.Shaped
import Derived.Shelf.Sort.Plain
import Derived.Shelf.Strings.Runes
import Derived.Shelf.Strings.AsciiSet
import Derived.Shelf.Unicode.DecodeSlow
import Derived.Shelf.Slices.Turned
import Derived.Shelf.Slices.In.SortNone
import Derived.ArgAppend
import Derived.Lib.SlBytesConst
import Derived.Lib.AppendStr
import Derived.OrdersIn
import Derived.Sort.OwnSorted
import Derived.Sort.Walk0
import Derived.SizedLaws
import Derived.Deep.Slices
import Derived.Deep.Fields
import Derived.ChangeSame
import Derived.Sort.QuietIn
import Derived.StillTail
import Derived.Laws.BitsAllLaws
import Derived.Laws.IdiomCopy
import Derived.BigFrameIn
import Derived.Deep.RegionLaw
import Derived.Lib.SliceRun
import Derived.Lib.AppendZerosOnto
import Derived.Lib.Overlaps
import Derived.Laws.Externs
import Derived.Shelf.Spec.SlicesInsert
import Derived.Deep.MidRow
import Derived.Lib.LaidTab
import Derived.Deep.DeepHandedRow
import Derived.LaidMore
import Derived.Lay
import Derived.SevenTiedAt
namespace Go.Proofs.YtkfmladhicapeaaGreatDoor
open Go.RowKit Go.Lib
theorem DX {p:Prop} (h:p):RowKit.Hid p:=Lib.hid h
abbrev DY:=@decide_eq_false
abbrev DZ:=@decide_eq_true
abbrev EA:=@Nat.le_refl
abbrev EB:=@Option.some.inj
abbrev EC:=@And.intro
abbrev ED:=@Nat.le_succ
abbrev EE:=@List.take_of_length_le
abbrev EF:=@Nat.le_trans
abbrev EG:=@Nat.lt_of_lt_of_le
abbrev EH:=@results_cell_row
abbrev EI:=@bodyPost_ret
abbrev EJ:=@Nat.lt_irrefl
abbrev EK:=@Tryz.underlying3
abbrev EL:=@Tryz.underlying4
abbrev EM:=@Tryz.underlying5
abbrev EN:=@Tryz.underlying9
abbrev EO:=@Tryz.underlying107
abbrev EP:=@Tryz.underlying72
abbrev EQ:=@Tryz.underlying85
abbrev ER:=@Tryz.underlying22
abbrev ES:=@Tryz.underlying102
abbrev ET:=@Tryz.underlying23
abbrev EU:=@Tryz.underlying24
abbrev EV:=@Tryz.underlying47
abbrev EW:=@Tryz.underlying26
inductive TLN:Type|c
instance:CoeDep TLN .c (Array Value):=⟨#[.slice none 0 0,.slice none 0 0,.slice none 0 0,.int .i64 0]⟩
abbrev LN:=@TLN.c
inductive TLS:Type|c(a:Option Addr)(b:Nat)(c:Nat)(d:Option Addr)(e:Nat)(f:Nat)(g:Option Addr)(h:Nat)(i:Nat)(j:Int)
instance (a:Option Addr)(b:Nat)(c:Nat)(d:Option Addr)(e:Nat)(f:Nat)(g:Option Addr)(h:Nat)(i:Nat)(j:Int):CoeDep TLS (.c a b c d e f g h i j) (Array Value):=⟨#[.slice a b c,.slice d e f,.slice g h i,.int .i64 j]⟩
abbrev LS:=@TLS.c
inductive TLR:Type|c
instance:CoeDep TLR .c (Array Value):=⟨#[.int .i64 0,.string { data:=#[] },.int .i64 0]⟩
abbrev LR:=@TLR.c
inductive TLO:Type|c(a:Int)(b:Int)(c:Int)(d:Int)(e:ByteArray)(f:ByteArray)(g:ByteArray)
instance (a:Int)(b:Int)(c:Int)(d:Int)(e:ByteArray)(f:ByteArray)(g:ByteArray):CoeDep TLO (.c a b c d e f g) (Array Value):=⟨#[.int .i64 a,.int .i64 b,.int .i64 c,.int .i64 d,.string e,.string f,.string g]⟩
abbrev LO:=@TLO.c
inductive TLM:Type|c(a:Int)(b:Option Addr)(c:Nat)(d:Nat)(e:Option Addr)(f:Nat)(g:Nat)
instance (a:Int)(b:Option Addr)(c:Nat)(d:Nat)(e:Option Addr)(f:Nat)(g:Nat):CoeDep TLM (.c a b c d e f g) (Array Value):=⟨#[.int .i64 a,.slice b c d,.slice e f g]⟩
abbrev LM:=@TLM.c
inductive TLT:Type|c(a:ByteArray)(b:ByteArray)(c:Bool)
instance (a:ByteArray)(b:ByteArray)(c:Bool):CoeDep TLT (.c a b c) (Array Value):=⟨#[.string a,.string b,.bool c]⟩
abbrev LT:=@TLT.c
inductive TLP:Type|c(a:Int)(b:ByteArray)(c:Int)
instance (a:Int)(b:ByteArray)(c:Int):CoeDep TLP (.c a b c) (Array Value):=⟨#[.int .i64 a,.string b,.int .i64 c]⟩
abbrev LP:=@TLP.c
inductive TLE:Type|c
instance:CoeDep TLE .c (Array Value):=⟨#[.string ByteArray.empty,.string ByteArray.empty]⟩
abbrev LE:=@TLE.c
inductive TL5:Type|c(a:Option Addr)(b:Nat)(c:Nat)(d:Option Addr)(e:Nat)(f:Nat)(g:Option Addr)(h:Nat)(i:Nat)(j:Int)(k:Option Addr)(l:Nat)(m:Nat)
instance (a:Option Addr)(b:Nat)(c:Nat)(d:Option Addr)(e:Nat)(f:Nat)(g:Option Addr)(h:Nat)(i:Nat)(j:Int)(k:Option Addr)(l:Nat)(m:Nat):CoeDep TL5 (.c a b c d e f g h i j k l m) (Array Value):=⟨#[.slice a b c,.slice d e f,.slice g h i,.int .i64 j,.slice k l m]⟩
abbrev L5:=@TL5.c
inductive TPO:Type|c(p:Nat)(a:Int)(b:Int)(c:Int)(d:Int)(e:ByteArray)(f:ByteArray)(g:ByteArray)
instance (p:Nat)(a:Int)(b:Int)(c:Int)(d:Int)(e:ByteArray)(f:ByteArray)(g:ByteArray):CoeDep TPO (.c p a b c d e f g) (Array Value):=⟨#[.pointer (some ⟨p,0,none⟩),.agg (LO a b c d e f g)]⟩
abbrev PO:=@TPO.c
inductive TSO:Type|c(a:Option Addr)(b:Nat)(c:Nat)(d:Option Addr)(e:Nat)(f:Nat)(g:Option Addr)(h:Nat)(i:Nat)(j:Int)(k:Int)(l:Int)(m:Int)(n:Int)(o:ByteArray)(p:ByteArray)(q:ByteArray)
instance (a:Option Addr)(b:Nat)(c:Nat)(d:Option Addr)(e:Nat)(f:Nat)(g:Option Addr)(h:Nat)(i:Nat)(j:Int)(k:Int)(l:Int)(m:Int)(n:Int)(o:ByteArray)(p:ByteArray)(q:ByteArray):CoeDep TSO (.c a b c d e f g h i j k l m n o p q) (Array Value):=⟨#[.agg (LS a b c d e f g h i j),.agg (LO k l m n o p q)]⟩
abbrev SO:=@TSO.c
inductive TKN:Type|c
instance:CoeDep TKN .c (Obj):=⟨.cells LN 26⟩
abbrev KN:=@TKN.c
inductive TKS:Type|c(a:Option Addr)(b:Nat)(c:Nat)(d:Option Addr)(e:Nat)(f:Nat)(g:Option Addr)(h:Nat)(i:Nat)(j:Int)
instance (a:Option Addr)(b:Nat)(c:Nat)(d:Option Addr)(e:Nat)(f:Nat)(g:Option Addr)(h:Nat)(i:Nat)(j:Int):CoeDep TKS (.c a b c d e f g h i j) (Obj):=⟨.cells (LS a b c d e f g h i j) 26⟩
abbrev KS:=@TKS.c
inductive TKR:Type|c
instance:CoeDep TKR .c (Obj):=⟨.cells LR 47⟩
abbrev KR:=@TKR.c
inductive TKO:Type|c(a:Int)(b:Int)(c:Int)(d:Int)(e:ByteArray)(f:ByteArray)(g:ByteArray)
instance (a:Int)(b:Int)(c:Int)(d:Int)(e:ByteArray)(f:ByteArray)(g:ByteArray):CoeDep TKO (.c a b c d e f g) (Obj):=⟨.cells (LO a b c d e f g) 35⟩
abbrev KO:=@TKO.c
inductive TKM:Type|c(a:Int)(b:Option Addr)(c:Nat)(d:Nat)(e:Option Addr)(f:Nat)(g:Nat)
instance (a:Int)(b:Option Addr)(c:Nat)(d:Nat)(e:Option Addr)(f:Nat)(g:Nat):CoeDep TKM (.c a b c d e f g) (Obj):=⟨.cells (LM a b c d e f g) 85⟩
abbrev KM:=@TKM.c
inductive TKT:Type|c(a:ByteArray)(b:ByteArray)(c:Bool)
instance (a:ByteArray)(b:ByteArray)(c:Bool):CoeDep TKT (.c a b c) (Obj):=⟨.cells (LT a b c) 62⟩
abbrev KT:=@TKT.c
inductive TKP:Type|c(a:Int)(b:ByteArray)(c:Int)
instance (a:Int)(b:ByteArray)(c:Int):CoeDep TKP (.c a b c) (Obj):=⟨.cells (LP a b c) 47⟩
abbrev KP:=@TKP.c
theorem aF {P:Prop} (h:P:=by decide):P:=h
theorem aE {P:Prop} (h:P:=by omega):P:=h
theorem aW {P:Prop} (h:P:=by kernel_rfl):P:=h
theorem uN {P:Prop} (h:P:=by rfl):P:=h
theorem nR {P:Prop} (h:P:=by as_aux_lemma=>kernel_rfl):P:=h
theorem iU:(∀ (l:List Oper) (i:Nat),l.toArray[i]?=l[i]?)/\(∀ (a:Oper) (l:List Oper),(a :: l)[0]?=some a)/\(∀ (a:Oper) (l:List Oper) (i:Nat),(a :: l)[i+1]?=l[i]?)/\(∀ a b:Oper,(some a=some b)=(a=b)):=⟨fun _ _=>List.getElem?_toArray ..,fun _ _=>rfl,fun _ _ _=>List.getElem?_cons_succ ..,fun a b=>Option.some.injEq a b⟩
theorem dO:(∀ (f:Act->Nat × Nat->Act) (a:Act) (x:Nat × Nat) (l:List (Nat × Nat)),(x :: l).foldl f a=l.foldl f (f a x))/\(∀ (f:Act->Nat × Nat->Act) (a:Act),([]:List (Nat × Nat)).foldl f a=a)/\(∀ (l:List Value) (i:Nat) (x:Value),l.toArray.setIfInBounds i x=(l.set i x).toArray)/\(∀ (x y:Value) (l:List Value),(x :: l).set 0 y=y :: l)/\(∀ (x y:Value) (l:List Value) (n:Nat),(x :: l).set (n+1) y=x :: l.set n y):=⟨fun _ _ _ _=>rfl,fun _ _=>rfl,fun _ _ _=>List.setIfInBounds_toArray ..,fun _ _ _=>rfl,fun _ _ _ _=>rfl⟩
theorem MX0 {P:Prop} (h:P:=by
 as_aux_lemma =>
  have HBk:=DX (aU TO.out IS.out.grown aE);have hix:=Bm k FV
  go_upto_region 16 with (first
   | (with_reducible refine aZ rfl 190 rfl zK DD ?_)
   | (refine aD rfl 190 (.tmp 14) (.tmp 56) rfl wr.heap.size (mE k) zK 190 rfl rfl (EY _ _ _) (by rw [tB k FV];exact BZ) (by rw [tB k FV,zK,Array.size_replicate]) (Fw k) ?_))
  obtain ⟨wb,TH⟩:∃ wb,wb=(wr.alloc (.cells zK 190)).setRow wr.heap.size (mE k):=⟨_,rfl⟩
  rw [<- TH]
  have OA:aB wr wb:=by rw [TH];exact ((EX wr).alloc _).setRow (EA _) _
  have LF:aA wb wr.heap.size (mE k) 190:=by rw [TH];exact (EY wr _ _).setRow _
  have XE:pv<wr.heap.size:=IS.out.row.lt
  obtain ⟨pr,SJ⟩:∃ pr,pr=wr.heap.size:=⟨_,rfl⟩
  rw [<- SJ] at LF XE ⊢
  obtain ⟨x0,SL⟩:∃ x0,x0=Bl.rounds m v0 k:=⟨_,rfl⟩
  have HX0:=DX SL;have hg7:=bE IS.out.grown (bN OA (some pv));have KU:=eH.here (IS.out.row.kept OA) IS.out.ok;rw [<- SL] at KU;have NA:=DX KU;have WA:=DX LF;have VN:=DX (HBk.out.kept OA);have HG7:=DX hg7;clear TH OA LF SJ SL hg7 KU HBk hix;go_wp2_with fail;go_loopw [57] (fun i wx=>∃ j:Nat,j<=4/\i=.int .i64 j/\eH wb pv (Bl.halfA m (Bl.orders.getD k []) x0 j) wx) (fun i _=>4 - (intOf i).toNat)
  case atStart=>exact ⟨0,aE,rfl,NA.out⟩
  case round =>
   obtain ⟨j,hj,rfl,hv⟩:=hrel;have SX:=DX hv;clear hv
   by_cases hjt:j<4
   . as_aux_lemma =>
      have hr:=aU WA.out SX.out.grown aE;have hm:=aU VN.out SX.out.grown aE;have c1:=hr.cell (2*j);rw [pM k _ FV aE] at c1;have c2:=hr.cell (2*j+1);rw [pM k _ FV aE] at c2;have c3:=hm.cell ((Bl.orders.getD k []).getD (2*j) 0);rw [cR m _ (by rw [NQ.out.len];exact Bl.order_lt k _)] at c3;have c4:=hm.cell ((Bl.orders.getD k []).getD (2*j+1) 0);rw [cR m _ (by rw [NQ.out.len];exact Bl.order_lt k _)] at c4;have l1:=Bl.order_lt k (2*j);have l2:=Bl.order_lt k (2*j+1);clear hr hm
      have hc:∀ nq,Calls Tryz.prog 172 #[.pointer (some ⟨pv,0,none⟩),.int .i64 j,.int .i64 (4+(j:Int)),.int .i64 (8+(j:Int)),.int .i64 (12+(j:Int)),.int .u32 (m.getD ((Bl.orders.getD k []).getD (2*j) 0) 0:Nat),.int .u32 (m.getD ((Bl.orders.getD k []).getD (2*j+1) 0) 0:Nat)] (wr.drewN nq) fun e w'=>e=.returned (.tuple #[])/\eH (wr.drewN nq) pv (Bl.halfA m (Bl.orders.getD k []) x0 (j+1)) w':=fun nq=>by
       have q:=En pv (Bl.halfA m (Bl.orders.getD k []) x0 j) j (4+j) (8+j) (12+j) (m.getD ((Bl.orders.getD k []).getD (2*j) 0) 0) (m.getD ((Bl.orders.getD k []).getD (2*j+1) 0) 0) aE aE aE aE (wr.drewN nq) (eH.here (SX.out.row.kept ((EX _).drewN nq)) SX.out.ok);simp only [Int.natCast_add,Int.cast_ofNat_Int] at q;exact q
      have HC:=DX hc;clear hc;generalize m.getD ((Bl.orders.getD k []).getD (2*j) 0) 0=p1 at *;generalize m.getD ((Bl.orders.getD k []).getD (2*j+1) 0) 0=p2 at *
      generalize (Bl.orders.getD k []).getD (2*j) 0=q1 at *
      generalize (Bl.orders.getD k []).getD (2*j+1) 0=q2 at *
      go_wp2_with fail
      refine (wpIn_wide (n:=0)).1 ?_
      refine wpIn_region_quiet_tail_lit 20 aW aW aW ?_
      simp only [List.take_succ_cons,List.take_zero,List.drop_succ_cons,List.drop_zero]
      repeat (gi_big_quiet_step (fail))
      refine wpQuietIn_nil ?_
      intro _ GD;obtain ⟨nq,FT⟩:=GD;subst FT;gi_wp2_with fail;refine callsIn_wide.2 ((HC.out nq).mono ?_);rintro e w19 ⟨rfl,hw⟩;have HVz:=DX (eH.trans (bE SX.out.grown (bN ((EX _).drewN nq) _)) hw);clear hw HC c1 c2 c3 c4 l1 l2 SX;gi_wp2;go_wp2;go_roundw
      case rel=>exact ⟨j+1,aE,by go_num,HVz.out⟩
      case measure=>simp [intOf];omega
   . obtain rfl:j=4:=by omega
     have HVa:=DX (eH.here SX.out.row SX.out.ok);have HRa:=DX (aU WA.out SX.out.grown aE);have HBa:=DX (aU VN.out SX.out.grown aE);have HGa:=DX (bE HG7.out SX.out.grown)
     obtain ⟨x4,hx4⟩:∃ x4,x4=Bl.halfA m (Bl.orders.getD k []) x0 4:=⟨_,rfl⟩
     have HX4:=DX hx4;rw [<- hx4] at HVa;clear hx4 SX NA WA VN HG7
     obtain ⟨wa,hwa⟩:∃ wa,wa=wr:=⟨_,rfl⟩
     rw [<- hwa] at HVa HRa HBa HGa ⊢;clear hwa;go_wp2_with fail;go_loopw [82] (fun i wx=>∃ j:Nat,j<=4/\i=.int .i64 j/\eH wa pv (Bl.halfB m (Bl.orders.getD k []) x4 j) wx) (fun i _=>4 - (intOf i).toNat)
     case atStart=>exact ⟨0,aE,rfl,HVa.out⟩
     case round =>
      obtain ⟨j,hj,rfl,hv⟩:=hrel;have SX:=DX hv;clear hv
      by_cases hjt:j<4
      . as_aux_lemma =>
         obtain ⟨r1,ZP⟩:∃ r,r=(j+1) % 4:=⟨_,rfl⟩
         obtain ⟨r2,hr2⟩:∃ r,r=(j+2) % 4:=⟨_,rfl⟩
         obtain ⟨r3,WO⟩:∃ r,r=(j+3) % 4:=⟨_,rfl⟩
         have t1:((j:Int)+1) % 4=(r1:Int):=by omega
         have t2:((j:Int)+2) % 4=(r2:Int):=by omega
         have t3:((j:Int)+3) % 4=(r3:Int):=by omega
         have s1:((j:Int)+1).tmod 4=(r1:Int):=by rw [Int.tmod_eq_emod_of_nonneg aE];exact t1
         have s2:((j:Int)+2).tmod 4=(r2:Int):=by rw [Int.tmod_eq_emod_of_nonneg aE];exact t2
         have s3:((j:Int)+3).tmod 4=(r3:Int):=by rw [Int.tmod_eq_emod_of_nonneg aE];exact t3
         have hl1:r1<4:=by omega
         have hl2:r2<4:=by omega
         have hl3:r3<4:=by omega
         have hr:=aU HRa.out SX.out.grown aE;have hm:=aU HBa.out SX.out.grown aE;have c1:=hr.cell (8+2*j);rw [pM k _ FV aE] at c1;have c2:=hr.cell (9+2*j);rw [pM k _ FV aE] at c2;have c3:=hm.cell ((Bl.orders.getD k []).getD (8+2*j) 0);rw [cR m _ (by rw [NQ.out.len];exact Bl.order_lt k _)] at c3;have c4:=hm.cell ((Bl.orders.getD k []).getD (9+2*j) 0);rw [cR m _ (by rw [NQ.out.len];exact Bl.order_lt k _)] at c4;have l1:=Bl.order_lt k (8+2*j);have l2:=Bl.order_lt k (9+2*j);clear hr hm
         have hc:∀ nq,Calls Tryz.prog 172 #[.pointer (some ⟨pv,0,none⟩),.int .i64 j,.int .i64 (4+(r1:Int)),.int .i64 (8+(r2:Int)),.int .i64 (12+(r3:Int)),.int .u32 (m.getD ((Bl.orders.getD k []).getD (8+2*j) 0) 0:Nat),.int .u32 (m.getD ((Bl.orders.getD k []).getD (9+2*j) 0) 0:Nat)] (wr.drewN nq) fun e w'=>e=.returned (.tuple #[])/\eH (wr.drewN nq) pv (Bl.halfB m (Bl.orders.getD k []) x4 (j+1)) w':=fun nq=>by
          have q:=En pv (Bl.halfB m (Bl.orders.getD k []) x4 j) j (4+r1) (8+r2) (12+r3) (m.getD ((Bl.orders.getD k []).getD (8+2*j) 0) 0) (m.getD ((Bl.orders.getD k []).getD (9+2*j) 0) 0) aE aE aE aE (wr.drewN nq) (eH.here (SX.out.row.kept ((EX _).drewN nq)) SX.out.ok);simp only [Int.natCast_add,Int.cast_ofNat_Int] at q;rw [show Bl.halfB m (Bl.orders.getD k []) x4 (j+1)=Bl.mix (Bl.halfB m (Bl.orders.getD k []) x4 j) j (4+r1) (8+r2) (12+r3) (m.getD ((Bl.orders.getD k []).getD (8+2*j) 0) 0) (m.getD ((Bl.orders.getD k []).getD (9+2*j) 0) 0) by rw [ZP,hr2,WO];rfl];exact q
         have HC:=DX hc;clear hc ZP hr2 WO;generalize m.getD ((Bl.orders.getD k []).getD (8+2*j) 0) 0=p1 at *;generalize m.getD ((Bl.orders.getD k []).getD (9+2*j) 0) 0=p2 at *
         generalize (Bl.orders.getD k []).getD (8+2*j) 0=q1 at *
         generalize (Bl.orders.getD k []).getD (9+2*j) 0=q2 at *
         go_wp2_with fail
         refine (wpIn_wide (n:=0)).1 ?_
         refine wpIn_region_quiet_tail_lit 27 aW aW aW ?_
         simp only [List.take_succ_cons,List.take_zero,List.drop_succ_cons,List.drop_zero]
         repeat (gi_big_quiet_step (fail))
         refine wpQuietIn_nil ?_
         intro _ GD;obtain ⟨nq,FT⟩:=GD;subst FT;gi_wp2_with fail;refine callsIn_wide.2 ((HC.out nq).mono ?_);rintro e w19 ⟨rfl,hw⟩;have HVz:=DX (eH.trans (bE SX.out.grown (bN ((EX _).drewN nq) _)) hw);clear hw HC c1 c2 c3 c4 l1 l2 SX;gi_wp2;go_wp2;go_roundw
         case rel=>exact ⟨_,_,_,_,_,_,_,_,_,_,_,_,_,_,_,_,_,_,_,_,_,_,_,_,_,_,_,_,_,_,_,_,_,⟨j+1,aE,by go_num,HVz.out⟩,rfl⟩
         case measure=>simp [intOf];omega
      . obtain rfl:j=4:=by omega
        go_wp2;go_roundw
        case rel =>
         refine ⟨k+1,aE,by go_num,?_⟩;have hv:=SX.out;rw [HX4.out,HX0.out] at hv;rw [qW];exact eH.trans HGa.out hv
        case measure=>simp [intOf];omega):P:=h
theorem MX1 {P:Prop} (h:P:=by
 have l1:=Bl.order_lt k 6;have l2:=Bl.order_lt k 7;clear WO ZL
 obtain ⟨x4,hz3⟩:∃ y,y=jJ m (Bl.orders.getD k []) x3 3 7 11 15 6 7:=⟨_,rfl⟩
 have HX4:=DX hz3;have hy3:=hz3;rw [jJ] at hy3;clear hz3;have HC:=DX (fun nq=>fE pv x3 3 7 11 15 (m.getD ((Bl.orders.getD k []).getD 6 0) 0) (m.getD ((Bl.orders.getD k []).getD 7 0) 0) aF aF aF aF (w12.drewN nq) (eH.here (TY.out.row.kept ((EX _).drewN nq)) TY.out.ok));rw [<- hy3] at HC;clear hy3;generalize m.getD ((Bl.orders.getD k []).getD 6 0) 0=p1 at *;generalize m.getD ((Bl.orders.getD k []).getD 7 0) 0=p2 at *
 generalize (Bl.orders.getD k []).getD 6 0=q1 at *
 generalize (Bl.orders.getD k []).getD 7 0=q2 at *
 go_wp2_with fail
 refine (wpIn_wide (n:=0)).1 ?_
 refine wpIn_region_quiet_tail_lit 8 aW aW aW ?_
 simp only [List.take_succ_cons,List.take_zero,List.drop_succ_cons,List.drop_zero]
 repeat (gi_big_quiet_step (fail))
 refine wpQuietIn_nil ?_
 intro _ GD;obtain ⟨nq,FT⟩:=GD;subst FT;gi_wp2_with fail;refine callsIn_wide.2 ((HC.out nq).mono ?_);rintro e w13 ⟨rfl,hw⟩;have aAl:=DX (eH.trans (bE TY.out.grown (bN ((EX _).drewN nq) _)) hw);clear hw HC c1 c2 c3 c4 l1 l2 TY;gi_wp2;have hr4:=aU WA.out aAl.out.grown aE;have hm4:=aU VN.out aAl.out.grown aE;have c1:=hr4.cell 8;rw [cL k 8 FV aE] at c1;have c2:=hr4.cell 9;rw [cL k 9 FV aE] at c2;have c3:=hm4.cell ((Bl.orders.getD k []).getD 8 0);rw [cR m _ (by rw [NQ.out.len];exact Bl.order_lt k 8)] at c3;have c4:=hm4.cell ((Bl.orders.getD k []).getD 9 0);rw [cR m _ (by rw [NQ.out.len];exact Bl.order_lt k 9)] at c4;have l1:=Bl.order_lt k 8;have l2:=Bl.order_lt k 9;clear hr4 hm4
 obtain ⟨x5,hz4⟩:∃ y,y=jJ m (Bl.orders.getD k []) x4 0 5 10 15 8 9:=⟨_,rfl⟩
 have HX5:=DX hz4;have hy4:=hz4;rw [jJ] at hy4;clear hz4;have HC:=DX (fun nq=>fE pv x4 0 5 10 15 (m.getD ((Bl.orders.getD k []).getD 8 0) 0) (m.getD ((Bl.orders.getD k []).getD 9 0) 0) aF aF aF aF (w13.drewN nq) (eH.here (aAl.out.row.kept ((EX _).drewN nq)) aAl.out.ok));rw [<- hy4] at HC;clear hy4;generalize m.getD ((Bl.orders.getD k []).getD 8 0) 0=p1 at *;generalize m.getD ((Bl.orders.getD k []).getD 9 0) 0=p2 at *
 generalize (Bl.orders.getD k []).getD 8 0=q1 at *
 generalize (Bl.orders.getD k []).getD 9 0=q2 at *
 go_wp2_with fail
 refine (wpIn_wide (n:=0)).1 ?_
 refine wpIn_region_quiet_tail_lit 8 aW aW aW ?_
 simp only [List.take_succ_cons,List.take_zero,List.drop_succ_cons,List.drop_zero]
 repeat (gi_big_quiet_step (fail))
 refine wpQuietIn_nil ?_
 intro _ GD;obtain ⟨nq,FT⟩:=GD;subst FT;gi_wp2_with fail;refine callsIn_wide.2 ((HC.out nq).mono ?_);rintro e w14 ⟨rfl,hw⟩;have aAm:=DX (eH.trans (bE aAl.out.grown (bN ((EX _).drewN nq) _)) hw);clear hw HC c1 c2 c3 c4 l1 l2 aAl;gi_wp2;have hr5:=aU WA.out aAm.out.grown aE;have hm5:=aU VN.out aAm.out.grown aE;have c1:=hr5.cell 10;rw [cL k 10 FV aE] at c1;have c2:=hr5.cell 11;rw [cL k 11 FV aE] at c2;have c3:=hm5.cell ((Bl.orders.getD k []).getD 10 0);rw [cR m _ (by rw [NQ.out.len];exact Bl.order_lt k 10)] at c3;have c4:=hm5.cell ((Bl.orders.getD k []).getD 11 0);rw [cR m _ (by rw [NQ.out.len];exact Bl.order_lt k 11)] at c4;have l1:=Bl.order_lt k 10;have l2:=Bl.order_lt k 11;clear hr5 hm5
 obtain ⟨x6,hz5⟩:∃ y,y=jJ m (Bl.orders.getD k []) x5 1 6 11 12 10 11:=⟨_,rfl⟩
 have ZF:=DX hz5;have hy5:=hz5;rw [jJ] at hy5;clear hz5;have HC:=DX (fun nq=>fE pv x5 1 6 11 12 (m.getD ((Bl.orders.getD k []).getD 10 0) 0) (m.getD ((Bl.orders.getD k []).getD 11 0) 0) aF aF aF aF (w14.drewN nq) (eH.here (aAm.out.row.kept ((EX _).drewN nq)) aAm.out.ok));rw [<- hy5] at HC;clear hy5;generalize m.getD ((Bl.orders.getD k []).getD 10 0) 0=p1 at *;generalize m.getD ((Bl.orders.getD k []).getD 11 0) 0=p2 at *
 generalize (Bl.orders.getD k []).getD 10 0=q1 at *
 generalize (Bl.orders.getD k []).getD 11 0=q2 at *
 go_wp2_with fail
 refine (wpIn_wide (n:=0)).1 ?_
 refine wpIn_region_quiet_tail_lit 8 aW aW aW ?_
 simp only [List.take_succ_cons,List.take_zero,List.drop_succ_cons,List.drop_zero]
 repeat (gi_big_quiet_step (fail))
 refine wpQuietIn_nil ?_
 intro _ GD;obtain ⟨nq,FT⟩:=GD;subst FT;gi_wp2_with fail;refine callsIn_wide.2 ((HC.out nq).mono ?_);rintro e w15 ⟨rfl,hw⟩;have aAn:=DX (eH.trans (bE aAm.out.grown (bN ((EX _).drewN nq) _)) hw);clear hw HC c1 c2 c3 c4 l1 l2 aAm;gi_wp2;have hr6:=aU WA.out aAn.out.grown aE;have hm6:=aU VN.out aAn.out.grown aE;have c1:=hr6.cell 12;rw [cL k 12 FV aE] at c1;have c2:=hr6.cell 13;rw [cL k 13 FV aE] at c2;have c3:=hm6.cell ((Bl.orders.getD k []).getD 12 0);rw [cR m _ (by rw [NQ.out.len];exact Bl.order_lt k 12)] at c3;have c4:=hm6.cell ((Bl.orders.getD k []).getD 13 0);rw [cR m _ (by rw [NQ.out.len];exact Bl.order_lt k 13)] at c4;have l1:=Bl.order_lt k 12;have l2:=Bl.order_lt k 13;clear hr6 hm6
 obtain ⟨x7,hz6⟩:∃ y,y=jJ m (Bl.orders.getD k []) x6 2 7 8 13 12 13:=⟨_,rfl⟩
 have RC:=DX hz6;have hy6:=hz6;rw [jJ] at hy6;clear hz6;have HC:=DX (fun nq=>fE pv x6 2 7 8 13 (m.getD ((Bl.orders.getD k []).getD 12 0) 0) (m.getD ((Bl.orders.getD k []).getD 13 0) 0) aF aF aF aF (w15.drewN nq) (eH.here (aAn.out.row.kept ((EX _).drewN nq)) aAn.out.ok));rw [<- hy6] at HC;clear hy6;generalize m.getD ((Bl.orders.getD k []).getD 12 0) 0=p1 at *;generalize m.getD ((Bl.orders.getD k []).getD 13 0) 0=p2 at *
 generalize (Bl.orders.getD k []).getD 12 0=q1 at *
 generalize (Bl.orders.getD k []).getD 13 0=q2 at *
 go_wp2_with fail
 refine (wpIn_wide (n:=0)).1 ?_
 refine wpIn_region_quiet_tail_lit 8 aW aW aW ?_
 simp only [List.take_succ_cons,List.take_zero,List.drop_succ_cons,List.drop_zero]
 repeat (gi_big_quiet_step (fail))
 refine wpQuietIn_nil ?_
 intro _ GD;obtain ⟨nq,FT⟩:=GD;subst FT;gi_wp2_with fail;refine callsIn_wide.2 ((HC.out nq).mono ?_);rintro e w16 ⟨rfl,hw⟩;have aAo:=DX (eH.trans (bE aAn.out.grown (bN ((EX _).drewN nq) _)) hw);clear hw HC c1 c2 c3 c4 l1 l2 aAn;gi_wp2;have hr7:=aU WA.out aAo.out.grown aE;have hm7:=aU VN.out aAo.out.grown aE;have c1:=hr7.cell 14;rw [cL k 14 FV aE] at c1;have c2:=hr7.cell 15;rw [cL k 15 FV aE] at c2;have c3:=hm7.cell ((Bl.orders.getD k []).getD 14 0);rw [cR m _ (by rw [NQ.out.len];exact Bl.order_lt k 14)] at c3;have c4:=hm7.cell ((Bl.orders.getD k []).getD 15 0);rw [cR m _ (by rw [NQ.out.len];exact Bl.order_lt k 15)] at c4;have l1:=Bl.order_lt k 14;have l2:=Bl.order_lt k 15;clear hr7 hm7
 obtain ⟨x8,hz7⟩:∃ y,y=jJ m (Bl.orders.getD k []) x7 3 4 9 14 14 15:=⟨_,rfl⟩
 have WZ:=DX hz7;have hy7:=hz7;rw [jJ] at hy7;clear hz7;have HC:=DX (fun nq=>fE pv x7 3 4 9 14 (m.getD ((Bl.orders.getD k []).getD 14 0) 0) (m.getD ((Bl.orders.getD k []).getD 15 0) 0) aF aF aF aF (w16.drewN nq) (eH.here (aAo.out.row.kept ((EX _).drewN nq)) aAo.out.ok));rw [<- hy7] at HC;clear hy7;generalize m.getD ((Bl.orders.getD k []).getD 14 0) 0=p1 at *;generalize m.getD ((Bl.orders.getD k []).getD 15 0) 0=p2 at *
 generalize (Bl.orders.getD k []).getD 14 0=q1 at *
 generalize (Bl.orders.getD k []).getD 15 0=q2 at *
 go_wp2_with fail
 refine (wpIn_wide (n:=0)).1 ?_
 refine wpIn_region_quiet_tail_lit 8 aW aW aW ?_
 simp only [List.take_succ_cons,List.take_zero,List.drop_succ_cons,List.drop_zero]
 repeat (gi_big_quiet_step (fail))
 refine wpQuietIn_nil ?_
 intro _ GD;obtain ⟨nq,FT⟩:=GD;subst FT;gi_wp2_with fail;refine callsIn_wide.2 ((HC.out nq).mono ?_);rintro e w17 ⟨rfl,hw⟩;have HVx8:=DX (eH.trans (bE aAo.out.grown (bN ((EX _).drewN nq) _)) hw);clear hw HC c1 c2 c3 c4 l1 l2 aAo;gi_wp2;go_wp2;go_roundw
 case rel =>
  refine ⟨k+1,aE,by go_num,?_⟩;have hv:=HVx8.out;rw [WZ.out,RC.out,ZF.out,HX5.out,HX4.out,TZ.out,HX2.out,HX1.out,HX0.out] at hv;rw [qW,Xf];simp only [jJ] at hv;exact eH.trans HG7.out hv
 case measure=>simp [intOf];omega):P:=h
theorem MX2 {P:Prop} (h:P:=by
 clear hE2;clear r0 r1 r2 r3;obtain ⟨q0,q1,q2,q3⟩:=aI HP.out;have IJ:=DX (oO KV.out MZ.out);have PN:=DX (show ∀ x∈hs,x.n.size<=1000000 from fun x hx=>by have:=VL.out.n x hx;omega);have HOP:=DX (Cm z1 z2 z3 t1 t2 t3 us hs vs mx wr IJ.out.1 IJ.out.2.1 IJ.out.2.2 PN.out (HE.out.kept IA.out));go_wp2_with fail
 refine HOP.out.mono ?_
 rintro e w5 ⟨RE,hgood,GZ⟩;have HKR5:=DX GZ;have HBAD:=DX RE;have aBf:=DX hgood;have XS:=DX (HP.out.kept GZ);clear GZ RE hgood HOP q0 q1 q2 q3
 cases GL:dP ⟨us,hs,vs,mx⟩ with
 | false =>
  have he:=HBAD.out GL;subst he;clear HBAD aBf
  go_upto_region 14 with (fail)
  have k1:=(EX w5).alloc (KN)
  have k2:=(EX (w5.alloc (KN))).alloc (KN)
  have RC:=DX ((EY w5 LN 26).kept k2);have SZ:=DX (FB w5 LN 26 (KN));have HP7:=DX ((XS.out.kept k1).kept k2);have TR:=DX ((HKR5.out.trans k1).trans k2);have MD:wr.heap.size<=w5.heap.size:=HKR5.out.size;have SJ:p<w5.heap.size:=XS.out.lt;clear k1 k2
  generalize (w5.alloc (KN)).alloc (KN)=w7 at *
  generalize w5.heap.size=q at *;have OM:=DX (show Calls Tryz.prog 27 #[.agg (LS z1 us.length t1 z2 hs.length t2 z3 vs.length t3 mx)] w7 fun e w'=>e=.returned (.bool false)/\aB w7 w' by have h:=jM z1 z2 z3 t1 t2 t3 us hs vs mx w7 (IJ.out.1.kept TR.out) (IJ.out.2.1.kept TR.out) (IJ.out.2.2.kept TR.out) PN.out;rw [GL] at h;exact h);obtain ⟨q0,q1,q2,q3⟩:=aI HP7.out;go_wp2_with fail
  refine OM.out.mono ?_
  rintro e w8 ⟨rfl,LH⟩;have aAd:=DX (TR.out.trans LH);have WZ:=DX (RC.out.kept LH);have SE:=DX (SZ.out.kept LH);have HP8:=DX (HP7.out.kept LH);clear LH q0 q1 q2 q3 OM;have HXa:=WZ;have HWa:=SE;have NP:=DX (IA.out.trans aAd.out);have XM:=DX (iP none none none none none none 0 0 0 0 0 0 [] [] [] 0 w8 (nV _ _) (lK _ _) (jH _ _) (nV _ _) (lK _ _) (jH _ _));obtain ⟨q0,q1,q2,q3⟩:=aI HXa.out;obtain ⟨e0,e1,e2,e3⟩:=aI HWa.out;go_wp2_with fail
  refine (fP _ _).mono ?_
  rintro e w' ⟨rfl,rfl⟩;go_wp2_with fail
  refine XM.out.mono ?_
  rintro e wb ⟨rfl,OA⟩;have HKb:=DX (NP.out.trans OA);clear OA XM q0 q1 q2 q3 e0 e1 e2 e3;go_wp2_with fail
  refine (HWK.out wb HKb.out).mono ?_
  rintro e wc ⟨rfl,hkc⟩;have HKc:=DX (HKb.out.trans hkc);clear hkc;go_wp2_with fail;go_ret;exact ⟨rfl,HKc.out⟩
 | true =>
  obtain ⟨u1,v1,u2,v2,he,ho1,ZN⟩:=aBf.out GL;have HO1:=DX (EC ho1 ZN);subst he;clear ho1 ZN;clear HBAD aBf
  go_upto_region 14 with (fail)
  have k1:=(EX w5).alloc ((KS u1 us.length v1 u2 hs.length v2 none 0 0 0))
  have k2:=(EX (w5.alloc ((KS u1 us.length v1 u2 hs.length v2 none 0 0 0)))).alloc (KN)
  have RC:=DX ((EY w5 (LS u1 us.length v1 u2 hs.length v2 none 0 0 0) 26).kept k2);have SZ:=DX (FB w5 LN 26 ((KS u1 us.length v1 u2 hs.length v2 none 0 0 0)));have HP7:=DX ((XS.out.kept k1).kept k2);have TR:=DX ((HKR5.out.trans k1).trans k2);have XP:=DX (EC (aH (aH HO1.out.1 k1) k2) (aH (aH HO1.out.2 k1) k2));have MD:wr.heap.size<=w5.heap.size:=HKR5.out.size;have SJ:p<w5.heap.size:=XS.out.lt;clear k1 k2
  generalize (w5.alloc ((KS u1 us.length v1 u2 hs.length v2 none 0 0 0))).alloc (KN)=w7 at *
  generalize w5.heap.size=q at *;have OM:=DX (show Calls Tryz.prog 27 #[.agg (LS z1 us.length t1 z2 hs.length t2 z3 vs.length t3 mx)] w7 fun e w'=>e=.returned (.bool true)/\aB w7 w' by have h:=jM z1 z2 z3 t1 t2 t3 us hs vs mx w7 (IJ.out.1.kept TR.out) (IJ.out.2.1.kept TR.out) (IJ.out.2.2.kept TR.out) PN.out;rw [GL] at h;exact h);obtain ⟨q0,q1,q2,q3⟩:=aI HP7.out;go_wp2_with fail
  refine OM.out.mono ?_
  rintro e w8 ⟨rfl,LH⟩;have aAd:=DX (TR.out.trans LH);have WZ:=DX (RC.out.kept LH);have SE:=DX (SZ.out.kept LH);have HP8:=DX (HP7.out.kept LH);have HO8:=DX (EC (aH XP.out.1 LH) (aH XP.out.2 LH));clear LH q0 q1 q2 q3 OM;have HRO:=DX (zD z1 z2 z3 t1 t2 t3 us hs vs mx w8 (IJ.out.1.kept aAd.out) (IJ.out.2.1.kept aAd.out) (IJ.out.2.2.kept aAd.out));obtain ⟨q0,q1,q2,q3⟩:=aI HP8.out;go_wp2_with fail
  refine HRO.out.mono ?_
  rintro e w9 ⟨c1,f1,c2,f2,rfl,ho3,ho4,GF⟩;have HKR9:=DX (aAd.out.trans GF);have UW:=DX (WZ.out.kept GF);have OZ:=DX (SE.out.kept GF);have XQ:=DX (EC (aH HO8.out.1 GF) (aH HO8.out.2 GF));have HO10:=DX (EC ho3 ho4);clear ho3 ho4 GF q0 q1 q2 q3 HRO
  go_upto_region 16 with (refine aD rfl 26 (.tmp 10) (.tmp 51) rfl (q+1) (LS c1 us.length f1 c2 hs.length f2 none 0 0 0) LN 26 rfl rfl OZ.out AY rfl (by simp [Value.oneCell']) ?_)
  have HXa:=DX (UW.out.other (g':=q+1) (LS c1 us.length f1 c2 hs.length f2 none 0 0 0) aE);have HWa:=DX (OZ.out.setRow (LS c1 us.length f1 c2 hs.length f2 none 0 0 0));have NP:=DX (FC (IA.out.trans HKR9.out) (g:=q+1) (by have:=IA.out.size;omega) (LS c1 us.length f1 c2 hs.length f2 none 0 0 0));have HOa:=DX (EC (EC (cC XQ.out.1 OZ.out aF (LS c1 us.length f1 c2 hs.length f2 none 0 0 0)) (cC XQ.out.2 OZ.out aF (LS c1 us.length f1 c2 hs.length f2 none 0 0 0))) (EC (cC HO10.out.1 OZ.out aF (LS c1 us.length f1 c2 hs.length f2 none 0 0 0)) (cC HO10.out.2 OZ.out aF (LS c1 us.length f1 c2 hs.length f2 none 0 0 0))));generalize w9.setRow (q+1) (LS c1 us.length f1 c2 hs.length f2 none 0 0 0)=wa at *;obtain ⟨_,_,hv,g1⟩:=cI HOa.out.1.1 rfl MZ.out.t MZ.out.zt;cases hv;obtain ⟨_,_,hv,g2⟩:=eA HOa.out.1.2 rfl MZ.out.g MZ.out.zg;cases hv;obtain ⟨_,_,hv,g3⟩:=cI HOa.out.2.1 rfl MZ.out.t MZ.out.zt;cases hv;obtain ⟨_,_,hv,g4⟩:=eA HOa.out.2.2 rfl MZ.out.g MZ.out.zg;cases hv;have XM:=DX (iP u1 u2 none c1 c2 none v1 v2 0 f1 f2 0 us hs [] 0 wa g1 g2 (jH _ _) g3 g4 (jH _ _));clear g1 g2 g3 g4;obtain ⟨q0,q1,q2,q3⟩:=aI HXa.out;obtain ⟨e0,e1,e2,e3⟩:=aI HWa.out;go_wp2_with fail
  refine (fP _ _).mono ?_
  rintro e w' ⟨rfl,rfl⟩;go_wp2_with fail
  refine XM.out.mono ?_
  rintro e wb ⟨rfl,OA⟩;have HKb:=DX (NP.out.trans OA);clear OA XM q0 q1 q2 q3 e0 e1 e2 e3;go_wp2_with fail
  refine (HWK.out wb HKb.out).mono ?_
  rintro e wc ⟨rfl,hkc⟩;have HKc:=DX (HKb.out.trans hkc);clear hkc;go_wp2_with fail;go_ret
  exact ⟨rfl,HKc.out⟩):P:=h
theorem MX3 {P:Prop} (h:P:=by
 have MH:=DX (HK.out.trans HKN.out);have JK:=DX (show ∀ w',aB wq w'->w'.cell? ⟨w.heap.size,0,none⟩=some (.string xd)/\w'.cell? ⟨w.heap.size,1,none⟩=some (.string xt)/\w'.cell? ⟨w.heap.size,2,none⟩=some (.bool xm) from fun w' kk=>dI (HB.out.kept (HKN.out.trans kk)));have HST2:=DX (HS.out.kept MH.out);obtain ⟨aq,UU,SQ,NS⟩:=iL (aH KV.out MH.out) k aE;rw [eB dW 3 mA] at NS;have MK:=DX (show ∀ w',aB wq w'->Calls Tryz.prog 39 #[.slice ax k cx] w' fun e w2=>∃ a' c',e=.returned (.slice a' k c')/\w2.ownsRow w'.heap.size 62 3 (.slice a' k c') k ((ts.take k).flatMap dW)/\aB w' w2 from fun w' kk=>mQ ax k cx (ts.take k) w' (Av (HST2.out.kept kk) aE))
 have hHQ:k<=cx:=by omega
 have JU:=DX (show k+1+(l - k)=l+1 by omega)
 have HPV:=DX (show (iR ts ⟨xd,xt,xm⟩).flatMap dW=(ts.take k).flatMap dW++[.string xd,.string xt,.bool xm]++(ts.drop k).flatMap dW by
  rw [HPU.out,List.flatMap_append,List.flatMap_append];rfl)
 clear HPU HPA ZB;go_wp2_with fail
 have mixed:Tryz.prog.follows Departure.mixedOrders=true:=by kernel_rfl
 have ZQ:=UU.out;obtain ⟨d0,d1,d2⟩:=JK.out _ (EX wq);go_region_law_o (first | (rw [if_pos (Pj.Ze rfl _)];go_simp;first | (refine (MK.out _ ((EX wq).drew)).mono ?_;rintro e y5 ⟨a5,c5,rfl,JF,OG⟩;have GZ:=((EX wq).drew).trans OG;have IP:=bA JF (EZ ((EX wq).drew));obtain ⟨d0,d1,d2⟩:=JK.out _ GZ;try dsimp only) | (refine (MK.out _ (((EX wq).alloc ((KT xd xt xm))).drew)).mono ?_;rintro e y5 ⟨a5,c5,rfl,JF,OG⟩;have hgb:=((EY wq (LT xd xt xm) 62).kept ((EX _).drew)).kept OG;have GZ:=(((EX wq).alloc ((KT xd xt xm))).drew).trans OG;have IP:=bA JF (EZ (((EX wq).alloc ((KT xd xt xm))).drew));obtain ⟨d0,d1,d2⟩:=JK.out _ GZ;try dsimp only)) | (refine fG rfl (.tmp 28) (.tmp 31) 22 rfl wq.heap.size 62 i0 (.agg (LT ByteArray.empty ByteArray.empty false)) 3 40 ER HI.out.1 HI.out.2.1 HI.out.2.2.1 HI.out.2.2.2 rfl aF (.slice a6 (k+1) c6) (k+1) (((ts.take k).flatMap dW)++[.string xd,.string xt,.bool xm]) rfl MQ aq (l - k) (cx - k) ((ts.drop k).flatMap dW) rfl SQ.out LX.1 LX.2 (fun u hu=>lQ _ u hu) aE aF JD.size ?_;intro v9 y9 GS ND;obtain ⟨a9,c9,rfl⟩:=aP GS;have GF:=cD JD ND (fun q e=>(MQ.lt q e).1) (EA _)) | (refine fG rfl (.tmp 25) (.tmp 27) 22 rfl wq.heap.size 62 i0 (.agg (LT ByteArray.empty ByteArray.empty false)) 3 40 ER HI.out.1 HI.out.2.1 HI.out.2.2.1 HI.out.2.2.2 rfl aF (.slice a5 k c5) k ((ts.take k).flatMap dW) rfl IP (some ⟨wq.heap.size,0,none⟩) 1 1 [.string xd,.string xt,.bool xm] rfl (fun e=>by cases e) rfl (fun ad e j u hj=>by cases e;exact Pj.Zo hgb j u hj) (by intro u hu;simp at hu;rcases hu with rfl | rfl | rfl <;> rfl) aE aF GZ.size ?_;intro v6 y6 MQ hgr6;obtain ⟨a6,c6,rfl⟩:=aP MQ;have JD:=cD GZ hgr6 (fun q e=>(IP.lt q e).1) (EA _);have LX:=NS.out y6 JD) | (refine fG rfl (.tmp 25) (.tmp 27) 22 rfl wq.heap.size 62 i0 (.agg (LT ByteArray.empty ByteArray.empty false)) 3 40 ER HI.out.1 HI.out.2.1 HI.out.2.2.1 HI.out.2.2.2 rfl aF (.slice a5 k c5) k ((ts.take k).flatMap dW) rfl (aH IP ((EX y5).alloc ((KT xd xt xm)))) (some ⟨y5.heap.size,0,none⟩) 1 1 [.string xd,.string xt,.bool xm] rfl (fun e=>by cases e) rfl (fun ad e j u hj=>by cases e;exact Pj.Zo (EY y5 (LT xd xt xm) 62) j u hj) (by intro u hu;simp at hu;rcases hu with rfl | rfl | rfl <;> rfl) aE aF (EZ (GZ.trans ((EX y5).alloc ((KT xd xt xm))))) ?_;intro v6 y6 MQ hgr6;obtain ⟨a6,c6,rfl⟩:=aP MQ;have JD:=cD (GZ.trans ((EX y5).alloc ((KT xd xt xm)))) hgr6 (fun q e=>((aH IP ((EX y5).alloc ((KT xd xt xm)))).lt q e).1) (EA _);have LX:=NS.out y6 JD))
 all_goals
  have HWQ:=DX MH.out.size;have XU:=DX GS;have HKj:=DX GF;clear GS GF;go_wp2_with fail;go_ret;rw [JU.out];refine ⟨_,_,rfl,?_,MH.out.trans HKj.out⟩;have h:=XU.out;rw [JU.out] at h;rw [HPV.out]
  exact bA h HWQ.out):P:=h
theorem MX4 {P:Prop} (h:P:=by
 have HPd:=DX hP;have HHd:=DX hH;have HGd:=DX hG;have HSd:=DX hS;have HKd:=DX hK
 have hDw:w.heap.size<=D:=by have:=HZ7.out;have:=HP.out;omega
 have hbD:hb<D:=by have:=HP.out;omega
 have c0:=fC hP;obtain ⟨q0,q1,q2,q3,q4,q5,q6,q7,hq8⟩:=Rl (gC L);have HQ8:=DX hq8;rw [hq8] at hS;have g0:W.cell? ⟨ps,0,none⟩=some (.int .u32 (q0:Nat)):=hS.cell 0;have g1:W.cell? ⟨ps,1,none⟩=some (.int .u32 (q1:Nat)):=hS.cell 1;have g2:W.cell? ⟨ps,2,none⟩=some (.int .u32 (q2:Nat)):=hS.cell 2;have g3:W.cell? ⟨ps,3,none⟩=some (.int .u32 (q3:Nat)):=hS.cell 3;have g4:W.cell? ⟨ps,4,none⟩=some (.int .u32 (q4:Nat)):=hS.cell 4;have g5:W.cell? ⟨ps,5,none⟩=some (.int .u32 (q5:Nat)):=hS.cell 5;have g6:W.cell? ⟨ps,6,none⟩=some (.int .u32 (q6:Nat)):=hS.cell 6;have g7:W.cell? ⟨ps,7,none⟩=some (.int .u32 (q7:Nat)):=hS.cell 7;have d0:=aC g0;have d1:=aC g1;have d2:=aC g2;have d3:=aC g3;have d4:=aC g4;have d5:=aC g5;have d6:=aC g6;have d7:=aC g7;have dp:=aC c0
 have hbe:∀ u:bF W,Calls Tryz.prog 144 #[.agg #[.int .u32 (q0:Nat),.int .u32 (q1:Nat),.int .u32 (q2:Nat),.int .u32 (q3:Nat),.int .u32 (q4:Nat),.int .u32 (q5:Nat),.int .u32 (q6:Nat),.int .u32 (q7:Nat)]] u.1 fun e w'=>e=.returned (.agg (cw (eU (gL L))))/\aB u.1 w':=fun u=>by
  have q:=qH (gL L) (gC L) u.1 ((ZU.out.gr HGd.out h1).kept u.2);rw [HQ8.out] at q ⊢;exact q
 have HBE:=DX hbe;clear hP hH hG hS hK hbe hq8 g0 g1 g2 g3 g4 g5 g6 g7;go_wp2_with fail
 refine (wpIn_wide (n:=0)).1 ?_
 refine gU 5 aW aW aW ?_
 simp only [List.take_succ_cons,List.take_zero,List.drop_succ_cons,List.drop_zero]
 repeat (gi_big_quiet_step ((gi_at_call 144;exact callsIn_wide.2 (aK (HBE.out _)))))
 refine wpQuietIn_nil ?_
 intro _ GD;obtain ⟨nq,FT⟩:=GD;subst FT;have k9:=nq.2
 obtain ⟨w9,hw9⟩:∃ w9,w9=nq.1:=⟨_,rfl⟩
 rw [<- hw9] at k9 ⊢;clear hw9 d0 d1 d2 d3 d4 d5 d6 d7 dp c0;have UN:=sL (gC L);gi_wp2_with (refine nJ rfl 102 (.tmp 53) (.tmp 51) rfl hb (cw (eU (gL L))) (bP v rX n) 132 rfl rfl (HHd.out.kept k9) (by rw [eL UN];exact AZ) (by rw [eL UN,Ao HW.out];omega) (iT _) ?_);rw [An HW.out UN];have hb10:=aA.setRow (HHd.out.kept k9) (bP (eU (gL L)) rX n)
 have hp10:=(HPd.out.kept k9).other (g':=hb) (bP (eU (gL L)) rX n) aE
 have hg10:w.grownBy (w9.setRow hb (bP (eU (gL L)) rX n)) (some hb):=pG (pG HGd.out (bN k9 none) (fun k e=>by cases e)) (dB _ _ _) (fun k e=>by cases e;exact .inr rfl)
 have hd10:(w9.setRow hb (bP (eU (gL L)) rX n)).heap[D]?=some (.deferred (some [])):=((dB w9 hb _).block D (EG (Array.getElem?_eq_some_iff.1 HKd.out).1 k9.size) (fun e=>by cases e;omega)).trans ((Below.block k9 D (Array.getElem?_eq_some_iff.1 HKd.out).1).trans HKd.out)
 have HB10:=DX hb10;have HP10:=DX hp10;have HG10:=DX hg10;have HD10:=DX hd10;have HVO:=DX UN;clear hb10 hp10 hg10 hd10 k9 HKd HPd HHd HGd HSd UN;generalize w9.setRow hb (bP (eU (gL L)) rX n)=w10 at *;have c0:=fC HP10.out;have c9:=HB10.out.cell 9;rw [oR HVO.out] at c9;have f9:=HB10.out.free 9
 obtain ⟨n2,VB⟩:∃ n2,n2=L.length:=⟨_,rfl⟩
 have e1:(n:Int)+(s.size:Int)=(n2:Int):=by
  have q:=HLL.out;have q2:=HN.out;rw [VB,q,List.length_append,<- q2,Array.length_toList]
  show (n:Int)+(s.data.size:Int)=_
  simp
 have TU:=DX VB;clear VB;simp only [Act.put];go_wp2;refine uQ ⟨by simp,.inl ⟨_,_,rfl,run_takeDeferred (show (w10.setCell ⟨hb,9,none⟩ (.int .i64 (n2:Int))).heap[D]?=some (.deferred (some [])) from ((iE w10 hb 9 _).block D (Array.getElem?_eq_some_iff.1 HD10.out).1 (fun e=>by cases e;omega)).trans HD10.out),?_⟩⟩;refine ⟨.tuple #[],?_,rfl,?_,?_⟩
 . simp [results,Tryz.f116,go_sem]
 . have q:=HB10.out.set (i:=9) (.int .i64 (n2:Int))
   rw [Cr HVO.out] at q;have q2:=aM (row:=some D) q (cK _ D (.deferred none)) (fun e=>by cases e;omega)
   have e:bP (eU (gL L)) rX n2=bP (eU (gL (l++s.data.toList))) (dA (l++s.data.toList)) (l++s.data.toList).length:=by rw [TU.out,HRX.out,HLL.out]
   rw [e] at q2;exact q2
 . exact pG (pG HG10.out (iE w10 hb 9 _) (fun k e=>by cases e;exact .inr rfl)) (cK _ D _) (fun k e=>by cases e;exact .inl hDw)):P:=h
theorem Gx {P:Prop} (h:P:=by
 refine EI (v:=bW XX.2) ?_ rfl ?_
 . exact EH rfl _ _ (w.heap.size+1) 47 (bB XX.2) (0,0) _ rfl (GK.out.setRow _) EV rfl AX
 . exact ⟨rfl,QY.out.setRow GK.out aF aF aF aF _,PF.out.setRow (ED _) GY _⟩):P:=h
theorem vN {P:Prop} (h:P:=by
 rw [HX.out,GI.out];exact ⟨rfl,(HQ.out.kept FW.out).setRow GK.out aF aF aF aF _,(FA FW.out GY).setRow (ED _) GY _⟩):P:=h
theorem MX7 {P:Prop} (h:P:=by
 by_cases h7:u[k].toNat=95
 . have d7:((u[k].toNat:Int) == 95)=true:=by first | exact DZ aE | exact beq_iff_eq.2 aE
   have g7:((u[k].toNat:Int) != 95)=false:=by first | exact DY aE | exact bne_eq_false_iff_eq.2 aE
   have HV:=DX (mP (c:=u[k]) (.inr aE))
   (try clear h5)
   (try clear h6)
   (try clear h7)
   (try clear h8)
   (try clear h9)
   go_wp2_with fail
   refine (dD _ _).mono ?_
   rintro e w' ⟨rfl,rfl⟩;go_wp2;go_roundw
   case rel=>exact ⟨k+1,aE,by go_num,by rw [IX.out,HA.out,HV.out];rfl,by trivial⟩
   case measure=>simp [intOf];omega
 . have d7:((u[k].toNat:Int) == 95)=false:=by first | exact DY aE | exact beq_eq_false_iff_ne.2 aE
   have g7:((u[k].toNat:Int) != 95)=true:=by first | exact DZ aE | exact bne_iff_ne.2 aE
   by_cases h8:u[k].toNat=46
   . have d8:((u[k].toNat:Int) == 46)=true:=by first | exact DZ aE | exact beq_iff_eq.2 aE
     have g8:((u[k].toNat:Int) != 46)=false:=by first | exact DY aE | exact bne_eq_false_iff_eq.2 aE
     have HV:=DX (mP (c:=u[k]) (.inr aE))
     (try clear h5)
     (try clear h6)
     (try clear h7)
     (try clear h8)
     (try clear h9)
     go_wp2_with fail
     refine (dD _ _).mono ?_
     rintro e w' ⟨rfl,rfl⟩;go_wp2;go_roundw
     case rel=>exact ⟨k+1,aE,by go_num,by rw [IX.out,HA.out,HV.out];rfl,by trivial⟩
     case measure=>simp [intOf];omega
   . have d8:((u[k].toNat:Int) == 46)=false:=by first | exact DY aE | exact beq_eq_false_iff_ne.2 aE
     have g8:((u[k].toNat:Int) != 46)=true:=by first | exact DZ aE | exact bne_iff_ne.2 aE
     by_cases h9:u[k].toNat=45
     . have d9:((u[k].toNat:Int) == 45)=true:=by first | exact DZ aE | exact beq_iff_eq.2 aE
       have g9:((u[k].toNat:Int) != 45)=false:=by first | exact DY aE | exact bne_eq_false_iff_eq.2 aE
       have HV:=DX (mP (c:=u[k]) (.inr aE))
       (try clear h5)
       (try clear h6)
       (try clear h7)
       (try clear h8)
       (try clear h9)
       go_wp2_with fail
       refine (dD _ _).mono ?_
       rintro e w' ⟨rfl,rfl⟩;go_wp2;go_roundw
       case rel=>exact ⟨k+1,aE,by go_num,by rw [IX.out,HA.out,HV.out];rfl,by trivial⟩
       case measure=>simp [intOf];omega
     . have d9:((u[k].toNat:Int) == 45)=false:=by first | exact DY aE | exact beq_eq_false_iff_ne.2 aE
       have g9:((u[k].toNat:Int) != 45)=true:=by first | exact DZ aE | exact bne_iff_ne.2 aE
       have HV:=DX (Hs (c:=u[k]) hp aE)
       (try clear h5)
       (try clear h6)
       (try clear h7)
       (try clear h8)
       (try clear h9)
       go_wp2_with fail
       refine (dD _ _).mono ?_
       rintro e w' ⟨rfl,rfl⟩;go_wp2;go_ret;rw [vI _ (HF.out HV.out)]
       exact ⟨rfl,rfl⟩):P:=h
theorem xN {P:Prop} (h:P:=by
 rw [HX.out,GI.out];exact ⟨rfl,(HQ.out.kept JQ.out).setRow JM.out aF aF aF aF _,(FA JQ.out GY).setRow (ED _) GY _⟩):P:=h
theorem MX9 {P:Prop} (h:P:=by
 obtain rfl:k=10:=by omega
 have HH9:=DX (aU HH7.out IS.out.grown aE);have JQ:=DX (IS.out.kept SP.out (by have:=OL.out;omega))
 obtain ⟨v,hv⟩:∃ v,v=Bl.rounds m v0 10:=⟨_,rfl⟩
 have HVV:=DX hv;have PD:=IS.out;rw [<- hv] at PD;have UV:=DX PD;clear hv PD IS OW XP TO HH7 SP;go_wp2_with fail;go_loopw [16] (fun i wx=>∃ k:Nat,k<=8/\i=.int .i64 k/\V8 wr g (Bl.fin h v k) wx) (fun i _=>8 - (intOf i).toNat)
 case atStart=>exact ⟨0,aE,rfl,V8.here HH9.out HV.out.ok⟩
 case round =>
  obtain ⟨k,hk,rfl,hv⟩:=hrel;have IS:=DX hv;clear hv
  by_cases FV:k<8
  . as_aux_lemma =>
     have SJ:=aU UV.out.row IS.out.grown aE;have c1:=IS.out.cell k aE;have f1:=IS.out.free k;have c2:=SJ.cell k;rw [cR _ _ (by rw [UV.out.ok.len];omega)] at c2;have c3:=SJ.cell (k+8);rw [cR _ _ (by rw [UV.out.ok.len];omega)] at c3;have l1:=IS.out.ok.at k;have l2:=UV.out.ok.at k;have l3:=UV.out.ok.at (k+8);have e1:=wM _ _ l1 l2;have e2:=wM _ _ (Bl.xor_lt l1 l2) l3
     have GL:∀ nq,V8 _ g (Bl.fin h v (k+1)) ((wr.drewN nq).setCell ⟨g,k,none⟩ (.int .u32 (((Bl.fin h v k).getD k 0 ^^^ v.getD k 0 ^^^ v.getD (k+8) 0:Nat):Int))):=fun nq=>by
      have q:=IS.out.put nq k (Bl.xor_lt (Bl.xor_lt l1 l2) l3);rw [show (Bl.fin h v k).set k ((Bl.fin h v k).getD k 0 ^^^ v.getD k 0 ^^^ v.getD (k+8) 0)=Bl.fin h v (k+1) by rw [Nat.add_comm k 8];rfl] at q;exact q
     have IN:=DX GL;clear GL SJ l1 l2 l3
     generalize (Bl.fin h v k).getD k 0 ^^^ v.getD k 0 ^^^ v.getD (k+8) 0=z at *
     generalize (Bl.fin h v k).getD k 0 ^^^ v.getD k 0=y at *
     generalize v.getD (k+8) 0=x3 at *;generalize v.getD k 0=x2 at *
     generalize (Bl.fin h v k).getD k 0=x1 at *
     go_wp2_with fail
     refine (wpIn_wide (n:=0)).1 ?_
     refine wpIn_region_quiet_tail_lit 18 aW aW aW ?_
     simp only [List.take_succ_cons,List.take_zero,List.drop_succ_cons,List.drop_zero]
     repeat (gi_big_quiet_step (fail))
     refine wpQuietIn_nil ?_
     intro _ GD;obtain ⟨nq,FT⟩:=GD;subst FT;gi_wp2;go_wp2;go_roundw
     case rel=>exact ⟨k+1,aE,by go_num,IN.out nq⟩
     case measure=>simp [intOf];omega
  . obtain rfl:k=8:=by omega
    go_wp2;go_end0;refine ⟨rfl,?_⟩;have hf:=IS.out;rw [HVV.out,QD.out,HM.out] at hf
    exact ⟨hf.row,bE (bN JQ.out (some g)) hf.grown,hf.ok⟩):P:=h
theorem Pk {P:Prop} (h:P:=by
 clear hs;obtain ⟨b0,b1,b2,b3,b4,b5,b6⟩:=cX HB.out;go_wp2_with fail
 refine HC.out.mono ?_
 rintro e w2 ⟨rfl,hq,hf⟩;have QY:=DX hq;have PF:=DX ((FA HK.out GY).trans hf);have GK:=DX (hf.blk _ _ _ HR.out aE aF aF aF);clear hq hf HC b0 b1 b2 b3 b4 b5 b6 HX;go_wp2_with (refine aD rfl 47 (.tmp 4) (.tmp 37) rfl (wo.heap.size+1) (bB XX.2) LR 47 rfl rfl GK.out AX rfl (aL _) ?_)
 refine EI (v:=bW XX.2) ?_ rfl ?_
 . exact EH rfl _ _ (wo.heap.size+1) 47 (bB XX.2) (0,0) _ rfl (GK.out.setRow _) EV rfl AX
 . exact ⟨rfl,QY.out.setRow GK.out aF aF aF aF _,PF.out.setRow (ED _) GY _⟩):P:=h
theorem Pv {P:Prop} (h:P:=by
 clear hs;obtain ⟨b0,b1,b2,b3,b4,b5,b6⟩:=cX HB.out;go_wp2_with fail
 refine HC.out.mono ?_
 rintro e w2 ⟨rfl,hq,hf⟩;have QY:=DX hq;have PF:=DX ((FA HK.out GY).trans hf);have GK:=DX (hf.blk _ _ _ HR.out aE aF aF aF);clear hq hf HC b0 b1 b2 b3 b4 b5 b6 HX;go_wp2_with (refine aD rfl 47 (.tmp 4) (.tmp 29) rfl (wo.heap.size+1) (bB XX.2) LR 47 rfl rfl GK.out AX rfl (aL _) ?_)
 refine EI (v:=bW XX.2) ?_ rfl ?_
 . exact EH rfl _ _ (wo.heap.size+1) 47 (bB XX.2) (0,0) _ rfl (GK.out.setRow _) EV rfl AX
 . exact ⟨rfl,QY.out.setRow GK.out aF aF aF aF _,PF.out.setRow (ED _) GY _⟩):P:=h
theorem Wy {P:Prop} (h:P:=by
 by_cases h3:c.toNat=95
 . have d3:((c.toNat:Int) == 95)=true:=by first | exact DZ aE | exact beq_iff_eq.2 aE
   rw [show decide ((65<=c.toNat/\c.toNat<=90)\/c.toNat=95\/c.toNat=46\/c.toNat=45)=true from DZ aE];clear hc
   (try clear h3)
   (try clear h4)
   (try clear h5)
   go_enter Tryz.func177,Tryz.ntmps177;go_wp2_with fail
   refine (eJ c _).mono ?_
   rintro e w' ⟨rfl,rfl⟩;rw [HP.out];go_wp2;go_ret;exact ⟨rfl,rfl⟩
 . have d3:((c.toNat:Int) == 95)=false:=by first | exact DY aE | exact beq_eq_false_iff_ne.2 aE
   by_cases h4:c.toNat=46
   . have d4:((c.toNat:Int) == 46)=true:=by first | exact DZ aE | exact beq_iff_eq.2 aE
     rw [show decide ((65<=c.toNat/\c.toNat<=90)\/c.toNat=95\/c.toNat=46\/c.toNat=45)=true from DZ aE];clear hc
     (try clear h3)
     (try clear h4)
     (try clear h5)
     go_enter Tryz.func177,Tryz.ntmps177;go_wp2_with fail
     refine (eJ c _).mono ?_
     rintro e w' ⟨rfl,rfl⟩;rw [HP.out];go_wp2;go_ret;exact ⟨rfl,rfl⟩
   . have d4:((c.toNat:Int) == 46)=false:=by first | exact DY aE | exact beq_eq_false_iff_ne.2 aE
     by_cases h5:c.toNat=45
     . have d5:((c.toNat:Int) == 45)=true:=by first | exact DZ aE | exact beq_iff_eq.2 aE
       rw [show decide ((65<=c.toNat/\c.toNat<=90)\/c.toNat=95\/c.toNat=46\/c.toNat=45)=true from DZ aE];clear hc
       (try clear h3)
       (try clear h4)
       (try clear h5)
       go_enter Tryz.func177,Tryz.ntmps177;go_wp2_with fail
       refine (eJ c _).mono ?_
       rintro e w' ⟨rfl,rfl⟩;rw [HP.out];go_wp2;go_ret;exact ⟨rfl,rfl⟩
     . have d5:((c.toNat:Int) == 45)=false:=by first | exact DY aE | exact beq_eq_false_iff_ne.2 aE
       rw [show decide ((65<=c.toNat/\c.toNat<=90)\/c.toNat=95\/c.toNat=46\/c.toNat=45)=false from DY aE];clear hc
       (try clear h3)
       (try clear h4)
       (try clear h5)
       go_enter Tryz.func177,Tryz.ntmps177;go_wp2_with fail
       refine (eJ c _).mono ?_
       rintro e w' ⟨rfl,rfl⟩;rw [HP.out];go_wp2;go_ret
       exact ⟨rfl,rfl⟩):P:=h
theorem Xa {P:Prop} (h:P:=by
 clear hE;go_wp2_with fail;clear r0 r1 r2 r3;go_loopw [3,5] (fun nv kv wr=>∃ (k:Nat) (n:Int),k<=ss.length/\kv=.int .i64 k/\nv=.int .i64 n/\0<=n/\n<=1125899906842624/\Hid (n<=12000->Bd ts gs ss)/\aB w1 wr) (fun _ kv _=>ss.length - (intOf kv).toNat)
 case atStart=>exact ⟨0,n,aE,rfl,rfl,aE,NV,VL,IA.out⟩
 case round =>
  clear IA VL
  rename World=>wr
  obtain ⟨k,m,hk,rfl,rfl,NE,TE,VL,IF⟩:=hrel;have IA:=DX IF;obtain ⟨r0,r1,r2,r3⟩:=JK.out _ IF;clear IF
  by_cases IE:k<ss.length
  . have GU:decide (k<ss.length)=true:=DZ IE
    have KG:decide ((k:Int)<(ss.length:Int))=true:=DZ aE
    by_cases hn:m<1048576
    . have JH:decide (m<1048576)=true:=DZ hn
      have IG:=MN.out.size k IE;obtain ⟨bt,of,rfl,JC⟩:=MN.out.at aE;obtain ⟨_,c1⟩:=JC k IE wr (HK.out.trans IA.out);clear JC
      generalize (ss.getD k bQ).t=x at *
      obtain ⟨m1,WN⟩:∃ m1,m1=m+(x.size:Int):=⟨_,rfl⟩
      have SL:IntKind.i64.wrap (m+(x.size:Int))=m1:=by rw [IntWalk.i64_in _ aE];exact WN.symm
      have IM:0<=m1/\m1<=1125899906842624/\m<=m1:=by omega
      obtain ⟨IM,ZI,RD⟩:=IM;clear WN;go_wp2_with fail;clear SL;go_roundw
      case rel=>exact ⟨k+1,m1,aE,by go_num,rfl,IM,ZI,DX (fun h=>VL.out aE),IA.out⟩
      case measure=>simp [intOf];omega
    . have JH:decide (m<1048576)=false:=DY hn
      go_wp2_with fail;go_ret;exact ⟨_,rfl,NE,VL.out,HK.out.trans IA.out⟩
  . have GU:decide (k<ss.length)=false:=DY IE
    have KG:decide ((k:Int)<(ss.length:Int))=false:=DY aE;go_wp2_with fail;go_ret
    exact ⟨_,rfl,NE,VL.out,HK.out.trans IA.out⟩):P:=h
theorem Xj {P:Prop} (h:P:=by
 go_wp2_with fail
 refine OO.out.mono ?_
 rintro e w4 ⟨rfl,MB,KB⟩;have LZ:=DX MB;have RM:=DX ((FA GC.out GY).trans KB);have IW:=DX (KB.blk _ _ _ JG.out aE aF aF aF);clear MB KB OO;obtain ⟨aT4,cT4,aG4,cG4,aS4,cS4,IM,oT4,oG4,oS4⟩:=LZ.out.rows;dsimp only at IM oT4 oG4 oS4;obtain ⟨g4,rfl⟩:=cA oS4 aE;have HD:=DX (El base g4 cS4 z ss aE aE w4 oS4);have KF:=DX IM;have PG:=DX oS4;obtain ⟨r0,r1,r2,r3⟩:=aI KF.out;clear IM oT4 oG4 oS4;go_wp2_with fail
 refine HD.out.mono ?_
 rintro e w5 ⟨rfl,FU,IB⟩;have MC:=dX.of PG.out;have XS:=DX (aM KF.out IB (MC.ne KF.out aF));obtain ⟨hq6,hf6⟩:=LZ.out.putS hp (ss.eraseIdx z) IB MC FU;have HQ6:=DX hq6;have HF6:=DX (RM.out.trans hf6);have NR:=DX (hf6.blk _ _ _ IW.out aE aF aF aF);clear r0 r1 r2 r3 FU IB MC hq6 hf6 HD PG;obtain ⟨r0,r1,r2,r3⟩:=aI XS.out;have f0:=XS.out.free 2
 go_upto_region 11 with (fail)
 generalize w5.setCell ⟨p,2,none⟩ (.slice (some ⟨g4,0,none⟩) (ss.eraseIdx z).length cS4)=w6 at *;clear r0 r1 r2 r3 f0;go_wp2_with (refine aD rfl 47 (.tmp 4) (.tmp 58) rfl (w.heap.size+1) (bB (dY (X.size:Int))) LR 47 rfl rfl NR.out AX rfl (aL _) ?_)
 refine EI (v:=bW (dY (X.size:Int))) ?_ rfl ?_
 . exact EH rfl _ _ (w.heap.size+1) 47 (bB (dY (X.size:Int))) (0,0) _ rfl (NR.out.setRow _) EV rfl AX
 . rw [HX.out,GI.out];exact ⟨rfl,HQ6.out.setRow NR.out aF aF aF aF _,HF6.out.setRow (ED _) GY _⟩):P:=h
theorem Ym {P:Prop} (h:P:=by
 as_aux_lemma =>
  have SJ:=aU UV.out.row IS.out.grown aE;have c1:=IS.out.cell k aE;have f1:=IS.out.free k;have c2:=SJ.cell k;rw [cR _ _ (by rw [UV.out.ok.len];omega)] at c2;have c3:=SJ.cell (8+k);rw [cR _ _ (by rw [UV.out.ok.len];omega)] at c3;have l1:=IS.out.ok.at k;have l2:=UV.out.ok.at k;have l3:=UV.out.ok.at (8+k);have e1:=wM _ _ l2 l3;have e2:=wM _ _ l1 (Bl.xor_lt l2 l3)
  have GL:∀ nq,V8 _ ps (Bl.fin h v (k+1)) ((wr.drewN nq).setCell ⟨ps,k,none⟩ (.int .u32 (((Bl.fin h v k).getD k 0 ^^^ (v.getD k 0 ^^^ v.getD (8+k) 0):Nat):Int))):=fun nq=>by
   have q:=IS.out.put nq k (Bl.xor_lt l1 (Bl.xor_lt l2 l3));rw [show (Bl.fin h v k).set k ((Bl.fin h v k).getD k 0 ^^^ (v.getD k 0 ^^^ v.getD (8+k) 0))=Bl.fin h v (k+1) by rw [<- Nat.xor_assoc];rfl] at q;exact q
  have IN:=DX GL;clear GL SJ l1 l2 l3
  generalize (Bl.fin h v k).getD k 0 ^^^ (v.getD k 0 ^^^ v.getD (8+k) 0)=z at *
  generalize v.getD k 0 ^^^ v.getD (8+k) 0=y at *;generalize v.getD (8+k) 0=x3 at *;generalize v.getD k 0=x2 at *
  generalize (Bl.fin h v k).getD k 0=x1 at *
  go_wp2_with fail
  refine (wpIn_wide (n:=0)).1 ?_
  refine wpIn_region_quiet_tail_lit 13 aW aW aW ?_
  simp only [List.take_succ_cons,List.take_zero,List.drop_succ_cons,List.drop_zero]
  repeat (gi_big_quiet_step (fail))
  refine wpQuietIn_nil ?_
  intro _ GD;obtain ⟨nq,FT⟩:=GD;subst FT;gi_wp2;go_wp2;go_roundw
  case rel=>exact ⟨k+1,aE,by go_num,IN.out nq⟩
  case measure=>simp [intOf];omega):P:=h
theorem Va {P:Prop} (h:P:=by
 go_enter Tryz.func66,Tryz.ntmps66
 go_upto_region 1 with (fail)
 rw [ZE.out];go_quiet (fail);have JM:=DX (HR.out.kept ((EX w1).drewN nq));have JQ:=DX (QT.out.drewN nq);generalize w1.drewN nq=w9 at *;go_wp2_with (refine aD rfl 85 (.tmp 2) (.tmp 29) rfl _ (LM 0 none 0 0 none 0 0) (LM 0 none 0 0 none 0 0) 85 rfl rfl JM.out BB rfl (wR _ _ _ _ _ _ _) ?_)
 refine EI (v:=.tuple #[.agg (LM 0 none 0 0 none 0 0),.bool false]) ?_ rfl ⟨fun _=>rfl,(fun m e=>by cases e),JQ.out.setRow aE _⟩
 exact cB rfl _ _ w.heap.size 85 (LM 0 none 0 0 none 0 0) _ rfl (JM.out.setRow _) EQ rfl BB _ rfl):P:=h
theorem Vz {P:Prop} (h:P:=by
 cases ub with
 | false =>
  have HE:=DX (show (ts.take (k+1)).filter (qM d)=FK by rw [IX.out];simp);clear IX c0 c1 c2;go_wp2_with fail;go_roundw
  case rel=>exact ⟨k+1,aE,by go_num,by rw [HE.out];exact US.out,IQ.out⟩
  case measure=>simp [intOf];omega
 | true =>
  have HE:=DX (show (ts.take (k+1)).filter (qM d)=FK++[x] by rw [IX.out];simp);have hz5:=IQ.out.size;obtain ⟨xd,xt,xm⟩:=x;dsimp only at c0 c1 c2;clear IX;go_wp2_with (at_builtin;refine dC rfl _ _ 72 rfl wo.heap.size 9 i0 (.string ByteArray.empty) 16 EP HI.out.1 HI.out.2.1 HI.out.2.2.1 HI.out.2.2.2 rfl _ _ _ rfl (aH US.out ((EX w5).alloc _)) (some ⟨w5.heap.size,0,none⟩) 1 1 [.string xd] rfl (kP w5 _ _ rfl) ?c1 ?c2 ?c3 ?_)
  case c1=>unfold maxLen;omega
  case c2=>omega
  case c3=>rw [World.size_alloc];omega
  intro v' w6 FU IB _
  have ka:=(EX w5).alloc (.cells #[.string xd] 9)
  have NO:=DX (fO (IQ.out.trans ka) IB (fun r e=>((aH US.out ka).lt r e).1))
  have HD6:=DX (show w6.ownsRow wo.heap.size 9 1 v' (FK++[(⟨xd,xt,xm⟩:Th)]).length ((FK++[(⟨xd,xt,xm⟩:Th)]).map fun x:Th=>Value.string x.d) by
   rw [List.length_append,List.map_append];exact FU)
  obtain ⟨av6,cv6,rfl⟩:=aP FU;clear ka FU IB c0 c1 c2;go_wp2_with fail;go_roundw
  case rel=>exact ⟨k+1,aE,by go_num,by rw [HE.out];exact HD6.out,NO.out⟩
  case measure=>simp [intOf];omega):P:=h
theorem Xo {P:Prop} (h:P:=by
 go_wp2_with fail
 refine (dD _ _).mono ?_
 rintro e w' ⟨rfl,rfl⟩;go_wp2;go_roundw
 case rel=>exact ⟨k+1,aE,by go_num,by rw [IX.out,HA.out,HV.out];rfl,by trivial⟩
 case measure=>simp [intOf];omega):P:=h
theorem Vt {P:Prop} (h:P:=by
 obtain ⟨C,hC⟩:∃ C,C=oC x.d d:=⟨_,rfl⟩
 rw [<- hC] at PB MU QI;have HC:=DX QI;have HCL:=DX PB;clear hC QI PB
 by_cases hlx:C<0
 . have JH:decide (C<0)=true:=DZ hlx
   have QB:=DX (HCL.out.symm.trans JH);go_wp2_with fail
   refine (HC.out _).mono ?_
   rintro e w2 ⟨rfl,FX⟩;have FW:=DX (HK.out.trans FX);clear FX c0 c1 c2;go_wp2_with fail;go_roundw
   case rel =>
    refine ⟨(lo+hi) / 2+1,hi,by go_num,rfl,aE,hhl,DX ⟨fun q hq=>?_,HI.out.2⟩,FW.out⟩
    by_cases e:q=(lo+hi) / 2
    . rw [e,<- HX.out];exact QB.out
    . exact eV (HR.out ((lo+hi) / 2) q aE aE) (by rw [<- HX.out];exact QB.out)
   case measure=>simp [intOf];omega
 . have JH:decide (C<0)=false:=DY hlx
   have QB:=DX (HCL.out.symm.trans JH);go_wp2_with fail
   refine (HC.out _).mono ?_
   rintro e w2 ⟨rfl,FX⟩;have FW:=DX (HK.out.trans FX);clear FX c0 c1 c2;go_wp2_with fail;go_roundw
   case rel =>
    refine ⟨lo,(lo+hi) / 2,rfl,by go_num,aE,aE,DX ⟨HI.out.1,fun q h1 h2=>?_⟩,FW.out⟩
    cases hq:cZ (ts.getD q aX).d d with
    | false=>rfl
    | true =>
     have hxx:cZ x.d d=true:=by
      by_cases e:q=(lo+hi) / 2
      . rw [HX.out,<- e];exact hq
      . exact eV (by rw [HX.out];exact HR.out q ((lo+hi) / 2) aE h2) hq
     rw [QB.out] at hxx;cases hxx
   case measure=>simp [intOf];omega):P:=h
theorem Yx {P:Prop} (h:P:=by
 go_wp2_with fail
 refine (HPT.out _).mono ?_
 rintro e w' ⟨rfl,rfl⟩
 cases PK:eM (eO (aR s).data.toList k) with
 | false =>
  have HB:=DX (show dV s=false by rw [HNW.out,HGD.out,lH _ k PK _ HKN.out,Bool.and_false]);go_wp2;go_ret3;exact ⟨HNR.out _ _ (.inr ⟨HB.out,rfl⟩),HKq.out.trans HKr.out⟩
 | true =>
  have HGN:=DX (show hQ (aR s).data.toList (k+1)=true by rw [qV,HGT.out,PK];rfl);go_wp2_with (at_builtin;refine wpList_append_own_at _ rfl _ _ 72 rfl wq.heap.size 9 i0 (.string ByteArray.empty) 1 16 EP HI.out.1 HI.out.2.1 HI.out.2.2.1 HI.out.2.2.2 rfl aF _ _ _ rfl (HO.out.alloc _) ⟨wr.heap.size,0,none⟩ 1 1 [.string ((aR s).extract f i)] rfl rfl ?c1 ?c2 ?c3 ?c4 ?c5 ?_)
  case c1 =>
   intro j' u RS
   match j',RS with
   | 0,RS=>simp at RS;subst RS;simp [Addr.add]
  case c2=>intro u hu;simp at hu;subst hu;rfl
  case c3=>unfold maxLen;omega
  case c4=>omega
  case c5=>have:=HKr.out.size;simp;omega
  intro v' w9 GS GB _ _;have XQ:=DX GS;have JQ:=DX (show aB wq w9 from cD (HKr.out.alloc (.cells #[.string ((aR s).extract f i)] 9)) GB (fun g e=>(HO.out.lt g e).1) (EA _));clear GS GB;go_wp2;go_roundw
  case rel=>exact ⟨k+1,i+1,by rw [SD.out];go_num,by go_num,QV.out,HGN.out,by rw [wG (aR s) k HKN.out,HPC.out,List.map_take];exact XQ.out,JQ.out⟩
  case measure=>simp [intOf];omega):P:=h
theorem Xb {P:Prop} (h:P:=by
 go_wp2_with fail
 refine (HPT.out _).mono ?_
 rintro e w' ⟨rfl,rfl⟩
 cases PK:eM (eO s.data.toList k) with
 | false =>
  have HB:=DX (show dV s=false by rw [HNW.out,HGD.out,lH _ k PK _ HKN.out,Bool.and_false]);go_wp2;go_ret3;exact ⟨HNR.out _ _ (.inr ⟨HB.out,rfl⟩),HKq.out.trans HKr.out⟩
 | true =>
  have HGN:=DX (show hQ s.data.toList (k+1)=true by rw [qV,HGT.out,PK];rfl);go_wp2_with (at_builtin;refine wpList_append_own_at _ rfl _ _ 72 rfl wq.heap.size 9 i0 (.string ByteArray.empty) 1 16 EP HI.out.1 HI.out.2.1 HI.out.2.2.1 HI.out.2.2.2 rfl aF _ _ _ rfl (HO.out.alloc _) ⟨wr.heap.size,0,none⟩ 1 1 [.string (s.extract f i)] rfl rfl ?c1 ?c2 ?c3 ?c4 ?c5 ?_)
  case c1 =>
   intro j' u RS
   match j',RS with
   | 0,RS=>simp at RS;subst RS;simp [Addr.add]
  case c2=>intro u hu;simp at hu;subst hu;rfl
  case c3=>unfold maxLen;omega
  case c4=>omega
  case c5=>have:=HKr.out.size;simp;omega
  intro v' w9 GS GB _ _;have XQ:=DX GS;have JQ:=DX (show aB wq w9 from cD (HKr.out.alloc (.cells #[.string (s.extract f i)] 9)) GB (fun g e=>(HO.out.lt g e).1) (EA _));clear GS GB;go_wp2;go_roundw
  case rel=>exact ⟨k+1,i+1,by rw [SD.out];go_num,by go_num,QV.out,HGN.out,by rw [wG s k HKN.out,HPC.out,List.map_take];exact XQ.out,JQ.out⟩
  case measure=>simp [intOf];omega):P:=h
theorem Wq {P:Prop} (h:P:=by
 simp only [iU] at ho;subst ho;have l7:=FZ 7 aW;obtain ⟨a7,c7,e7⟩:=HJ.out.h 7 l7;have l13:=FZ 13 aW;obtain ⟨g13,e13⟩:=HJ.out.h 13 l13;obtain ⟨gx,eg,hgb⟩:=ID.out.b1 l13 FY;have FU:=ID.out.c1 l7 FY;rw [e7] at FU;rw [e13] at eg;cases eg
 refine Pj.Za.free rfl ?_
 simp only [Pj.PU,Act.put,e7,e13]
 refine Pj.Zm _ _ 23 rfl wq.heap.size 68 i0 (.agg LE) 2 32 ET HI.out.1 HI.out.2.1 HI.out.2.2.1 HI.out.2.2.2 rfl aF (.slice a7 k c7) k ((gs.take k).flatMap eN) rfl FU (some ⟨g13,0,none⟩) 1 1 [.string GE,.string od] rfl (fun e=>by cases e) rfl (fun ad e j u hj=>by cases e;exact Pj.Zo hgb j u hj) (by intro u hu;simp at hu;rcases hu with rfl | rfl <;> rfl) aE aF HJ.out.kp.size ?_
 intro v' w' LU GB;obtain ⟨a6,c6,rfl⟩:=aP LU;simp only [dO,Act.put]
 exact IH aF _ _ ⟨Pj.Yz V 14 (.slice a6 (k+1) c6),by simp only [Pj.PU,Act.put,Pj.Yz,Nat.reduceEqDiff,if_true,if_false,e7,e13],HJ.out.flat HP.out hL (cD HJ.out.kp GB (fun q e=>(FU.lt q e).1) (EA _)) (GB.size) (⟨_,_,rfl⟩),ID.out.one FY l7 l13 aF aF aF hL LU⟩):P:=h
theorem Yf {P:Prop} (h:P:=by
 obtain ⟨x0,x1,x2,x3⟩:=aI H620.out;obtain ⟨r0,r1,r2,r3⟩:=aI SM.out.h1;go_wp2_with fail
 refine (XM.out i1 i2 i3 j1 j2 j3 w20 (GC.out.trans ME.out) (IJ.out.1.kept ME.out) (IJ.out.2.1.kept ME.out) (IJ.out.2.2.kept ME.out)).mono ?_
 rintro e w21 ⟨rfl,UG⟩;clear x0 x1 x2 x3 r0 r1 r2 r3 XM;have VM:=DX (SM.out.kept UG);have HKw:=DX ((GC.out.trans ME.out).trans UG);clear UG;obtain ⟨r0,r1,r2,r3⟩:=aI VM.out.h1;go_wp2_with (refine aD rfl 26 (.tmp 4) (.tmp 75) rfl (wo.heap.size+1+1) (LS aT ts.length cT aG gs.length cG aS ss.length cS nx) LN 26 rfl rfl VM.out.h3 AY rfl (by simp [Value.oneCell']) ?_);have HKz:=DX (FC HKw.out (g:=wo.heap.size+1+1) aE (LS aT ts.length cT aG gs.length cG aS ss.length cS nx))
 refine EI (v:=.tuple #[.agg (LS aT ts.length cT aG gs.length cG aS ss.length cS nx),.bool true]) ?_ rfl ⟨ts,gs,ss,nx,aT,aG,aS,cT,cG,cS,rfl,HOO.out.kept HKz.out,HZL.out,VL.out,HKz.out⟩
 exact cB rfl _ _ (wo.heap.size+1+1) 26 (LS aT ts.length cT aG gs.length cG aS ss.length cS nx) _ rfl (VM.out.h3.setRow _) EW rfl AY _ rfl):P:=h
theorem Yv {P:Prop} (h:P:=by
 simp only [iU] at ho;subst ho;have l14:=FZ 14 aW;obtain ⟨a14,c14,e14⟩:=HJ.out.h 14 l14;have l20:=FZ 20 aW
 have e20:V 20=.slice aq (gs.length - k) (cG4 - k):=HJ.out.h 20 l20
 have FU:=ID.out.p1 l14 FY;rw [e14] at FU;have LX:=NS.out w HJ.out.kp
 refine Pj.Za.free rfl ?_
 simp only [Pj.PU,Act.put,e14,e20]
 refine Pj.Zm _ _ 23 rfl wq.heap.size 68 i0 (.agg LE) 2 32 ET HI.out.1 HI.out.2.1 HI.out.2.2.1 HI.out.2.2.2 rfl aF (.slice a14 (k+1) c14) (k+1) (((gs.take k).flatMap eN)++[.string GE,.string od]) rfl FU aq (gs.length - k) (cG4 - k) ((gs.drop k).flatMap eN) rfl SQ.out LX.1 LX.2 (fun u hu=>lP _ u hu) aE aF HJ.out.kp.size ?_
 intro v' w' LU GB;obtain ⟨a6,c6,rfl⟩:=aP LU;simp only [dO,Act.put]
 exact IH aF _ _ ⟨Pj.Yz V 21 (.slice a6 (k+1+(gs.length - k)) c6),by simp only [Pj.PU,Act.put,Pj.Yz,Nat.reduceEqDiff,if_true,if_false,e14,e20],HJ.out.flat HP.out hL (cD HJ.out.kp GB (fun q e=>(FU.lt q e).1) (EA _)) (GB.size) (⟨_,_,rfl⟩),ID.out.tail l14 aF hL LU⟩):P:=h
theorem Wc {P:Prop} (h:P:=by
 go_enter Tryz.func177,Tryz.ntmps177;go_wp2_with fail
 refine (eJ c _).mono ?_
 rintro e w' ⟨rfl,rfl⟩;rw [HP.out];go_wp2;go_ret
 exact ⟨rfl,rfl⟩):P:=h
theorem Xx {P:Prop} (h:P:=by
 rintro l ⟨ii,hi⟩ W K hK;have HK:=DX hK;clear hK;have ZB:=DX (fun W=>On (Ic (aR s) ii) W (by have:=pO (aR s) ii;have:=XT.out;omega));rw [sY] at ZB;have HAL:=DX (fun pre=>show (lU (pre++[(⟨ii,hi⟩:{ k:Nat // k<fA (aR s).data.toList })])).all (fun i=>eM (eO (aR s).data.toList i))=((lU pre).all (fun i=>eM (eO (aR s).data.toList i))&&eM (eO (aR s).data.toList ii)) by rw [dJ,List.all_append];simp);gi_wp2
 refine HK.out _ ?_
 clear HK;rintro l pre W ⟨GH,PR⟩ GM;have HC:=DX PR;have HA:=DX GH;clear PR GH;gi_wp2_with fail;refine ⟨trivial,(CallsIn.inRound l (callsIn_wide.2 (ZB.out _))).mono ?_⟩;rintro e W5 ⟨rfl,GZ⟩;have ZW:=DX (HC.out.kept GZ);have MH:=DX GZ;clear GZ
 cases PK:eM (eO (aR s).data.toList ii) with
 | true =>
  gi_wp2;exact ⟨dR MH.out,aV.of_kept MH.out,by rw [HAL.out,HA.out,PK];rfl,ZW.out⟩
 | false =>
  obtain ⟨⟨c0,c1,c2⟩,f0,f1,f2⟩:=ZW.out.cells;gi_wp2
  exact ⟨(((dR MH.out).trans (KeepsOthers.setCell _ ⟨p,0,none⟩ _)).trans (KeepsOthers.setCell _ ⟨p+1,0,none⟩ _)).trans (KeepsOthers.setCell _ ⟨p+2,0,none⟩ _),⟨rfl,⟨ii,hi⟩,by simp,PK⟩,((ZW.out.setX ⟨#[]⟩).setY ⟨#[]⟩).setZ false⟩):P:=h
theorem Ll {P:Prop} (h:P:=by
 refine EI (v:=bW (fT)) ?_ rfl ?_
 . exact EH rfl _ _ (wo.heap.size+1) 47 (bB (fT)) (0,0) _ rfl (KE.out.setRow _) EV rfl AX
 . rw [HX.out,GI.out];exact ⟨rfl,SC.out.setRow KE.out aF aF aF aF _,LC.out.setRow (ED _) GY _⟩):P:=h
theorem Vy {P:Prop} (h:P:=by
 go_wp2_with (refine aD rfl 85 (.tmp 2) (.tmp 58) rfl _ (LM 0 none 0 0 none 0 0) (LM 0 none 0 0 none 0 0) 85 rfl rfl NR.out BB rfl (wR _ _ _ _ _ _ _) ?_);have ST:=DX (NR.out.setRow (LM 0 none 0 0 none 0 0));have SU:=DX (FC NO.out (g:=p) (by have:=HPW.out;omega) (LM 0 none 0 0 none 0 0));have HSD:=DX ((setRow_other w6 p D (LM 0 none 0 0 none 0 0) aE).trans HD6.out);generalize w6.setRow p (LM 0 none 0 0 none 0 0)=w8 at *;refine ⟨by simp,.inl ⟨_,_,rfl,run_takeDeferred HSD.out,?_⟩⟩;refine ⟨_,cB rfl _ _ p 85 (LM 0 none 0 0 none 0 0) _ rfl (aM ST.out (cK w8 D (.deferred none)) (by simp;omega)) EQ rfl BB _ rfl,?_⟩;refine ⟨fun _=>rfl,(fun m e=>by rw [HO.out] at e;cases e),?_⟩
 exact Below.grown SU.out (cK w8 D (.deferred none)) (by have:=SU.out.size;simp;omega) (fun k e=>by cases e;have:=HPW.out;omega)):P:=h
theorem xT {P:Prop} (h:P:=by
 exact EH rfl _ _ (wo.heap.size+1) 47 (bB (aY 3)) (0,0) _ rfl (GK.out.setRow _) EV rfl AX):P:=h
theorem Wf {P:Prop} (h:P:=by
 clear XE;clear rT zT rG zG rS zS oT oG oS Q hb hs IY GV GJ GO;go_enter Tryz.func80,Tryz.ntmps80
 go_upto_region 1 with (fail)
 generalize (wo.alloc ((KO 1 oi on om GE od ot))).alloc (KR)=w1 at *
 have b0:w1.cell? ⟨wo.heap.size,0,none⟩=some (.int .i64 1):=HB.out.cell 0;obtain ⟨r0,r1,r2,r3⟩:=aI (HP.out.kept HK.out);go_wp2_with (refine aD rfl 47 (.tmp 4) (.tmp 24) rfl (wo.heap.size+1) (bB (aY 2)) LR 47 rfl rfl HR.out AX rfl (aL _) ?_)
 refine EI (v:=bW (aY 2)) ?_ rfl ?_
 . exact EH rfl _ _ (wo.heap.size+1) 47 (bB (aY 2)) (0,0) _ rfl (HR.out.setRow _) EV rfl AX
 . rw [HX.out,GI.out];exact ⟨rfl,(HQ.out.kept HK.out).setRow HR.out aF aF aF aF _,(FA HK.out GY).setRow (ED _) GY _⟩):P:=h
theorem Wu {P:Prop} (h:P:=by
 simp only [iU] at ho;have e0:V 0=_:=WB (FZ 0 (by rw [<- ho];kernel_rfl));subst ho;obtain ⟨⟨c0,c1,c2⟩,f0,f1,f2⟩:=hC.cells;have HCx:=DX (hC.setX (aR s));have QD:=DX WB;have NI:=DX WC;have XJ:=DX QH;have HDx:=DX (fun v=>oY (v:=v) (b:=p) UX aE);clear hC WB WC QH UX
 refine Pj.Za.free rfl ?_
 simp only [Pj.Zb,dO,Act.put,e0];go_simp
 exact hK _ _ ⟨V,c,by simp only [Pj.Zb,dO,Act.put,e0],fun h=>QD.out (((hL 0).1 h).resolve_left aF),fun h=>NI.out (((hL 1).1 h).resolve_left aF),fun h=>XJ.out (((hL 4).1 h).resolve_left aF),HCx.out,HDx.out _⟩):P:=h
theorem Wp {P:Prop} (h:P:=by
 obtain ⟨C,hC⟩:∃ C,C=oC x.d d:=⟨_,rfl⟩
 rw [<- hC] at hcz QI;have HC:=DX QI;have ZX:=DX hcz;clear hC QI hcz
 by_cases hz:C=0
 . have UQ:=DX (show F=true by
    rw [LC.out,<- SA.out,OS.out]
    exact DZ ⟨QK,by rw [<- HX.out];exact ZX.out.1 hz⟩)
   subst hz;go_wp2_with fail
   refine (HC.out _).mono ?_
   rintro e w2 ⟨rfl,FX⟩;have FW:=DX (HK.out.trans FX);clear FX c0 c1 c2;go_wp2_with fail;go_ret2;rw [UQ.out,OS.out];exact ⟨rfl,FW.out⟩
 . have hze:(C == 0)=false:=by simpa using hz
   have UQ:=DX (show F=false by
    rw [LC.out,<- SA.out,OS.out]
    exact DY (fun e=>hz (ZX.out.2 (by rw [HX.out];exact e.2))))
   go_wp2_with fail
   refine (HC.out _).mono ?_
   rintro e w2 ⟨rfl,FX⟩;have FW:=DX (HK.out.trans FX);clear FX c0 c1 c2;go_wp2_with fail;go_ret2;rw [UQ.out,OS.out]
   exact ⟨rfl,FW.out⟩):P:=h
theorem Wb {P:Prop} (h:P:=by
 go_enter Tryz.func69,Tryz.ntmps69
 go_upto_region 1 with (fail)
 generalize w.alloc (KR)=w1 at *;obtain ⟨r0,r1,r2,r3⟩:=aI (HP.out.kept HK.out);go_wp2_with fail
 refine (bU 2 _).mono ?_
 rintro e w9 ⟨rfl,GF⟩;have JQ:=DX (HK.out.trans GF);have JM:=DX (HR.out.kept GF);clear GF;go_wp2_with (refine aD rfl 47 (.tmp 2) (.tmp 17) rfl (w.heap.size) (bB (aY 2)) LR 47 rfl rfl JM.out AX rfl (aL _) ?_)
 refine EI (v:=bW (aY 2)) ?_ rfl ?_
 . exact EH rfl _ _ (w.heap.size) 47 (bB (aY 2)) (0,0) _ rfl (JM.out.setRow _) EV rfl AX
 . rw [HX.out,GI.out];exact ⟨rfl,(HQ.out.kept JQ.out).setRow JM.out aF aF aF aF _,(FA JQ.out GY).setRow (EA _) GY _⟩):P:=h
theorem yX {P:Prop} (h:P:=by
 exact EH rfl _ _ (w.heap.size+1) 47 (bB (aY 3)) (0,0) _ rfl (JM.out.setRow _) EV rfl AX):P:=h
theorem Wr {P:Prop} (h:P:=by
 rw [<- hC] at hcz QI;have HC:=DX QI;have ZX:=DX hcz;clear hC QI hcz
 by_cases hz:C=0
 . have UQ:=DX (show F=true by
    rw [LC.out,<- SA.out,OS.out]
    exact DZ ⟨QK,by rw [<- HX.out];exact ZX.out.1 hz⟩)
   subst hz;go_wp2_with fail
   refine (HC.out _).mono ?_
   rintro e w2 ⟨rfl,FX⟩;have FW:=DX (HK.out.trans FX);clear FX c0 c1;go_wp2_with fail;go_ret2;rw [UQ.out,OS.out];exact ⟨rfl,FW.out⟩
 . have hze:(C == 0)=false:=by simpa using hz
   have UQ:=DX (show F=false by
    rw [LC.out,<- SA.out,OS.out]
    exact DY (fun e=>hz (ZX.out.2 (by rw [HX.out];exact e.2))))
   go_wp2_with fail
   refine (HC.out _).mono ?_
   rintro e w2 ⟨rfl,FX⟩;have FW:=DX (HK.out.trans FX);clear FX c0 c1;go_wp2_with fail;go_ret2;rw [UQ.out,OS.out]
   exact ⟨rfl,FW.out⟩):P:=h
theorem Vs {P:Prop} (h:P:=by
 by_cases h3:48<=c.toNat
 . have d3:decide ((48:Int)<=(c.toNat:Int))=true:=DZ aE
   by_cases h4:c.toNat<=57
   . have d4:decide ((c.toNat:Int)<=57)=true:=DZ aE
     rw [show lE c=true from DZ aE];clear hc;go_enter Tryz.func179,Tryz.ntmps179;go_wp2;go_ret;exact ⟨rfl,rfl⟩
   . have d4:decide ((c.toNat:Int)<=57)=false:=DY aE
     rw [show lE c=false from DY aE];clear hc;go_enter Tryz.func179,Tryz.ntmps179;go_wp2;go_ret;exact ⟨rfl,rfl⟩
 . have d3:decide ((48:Int)<=(c.toNat:Int))=false:=DY aE
   rw [show lE c=false from DY aE];clear hc;go_enter Tryz.func179,Tryz.ntmps179;go_wp2;go_ret
   exact ⟨rfl,rfl⟩):P:=h
theorem Xy {P:Prop} (h:P:=by
 have HVB:=DX hV;rw [<- hV] at hf2;have HF:=DX hf2;have HR:=DX (aU HE9.out hf2.grown aE);have SA:=DX (hf2.kept JQ.out (by have:=XT.out;omega));clear hf hf2 IS hV
 go_wp2_with (first
  | (refine wpList_load_row rfl 102 (.tmp 4) rfl ps rfl 102 (cw V) (0,0) _ HF.out.row ES rfl (by rw [eL HF.out.ok];exact AZ) ?_)
  | (refine aD rfl 102 (.tmp 8) (.tmp 132) rfl (ps+1) (cw V) z8 102 rfl rfl HR.out (by rw [eL HF.out.ok];exact AZ) (by rw [eL HF.out.ok];exact xK) (iT _) ?_))
 refine EI (v:=.agg (cw V)) ?_ rfl ⟨by rw [HVB.out],SA.out.setRow (by have:=XT.out;omega) _⟩
 exact EH rfl _ _ (ps+1) 102 (cw V) (0,0) _ rfl (HR.out.setRow _) ES rfl (by rw [eL HF.out.ok];exact AZ)):P:=h
theorem Xh {P:Prop} (h:P:=by
 simp only [iU] at ho;subst ho;obtain ⟨⟨c0,c1,c2⟩,f0,f1,f2⟩:=hC.cells;have HCx:=DX (hC.setZ true);have QD:=DX WB;have NI:=DX WC;have XJ:=DX QH;have HDx:=DX (fun v=>oY (v:=v) (b:=p+2) UX aE);clear hC WB WC QH UX
 refine Pj.Za.free rfl ?_
 simp only [Pj.Zb,dO,Act.put];go_simp
 exact hK _ _ ⟨V,true,by simp only [Pj.Zb,dO,Act.put],fun h=>QD.out (((hL 0).1 h).resolve_left aF),fun h=>NI.out (((hL 1).1 h).resolve_left aF),fun _=>rfl,HCx.out,HDx.out _⟩):P:=h
theorem Vn {P:Prop} (h:P:=by
 by_cases h3:48<=c.toNat
 . have d3:decide ((48:Int)<=(c.toNat:Int))=true:=DZ aE
   by_cases h4:c.toNat<=57
   . have d4:decide ((c.toNat:Int)<=57)=true:=DZ aE
     rw [show lE c=true from DZ aE];clear hc;go_enter Tryz.func95,Tryz.ntmps95;go_wp2;go_ret;exact ⟨rfl,rfl⟩
   . have d4:decide ((c.toNat:Int)<=57)=false:=DY aE
     rw [show lE c=false from DY aE];clear hc;go_enter Tryz.func95,Tryz.ntmps95;go_wp2;go_ret;exact ⟨rfl,rfl⟩
 . have d3:decide ((48:Int)<=(c.toNat:Int))=false:=DY aE
   rw [show lE c=false from DY aE];clear hc;go_enter Tryz.func95,Tryz.ntmps95;go_wp2;go_ret
   exact ⟨rfl,rfl⟩):P:=h
theorem Yg {P:Prop} (h:P:=by
 obtain rfl:=EB ho;have l23:=FZ 23 aW
 have e23:V 23=.pointer (some ⟨p,1,none⟩):=HJ.out.h 23 l23
 have l21:=FZ 21 aW;obtain ⟨a21,c21,e21⟩:=HJ.out.h 21 l21;have QN:=ID.out.q1 l21;rw [e21] at QN;have KW:=KF.out.kept HJ.out.kp;have f9:=KW.free 1;obtain ⟨d0,d1,d2,d3⟩:=aI KW;rw [JU.out,NG.out] at QN
 have JB:=(HQQ.out.kept HJ.out.kp).putG hp (mO gs ⟨GE,od⟩) (row:=none) ⟨rfl,rfl,rfl,EA _,fun _ _ _=>rfl⟩ dX.none (bA QN OP.out)
 rw [<- JU.out] at JB;clear QN KW
 refine Pj.Za.free rfl ?_
 simp only [Pj.PU,Act.put,e23,e21];go_simp
 exact hKz rfl _ _ ⟨Pj.Yz V 24 (undef),by simp only [Pj.PU,Act.put,Pj.Yz,Nat.reduceEqDiff,if_false,e23,e21],⟨JB.1,(FA HJ.out.kp OP.out).trans JB.2⟩⟩):P:=h
theorem Yp {P:Prop} (h:P:=by
 simp only [iU] at ho;subst ho;obtain ⟨⟨c0,c1,c2⟩,f0,f1,f2⟩:=hC.cells;have HCx:=DX hC;have HVx:=DX WC;have XJ:=DX QH;clear hC WB WC QH
 refine Pj.Za.free rfl ?_
 simp only [Pj.Zb,dO,Act.put];go_simp
 exact hK _ _ ⟨Pj.Yz V 0 (.string (aR s)),c,by simp only [Pj.Zb,dO,Act.put,Pj.Yz,Nat.reduceEqDiff,if_true,if_false],fun _=>Pj.Zc _ _ _,fun h=>(Pj.Yy _ _ aF).trans (HVx.out (((hL 1).1 h).resolve_left aF)),fun h=>XJ.out (((hL 4).1 h).resolve_left aF),HCx.out,UX⟩):P:=h
theorem Xn {P:Prop} (h:P:=by
 go_wp2_with fail
 refine OO.out.mono ?_
 rintro e w6 ⟨rfl,MB,KB⟩;have LZ:=DX MB;have RM:=DX ((FA IQ.out GY).trans KB);have IW:=DX (KB.blk _ _ _ JG.out aE aF aF aF);clear MB KB OO;go_wp2_with (refine aD rfl 47 (.tmp 4) (.tmp 39) rfl (w.heap.size+1) (bB (eT D)) LR 47 rfl rfl IW.out AX rfl (aL _) ?_)
 refine EI (v:=bW (eT D)) ?_ rfl ?_
 . exact EH rfl _ _ (w.heap.size+1) 47 (bB (eT D)) (0,0) _ rfl (IW.out.setRow _) EV rfl AX
 . rw [HX.out,GI.out];exact ⟨rfl,LZ.out.setRow IW.out aF aF aF aF _,RM.out.setRow (ED _) GY _⟩):P:=h
theorem Ol {P:Prop} (h:P:=by
 unfold reachBytes at ZH;refine ⟨_,len,m,ts,JW,⟨hrl,aE,fun x hx=>?_,b,off,fun _=>rfl,fun i hi=>(hr i hi).2⟩⟩;obtain ⟨i,hi,rfl⟩:=List.mem_iff_getElem.1 hx
 have:=(hr i aE).1
 simpa [List.getD,hi] using this):P:=h
theorem Nz {P:Prop} (h:P:=by
 rw [HX.out,GI.out];exact ⟨rfl,LZ.out.setRow IW.out aF aF aF aF _,RM.out.setRow (ED _) GY _⟩):P:=h
theorem Ie {P:Prop} (h:P:=by
 rw [HX.out,GI.out];exact ⟨rfl,(HQ.out.kept GC.out).setRow JG.out aF aF aF aF _,(FA GC.out GY).setRow (ED _) GY _⟩):P:=h
theorem Oh {P:Prop} (h:P:=by
 have JH:decide (lo<l)=false:=DY QK
 have UQ:=DX (show F=false by
  rw [LC.out,<- SA.out,OS.out]
  exact DY (fun e=>QK e.1))
 go_wp2;go_ret2;rw [UQ.out,OS.out]
 exact ⟨rfl,HK.out⟩):P:=h
theorem Yl {P:Prop} (h:P:=by
 go_wp2;go_ret;obtain ⟨GN,IZ,h1⟩:=HX.out;obtain ⟨g1,o2,g2⟩:=HO.out
 have him1:i+m=n - 1:=by omega
 rw [him1] at o2 g2 ⊢;have o3:=nQ o2 (m:=n - 1) aE
 have hlA:(xs.take (i*2)++news).length=(n - 1)*2:=by rw [List.length_append,List.length_take,s1.out,IZ];omega
 rw [List.append_assoc (List.take ((n - 1)*2) _),List.take_append_of_le_length (by rw [List.length_take,List.append_assoc,List.length_append,List.length_append,List.length_take,s1.out,List.length_drop,IZ];omega),List.take_take,Nat.min_self] at o3;rw [List.take_append_of_le_length aE,EE aE,GN] at o3
 exact ⟨rfl,o3,fN g1 g2⟩):P:=h
theorem Xw {P:Prop} (h:P:=by
 have QD:=DX WB;have NI:=DX WC;have XJ:=DX QH;have HDx:=DX (fun v=>oY (v:=v) (b:=p+1) UX aE);clear hC WB WC QH UX
 refine Pj.Za.free rfl ?_
 simp only [Pj.Zb,dO,Act.put,e1];go_simp
 exact hK _ _ ⟨V,c,by simp only [Pj.Zb,dO,Act.put,e1],fun h=>QD.out (((hL 0).1 h).resolve_left aF),fun h=>NI.out (((hL 1).1 h).resolve_left aF),fun h=>XJ.out (((hL 4).1 h).resolve_left aF),HCx.out,HDx.out _⟩):P:=h
theorem Ud {P:Prop} (h:P:=by
 go_upto_region 1 with (fail)
 generalize w.alloc ((KS aT lT cT aG lG cG aS lS cS nx))=w1 at *;obtain ⟨r0,r1,r2,r3⟩:=aI HB.out;go_wp2_with fail
 refine (HC.out _ HK.out).mono ?_
 rintro e w2 ⟨rfl,FX⟩;have FW:=DX (HK.out.trans FX);clear FX HC;go_wp2;go_ret2
 exact ⟨rfl,FW.out⟩):P:=h
theorem Wd {P:Prop} (h:P:=by
 gi_wp2_with fail
 refine hR1.mono ?_
 rintro e W3 h3
 rcases TQ.out _ _ h3 with ⟨rfl,hT3,TB⟩ | ⟨rfl,UP⟩
 . have d2:=fC hT3
   have HT3:=DX hT3;have HJ3:=DX TB;clear h3 hT3 TB c1;gi_wp2;rw [Exit.noGoto_normal];gi_wp2;go_roundw
   case rel=>exact ⟨k+1,h+1,by rw [SD.out],aE,aE,by go_num,HT3.out,pre++[⟨k,JE⟩],by rw [dJ,LY.out,List.range_succ],HJ3.out⟩
   case measure=>simp [intOf];omega
 . gi_wp2
   rw [Exit.noGoto_exit];gi_wp2;rw [Exit.noGoto_normal];go_end0
   exact ⟨⟨_,rfl⟩,.inr ⟨pre++[⟨k,JE⟩],⟨k,JE,by rw [dJ,LY.out,List.range_succ]⟩,UP⟩⟩):P:=h
theorem Wo {P:Prop} (h:P:=by
 obtain rfl:=EB ho;have l18:=FZ 18 aW
 have e18:V 18=.slice aG4 gs.length cG4:=HJ.out.h 18 l18
 have l19:=FZ 19 aW
 have e19:V 19=.int .i64 k:=HJ.out.h 19 l19
 have ZQ:=UU.out
 refine Pj.Za.free rfl ?_
 simp only [Pj.PU,Act.put,e18,e19];go_simp
 exact IH aF _ _ ⟨Pj.Yz V 20 (.slice aq (gs.length - k) (cG4 - k)),by simp only [Pj.PU,Act.put,Pj.Yz,Nat.reduceEqDiff,if_true,if_false,e18,e19],HJ.out.flat HP.out hL (HJ.out.kp.trans (EX _)) (EZ (EX _)) (rfl),ID.out.keep aF aF aF aF hL (EX _)⟩):P:=h
theorem Vx {P:Prop} (h:P:=by
 obtain rfl:=EB ho;have l6:=FZ 6 aW
 have e6:V 6=.slice aG4 k cG4:=HJ.out.h 6 l6
 have hcp:=MK.out w HJ.out.kp
 refine Pj.Za.free rfl ?_
 simp only [Pj.PU,Act.put,e6];go_simp
 refine hcp.mono ?_
 rintro e w' ⟨a5,c5,rfl,JF,GF⟩;have IP:=bA JF (EZ HJ.out.kp)
 exact IH aF _ _ ⟨Pj.Yz V 7 (.slice a5 k c5),by simp only [Pj.PU,Act.put,Pj.Yz,Nat.reduceEqDiff,if_true,if_false,e6],HJ.out.flat HP.out hL (HJ.out.kp.trans (GF)) (EZ (GF)) (⟨_,_,rfl⟩),ID.out.copied FY aF aF aF hL GF IP⟩):P:=h
theorem Xu {P:Prop} (h:P:=by
 obtain rfl:=EB ho;have l10:=FZ 10 aW
 have e10:V 10=.pointer (some ⟨wo.heap.size,5,none⟩):=HJ.out.h 10 l10
 have q9:w.cell? ⟨wo.heap.size,5,none⟩=some (.string od):=(HBQ.out.kept HJ.out.kp).cell 5
 refine Pj.Za.free rfl ?_
 simp only [Pj.PU,Act.put,e10];go_simp
 exact IH aF _ _ ⟨Pj.Yz V 11 (.string od),by simp only [Pj.PU,Act.put,Pj.Yz,Nat.reduceEqDiff,if_true,if_false,e10],HJ.out.flat HP.out hL (HJ.out.kp.trans (EX _)) (EZ (EX _)) (rfl),ID.out.keep aF aF aF aF hL (EX _)⟩):P:=h
theorem Wx {P:Prop} (h:P:=by
 obtain rfl:=EB ho;have l8:=FZ 8 aW
 have e8:V 8=.pointer (some ⟨wo.heap.size,4,none⟩):=HJ.out.h 8 l8
 have q9:w.cell? ⟨wo.heap.size,4,none⟩=some (.string GE):=(HBQ.out.kept HJ.out.kp).cell 4
 refine Pj.Za.free rfl ?_
 simp only [Pj.PU,Act.put,e8];go_simp
 exact IH aF _ _ ⟨Pj.Yz V 9 (.string GE),by simp only [Pj.PU,Act.put,Pj.Yz,Nat.reduceEqDiff,if_true,if_false,e8],HJ.out.flat HP.out hL (HJ.out.kp.trans (EX _)) (EZ (EX _)) (rfl),ID.out.keep aF aF aF aF hL (EX _)⟩):P:=h
theorem Yr {P:Prop} (h:P:=by
 go_enter Tryz.func88,Tryz.ntmps88;go_wp2_with (refine aD rfl 85 (.tmp 2) (.tmp 17) rfl _ (LM 0 none 0 0 none 0 0) (LM 0 none 0 0 none 0 0) 85 rfl rfl HR.out BB rfl (wR _ _ _ _ _ _ _) ?_)
 refine EI (v:=.tuple #[.agg (LM 0 none 0 0 none 0 0),.int .i64 7]) ?_ rfl ⟨fun _=>rfl,(fun m e=>by cases e),QT.out.setRow aE _⟩
 exact cB rfl _ _ w.heap.size 85 (LM 0 none 0 0 none 0 0) _ rfl (HR.out.setRow _) EQ rfl BB _ rfl):P:=h
theorem Wj {P:Prop} (h:P:=by
 obtain rfl:=EB ho;have l9:=FZ 9 aW
 have e9:V 9=.string GE:=HJ.out.h 9 l9
 have l11:=FZ 11 aW
 have e11:V 11=.string od:=HJ.out.h 11 l11
 refine Pj.Za.free rfl ?_
 simp only [Pj.PU,Act.put,e9,e11];go_simp
 exact IH aF _ _ ⟨Pj.Yz V 12 (.agg #[.string GE,.string od]),by simp only [Pj.PU,Act.put,Pj.Yz,Nat.reduceEqDiff,if_true,if_false,e9,e11],HJ.out.flat HP.out hL (HJ.out.kp.trans (EX _)) (EZ (EX _)) (rfl),ID.out.keep aF aF aF aF hL (EX _)⟩):P:=h
theorem Oc {P:Prop} (h:P:=by
 intro j' u RS
 match j',RS with
 | 0,RS=>simp at RS;subst RS;simp [Addr.add]):P:=h
theorem Ut {P:Prop} (h:P:=by
 intro v' w' FU IB _ _;have FW:=DX (fO (HK.out.alloc _) IB (fun q e=>(HO.out.lt q e).1));rw [<- IX.out] at FU;have UR:=DX FU;clear FU IB;go_wp2_with fail;go_roundw
 case rel=>exact ⟨k+1,aE,by go_num,UR.out,FW.out⟩
 case measure=>simp [intOf];omega):P:=h
theorem Wh {P:Prop} (h:P:=by
 obtain rfl:=EB ho;have l4:=FZ 4 aW
 have e4:V 4=.slice aG4 gs.length cG4:=HJ.out.h 4 l4
 have l5:=FZ 5 aW
 have e5:V 5=.int .i64 k:=HJ.out.h 5 l5
 refine Pj.Za.free rfl ?_
 simp only [Pj.PU,Act.put,e4,e5];go_simp
 exact IH aF _ _ ⟨Pj.Yz V 6 (.slice aG4 k cG4),by simp only [Pj.PU,Act.put,Pj.Yz,Nat.reduceEqDiff,if_true,if_false,e4,e5],HJ.out.flat HP.out hL (HJ.out.kp.trans (EX _)) (EZ (EX _)) (rfl),ID.out.keep aF aF aF aF hL (EX _)⟩):P:=h
theorem Wg {P:Prop} (h:P:=by
 obtain rfl:=EB ho;have l17:=FZ 17 aW
 have e17:V 17=.pointer (some ⟨p,1,none⟩):=HJ.out.h 17 l17
 obtain ⟨d0,d1,d2,d3⟩:=aI (KF.out.kept HJ.out.kp)
 refine Pj.Za.free rfl ?_
 simp only [Pj.PU,Act.put,e17];go_simp
 exact IH aF _ _ ⟨Pj.Yz V 18 (.slice aG4 gs.length cG4),by simp only [Pj.PU,Act.put,Pj.Yz,Nat.reduceEqDiff,if_true,if_false,e17],HJ.out.flat HP.out hL (HJ.out.kp.trans (EX _)) (EZ (EX _)) (rfl),ID.out.keep aF aF aF aF hL (EX _)⟩):P:=h
theorem Xi {P:Prop} (h:P:=by
 gi_wp2_with fail
 refine hR1.mono ?_
 rintro e W3 h3
 rcases TQ.out _ _ h3 with ⟨rfl,hT3,TB⟩ | ⟨rfl,UP⟩
 . have HT3:=DX hT3
   have HJ3:=DX TB;clear h3 hT3 TB c1;gi_wp2;go_roundw
   case rel=>exact ⟨k+1,u,RO.out,aE,hu2,by go_num,HT3.out,pre++[⟨k,JE⟩],by rw [dJ,LY.out,List.range_succ],HJ3.out⟩
   case measure=>have:=HMU.out;simp [intOf];omega
 . gi_wp2
   refine EI (results_none rfl _ _ _) rfl ?_
   exact ⟨⟨_,rfl⟩,.inr ⟨pre++[⟨k,JE⟩],⟨k,JE,by rw [dJ,LY.out,List.range_succ]⟩,UP⟩⟩):P:=h
theorem Wl {P:Prop} (h:P:=by
 obtain rfl:=EB ho;have l3:=FZ 3 aW
 have e3:V 3=.pointer (some ⟨p,1,none⟩):=HJ.out.h 3 l3
 obtain ⟨d0,d1,d2,d3⟩:=aI (KF.out.kept HJ.out.kp)
 refine Pj.Za.free rfl ?_
 simp only [Pj.PU,Act.put,e3];go_simp
 exact IH aF _ _ ⟨Pj.Yz V 4 (.slice aG4 gs.length cG4),by simp only [Pj.PU,Act.put,Pj.Yz,Nat.reduceEqDiff,if_true,if_false,e3],HJ.out.flat HP.out hL (HJ.out.kp.trans (EX _)) (EZ (EX _)) (rfl),ID.out.keep aF aF aF aF hL (EX _)⟩):P:=h
theorem Vu {P:Prop} (h:P:=by
 obtain rfl:=EB ho;have l12:=FZ 12 aW
 have e12:V 12=.agg #[.string GE,.string od]:=HJ.out.h 12 l12
 refine Pj.Za.free rfl ?_
 simp only [Pj.PU,Act.put,e12];go_simp
 exact IH aF _ _ ⟨Pj.Yz V 13 (.slice (some ⟨w.heap.size,0,none⟩) 1 1),by simp only [Pj.PU,Act.put,Pj.Yz,Nat.reduceEqDiff,if_true,if_false,e12],HJ.out.flat HP.out hL (HJ.out.kp.trans ((EX _).alloc _)) (EZ ((EX _).alloc _)) (⟨_,rfl⟩),ID.out.built FY aF aF aF hL⟩):P:=h
theorem Vo {P:Prop} (h:P:=by
 rintro D c pre W hD ⟨k,hk,JZ⟩ ⟨⟨rfl,i,hil,RE⟩,PR⟩ hK;have hgp:jP s=false:=lH _ i.1 RE _ i.2;have HRV:=DX (OE.out (by rw [HNB.out];exact hgp));have HC:=DX (PR.put aE hK);have VP:=DX hK;clear hgp RE PR hK hil JZ;gi_wp2;refine ⟨by simp,.inl ⟨_,_,rfl,run_takeDeferred VP.out,?_⟩⟩;obtain ⟨⟨c0,c1,c2⟩,f0,f1,f2⟩:=HC.out.cells;refine ⟨.tuple #[.string ⟨#[]⟩,.string ⟨#[]⟩,.bool false],?_,by rw [HRV.out],HC.out.k⟩
 simp [results,Tryz.f121,go_sem,c0,c1,c2]):P:=h
theorem Wv {P:Prop} (h:P:=by
 obtain rfl:=EB ho;have l22:=FZ 22 aW
 have e22:V 22=.pointer (some ⟨p,0,none⟩):=HJ.out.h 22 l22
 refine Pj.Za.free rfl ?_
 simp only [Pj.PU,Act.put,e22];go_simp
 exact IH aF _ _ ⟨Pj.Yz V 23 (.pointer (some ⟨p,1,none⟩)),by simp only [Pj.PU,Act.put,Pj.Yz,Nat.reduceEqDiff,if_true,if_false,e22],HJ.out.flat HP.out hL (HJ.out.kp.trans (EX _)) (EZ (EX _)) (rfl),ID.out.keep aF aF aF aF hL (EX _)⟩):P:=h
theorem Yc {P:Prop} (h:P:=by
 obtain rfl:=EB ho;have l16:=FZ 16 aW
 have e16:V 16=.pointer (some ⟨p,0,none⟩):=HJ.out.h 16 l16
 refine Pj.Za.free rfl ?_
 simp only [Pj.PU,Act.put,e16];go_simp
 exact IH aF _ _ ⟨Pj.Yz V 17 (.pointer (some ⟨p,1,none⟩)),by simp only [Pj.PU,Act.put,Pj.Yz,Nat.reduceEqDiff,if_true,if_false,e16],HJ.out.flat HP.out hL (HJ.out.kp.trans (EX _)) (EZ (EX _)) (rfl),ID.out.keep aF aF aF aF hL (EX _)⟩):P:=h
theorem Vv {P:Prop} (h:P:=by
 obtain rfl:=EB ho;have l15:=FZ 15 aW
 have e15:V 15=.pointer (some ⟨p,0,none⟩):=HJ.out.h 15 l15
 refine Pj.Za.free rfl ?_
 simp only [Pj.PU,Act.put,e15];go_simp
 exact IH aF _ _ ⟨Pj.Yz V 16 (.pointer (some ⟨p,0,none⟩)),by simp only [Pj.PU,Act.put,Pj.Yz,Nat.reduceEqDiff,if_true,if_false,e15],HJ.out.flat HP.out hL (HJ.out.kp.trans (EX _)) (EZ (EX _)) (rfl),ID.out.keep aF aF aF aF hL (EX _)⟩):P:=h
theorem Xe {P:Prop} (h:P:=by
 rw [ho,FY] at RR;simp only [Bool.not_false,Bool.true_and,Option.map_some,Option.getD_some] at RR;rw [Array.any_eq_true] at hj;obtain ⟨k,hk,he⟩:=hj;rw [Bool.and_eq_true] at he;have h1:=(Array.all_eq_true.1 RR) k hk;have h0:=(Array.all_eq_true.1 GH) k hk;rw [he.2] at h0
 have h2:(ops[i].after[k]).on<i:=by simpa using h0
 rw [he.2] at h1;simp only [Bool.not_true,Bool.false_or] at h1
 have h3:(ops[i].after[k]).on=j:=by simpa using he.1
 rw [AG aQ _ aE,h3] at h1
 exact h1):P:=h
theorem Xk {P:Prop} (h:P:=by
 refine wpQuietIn_nil ?_
 intro _ GD;obtain ⟨nq,FT⟩:=GD;subst FT;gi_wp2;have HV8':=DX (HN.out nq);clear HN c1 c2 f1 e1 IZ;generalize World.setCell _ _ _=w8 at HV8' ⊢;have hv8:=HV8'.out;rw [HE.out] at hv8;have KX:=DX hv8;clear hv8 HV8' HE OW
 obtain ⟨v8,hw8⟩:∃ v8,v8=(Bl.s1 v7 b c 7):=⟨_,rfl⟩
 have SE:=DX hw8;rw [<- hw8] at KX;clear hw8;go_wp2;go_end0;refine ⟨rfl,?_⟩;have h:=KX.out;rw [SE.out,SZ.out,SY.out,RA.out,HW4.out,HW3.out,HW2.out,ZE.out] at h
 exact h):P:=h
theorem Wa {P:Prop} (h:P:=by
 obtain rfl:=EB ho;have l0:=FZ 0 aW
 have e0:V 0=.pointer (some ⟨p,0,none⟩):=HJ.out.h 0 l0
 refine Pj.Za.free rfl ?_
 simp only [Pj.PU,Act.put,e0];go_simp
 exact IH aF _ _ ⟨Pj.Yz V 22 (.pointer (some ⟨p,0,none⟩)),by simp only [Pj.PU,Act.put,Pj.Yz,Nat.reduceEqDiff,if_true,if_false,e0],HJ.out.flat HP.out hL (HJ.out.kp.trans (EX _)) (EZ (EX _)) (rfl),ID.out.keep aF aF aF aF hL (EX _)⟩):P:=h
theorem Vm {P:Prop} (h:P:=by
 obtain rfl:=EB ho;have l2:=FZ 2 aW
 have e2:V 2=.pointer (some ⟨p,0,none⟩):=HJ.out.h 2 l2
 refine Pj.Za.free rfl ?_
 simp only [Pj.PU,Act.put,e2];go_simp
 exact IH aF _ _ ⟨Pj.Yz V 3 (.pointer (some ⟨p,1,none⟩)),by simp only [Pj.PU,Act.put,Pj.Yz,Nat.reduceEqDiff,if_true,if_false,e2],HJ.out.flat HP.out hL (HJ.out.kp.trans (EX _)) (EZ (EX _)) (rfl),ID.out.keep aF aF aF aF hL (EX _)⟩):P:=h
theorem Ya {P:Prop} (h:P:=by
 obtain rfl:=EB ho;have l1:=FZ 1 aW
 have e1:V 1=.pointer (some ⟨p,0,none⟩):=HJ.out.h 1 l1
 refine Pj.Za.free rfl ?_
 simp only [Pj.PU,Act.put,e1];go_simp
 exact IH aF _ _ ⟨Pj.Yz V 2 (.pointer (some ⟨p,0,none⟩)),by simp only [Pj.PU,Act.put,Pj.Yz,Nat.reduceEqDiff,if_true,if_false,e1],HJ.out.flat HP.out hL (HJ.out.kp.trans (EX _)) (EZ (EX _)) (rfl),ID.out.keep aF aF aF aF hL (EX _)⟩):P:=h
theorem Qc {P:Prop} (h:P:=by
 go_wp2_with fail;go_quiet (fail);have IQ:=DX (IL.out.trans (IA.out.trans (GQ.out.drewN nq)));go_wp2_with fail;go_ret
 exact ⟨by rw [HO.out];rfl,IQ.out⟩):P:=h
theorem Vq {P:Prop} (h:P:=by
 clear IK c0
 go_upto_region 6 with (fail)
 rw [HMN.out,<- HCQ.out];generalize (if cp=1 then some (⟨g,off,none⟩:Addr) else some ⟨g,off+1,none⟩)=az at *;go_wp2_with fail;go_roundw
 case rel=>exact ⟨m,is,D',PF,by have:=HMM.out;omega,DX (by have:=HCN.out;have:=HMM.out;omega),by simp at hDn;have:=HMM.out;omega,IU.out,HT3.out,hs3,GC.out⟩
 case measure=>rw [HU.out,lN IU.out (by rw [HF.out.len,HL.out])];have:=HMM.out;simp [Of];omega):P:=h
theorem Xq {P:Prop} (h:P:=by
 by_cases hcj:cap=j
 . refine ⟨⟨g,0,none⟩,by simp [hcj],fun t u hu=>?_⟩
   have h0:news.length=0:=by rw [GM];omega
   rw [List.length_eq_zero_iff.1 h0] at hu
   simp at hu
 . refine ⟨⟨g,j*2,none⟩,by simp [hcj],fun t u hu=>?_⟩
   have ht:t<m*2:=by
    have:=(List.getElem?_eq_some_iff.1 hu).1
    rwa [GM] at this
   rw [GN,List.getElem?_drop] at hu;rw [Addr.add_lit]
   exact (h.cellAt (j*2+t) aE).trans hu):P:=h
theorem Uj {P:Prop} (h:P:=by
 go_enter Tryz.func127,Tryz.ntmps127;go_wp2_with fail
 refine (Fq _ _).mono ?_
 rintro e w' ⟨rfl,rfl⟩;go_wp2_with fail
 refine (Fq _ _).mono ?_
 rintro e w' ⟨rfl,rfl⟩;go_wp2;go_ret
 exact ⟨by rw [HE.out];rfl,rfl⟩):P:=h
theorem Yj {P:Prop} (h:P:=by
 refine ⟨by rw [List.length_append,RF,Array.length_toList,MS];omega,.inr ⟨w.heap.size,G,ROW,rfl,GY,by rw [OF];exact heap_alloc_new w.drew _,hGn,hGm,?_,?_⟩⟩
 . rw [YH,Array.size_append,Array.size_append,MS,hz2s,List.size_toArray,RF];omega
 . rw [YH,Array.toList_append,Array.toList_append,List.take_append_of_le_length (by simp [RF,MS];omega)]
   exact EE (by simp [RF,MS];omega)):P:=h
theorem Yd {P:Prop} (h:P:=by
 rw [HX.out,GI.out];exact ⟨rfl,HQ6.out.setRow NR.out aF aF aF aF _,HF6.out.setRow (ED _) GY _⟩):P:=h
theorem Pf {P:Prop} (h:P:=by
 rw [HX.out,GI.out];exact ⟨rfl,SC.out.setRow KE.out aF aF aF aF _,OJ.out.setRow (ED _) GY _⟩):P:=h
theorem Ws {P:Prop} (h:P:=by
 intro L hL
 exact ⟨_,Pj.Zi _ (fun j=>([170,171,172,173,174,175,176,177,178,179,180,181,182,183,184,185,186,187,188,189,190,191,192,193,0]:List Nat).getD j 0) [0,1,2,3,4,5,6,7,8,9,10,11,12,13,14,15,16,17,18,19,20,21,22,23],Pj.J.none (n:=25) (EA _) hL ((EX _).drew),Pj.AE.start (hL 7 aF) (hL 13 aF) (hL 14 aF) (hL 21 aF)⟩):P:=h
theorem Ps {P:Prop} (h:P:=by
 exact ⟨0,l,rfl,rfl,Nat.zero_le _,EA _,DX ⟨fun q hq=>absurd hq (Nat.not_lt_zero q),fun q h1 h2=>by omega⟩,EX _⟩):P:=h
theorem Yn {P:Prop} (h:P:=by
 obtain rfl:=EB ho
 refine Pj.Za.free rfl ?_
 simp only [Pj.PU,Act.put];go_simp
 exact IH aF _ _ ⟨Pj.Yz V 10 (.pointer (some ⟨wo.heap.size,5,none⟩)),by simp only [Pj.PU,Act.put,Pj.Yz,Nat.reduceEqDiff,if_true,if_false],HJ.out.flat HP.out hL (HJ.out.kp.trans (EX _)) (EZ (EX _)) (rfl),ID.out.keep aF aF aF aF hL (EX _)⟩):P:=h
theorem Xz {P:Prop} (h:P:=by
 obtain rfl:=EB ho
 refine Pj.Za.free rfl ?_
 simp only [Pj.PU,Act.put];go_simp
 exact IH aF _ _ ⟨Pj.Yz V 8 (.pointer (some ⟨wo.heap.size,4,none⟩)),by simp only [Pj.PU,Act.put,Pj.Yz,Nat.reduceEqDiff,if_true,if_false],HJ.out.flat HP.out hL (HJ.out.kp.trans (EX _)) (EZ (EX _)) (rfl),ID.out.keep aF aF aF aF hL (EX _)⟩):P:=h
theorem Xc {P:Prop} (h:P:=by
 obtain rfl:=EB ho
 refine Pj.Za.free rfl ?_
 simp only [Pj.PU,Act.put];go_simp
 exact IH aF _ _ ⟨Pj.Yz V 15 (.pointer (some ⟨p,0,none⟩)),by simp only [Pj.PU,Act.put,Pj.Yz,Nat.reduceEqDiff,if_true,if_false],HJ.out.flat HP.out hL (HJ.out.kp.trans (EX _)) (EZ (EX _)) (rfl),ID.out.keep aF aF aF aF hL (EX _)⟩):P:=h
theorem Wz {P:Prop} (h:P:=by
 obtain rfl:=EB ho
 refine Pj.Za.free rfl ?_
 simp only [Pj.PU,Act.put];go_simp
 exact IH aF _ _ ⟨Pj.Yz V 1 (.pointer (some ⟨p,0,none⟩)),by simp only [Pj.PU,Act.put,Pj.Yz,Nat.reduceEqDiff,if_true,if_false],HJ.out.flat HP.out hL (HJ.out.kp.trans (EX _)) (EZ (EX _)) (rfl),ID.out.keep aF aF aF aF hL (EX _)⟩):P:=h
theorem Yk {P:Prop} (h:P:=by
 obtain rfl:=EB ho
 refine Pj.Za.free rfl ?_
 simp only [Pj.PU,Act.put];go_simp
 exact IH aF _ _ ⟨Pj.Yz V 0 (.pointer (some ⟨p,0,none⟩)),by simp only [Pj.PU,Act.put,Pj.Yz,Nat.reduceEqDiff,if_true,if_false],HJ.out.flat HP.out hL (HJ.out.kp.trans (EX _)) (EZ (EX _)) (rfl),ID.out.keep aF aF aF aF hL (EX _)⟩):P:=h
theorem Us {P:Prop} (h:P:=by
 go_wp2_with fail;go_quiet ((go_at_call 49;exact Fo (RO.out _)));have IQ:=DX (IL.out.trans (IA.out.trans (GC.out.drewN nq)));go_wp2_with fail;go_ret
 exact ⟨by rw [HO.out];rfl,IQ.out⟩):P:=h
theorem Oa {P:Prop} (h:P:=by
 exact EH rfl _ _ (w.heap.size+1) 47 (bB (aY 2)) (0,0) _ rfl (JM.out.setRow _) EV rfl AX):P:=h
theorem Ys {P:Prop} (h:P:=by
 obtain rfl:=EB ho
 refine Pj.Za.free rfl ?_
 simp only [Pj.PU,Act.put];go_simp
 exact IH aF _ _ ⟨Pj.Yz V 19 (.int .i64 k),by simp only [Pj.PU,Act.put,Pj.Yz,Nat.reduceEqDiff,if_true,if_false],HJ.out.flat HP.out hL (HJ.out.kp.trans (EX _)) (EZ (EX _)) (rfl),ID.out.keep aF aF aF aF hL (EX _)⟩):P:=h
theorem Vr {P:Prop} (h:P:=by
 obtain rfl:=EB ho
 refine Pj.Za.free rfl ?_
 simp only [Pj.PU,Act.put];go_simp
 exact IH aF _ _ ⟨Pj.Yz V 5 (.int .i64 k),by simp only [Pj.PU,Act.put,Pj.Yz,Nat.reduceEqDiff,if_true,if_false],HJ.out.flat HP.out hL (HJ.out.kp.trans (EX _)) (EZ (EX _)) (rfl),ID.out.keep aF aF aF aF hL (EX _)⟩):P:=h
theorem Xp {P:Prop} (h:P:=by
 go_wp2;go_ret3
 exact ⟨HNR.out _ _ (.inr ⟨HB.out,rfl⟩),HKq.out.trans HKr.out⟩):P:=h
theorem Ph {P:Prop} (h:P:=by
 obtain ⟨ys,n,_,_,_,UC⟩:=hf 0 aE;obtain ⟨v0,_,RQ,_⟩:=UC 0 _ rfl
 simpa [Addr.add] using World.cell?_spot RQ):P:=h
theorem Od {P:Prop} (h:P:=by
 go_wp2;go_roundw
 case rel=>exact ⟨j+1,aE,by go_num,by rw [IX.out],by trivial⟩
 case measure=>simp [intOf];omega):P:=h
theorem Ug {P:Prop} (h:P:=by
 unfold Oper.wp execOp;simp only [ho,resolve,invoke,builtin,Sem.run_bind,Sem.run_pure,Result.andThen_ok,List.map_toArray,List.map_cons,List.map_nil,hs,hx,hr]
 exact h v' w' h2 h3):P:=h
theorem Pw {P:Prop} (h:P:=by
 refine Or.inr (Or.inl (mX (d:=D i) (List.mem_map.2 ⟨i,List.mem_range.2 hi,rfl⟩) q ?_));rw [hD]
 exact JN q hq):P:=h
theorem Xv {P:Prop} (h:P:=by
 exact fU rfl _ _ (wo.heap.size+1+1) (wo.heap.size+1+1+1) 26 47 LN LR _ _ rfl ((HX.out.setRow _).other _ aE) rfl ((HR.out.other _ aE).setRow _) EW rfl AY EV rfl AX _ rfl):P:=h
theorem Wi {P:Prop} (h:P:=by
 exact ⟨none,0,rfl,hl,aE,hs,0,0,fun h=>absurd h (EJ 0),fun i hi=>absurd hi (Nat.not_lt_zero i)⟩):P:=h
theorem Xm {P:Prop} (h:P:=by
 refine EI (v:=bW (aY 2)) ?_ rfl ?_
 . exact EH rfl _ _ (wo.heap.size+1) 47 (bB (aY 2)) (0,0) _ rfl (IW.out.setRow _) EV rfl AX
 . rw [HX.out,GI.out];exact ⟨rfl,(HQ.out.kept GQ.out).setRow IW.out aF aF aF aF _,(FA GQ.out GY).setRow (ED _) GY _⟩):P:=h
theorem Yi {P:Prop} (h:P:=by
 refine OwnFrom.and (Own.from (fun s A B row hs hg hr=>⟨cF hs.1 hg hr,cF hs.2.1 hg hr,cF hs.2.2.1 hg hr,cF hs.2.2.2 hg hr⟩) _) (OwnFrom.and (vB hb') (OwnFrom.and (Own.from (fun s A B row hs hg hr=>?_) _) (Own.from (fun s A B row hs hg hr=>hs) _)));obtain ⟨v,h1,h2,h3⟩:=hs
 exact ⟨v,h1,cF h2 hg hr,h3⟩):P:=h
theorem zZ {P:Prop} (h:P:=by
 obtain rfl:k=u.size:=by omega
 have GU:decide (u.size<u.size)=false:=DY aE;have HP:=DX (Co u.data.toList ZA.out (by rw [<- MT.out];exact HH1.out) (by rw [<- MT.out];exact HH2.out) (by have:=HA.out;rwa [EE (by rw [JU.out];omega)] at this));go_wp2;go_ret;rw [HP.out]
 exact ⟨rfl,rfl⟩):P:=h
theorem Qg {P:Prop} (h:P:=by
 obtain ⟨i0,hi,he⟩:=Option.map_eq_some_iff.1 h;simp only [Prod.mk.injEq] at he
 exact ⟨i0,hi,he.1,he.2.1,he.2.2⟩):P:=h
theorem Et {P:Prop} (h:P:=by
 go_wp2_with fail;go_quiet (fail);go_wp2;go_ret
 exact ⟨jR HE.out,HK.out.drewN nq⟩):P:=h
theorem Mr {P:Prop} (h:P:=by
 simp only [List.take_succ_cons,List.take_zero,List.drop_succ_cons,List.drop_zero]
 repeat (gi_big_quiet_step (fail))
 refine wpQuietIn_nil ?_
 intro _ GD;obtain ⟨nq,FT⟩:=GD;subst FT;gi_wp2;go_wp2;go_roundw
 case rel=>exact ⟨k+1,aE,by go_num,by rw [HS.out];exact IN.out nq⟩
 case measure=>simp [intOf];omega):P:=h
theorem Kl {P:Prop} (h:P:=by
 rw [VB,show (n:Int) / 4294967296=((n / 4294967296:Nat):Int) by omega]
 exact wM _ _ u13 aE):P:=h
theorem Je {P:Prop} (h:P:=by
 go_wp2_with fail;go_quiet (fail);go_wp2_with fail;go_roundw
 case rel=>exact ⟨k+1,aE,by go_num,HK.out.drewN nq⟩
 case measure=>simp [intOf];omega):P:=h
theorem Aj {P:Prop} (h:P:=by
 go_wp2_with fail;go_roundw
 case rel=>exact ⟨k+1,aE,by go_num,by rw [NY.out,IR.out,HO.out];rfl,GQ.out⟩
 case measure=>simp [intOf];omega):P:=h
theorem Rz {P:Prop} (h:P:=by
 clear r0 r1 r2 r3 hth;go_wp2_with fail;go_roundw
 case rel=>exact ⟨k+1,aE,by go_num,HBN.out,HON.out,IX.out⟩
 case measure=>simp [intOf];omega):P:=h
theorem Rd {P:Prop} (h:P:=by
 go_wp2_with fail;go_ret
 exact ⟨by rw [HO.out];rfl,IL.out.trans FW.out⟩):P:=h
theorem Ex {P:Prop} (h:P:=by
 go_wp2_with fail;go_quiet ((go_at_call 49;exact Fo (RO.out _)));have IQ:=DX (IA.out.trans (GC.out.drewN nq));go_wp2_with fail;go_roundw
 case rel=>exact ⟨k+1,aE,by go_num,by rw [NY.out,IR.out,SV.out];rfl,HN.out,IQ.out⟩
 case measure=>simp [intOf];omega):P:=h
theorem Ku {P:Prop} (h:P:=by
 have g5:=fN g4 g3
 exact ⟨g5.os.trans gk.os,g5.tape.trans gk.tape,g5.output.trans gk.output,EF gk.size g5.size,fun k hk _=>(g5.block k (EG hk gk.size) (fun e=>by cases e;exact absurd hk (EJ _))).trans (gk.block k hk (fun e=>by cases e))⟩):P:=h
theorem Rg {P:Prop} (h:P:=by
 have hl:i<ts.length:=by rw [h.len_eq];exact hi
 exact h.sizes _ (by simp [List.getD,hl])):P:=h
theorem Kk {P:Prop} (h:P:=by
 go_wp2;go_roundw
 case rel=>exact ⟨k,aE,rfl,by rw [ZD.out,UT.out,Bool.true_and],by trivial⟩
 case measure=>simp [intOf];omega):P:=h
theorem Iw {P:Prop} (h:P:=by
 rcases FU.2 with ⟨rfl,rfl⟩ | ⟨g,cap,cur,rfl,_,_,NJ,_⟩
 . simp [Builtin.append_,run_underlying ht,sizeOf,typeInfo,hi,Builtin.lenOf,Builtin.firstCells]
 . simp [Builtin.append_,run_underlying ht,sizeOf,typeInfo,hi,Builtin.lenOf,Builtin.firstCells,NJ,storeCells]):P:=h
theorem Ka {P:Prop} (h:P:=by
 clear HR LX hl e0
 (try clear e1)
 (try clear e2)
 (try clear e3)
 go_enter Tryz.func180,Tryz.ntmps180;go_wp2;go_ret
 exact ⟨rfl,EX _⟩):P:=h
theorem Ld {P:Prop} (h:P:=by
 rw [OF,Nat.zero_add]
 exact ⟨hh.1,fN (show w.grownBy w.drew (some g) from ⟨rfl,rfl,rfl,EA _,fun _ _ _=>rfl⟩) hh.2⟩):P:=h
theorem Tp {P:Prop} (h:P:=by
 exact EH rfl _ _ (w.heap.size+1) 47 (bB (aY 7)) (0,0) _ rfl (JM.out.setRow _) EV rfl AX):P:=h
theorem Kj {P:Prop} (h:P:=by
 exact EH rfl _ _ (w.heap.size+1) 47 (bB (aY 1)) (0,0) _ rfl (JM.out.setRow _) EV rfl AX):P:=h
theorem zU {P:Prop} (h:P:=by
 have HC4:=DX (((TP.out.setX ⟨#[]⟩).setY ⟨#[]⟩).setZ false);obtain ⟨⟨c3,c4,c5⟩,_⟩:=HC4.out.cells;go_wp2
 exact EI (v:=.tuple #[.string ⟨#[]⟩,.string ⟨#[]⟩,.bool false]) (by simp [results,Tryz.f121,go_sem,c3,c4,c5]) rfl ⟨rfl,HC4.out.k⟩):P:=h
theorem Rq {P:Prop} (h:P:=by
 obtain rfl:k=l:=by omega
 have GU:decide (k<k)=false:=DY aE;go_wp2;go_ret
 exact ⟨rfl,HK.out⟩):P:=h
theorem Rp {P:Prop} (h:P:=by
 exact ⟨0,aE,rfl,World.ownsRow_nil _ _ _ _,EX _⟩):P:=h
theorem Sw {P:Prop} (h:P:=by
 go_wp2_with fail;go_quiet (fail);have IQ:=DX (IA.out.trans (GQ.out.drewN nq));go_wp2_with fail;go_roundw
 case rel=>exact ⟨k+1,aE,by go_num,by rw [NY.out,IR.out,HTO.out];rfl,HN.out,IQ.out⟩
 case measure=>simp [intOf];omega):P:=h
theorem Li {P:Prop} (h:P:=by
 go_upto_region 1 with (fail)
 generalize w.alloc ((KT x.d x.t x.m))=w1 at *;obtain ⟨a0,a1,a2⟩:=dI HB.out;go_wp2_with fail
 refine (zO x.d d _).mono ?_
 rintro e w' ⟨rfl,rfl⟩;go_wp2;go_ret
 exact ⟨rfl,HK.out⟩):P:=h
theorem Qr {P:Prop} (h:P:=by
 intro L hL
 exact ⟨_,false,Pj.Zi _ (fun j=>([32,33]:List Nat).getD j 0) [0,1],fun h=>absurd h (hL 0 aF),fun h=>absurd h (hL 1 aF),fun h=>absurd h (hL 4 aF),HCR.out.kept ((EX _).drew),HDR.out⟩):P:=h
theorem Ed {P:Prop} (h:P:=by
 refine ⟨fun i j he hi=>?_,fun h=>absurd h (hL n aE),fun _=>h0 L (fun j hj=>hL j aE)⟩
 by_cases RR:i<ops.size
 . exact absurd hi (hL i RR)
 . unfold AN at he
   rw [Array.getElem?_eq_none aE] at he
   cases he):P:=h
theorem zV {P:Prop} (h:P:=by
 rw [List.take_succ_eq_append_getElem h,List.flatMap_append]
 simp [List.getD,h]):P:=h
theorem Qe {P:Prop} (h:P:=by
 go_wp2_with fail;go_ret
 exact ⟨by rw [HO.out];rfl,GQ.out⟩):P:=h
theorem Fm {P:Prop} (h:P:=by
 rintro e w' ⟨h1,h2,h3⟩;subst hm JR
 cases ho:bJ t with
 | none=>exact ⟨none,0,none,0,h1 ho,kX _ _,kX _ _,h3⟩
 | some m =>
  obtain ⟨ab,cb,au,cu,e,_,s1,s2⟩:=h2 m ho
  exact ⟨ab,cb,au,cu,e,s1,s2,h3⟩):P:=h
theorem Ij {P:Prop} (h:P:=by
 rintro ((h | h) | h)
 . exact .inl (.inl h)
 . exact .inr h
 . exact .inl (.inr h)):P:=h
theorem Ta {P:Prop} (h:P:=by
 go_wp2_with fail;go_roundw
 case rel =>
  refine ⟨k+1,aE,by go_num,DX (fun j hj=>?_),FW.out⟩
  by_cases e:j=k
  . rw [e];exact HR.out.symm
  . exact HN.out j aE
 case measure=>simp [intOf];omega):P:=h
theorem Ek {P:Prop} (h:P:=by
 go_wp2_with fail;go_ret
 exact ⟨by rw [HO.out];rfl,IL.out.trans GC.out⟩):P:=h
theorem Eo {P:Prop} (h:P:=by
 go_wp2_with fail;go_ret
 exact ⟨by rw [HF.out];rfl,GQ.out.trans IQ.out⟩):P:=h
theorem Mn {P:Prop} (h:P:=by
 rw [<- dU]
 cases hc:u.data.toList with
 | nil=>rw [hc] at LW;simp at LW;omega
 | cons x k=>rfl):P:=h
theorem La {P:Prop} (h:P:=by
 rw [show (⟨b,off,none⟩:Addr).add j=⟨b,off+j,none⟩ by unfold Addr.add;split <;> simp_all]
 exact this):P:=h
theorem Sk {P:Prop} (h:P:=by
 clear hb;go_wp2;go_roundw
 case rel=>exact ⟨k,i+1,by rw [UQ.out],by go_num,.inl ⟨HKN.out,by rw [UQ.out];omega,by rw [UQ.out,HEE.out];omega⟩,HGT.out,HO.out,HKr.out⟩
 case measure=>simp [intOf];omega):P:=h
theorem Mh {P:Prop} (h:P:=by
 go_roundw
 case rel=>exact ⟨k+1,aE,by go_num,HN,HK.out⟩
 case measure=>simp [intOf];omega):P:=h
theorem Eb {P:Prop} (h:P:=by
 go_enter Tryz.func195,Tryz.ntmps195;go_wp2;go_ret
 exact ⟨rfl,rfl⟩):P:=h
theorem Ee {P:Prop} (h:P:=by
 go_enter Tryz.func49,Tryz.ntmps49;go_wp2;go_ret
 exact ⟨rfl,rfl⟩):P:=h
theorem Qd {P:Prop} (h:P:=by
 obtain ⟨b,off,ha,hc⟩:=h.cells;refine ⟨h.len_eq,h.le,h.sizes,b,off,ha,fun i hi=>?_⟩;obtain ⟨h0,c0,c1⟩:=hc i hi
 exact ⟨EG h0 k.size,k.cell h0 c0,k.cell h0 c1⟩):P:=h
theorem Ri {P:Prop} (h:P:=by
 obtain ⟨hm,rfl⟩:=RE;have HE:=DX (show R=false by rw [HR.out];exact NL.out (by rw [HTG.out,hm];rfl));rw [hm] at c2;clear hm;go_wp2;go_ret
 exact ⟨jR HE.out,FW.out⟩):P:=h
theorem Qu {P:Prop} (h:P:=by
 intro v' w' FU IB _ _;obtain ⟨a',c',rfl⟩:=aP FU;have HO':=DX FU;have HG:=DX IB;clear FU IB;go_wp2;go_ret
 exact ⟨a',c',rfl,HO'.out,HG.out⟩):P:=h
theorem Fn {P:Prop} (h:P:=by
 go_wp2_with fail;go_ret
 exact ⟨by rw [HO.out];rfl,IL.out⟩):P:=h
theorem Lp {P:Prop} (h:P:=by
 exact ⟨0,aE,rfl,DX (fun j hj=>absurd hj (Nat.not_lt_zero j)),EX _⟩):P:=h
theorem In {P:Prop} (h:P:=by
 clear ho;go_wp2_with fail;go_ret
 exact ⟨_,_,rfl,by rw [<- HE.out];exact HO.out,HK.out⟩):P:=h
theorem Ts {P:Prop} (h:P:=by
 intro x y he hx
 rcases (hL x).1 hx with rfl | hx
 . refine (hL y).2 (.inr (FZ y ?_))
   unfold AN at he;rw [ho] at he
   simpa using he
 . exact (hL y).2 (.inr (hC x y he hx))):P:=h
theorem Qz {P:Prop} (h:P:=by
 go_wp2_with fail;go_roundw
 case rel=>exact ⟨k+1,aE,by go_num,by rw [NY.out,List.all_append,IR.out];simp [ML.out],IQ.out⟩
 case measure=>simp [intOf];omega):P:=h
theorem Ln {P:Prop} (h:P:=by
 rw [List.getD_eq_getElem?_getD,List.getD_eq_getElem?_getD,List.getElem?_take_of_lt hi]):P:=h
theorem Rm {P:Prop} (h:P:=by
 rw [HX.out,GI.out];exact ⟨rfl,(HQ.out.kept NO.out).setRow NR.out aF aF aF aF _,(FA NO.out GY).setRow (ED _) GY _⟩):P:=h
theorem Rv {P:Prop} (h:P:=by
 have HB:=DX (show dV s=true by rw [HNW.out,ZR,HGP.out];rfl);go_wp2;go_ret3
 exact ⟨HNR.out _ _ (.inl ⟨HB.out,_,_,rfl,PB,IN.out⟩),HKq.out.trans HKr.out⟩):P:=h
theorem Sn {P:Prop} (h:P:=by
 rcases Nat.lt_trichotomy a.toNat b.toNat with q | q | q
 . exact absurd (UInt8.lt_iff_toNat_lt.2 q) h
 . exact UInt8.toNat_inj.1 q
 . exact absurd (UInt8.lt_iff_toNat_lt.2 q) k):P:=h
theorem Dz {P:Prop} (h:P:=by
 go_ret
 exact ⟨by rw [HO.out];rfl,IL.out.trans IA.out⟩):P:=h
theorem Sf {P:Prop} (h:P:=by
 clear h;go_enter Tryz.func90,Tryz.ntmps90;go_wp2_with fail
 refine (HR.out).mono ?_
 rintro e w1 ⟨rfl,hk⟩;have HK:=DX hk;clear hk;go_wp2;go_ret
 exact ⟨rfl,HK.out⟩):P:=h
theorem Ra {P:Prop} (h:P:=by
 go_wp2_with fail;go_roundw
 case rel=>exact ⟨k+1,by go_num,aE,a9,c9,rfl,DX (by rw [IX.out];exact XQ.out),JQ⟩
 case measure=>simp [intOf];omega):P:=h
theorem Ef {P:Prop} (h:P:=by
 go_wp2_with fail;go_ret
 exact ⟨by rw [HE.out];rfl,rfl⟩):P:=h
theorem Rh {P:Prop} (h:P:=by
 simp only [ho,hx,hy,Instr.storeAt,Instr.sureAddr,Sem.run_bind,Sem.run_pure,Result.andThen_ok,run_storeVar_row w g t ty old cells hg hi IG h1]
 exact hK _ _ h):P:=h
theorem Qp {P:Prop} (h:P:=by
 obtain ⟨c0,c1⟩:=hc i hi
 match r,hr with
 | 0,_=>rw [Nat.add_zero] at hj ⊢;rw [h0] at hj;rw [c0,hj]
 | 1,_=>rw [h1] at hj;rw [<- Nat.add_assoc,c1,hj]):P:=h
theorem Jy {P:Prop} (h:P:=by
 go_wp2_with fail
 all_goals (go_meet;exact ⟨⟨_,rfl,fun h=>by cases h⟩,rfl⟩)):P:=h
theorem Ru {P:Prop} (h:P:=by
 simp only [ho,hx,Instr.loadAt,Instr.sureAddr,Sem.run_bind,Sem.run_pure,Result.andThen_ok,vC w p ty cs d hc hu hd hi]
 exact hK _ _ h):P:=h
theorem Qy {P:Prop} (h:P:=by
 rw [OF] at o2 g1 g2
 exact ⟨rfl,o2,fN (fN (show w.grownBy w.drew (some g) from ⟨rfl,rfl,rfl,EA _,fun _ _ _=>rfl⟩) g1) g2⟩):P:=h
theorem Ki {P:Prop} (h:P:=by
 go_wp2;go_ret
 exact ⟨none,0,rfl,World.ownsRow_nil _ _ _ _,EX _⟩):P:=h
theorem Tn {P:Prop} (h:P:=by
 generalize Bl.begins.getD k 0=y at *;go_wp2;go_roundw
 case rel=>exact ⟨k+1,aE,by go_num,IN.out⟩
 case measure=>simp [intOf];omega):P:=h
theorem Tc {P:Prop} (h:P:=by
 obtain ⟨b,off,ha,hc⟩:=h.cells;refine ⟨b,off,ha hl,fun i hi w kk=>?_⟩;obtain ⟨h0,c0,c1⟩:=hc i hi
 exact ⟨kk.cell h0 c0,kk.cell h0 c1⟩):P:=h
theorem Si {P:Prop} (h:P:=by
 rw [HX.out,GI.out];exact ⟨rfl,XU.out.setRow JM.out aF aF aF aF _,HF9.out.setRow (ED _) GY _⟩):P:=h
theorem Jc {P:Prop} (h:P:=by
 go_wp2_with fail
 all_goals (go_meet;exact ⟨⟨_,rfl,fun _=>hl⟩,rfl⟩)):P:=h
theorem Ry {P:Prop} (h:P:=by
 go_wp2_with fail
 refine (eJ _ _).mono ?_
 rintro e w' ⟨rfl,rfl⟩;go_wp2;rw [Exit.noGoto_ret];go_ret;rw [HP.out]
 exact ⟨rfl,EX _⟩):P:=h
theorem Qk {P:Prop} (h:P:=by
 rw [ho.cellAt k aE];generalize ll.getD i []=L at hk;rw [List.getElem?_map,List.getElem?_eq_getElem hk]
 simp [zC,List.getD,hk]):P:=h
theorem Qx {P:Prop} (h:P:=by
 clear ho hg c0;go_wp2;go_roundw
 case rel=>exact ⟨j+1,_,aE,rfl,by go_num,US.out,HS5.out⟩
 case measure=>simp [intOf];omega):P:=h
theorem Ro {P:Prop} (h:P:=by
 rw [Nat.zero_add,ho.cellAt _ aE,h1]):P:=h
theorem Qh {P:Prop} (h:P:=by
 rw [Nat.zero_add,ho.cellAt _ aE,h0]):P:=h
theorem Qf {P:Prop} (h:P:=by
 exact EH rfl _ _ (wo.heap.size+1) 47 (bB (aY 7)) (0,0) _ rfl (JG.out.setRow _) EV rfl AX):P:=h
theorem Su {P:Prop} (h:P:=by
 exact EH rfl _ _ (wo.heap.size+1) 47 (bB (aY 3)) (0,0) _ rfl (JG.out.setRow _) EV rfl AX):P:=h
theorem Sa {P:Prop} (h:P:=by
 exact EH rfl _ _ (wo.heap.size+1) 47 (bB (aY 1)) (0,0) _ rfl (GK.out.setRow _) EV rfl AX):P:=h
theorem Sd {P:Prop} (h:P:=by
 exact EH rfl _ _ (w.heap.size+1) 47 (bB (aY 11)) (0,0) _ rfl (JM.out.setRow _) EV rfl AX):P:=h
theorem Ql {P:Prop} (h:P:=by
 go_wp2_with fail;go_roundw
 case rel=>exact ⟨k+1,aE,aE,by go_num,HN,FW.out⟩
 case measure=>simp [intOf];omega):P:=h
theorem Tk {P:Prop} (h:P:=by
 go_wp2_with fail;go_roundw
 case rel=>exact ⟨0+1,aE,aE,by go_num,HN,FW.out⟩
 case measure=>simp [intOf];omega):P:=h
theorem Rw {P:Prop} (h:P:=by
 exact EH rfl _ _ (w.heap.size+1) 47 (bB (fT)) (0,0) _ rfl (NR.out.setRow _) EV rfl AX):P:=h
theorem Rx {P:Prop} (h:P:=by
 exact EH rfl _ _ (w.heap.size+1) 47 (bB (fT)) (0,0) _ rfl (IW.out.setRow _) EV rfl AX):P:=h
theorem Qn {P:Prop} (h:P:=by
 clear he;go_wp2_with fail;go_roundw
 case rel=>exact ⟨k+1,aE,by go_num,TU,trivial⟩
 case measure=>simp [intOf];omega):P:=h
theorem Ms {P:Prop} (h:P:=by
 rw [List.map_set]
 apply List.ext_getElem?
 intro j;rw [List.getElem?_set]
 split
 . rename_i e;subst e
   simp [List.getD,GA]
 . rfl):P:=h
theorem Jb {P:Prop} (h:P:=by
 intro j u hj;exact ((EX w).alloc _).addr (HC.out j u hj)):P:=h
theorem To {P:Prop} (h:P:=by
 clear FU IB;go_wp2;go_ret
 exact ⟨a',c',rfl,HO.out,HK.out⟩):P:=h
theorem Mm {P:Prop} (h:P:=by
 have hc:=h i hi;have e:=k.block _ (jC hc) (fun q=>GW (by cases q;rfl));unfold World.cell? at hc ⊢;rw [e]
 exact hc):P:=h
theorem Tf {P:Prop} (h:P:=by
 rcases Nat.eq_zero_or_pos l with e | e
 . exact e
 . cases ha e):P:=h
theorem Rf {P:Prop} (h:P:=by
 unfold Oper.wp
 simp [execOp,ho,resolve,invoke,builtin,hs,hx,aCb,Result.andThen]
 exact hK _ _ (h v' w' h2 h3 h5)):P:=h
theorem Sb {P:Prop} (h:P:=by
 have GW:k≠l:=fun e=>by
  subst e;rw [h] at hk;cases hk;cases hc
 rw [World.putObj_heap_other GW]
 exact hk):P:=h
theorem Qi {P:Prop} (h:P:=by
 rw [getD_set]
 by_cases e:i=j
 . simp [e]
 . rw [if_neg e]
   exact ⟨.inr,fun h=>h.resolve_left (fun h=>e h.symm)⟩):P:=h
theorem If {P:Prop} (h:P:=by
 rcases List.mem_cons.1 hx with rfl | q
 . exact .inl (.inl h2.symm)
 . exact .inr ⟨x,List.mem_append.2 (.inl q),h1,h2⟩):P:=h
theorem Tq {P:Prop} (h:P:=by
 go_wp2_with fail;go_ret2;rw [UQ.out]
 exact ⟨lo,rfl,rfl⟩):P:=h
theorem Qt {P:Prop} (h:P:=by
 exact ⟨0,0,rfl,rfl,.inl ⟨Bn _,EA _,Nat.zero_le _⟩,rfl,World.ownsRow_nil _ _ _ _,EX _⟩):P:=h
theorem Tj {P:Prop} (h:P:=by
 rcases h.2 with ⟨h',h0⟩ | ⟨g',cap',cur,h',_,_,NJ,_⟩
 . cases h';exact EA _
 . cases h';exact NJ):P:=h
theorem Tm {P:Prop} (h:P:=by
 go_wp2_with fail
 refine (dD _ _).mono ?_
 rintro e w' ⟨rfl,rfl⟩;go_wp2;go_ret;rw [HP.out]
 exact ⟨rfl,rfl⟩):P:=h
theorem So {P:Prop} (h:P:=by
 rcases h with ⟨rfl,TB,hkp⟩ | ⟨rfl,UP⟩
 . exact .inl ⟨rfl,HT.out.but hkp hRt,TB⟩
 . exact .inr ⟨rfl,UP⟩):P:=h
theorem Mt {P:Prop} (h:P:=by
 rcases h with ⟨rfl,TB,hkp⟩ | ⟨rfl,UP⟩
 . exact .inl ⟨rfl,HCB.out.trans hkp,TB⟩
 . exact .inr ⟨rfl,UP⟩):P:=h
theorem Rb {P:Prop} (h:P:=by
 rw [Bool.and_eq_true] at h
 exact of_decide_eq_true h.1):P:=h
theorem Sy {P:Prop} (h:P:=by
 rintro aQ a w ⟨hs,hJ⟩ hr
 exact IT _ a w hJ (fun j hj=>Zz hb hs hr (j+1) j aE hj)):P:=h
theorem Qo {P:Prop} (h:P:=by
 cases xm
 . exact .inl rfl
 . refine .inr ⟨rfl,?_⟩
   cases ok
   . exact absurd ⟨hxm,rfl⟩ RE
   . rfl):P:=h
theorem Qs {P:Prop} (h:P:=by
 have hr:Region.ready md ops aQ=[]:=AQ aE
 exact ⟨hr,IT aQ a w hJ hr⟩):P:=h
theorem Qj {P:Prop} (h:P:=by
 simp [Instr.index,run_underlying h,asIntOf,hn,nW w hs,Sem.run_bind,e1]
 intro q
 omega):P:=h
theorem Iy {P:Prop} (h:P:=by
 rw [h] at e;cases e;have h2:=LV.lt;have h3:=OL.out.lt;have:=kx.size
 simp at this ⊢
 omega):P:=h
theorem Sl {P:Prop} (h:P:=by
 exact ⟨0,aE,rfl,HB.out,HO.out,HK.out⟩):P:=h
theorem Td {P:Prop} (h:P:=by
 obtain rfl:R=[]:=HF.out;clear HF;go_wp2;go_ret
 exact ⟨none,0,rfl,kX _ _,HK.out⟩):P:=h
theorem Sc {P:Prop} (h:P:=by
 rw [ByteArray.data_extract,Array.toList_extract,List.extract_eq_take_drop,List.drop_take]):P:=h
theorem Lh {P:Prop} (h:P:=by
 go_wp2;go_ret
 rw [HX.out,GI.out];exact ⟨rfl,HQ.out.kept FW.out,FA FW.out GY⟩):P:=h
theorem Sx {P:Prop} (h:P:=by
 exact ⟨0,aE,rfl,by simp,by trivial⟩):P:=h
theorem Sg {P:Prop} (h:P:=by
 exact ⟨0,aE,rfl,DX (fun q hq=>absurd hq (Nat.not_lt_zero q)),EX _⟩):P:=h
theorem Qv {P:Prop} (h:P:=by
 have:=congrArg (List.drop 1) HL.out.2
 simpa [List.drop_drop,Nat.add_comm] using this):P:=h
theorem Rk {P:Prop} (h:P:=by
 unfold mF
 rw [List.drop_zero,Nat.sub_zero,EE (EA _)]):P:=h
theorem Rn {P:Prop} (h:P:=by
 unfold bP;rw [Array.getElem?_append_right (by rw [eL h];omega),eL h]
 rfl):P:=h
theorem Rc {P:Prop} (h:P:=by
 exact ⟨0,aE,rfl,DX (fun j hj=>absurd hj (Nat.not_lt_zero j)),rfl⟩):P:=h
theorem St {P:Prop} (h:P:=by
 simp only [ho,hr,Sem.run_bind,Sem.run_pure,Result.andThen_ok]
 exact hK _ _ h):P:=h
theorem Qq {P:Prop} (h:P:=by
 unfold of;rw [List.getD_eq_getElem?_getD,List.getElem?_eq_none aE]
 rfl):P:=h
theorem Rt {P:Prop} (h:P:=by
 go_enter Tryz.func152,Tryz.ntmps152;go_wp2;go_ret;rw [HP.out]
 exact ⟨rfl,rfl⟩):P:=h
theorem Rj {P:Prop} (h:P:=by
 rintro e w' ⟨a',c',rfl,ho,hg⟩
 exact ⟨a',c',none,rfl,ho,hg,dX.none⟩):P:=h
theorem Sz {P:Prop} (h:P:=by
 go_enter Tryz.func68,Tryz.ntmps68;go_wp2;go_ret;rw [HP.out]
 exact ⟨rfl,rfl⟩):P:=h
theorem Re {P:Prop} (h:P:=by
 unfold Zr at hl;rw [Bool.and_eq_true] at hl
 exact of_decide_eq_true hl.1):P:=h
theorem Sv {P:Prop} (h:P:=by
 rw [List.take_succ_eq_append_getElem h,List.all_append]
 simp [List.getD,h]):P:=h
theorem Tr {P:Prop} (h:P:=by
 clear ha FX HI;go_wp2_with fail;go_ret
 exact ⟨by rw [HA.out];rfl,HK.out⟩):P:=h
theorem Sr {P:Prop} (h:P:=by
 obtain ⟨h1,_⟩:=hh
 match h,h1 with
 | [a,b,c,d,e,f,g,i],_=>rfl):P:=h
theorem FR {P:Prop} (h:P:=by
 obtain ⟨h1,_⟩:=h
 match v,h1 with
 | [a,b,c,d,e,f,g,i],_=>rfl):P:=h
end Go.Proofs.YtkfmladhicapeaaGreatDoor
