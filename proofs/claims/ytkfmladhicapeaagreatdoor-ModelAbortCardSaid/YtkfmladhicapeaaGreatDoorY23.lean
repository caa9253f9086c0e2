import Derived.Test.YtkfmladhicapeaaGreatDoorY22
import Derived.Test.YtkfmladhicapeaaGreatDoorY12
import Derived.Test.YtkfmladhicapeaaGreatDoorY15
set_option maxRecDepth 100000
set_option maxHeartbeats 4000000
namespace Go.Proofs.YtkfmladhicapeaaGreatDoor
open Go.RowKit Go.Shelf
attribute [local go_sem] Oper.semAt_some
def dg (l:List UInt8):ByteArray:=⟨(Bl.digest l).toArray⟩
theorem Eu (l:List UInt8):(dg l).size=32:=by
 show (Bl.digest l).toArray.size=32
 rw [List.size_toArray,Bl.digest_length]
theorem mL (s:ByteArray) (a b:Nat):(s.extract a b).data.toList=Bl.cut s.data.toList a b:=by
 unfold Bl.cut;exact Sc
theorem Hh (H:List Nat):(List.replicate 32 (0:UInt8)).mapIdx (fun i _=>Bl.byteOf H i)=Bl.bytes H:=by
 apply List.ext_getElem
 . simp [Bl.bytes]
 . intro i h1 h2
   rw [List.getElem_mapIdx]
   show Bl.byteOf H i=((List.range 32).map (Bl.byteOf H))[i]'(by simpa [Bl.bytes] using h2)
   rw [List.getElem_map,List.getElem_range]
theorem Ei (H:List Nat) (j:Nat):((H.getD (j / 4) 0:Nat):Int) / 2 ^ (8*(j % 4)) % 256=((Bl.byteOf H j).toNat:Int):=by
 unfold Bl.byteOf;generalize 8*(j % 4)=e;generalize H.getD (j / 4) 0=x;rw [show ((x:Nat):Int) / 2 ^ e=((x / 2 ^ e:Nat):Int) by simp];generalize x / 2 ^ e=y;rw [UInt8.toNat_ofNat'];omega
theorem zH (s:ByteArray) (hs:s.size<=9223372036854775807) (w:World) :
 Calls Tryz.prog 62 #[.string s] w fun e w'=>e=.returned (.string (dg s.data.toList))/\aB w w':=by
 go_enter Tryz.func62,Tryz.ntmps62;go_wp2_with fail
 refine (rF _).mono ?_
 rintro e w1 ⟨rfl,MF⟩
 go_upto_region 2 with (first
  | (with_reducible refine aZ rfl 102 rfl z8 BK ?_)
  | (refine aD rfl 102 (.tmp 3) (.tmp 7) rfl w1.heap.size (cw Bl.begins) z8 102 rfl rfl (EY _ _ _) AZ rfl (iT _) ?_))
 obtain ⟨w2,UO⟩:∃ w2,w2=(w1.alloc (.cells z8 102)).setRow w1.heap.size (cw Bl.begins):=⟨_,rfl⟩
 rw [<- UO]
 have FX:aB w w2:=by rw [UO];exact (MF.alloc _).setRow (MF.size) _
 have QG:aA w2 w1.heap.size (cw Bl.begins) 102:=by rw [UO];exact (EY w1 _ _).setRow _
 obtain ⟨pb,PK⟩:∃ pb,pb=w1.heap.size:=⟨_,rfl⟩
 have MG:w.heap.size<=pb:=by rw [PK];exact MF.size
 rw [<- PK] at QG ⊢;have VG:=V8.here QG Bl.begins_ok;have c0:=VG.cell 0 aE;have f0:=VG.free 0
 have e1:bits .xor .u32 (Bl.begins.getD 0 0:Nat) 16842784=((Bl.begins.getD 0 0 ^^^ 16842784:Nat):Int):=wM _ 16842784 (Bl.begins_ok.at 0) aF
 have IN:=DX (show V8 w2 pb Bl.h0 _ from VG.put0 0 (Bl.xor_lt (Bl.begins_ok.at 0) (by decide:16842784<4294967296)));have FW:=DX FX;clear UO FX QG PK VG MF;generalize Bl.begins.getD 0 0 ^^^ 16842784=z at *;generalize Bl.begins.getD 0 0=y at *
 go_upto_region 3 with fail
 generalize w2.setCell _ _=w3 at IN ⊢;have GC:=DX (IN.out.kept FW.out MG);have SW:=DX (V8.here IN.out.row IN.out.ok);clear IN FW c0 f0 e1;go_wp2_with fail;go_loopw [4] (fun i wx=>∃ k at_:Nat,Hid (at_=64*k)/\k<=Bl.ahead s.size/\i=.int .i64 at_/\V8 w3 pb (Bl.sums s.data.toList k) wx) (fun i _=>s.size - (intOf i).toNat)
 case atStart=>exact ⟨0,0,DX rfl,aE,rfl,SW.out⟩
 case round =>
  obtain ⟨k,at_,GA,hk,rfl,hv⟩:=hrel;have IS:=DX hv;clear hv
  by_cases FV:k<Bl.ahead s.size
  . as_aux_lemma =>
     obtain ⟨u,hu⟩:∃ u,u=at_+64:=⟨_,rfl⟩
     have hi8:(at_:Int)+64=(u:Int):=by omega
     have hau:at_<=u:=by omega
     have hul:u<=s.size:=by have h:=GA.out;unfold Bl.ahead at FV;omega
     have GU:decide (64<(s.size:Int) - (at_:Int))=true:=DZ (by have h:=GA.out;unfold Bl.ahead at FV;omega)
     have hc:Calls Tryz.prog 93 #[.pointer (some ⟨pb,0,none⟩),.string (s.extract at_ u),.int .u64 u,.bool false] wr fun e w'=>e=.returned (.tuple #[])/\V8 wr pb (Bl.sums s.data.toList (k+1)) w':=by
      have q:=uL pb (Bl.sums s.data.toList k) (s.extract at_ u) u false (by rw [ByteArray.size_extract];omega) aE wr (V8.here IS.out.row IS.out.ok);rw [mL] at q;rw [hu,GA.out] at q;rw [hu,GA.out];exact q
     have HC:=DX hc;have JA:=DX (show u=64*(k+1) by have h:=GA.out;omega);have HUL:=DX hul;clear hc GA hu;go_wp2_with fail
     refine HC.out.mono ?_
     rintro e w5 ⟨rfl,hw⟩;have HVn:=DX (V8.mk hw.row (bE IS.out.grown hw.grown) hw.ok);clear hw HC IS;go_wp2;go_roundw
     case rel=>exact ⟨k+1,u,JA,aE,by go_num,HVn.out⟩
     case measure=>simp [intOf];omega
  . obtain ⟨l0,PV⟩:∃ l0,l0=s.size:=⟨_,rfl⟩
    obtain rfl:k=Bl.ahead s.size:=by omega
    have GU:decide (64<(s.size:Int) - (at_:Int))=false:=DY (by have h:=GA.out;unfold Bl.ahead at h;omega)
    have hal:at_<=s.size:=by have h:=GA.out;unfold Bl.ahead at h;omega
    obtain ⟨H,hH⟩:∃ H,H=Bl.block (Bl.sums s.data.toList (Bl.ahead s.size)) (s.data.toList.drop at_) s.size true:=⟨_,rfl⟩
    have hc:Calls Tryz.prog 93 #[.pointer (some ⟨pb,0,none⟩),.string (s.extract at_ s.size),.int .u64 s.size,.bool true] wr fun e w'=>e=.returned (.tuple #[])/\V8 wr pb H w':=by
     have q:=uL pb (Bl.sums s.data.toList (Bl.ahead s.size)) (s.extract at_ s.size) s.size true (by rw [ByteArray.size_extract];have h:=GA.out;unfold Bl.ahead at h;omega) aE wr (V8.here IS.out.row IS.out.ok);rw [mL,show Bl.cut s.data.toList at_ s.size=s.data.toList.drop at_ by unfold Bl.cut;rw [EE (by simp)],<- hH] at q;exact q
    have HC:=DX hc;have HDG:=DX (show Bl.bytes H=Bl.digest s.data.toList by rw [hH,GA.out];unfold Bl.digest;simp only [Array.length_toList];rfl);clear hc hH GA PV;go_wp2_with fail
    refine HC.out.mono ?_
    rintro e w5 ⟨rfl,hw⟩;have IQ:=DX (hw.kept (IS.out.kept GC.out MG) MG);have OV:=DX (V8.here hw.row hw.ok);clear hw HC IS SW;have KJ:pb<w5.heap.size:=OV.out.row.lt
    have hmk:∀ w:World,(Instr.makeSlice 107 (.int .i64 32) (.int .i64 32)).run Tryz.prog w=.ok (.slice (some ⟨w.heap.size,0,none⟩) 32 32) (w.alloc (.cells (madeCells #[.int .u8 0] 32) 5)):=Vp 32 aF
    have LB:=DX (Xd w5 32)
    go_upto_region 9 with (fail)
    have NO:=DX (IQ.out.alloc (.cells (madeCells #[.int .u8 0] 32) 5));have MO:=DX (OV.out.on ((EX _).alloc (.cells (madeCells #[.int .u8 0] 32) 5)))
    obtain ⟨pd,hpd⟩:∃ pd,pd=w5.heap.size:=⟨_,rfl⟩
    rw [<- hpd] at LB KJ ⊢;clear hmk IQ OV hpd;generalize w5.alloc (.cells (madeCells #[.int .u8 0] 32) 5)=w6 at *;go_wp2_with fail;go_loopw [6] (fun i wx=>∃ k:Nat,k<=32/\i=.int .i64 k/\Ez wx pd (oA (fun i _=>Bl.byteOf H i) (List.replicate 32 0) k)/\w6.grownBy wx (some pd)) (fun i _=>32 - (intOf i).toNat)
    case atStart=>exact ⟨0,aE,rfl,by rw [Gt];exact LB.out,kC _ _⟩
    case round =>
     obtain ⟨k,hk,rfl,hbf,IB⟩:=hrel;have HB:=DX hbf;have HG:=DX IB;clear hbf IB
     have LW:(oA (fun i _=>Bl.byteOf H i) (List.replicate 32 (0:UInt8)) k).length=32:=by rw [Bj,List.length_replicate]
     by_cases FV:k<32
     . as_aux_lemma =>
        have e1:=Ei H k;have f1:=HB.out.free k (by rw [LW];exact FV)
        obtain ⟨z0,c0⟩:∃ z0,wr.cell? ⟨pd,k,none⟩=some z0:=⟨_,HB.out.cell k (by rw [LW];exact FV)⟩
        obtain ⟨q,hq⟩:∃ q,q=k / 4:=⟨_,rfl⟩
        obtain ⟨r,hr⟩:∃ r,r=k % 4:=⟨_,rfl⟩
        have hq8:q<8:=by omega
        have hr4:r<4:=by omega
        have c1:=(aU MO.out.row HG.out aE).cell q
        rw [cR _ _ (by rw [MO.out.ok.len];exact hq8)] at c1
        have GL:∀ nq,Ez ((wr.drewN nq).setCell ⟨pd,k,none⟩ (.int .u8 ((Bl.byteOf H k).toNat:Int))) pd (oA (fun i _=>Bl.byteOf H i) (List.replicate 32 (0:UInt8)) (k+1)):=fun nq=>by
         have q:=(HB.out.kept ((EX _).drewN nq)).set k (by rw [LW];exact FV) (Bl.byteOf H k)
         have q2:=Jq (fun i _=>Bl.byteOf H i) (List.replicate 32 (0:UInt8)) k (by simpa using FV);rw [q2] at q;exact q
        have IN:=DX GL
        have IB:∀ nq,w6.grownBy ((wr.drewN nq).setCell ⟨pd,k,none⟩ (.int .u8 ((Bl.byteOf H k).toNat:Int))) (some pd):=fun nq=>kH HG.out nq k _
        have HGR:=DX IB
        have XF:(k:Int) / 4=(q:Int):=by omega
        have hr2:(k:Int) % 4=(r:Int):=by omega
        rw [<- hq,<- hr] at e1;have hul:=MO.out.ok.at q;clear GL IB hq hr LW;generalize H.getD q 0=u at *;generalize Bl.byteOf H k=y at *;go_wp2;go_roundw
        case rel=>exact ⟨k+1,aE,by go_num,IN.out 0,HGR.out 0⟩
        case measure=>simp [intOf];omega
     . obtain rfl:k=32:=by omega
       have hcv:=HB.out.string (P:=Tryz.prog) 107 9 5 EO EM EN 32;rw [LW,Jo _ _ _ (by simp),Hh,HDG.out] at hcv
       have hcv2:(convert 107 9 (.slice (some ⟨pd,0,none⟩) 32 32)).run Tryz.prog wr=.ok (.string (dg s.data.toList)) wr:=hcv
       have JQ:=DX (NO.out.gr HG.out (fun _ e=>by cases e;omega));clear hcv LW HB HG
       obtain ⟨D,hD⟩:∃ D,D=dg s.data.toList:=⟨_,rfl⟩
       have HD:=DX hD;rw [<- hD] at hcv2;clear hD;go_wp2;go_ret;exact ⟨by rw [<- HD.out];rfl,JQ.out⟩
end Go.Proofs.YtkfmladhicapeaaGreatDoor
namespace Go.Proofs.YtkfmladhicapeaaGreatDoor
open Go.RowKit Go.Shelf
def iZ (ts:List Th) (d:ByteArray) (j:Bool):Bool:=decide (cQ ts d<ts.length)&&((ts.getD (cQ ts d) aX).m == j)
def iN (ts:List Th) (t:ByteArray):Bool:=match bJ t with
 | none=>false
 | some m=>m.bs.all (fun d=>iZ ts d false)&&m.us.all (fun d=>iZ ts d true)
def oN (ts:List Th) (x:Th):Bool:=decide (x.d=dg x.t.data.toList)&&(!x.m||iN ts x.t)
def yR (ts:List Th):Bool:=fF ts&&ts.all (oN ts)
def kL (gs:List Tg):List ByteArray:=gs.map (·.n)
noncomputable def rK (ts:List Th) (x:Tg):Bool:=dV x.n&&iZ ts x.d true
noncomputable def Cc (ts:List Th) (gs:List Tg):Bool:=decide (gs.length<=40)&&(gs.all (rK ts)&&gG (kL gs))
def nI (nx:Int) (x:Se):Bool:=decide (0<=x.i/\x.i<nx)&&decide (x.t.size<=2000)
def kF (ss:List Se) (n:Nat):Bool:=(List.range n).all fun i=>decide (i=0)||decide ((ss.getD (i - 1) bQ).i<(ss.getD i bQ).i)
def yO (ss:List Se) (nx:Int):Bool:=decide (ss.length<=8)&&(decide (0<=nx/\nx<=1073741824)&&(ss.all (nI nx)&&kF ss ss.length))
structure dN where
 ts:List Th
 gs:List Tg
 ss:List Se
 nx:Int
noncomputable def dP (s:dN):Bool:=yR s.ts&&(Cc s.ts s.gs&&yO s.ss s.nx)
structure rN where
 n:Int
 t:ByteArray
 e:Int
def fT:rN:=⟨0,ByteArray.empty,0⟩
def aY (e:Int):rN:=⟨0,ByteArray.empty,e⟩
def dY (n:Int):rN:=⟨n,ByteArray.empty,0⟩
def eT (t:ByteArray):rN:=⟨0,t,0⟩
def fR:List Se->Int->Nat
 | [],_=>0
 | x :: r,i=>if x.i=i then 0 else fR r i+1
def gK:List Tg->ByteArray->Nat
 | [],_=>0
 | x :: r,n=>if x.n=n then 0 else gK r n+1
def rJ (gs:List Tg) (n:ByteArray):Nat:=(gs.takeWhile fun x=>cZ x.n n).length
def iR (ts:List Th) (t:Th):List Th:=ts.take (fZ ts t.d)++[t]++ts.drop (fZ ts t.d)
def mO (gs:List Tg) (g:Tg):List Tg:=gs.take (rJ gs g.n)++[g]++gs.drop (rJ gs g.n)
def eF (s:dN):dN × rN:=if s.ss.length>=8\/s.nx=1073741824 then (s,aY 2) else ({ s with ss:=s.ss++[⟨s.nx,ByteArray.empty⟩],nx:=s.nx+1 },dY s.nx)
def eZ (s:dN) (id:Int):dN × rN:=if fR s.ss id<s.ss.length then ({ s with ss:=s.ss.eraseIdx (fR s.ss id) },fT) else (s,aY 3)
def eW (s:dN) (id:Int) (t:ByteArray):dN × rN :=
 if fR s.ss id<s.ss.length then
  (if (s.ss.getD (fR s.ss id) bQ).t.size+t.size>2000 then (s,aY 2)
   else ({ s with ss:=s.ss.set (fR s.ss id) ⟨(s.ss.getD (fR s.ss id) bQ).i,(s.ss.getD (fR s.ss id) bQ).t++t⟩ },dY (((s.ss.getD (fR s.ss id) bQ).t.size+t.size:Nat):Int)))
 else (s,aY 3)
def eD (s:dN) (id:Int) (d:ByteArray):dN × rN :=
 if fR s.ss id<s.ss.length then
  (if dg (s.ss.getD (fR s.ss id) bQ).t.data.toList=d then
   (if cQ s.ts d<s.ts.length then ({ s with ss:=s.ss.eraseIdx (fR s.ss id) },dY ((s.ss.getD (fR s.ss id) bQ).t.size:Int))
    else if s.ts.length>=60 then (s,aY 2)
    else ({ s with ts:=iR s.ts ⟨d,(s.ss.getD (fR s.ss id) bQ).t,false⟩,ss:=s.ss.eraseIdx (fR s.ss id) },dY ((s.ss.getD (fR s.ss id) bQ).t.size:Int)))
   else (s,aY 7))
 else (s,aY 3)
def Vj (t:ByteArray) (n m:Int):ByteArray:=t.extract n.toNat (n.toNat+min m.toNat (t.size - n.toNat))
def cW (s:dN) (k:Int) (d:ByteArray) (n m:Int):dN × rN :=
 if cQ s.ts d<s.ts.length then
  (if k=5 then (s,dY ((s.ts.getD (cQ s.ts d) aX).t.size:Int))
   else if k=4 then (s,eT (s.ts.getD (cQ s.ts d) aX).t)
   else if n<0\/n>((s.ts.getD (cQ s.ts d) aX).t.size:Int)\/m<0 then (s,aY 1)
   else (s,eT (Vj (s.ts.getD (cQ s.ts d) aX).t n m)))
 else (s,aY 3)
def eE (s:dN) (d:ByteArray):dN × rN :=
 if cQ s.ts d<s.ts.length then
  (if (fS s.ts d).length>0\/(s.gs.any fun x=>decide (x.d=d))=true then (s,aY 11)
   else ({ s with ts:=s.ts.eraseIdx (cQ s.ts d) },fT))
 else (s,aY 3)
def iC (s:dN) (t:ByteArray):dN × rN :=
 if (bJ t).isSome=true then
  (if iN s.ts t=true then
   (if cQ s.ts (dg t.data.toList)<s.ts.length then (s,eT (dg t.data.toList))
    else if s.ts.length>=60 then (s,aY 2)
    else ({ s with ts:=iR s.ts ⟨dg t.data.toList,t,true⟩ },eT (dg t.data.toList)))
   else (s,aY 3))
 else (s,aY 7)
noncomputable def mC (s:dN) (n d:ByteArray):dN × rN :=
 if dV n=true then
  (if iZ s.ts d true=true then
   (if gK s.gs n<s.gs.length then ({ s with gs:=s.gs.set (gK s.gs n) ⟨(s.gs.getD (gK s.gs n) bL).n,d⟩ },fT)
    else if s.gs.length>=40 then (s,aY 2)
    else ({ s with gs:=mO s.gs ⟨n,d⟩ },fT))
   else (s,aY 3))
 else (s,aY 7)
def gQ (s:dN) (n:ByteArray):dN × rN:=if gK s.gs n<s.gs.length then (s,eT (s.gs.getD (gK s.gs n) bL).d) else (s,aY 3)
def eY (s:dN) (n:ByteArray):dN × rN:=if gK s.gs n<s.gs.length then ({ s with gs:=s.gs.eraseIdx (gK s.gs n) },fT) else (s,aY 3)
def qO (s:dN):List Th:=s.ts.filter fun x=>iS x.d (eG s.ts (s.gs.map (·.d)))
def nE (s:dN):dN × rN:=({ s with ts:=qO s },dY ((s.ts.length - (qO s).length:Nat):Int))
noncomputable def dK (s:dN) (o:fV):dN × rN :=
 if o.k=1 then eF s
 else if o.k=2 then eW s o.id o.t
 else if o.k=3 then eD s o.id o.d
 else if o.k=4\/o.k=5\/o.k=6 then cW s o.k o.d o.n o.m
 else if o.k=7 then eE s o.d
 else if o.k=8 then iC s o.t
 else if o.k=9 then mC s o.name o.d
 else if o.k=10 then gQ s o.name
 else if o.k=11 then eY s o.name
 else if o.k=12 then nE s
 else eZ s o.id
theorem jT (gs:List Tg) (i:Nat):pQ (kL gs) i=(gs.getD i bL).n:=by
 unfold pQ kL;simp only [List.getD_eq_getElem?_getD,List.getElem?_map]
 cases gs[i]? <;> rfl
theorem vE (ss:List Se) (n:Nat):kF ss (n+1)=(kF ss n&&(decide (n=0)||decide ((ss.getD (n - 1) bQ).i<(ss.getD n bQ).i))):=by
 unfold kF;rw [List.range_succ,List.all_append]
 simp
theorem Fc {ss:List Se} {n i:Nat} (h:kF ss n=true) (hi:i<n) (h0:0<i):(ss.getD (i - 1) bQ).i<(ss.getD i bQ).i:=by
 unfold kF at h;have:=List.all_eq_true.1 h i (List.mem_range.2 hi);rw [Bool.or_eq_true] at this
 rcases this with q | q
 . have:=of_decide_eq_true q;omega
 . exact of_decide_eq_true q
theorem uA {ss:List Se} {n i:Nat} (hi:i<n) (h0:0<i) (h:¬ (ss.getD (i - 1) bQ).i<(ss.getD i bQ).i):kF ss n=false:=by
 cases e:kF ss n with
 | false=>rfl
 | true=>exact absurd (Fc e hi h0) h
theorem kV {α:Type} (p:α->Bool) (l:List α) (z:α) (k:Nat) (h:k<l.length):(l.take (k+1)).all p=((l.take k).all p&&p (l.getD k z)):=by
 exact Sv
theorem eQ {α:Type} {p:α->Bool} {x:α} {l:List α} (h:x∈l) (hp:p x=false):l.all p=false:=by
 rw [List.all_eq_false];exact ⟨x,h,by rw [hp];decide⟩
theorem bY {α:Type} {l:List α} {k:Nat} (z:α) (h:k<l.length):l.getD k z∈l:=by simp [List.getD,h]
theorem bV {a b:Bool} (h:a=false):(a&&b)=false:=by rw [h];rfl
theorem bC {a b:Bool} (h:b=false):(a&&b)=false:=by rw [h];cases a <;> rfl
theorem aI {W:World} {b:Nat} {x y z u:Value} {t:TypeId} (h:aA W b #[x,y,z,u] t):W.cell? ⟨b,0,none⟩=some x/\W.cell? ⟨b,1,none⟩=some y/\W.cell? ⟨b,2,none⟩=some z/\W.cell? ⟨b,3,none⟩=some u :=
 ⟨h.cell 0,h.cell 1,h.cell 2,h.cell 3⟩
theorem oV {W:World} {b:Nat} {x y:Value} {t:TypeId} (h:aA W b #[x,y] t):W.cell? ⟨b,0,none⟩=some x/\W.cell? ⟨b,1,none⟩=some y:=⟨h.cell 0,h.cell 1⟩
end Go.Proofs.YtkfmladhicapeaaGreatDoor
namespace Go.Proofs.YtkfmladhicapeaaGreatDoor
open Go.RowKit Go.Shelf
attribute [local go_sem] Oper.semAt_some
theorem sP (a:Option Addr) (l cap:Nat) (ts:List Th) (t:ByteArray) (w0:World) (h:bO w0 a l ts) :
 Calls Tryz.prog 50 #[.slice a l cap,.string t] w0 fun e w'=>e=.returned (.bool (iN ts t))/\aB w0 w':=by
 have JV:=DX h;clear h
 obtain ⟨m,hm⟩:∃ m,m=pR (bJ t):=⟨_,rfl⟩
 obtain ⟨ok,JR⟩:∃ ok,ok=(bJ t).isSome:=⟨_,rfl⟩
 have RO:=DX (show ok=true->iN ts t=(m.bs.all (fun d=>iZ ts d false)&&m.us.all (fun d=>iZ ts d true)) from fun h=>by
  unfold iN;subst hm JR
  cases ho:bJ t with
  | none=>rw [ho] at h;cases h
  | some m=>rfl)
 have HNN:=DX (show ok=false->iN ts t=false from fun h=>by
  unfold iN;subst JR
  cases ho:bJ t with
  | none=>rfl
  | some m=>rw [ho] at h;cases h)
 have QZ:=DX (jG t m ok hm JR w0);clear hm JR;go_enter Tryz.func50,Tryz.ntmps50;go_wp2_with fail
 refine QZ.out.mono ?_
 rintro e w1 ⟨ab,cb0,au,cu0,rfl,VF,RI,hk⟩;have IL:=DX hk;have HS1:=DX VF;have HS2:=DX RI;clear VF RI hk QZ
 cases ok with
 | false =>
  have HF:=DX (HNN.out rfl);clear HNN RO;go_wp2_with fail;have GQ:=DX (IL.out.alloc ((KM m.k ab m.bs.length cb0 au m.us.length cu0)));go_ret;exact ⟨by rw [HF.out];rfl,GQ.out⟩
 | true =>
  have ZA:=DX (RO.out rfl);clear HNN RO
  go_upto_region 2 with (fail)
  have HB:=DX (EY w1 (LM m.k ab m.bs.length cb0 au m.us.length cu0) 85);have GQ:=DX (IL.out.alloc ((KM m.k ab m.bs.length cb0 au m.us.length cu0)));have HSbs:=DX (HS1.out.kept ((EX w1).alloc ((KM m.k ab m.bs.length cb0 au m.us.length cu0))));have HSus:=DX (HS2.out.kept ((EX w1).alloc ((KM m.k ab m.bs.length cb0 au m.us.length cu0))));generalize w1.alloc ((KM m.k ab m.bs.length cb0 au m.us.length cu0))=w4 at *;have JK:=DX (fun w (k:aB w4 w)=>dI (HB.out.kept k));generalize w1.heap.size=p0 at *;obtain ⟨r0,r1,r2⟩:=JK.out _ (EX _);clear HB HS1 HS2;go_wp2_with fail;go_loopw [7] (fun kv wr=>∃ k:Nat,k<=m.bs.length/\kv=.int .i64 k/\(m.bs.take k).all (fun d=>iZ ts d false)=true/\aB w4 wr) (fun kv _=>m.bs.length - (intOf kv).toNat)
  case atStart=>exact ⟨0,aE,rfl,rfl,EX _⟩
  case round =>
   rename World=>wr
   obtain ⟨k,hk,rfl,GH,IF⟩:=hrel;have IA:=DX IF;have IR:=DX GH;obtain ⟨r0,r1,r2⟩:=JK.out _ IF;clear IF GH;have hlebs:=HSbs.out.le
   by_cases FV:k<m.bs.length
   . have GU:decide (k<m.bs.length)=true:=DZ FV
     have NY:=DX (qG m.bs k FV);have IJ:=DX (show m.bs.getD k ByteArray.empty∈m.bs by simp [List.getD,FV]);obtain ⟨bbs,obs,NZ,MU⟩:=HSbs.out.at aE;rw [NZ] at r1;have cb:=MU k FV wr IA.out;generalize m.bs.getD k ByteArray.empty=d at *;clear MU NZ;go_wp2_with fail
     refine (gR a l cap ts d _ (JV.out.kept (GQ.out.trans IA.out))).mono ?_
     rintro e w5 ⟨rfl,GZ⟩;have IQ:=DX (IA.out.trans GZ);clear GZ cb r0 r1 r2
     by_cases GA:cQ ts d<ts.length
     . have hz:kR ts d=(cQ ts d:Int):=by unfold kR;rw [if_pos GA]
       rw [hz];have GM:=JV.out.len_eq;have JH:decide (((cQ ts d:Nat):Int)<0)=false:=DY aE;obtain ⟨bt,ot,rfl,JC⟩:=JV.out.at aE;obtain ⟨c0,c1,c2⟩:=JC (cQ ts d) aE w5 (GQ.out.trans IQ.out);have ZK:decide (cQ ts d<l)=true:=DZ aE
       have hlz:cQ ts d<l:=by omega
       obtain ⟨M,hM⟩:∃ M,M=(ts.getD (cQ ts d) aX).m:=⟨_,rfl⟩
       have ML:=DX (show iZ ts d false=(M == false) by unfold iZ;rw [DZ GA,hM];rfl);rw [<- hM] at c2;clear JC hz hM c0 c1 GM;generalize cQ ts d=z at *
       cases M with
       | true =>
        have HF:=DX (show iN ts t=false by rw [ZA.out];exact bV (eQ IJ.out (by first | exact ML.out | (rw [ML.out];rfl))));exact Eo
       | false =>
        exact Qz
     . have hz:kR ts d = -1:=by unfold kR;rw [if_neg GA]
       rw [hz]
       have JH:decide ((-1:Int)<0)=true:=by decide
       have ML:=DX (show iZ ts d false=false by unfold iZ;rw [DY GA];rfl);have HF:=DX (show iN ts t=false by rw [ZA.out];exact bV (eQ IJ.out (by first | exact ML.out | (rw [ML.out];rfl))));clear hz GA;exact Eo
   . obtain rfl:k=m.bs.length:=by omega
     have GU:decide (m.bs.length<m.bs.length)=false:=DY aE;rw [List.take_length] at IR;have HA1:=DX IR.out;clear IR FV hk;go_wp2_with fail;go_loopw [9] (fun kv wr=>∃ k:Nat,k<=m.us.length/\kv=.int .i64 k/\(m.us.take k).all (fun d=>iZ ts d true)=true/\aB w4 wr) (fun kv _=>m.us.length - (intOf kv).toNat)
     case atStart=>exact ⟨0,aE,rfl,rfl,IA.out⟩
     case round =>
      rename World=>wr
      obtain ⟨k,hk,rfl,GH,IF⟩:=hrel;have IA:=DX IF;have IR:=DX GH;obtain ⟨r0,r1,r2⟩:=JK.out _ IF;clear IF GH;have hleus:=HSus.out.le
      by_cases FV:k<m.us.length
      . have GU:decide (k<m.us.length)=true:=DZ FV
        have NY:=DX (qG m.us k FV);have IJ:=DX (show m.us.getD k ByteArray.empty∈m.us by simp [List.getD,FV]);obtain ⟨bus,ous,NZ,MU⟩:=HSus.out.at aE;rw [NZ] at r2;have cb:=MU k FV wr IA.out;generalize m.us.getD k ByteArray.empty=d at *;clear MU NZ;go_wp2_with fail
        refine (gR a l cap ts d _ (JV.out.kept (GQ.out.trans IA.out))).mono ?_
        rintro e w5 ⟨rfl,GZ⟩;have IQ:=DX (IA.out.trans GZ);clear GZ cb r0 r1 r2
        by_cases GA:cQ ts d<ts.length
        . have hz:kR ts d=(cQ ts d:Int):=by unfold kR;rw [if_pos GA]
          rw [hz];have GM:=JV.out.len_eq;have JH:decide (((cQ ts d:Nat):Int)<0)=false:=DY aE;obtain ⟨bt,ot,rfl,JC⟩:=JV.out.at aE;obtain ⟨c0,c1,c2⟩:=JC (cQ ts d) aE w5 (GQ.out.trans IQ.out);have ZK:decide (cQ ts d<l)=true:=DZ aE
          have hlz:cQ ts d<l:=by omega
          obtain ⟨M,hM⟩:∃ M,M=(ts.getD (cQ ts d) aX).m:=⟨_,rfl⟩
          have ML:=DX (show iZ ts d true=(M == true) by unfold iZ;rw [DZ GA,hM];rfl);rw [<- hM] at c2;clear JC hz hM c0 c1 GM;generalize cQ ts d=z at *
          cases M with
          | false =>
           have HF:=DX (show iN ts t=false by rw [ZA.out];exact bC (eQ IJ.out (by first | exact ML.out | (rw [ML.out];rfl))));exact Eo
          | true =>
           exact Qz
        . have hz:kR ts d = -1:=by unfold kR;rw [if_neg GA]
          rw [hz]
          have JH:decide ((-1:Int)<0)=true:=by decide
          have ML:=DX (show iZ ts d true=false by unfold iZ;rw [DY GA];rfl);have HF:=DX (show iN ts t=false by rw [ZA.out];exact bC (eQ IJ.out (by first | exact ML.out | (rw [ML.out];rfl))));clear hz GA;exact Eo
      . obtain rfl:k=m.us.length:=by omega
        have GU:decide (m.us.length<m.us.length)=false:=DY aE;rw [List.take_length] at IR;have HF:=DX (show iN ts t=true by rw [ZA.out,HA1.out,IR.out];rfl);clear IR FV hk;go_wp2_with fail;go_ret;exact ⟨by rw [HF.out];rfl,GQ.out.trans IA.out⟩
end Go.Proofs.YtkfmladhicapeaaGreatDoor
