import Derived.Test.YtkfmladhicapeaaGreatDoorY41
set_option maxRecDepth 100000
set_option maxHeartbeats 8000000
namespace Go.Proofs.YtkfmladhicapeaaGreatDoor
open Go.RowKit Go.Shelf
attribute [local go_sem] Oper.semAt_some
theorem Ml (p:Th->Bool) (ts:List Th) (k:Nat) (h:k<ts.length):(ts.take (k+1)).filter p=(ts.take k).filter p++(if p (ts.getD k aX)=true then [ts.getD k aX] else []):=by
 rw [List.take_succ_eq_append_getElem h,List.filter_append]
 have:ts.getD k aX=ts[k]:=by simp [List.getD,h]
 rw [this]
 congr 1
 cases hh:p ts[k] <;> simp [hh]
theorem jU (w:World) (base:Nat) (e:TypeId) (k:Nat):w.ownsRow base e k (.slice none 0 0) 0 []:=⟨by simp,.inl ⟨rfl,rfl⟩⟩
def Hr (ks:List ByteArray) (x:Th):Bool:=iS x.d ks
theorem Mq (base p:Nat) (hp:base<=p) (s:dN) (o:fV) (wo:World) (Q:eX base wo p s) (hs:dP s=true) (hk:o.k=12) :
 Calls Tryz.prog 58 (PO p o.k o.id o.n o.m o.name o.d o.t) wo (iD base p wo (dK s o)):=by
 obtain ⟨ts,gs,ss,nx⟩:=s;obtain ⟨ok,oi,on,om,GE,od,ot⟩:=o;dsimp only at *;subst hk;have HQ:=DX Q;obtain ⟨aT,cT,aG,cG,aS,cS,hb,oT,oG,oS⟩:=Q.rows;dsimp only at *
 have GY:base<=wo.heap.size:=by have:=hb.lt;omega
 have MG:p<wo.heap.size:=hb.lt;have HP:=DX hb;have LB:=DX (bR hs)
 obtain ⟨XX,GR⟩:∃ XX,XX=(dK ⟨ts,gs,ss,nx⟩ ⟨12,oi,on,om,GE,od,ot⟩):=⟨_,rfl⟩
 rw [<- GR];have HX:=DX GR;clear GR;obtain ⟨lT,rT,zT,lG,rG,zG,lS,rS,zS,n0,n1⟩:=bR hs;dsimp only at *;have HB:=DX ((EY wo (LO 12 oi on om GE od ot) 35).kept ((EX _).alloc (KR)));have HR:=DX (FB wo LR 47 ((KO 12 oi on om GE od ot)));have HK:=DX (((EX wo).alloc ((KO 12 oi on om GE od ot))).alloc (KR));obtain ⟨i0,PI,GV,GJ,GO⟩:=info_parts BD;have HI0:=DX (EC PI (EC GV (EC GJ GO)));obtain ⟨i3,hj1,VJ,MW,hy2⟩:=gD Tryz.prog BA;have HI3:=DX (EC hj1 (EC VJ (EC MW hy2)))
 have hTB:=(cU.1 hs).1.b
 obtain ⟨_,_,hv,hI⟩:=cI oT rfl aE (fun x hx=>by have:=zT x hx;omega);cases hv;have JV:=DX hI;obtain ⟨_,_,hv,hJ⟩:=eA oG rfl aE (fun x hx=>by have:=zG x hx;omega);cases hv;have NN:=DX hJ;have PN:=DX (show ∀ k,k<gs.length->(gs.getD k bL).d.size=32 from fun k hk=>(zG _ (bY bL hk)).2)
 obtain ⟨KL,NB⟩:∃ KL,KL=eG ts (gs.map (·.d)):=⟨_,rfl⟩
 have GI:=DX (show dK ⟨ts,gs,ss,nx⟩ ⟨12,oi,on,om,GE,od,ot⟩=(⟨ts.filter (Hr KL),gs,ss,nx⟩,dY ((ts.length - (ts.filter (Hr KL)).length:Nat):Int)) by rw [NB];simp [dK];rfl)
 have hfl:(ts.filter (Hr KL)).length<=ts.length:=List.length_filter_le _ _
 have HFR:=DX (fun (ar:Option Addr) (cr:Nat) (w9:World) (k:aB wo w9) (hr:bD w9 ar gs.length (gs.map (·.d)))=>show Calls Tryz.prog 84 #[.slice aT ts.length cT,.slice ar gs.length cr] w9 (qL w9 KL) by rw [NB];exact Ho aT ts.length cT ts ar gs.length cr (gs.map (·.d)) w9 (hI.kept k) hr hTB aE);clear rT zT rG zG rS zS oT oG oS Q hb hI hJ hs hTB NB PI GV GJ GO hj1 VJ MW hy2;go_enter Tryz.func58,Tryz.ntmps58
 go_upto_region 1 with (fail)
 generalize (wo.alloc ((KO 12 oi on om GE od ot))).alloc (KR)=w1 at *
 have b0:w1.cell? ⟨wo.heap.size,0,none⟩=some (.int .i64 12):=HB.out.cell 0
 go_upto_region 53 with (fail)
 clear b0;go_loopw [14,15] (fun rv kv wr=>∃ k:Nat,kv=.int .i64 k/\k<=gs.length/\∃ a c,rv=.slice a k c/\Hid (wr.ownsRow w1.heap.size 9 1 (.slice a k c) k (Vh gs k))/\Hid (aB w1 wr)) (fun _ kv _=>gs.length - (intOf kv).toNat)
 case atStart=>exact ⟨0,rfl,aE,_,_,rfl,DX (jU _ _ _ _),DX (EX _)⟩
 case round =>
  rename World=>wr
  obtain ⟨k,rfl,hk,a,c,rfl,KV,IA⟩:=hrel;obtain ⟨r0,r1,r2,r3⟩:=aI (HP.out.kept (HK.out.trans IA.out))
  by_cases IE:k<gs.length
  . have GU:decide (k<gs.length)=true:=DZ IE
    have KG:decide ((k:Int)<(gs.length:Int))=true:=DZ aE;obtain ⟨bt,of,rfl,JC⟩:=NN.out.at aE;obtain ⟨_,c1⟩:=JC k IE wr (HK.out.trans IA.out);have IX:=DX (zM IE);clear JC
    generalize (gs.getD k bL).d=xd at c1 IX
    go_wp2_with (at_builtin;refine dC rfl _ _ 72 rfl w1.heap.size 9 i0 (.string ByteArray.empty) 16 EP HI0.out.1 HI0.out.2.1 HI0.out.2.2.1 HI0.out.2.2.2 rfl _ _ _ rfl (aH KV.out ((EX wr).alloc _)) (some ⟨wr.heap.size,0,none⟩) 1 1 [.string xd] rfl (kP wr _ _ rfl) ?c1 ?c2 ?c3 ?_)
    case c1=>unfold maxLen;omega
    case c2=>omega
    case c3=>have:=IA.out.size;simp;omega
    intro v9 w9 FU IB _;obtain ⟨a9,c9,rfl⟩:=aP FU;have XQ:=DX FU;have JQ:=DX (cD (IA.out.alloc (.cells #[.string xd] 9)) IB (fun q e=>(aH KV.out ((EX wr).alloc (.cells #[.string xd] 9))).lt q e |>.1) (EA _));clear FU IB r0 r1 r2 r3 c1;exact Ra
  . obtain rfl:k=gs.length:=by omega
    have GU:decide (gs.length<gs.length)=false:=DY aE;have KG:decide ((gs.length:Int)<(gs.length:Int))=false:=DY aE;have FU:=KV.out;rw [Fb] at FU;have hRS:=rD FU (fun s hs=>by obtain ⟨x,hx,rfl⟩:=List.mem_map.1 hs;obtain ⟨j,hj,rfl⟩:=List.mem_iff_getElem.1 hx;have:=PN.out j hj;rw [List.getD_eq_getElem?_getD,List.getElem?_eq_getElem hj,Option.getD_some] at this;omega) (List.length_map _);have HFC:=DX (HFR.out a c wr (HK.out.trans IA.out) hRS);clear FU hRS KV HFR;go_wp2_with fail
    refine HFC.out.mono ?_
    rintro e w4 ⟨a4,c4,rfl,GL,IV⟩;have GQ:=DX ((HK.out.trans IA.out).trans IV);have IW:=DX ((HR.out.kept IA.out).kept IV);have IN:=DX GL;clear GL IV HFC r0 r1 r2 r3 IE GU KG hk IA
    go_upto_region 59 with (fail)
    go_loopw [17,18] (fun rv kv wr=>∃ k:Nat,kv=.int .i64 k/\k<=ts.length/\∃ a c n,rv=.slice a n c/\n<=k/\Hid (n=((ts.take k).filter (Hr KL)).length)/\Hid (wr.ownsRow w4.heap.size 62 3 (.slice a n c) n (((ts.take k).filter (Hr KL)).flatMap dW))/\Hid (aB w4 wr)) (fun _ kv _=>ts.length - (intOf kv).toNat)
    case atStart=>exact ⟨0,rfl,aE,_,_,0,rfl,EA _,DX rfl,DX (jU _ _ _ _),DX (EX _)⟩
    case round =>
     rename World=>wr
     obtain ⟨k,rfl,hk,a,c,n,rfl,hnk,HNL,KV,IA⟩:=hrel;have MH:=DX (GQ.out.trans IA.out);obtain ⟨r0,r1,r2,r3⟩:=aI (HP.out.kept MH.out)
     by_cases IE:k<ts.length
     . have GU:decide (k<ts.length)=true:=DZ IE
       have KG:decide ((k:Int)<(ts.length:Int))=true:=DZ aE;have IX:=DX (Ml (Hr KL) ts k IE);obtain ⟨bt,of,rfl,JC⟩:=JV.out.at aE;have XJ:=DX (fun w9 (kk:aB wr w9)=>JC k IE w9 (MH.out.trans kk));clear JC;generalize ts.getD k aX=x at *;obtain ⟨xd,xt,xm⟩:=x;dsimp only at XJ
       obtain ⟨B,hB⟩:∃ B,B=iS xd KL:=⟨_,rfl⟩
       have HKP:=DX (show Hr KL ⟨xd,xt,xm⟩=B from hB.symm);have HHS:=DX (show Calls Tryz.prog 85 #[.slice a4 KL.length c4,.string xd] wr fun e w9=>e=.returned (.bool B)/\aB wr w9 by rw [hB];exact Fh a4 KL.length c4 KL xd wr (IN.out.kept IA.out));clear hB;obtain ⟨c0,c1,c2⟩:=XJ.out wr (EX _);go_wp2_with fail
       refine HHS.out.mono ?_
       rintro e w5 ⟨rfl,GZ⟩;have IQ:=DX (IA.out.trans GZ);have US:=DX (aH KV.out GZ);have HC5:=DX (XJ.out w5 GZ);have XS:=DX (HP.out.kept (MH.out.trans GZ));clear r0 r1 r2 r3 c0 c1 c2 GZ HHS XJ KV MH IA
       cases B with
       | true =>
        have TU:=DX (show (ts.take (k+1)).filter (Hr KL)=(ts.take k).filter (Hr KL)++[⟨xd,xt,xm⟩] by rw [IX.out,HKP.out];rfl);clear IX HKP
        generalize (ts.take k).filter (Hr KL)=FK at *
        obtain ⟨c0,c1,c2⟩:=HC5.out;obtain ⟨r0,r1,r2,r3⟩:=aI XS.out;go_wp2_with (at_builtin;refine wpList_append_own_at _ rfl _ _ 22 rfl w4.heap.size 62 i3 (.agg (LT ByteArray.empty ByteArray.empty false)) 3 40 ER HI3.out.1 HI3.out.2.1 HI3.out.2.2.1 HI3.out.2.2.2 rfl aF _ _ _ rfl (aH US.out ((EX w5).alloc _)) ⟨w5.heap.size,0,none⟩ 1 1 [.string xd,.string xt,.bool xm] rfl rfl ?c1 ?c2 ?c3 ?c4 ?c5 ?_)
        case c1=>exact Fj w5 ⟨xd,xt,xm⟩ _
        case c2=>intro u hu;simp at hu;rcases hu with rfl | rfl | rfl <;> rfl
        case c3=>unfold maxLen;omega
        case c4=>omega
        case c5=>have:=IQ.out.size;simp;omega
        intro v9 w9 FU IB _ _;obtain ⟨a9,c9,rfl⟩:=aP FU;have XQ:=DX FU;have JQ:=DX (cD (IQ.out.alloc ((KT xd xt xm))) IB (fun q e=>(aH US.out ((EX w5).alloc ((KT xd xt xm)))).lt q e |>.1) (EA _));clear FU IB r0 r1 r2 r3 c0 c1 c2;go_wp2_with fail;go_roundw
        case rel=>exact ⟨k+1,by go_num,aE,a9,c9,n+1,rfl,aE,DX (by rw [TU.out,HNL.out];simp),DX (by rw [TU.out,List.flatMap_append];exact XQ.out),JQ⟩
        case measure=>simp [intOf];omega
       | false =>
        have TU:=DX (show (ts.take (k+1)).filter (Hr KL)=(ts.take k).filter (Hr KL) by rw [IX.out,HKP.out];simp);clear IX HKP;go_wp2_with fail;go_roundw
        case rel=>exact ⟨k+1,by go_num,aE,a,c,n,rfl,aE,DX (by rw [TU.out];exact HNL.out),DX (by rw [TU.out];exact US.out),IQ⟩
        case measure=>simp [intOf];omega
     . obtain rfl:k=ts.length:=by omega
       have GU:decide (ts.length<ts.length)=false:=DY aE;have KG:decide ((ts.length:Int)<(ts.length:Int))=false:=DY aE;rw [List.take_length] at HNL KV;generalize ts.filter (Hr KL)=F at *;have hnF:=HNL.out;subst hnF;have HRR:=DX (IW.out.kept IA.out)
       obtain ⟨UJ,QJ⟩:=(HQ.out.kept MH.out).putT hp F (row:=none) ⟨rfl,rfl,rfl,EA _,fun _ _ _=>rfl⟩ dX.none (bA KV.out (EF GY GQ.out.size))
       have SC:=DX UJ;have OJ:=DX ((FA MH.out GY).trans QJ);have KE:=DX (QJ.blk _ _ _ HRR.out aE aF aF aF)
       have f0:=(HP.out.kept MH.out).free 0
       clear UJ QJ
       obtain ⟨D,hD⟩:∃ D,D=ts.length - F.length:=⟨_,rfl⟩
       have hDi:(ts.length:Int) - (F.length:Int)=(D:Int):=by omega
       rw [<- hD] at GI;clear hD
       go_upto_region 65 with (fail)
       generalize wr.setCell ⟨p,0,none⟩ (.slice a F.length c)=w6 at *;clear r0 r1 r2 r3 f0;go_wp2_with (refine aD rfl 47 (.tmp 4) (.tmp 307) rfl (wo.heap.size+1) (bB (dY (D:Int))) LR 47 rfl rfl KE.out AX rfl (aL _) ?_)
       refine EI (v:=bW (dY (D:Int))) ?_ rfl ?_
       . exact EH rfl _ _ (wo.heap.size+1) 47 (bB (dY (D:Int))) (0,0) _ rfl (KE.out.setRow _) EV rfl AX
       . exact Pf
theorem He (base p:Nat) (hp:base<=p) (s:dN) (o:fV) (wo:World) (Q:eX base wo p s) (hs:dP s=true) (OB:o.t.size<=140737488351232) (MA:o.name.size<=1000000) (hk:1<=o.k/\o.k<=13) :
 Calls Tryz.prog 58 (PO p o.k o.id o.n o.m o.name o.d o.t) wo (iD base p wo (dK s o)):=by
 have hk13:o.k=1\/o.k=2\/o.k=3\/o.k=4\/o.k=5\/o.k=6\/o.k=7\/o.k=8\/o.k=9\/o.k=10\/o.k=11\/o.k=12\/o.k=13:=by omega
 rcases hk13 with h | h | h | h | h | h | h | h | h | h | h | h | h
 . exact Nl base p hp s o wo Q hs h
 . exact Nt base p hp s o wo Q hs h OB
 . exact My base p hp s o wo Q hs h
 . exact Om base p hp s o wo Q hs h
 . exact Px base p hp s o wo Q hs h
 . exact Ob base p hp s o wo Q hs h
 . exact Oo base p hp s o wo Q hs h
 . exact No base p hp s o wo Q hs h OB
 . exact Ni base p hp s o wo Q hs h MA
 . exact It base p hp s o wo Q hs h
 . exact Jn base p hp s o wo Q hs h
 . exact Mq base p hp s o wo Q hs h
 . exact Jz base p hp s o wo Q hs h
def Yb (wo:World) (x:dN × rN) (e:Ending) (w':World):Prop :=
 (∃ x1 y1 x2 y2 x3 y3,e=.returned (.tuple #[.agg (LS x1 x.1.ts.length y1 x2 x.1.gs.length y2 x3 x.1.ss.length y3 x.1.nx),bW x.2]) /\
  w'.ownsRow wo.heap.size 62 3 (.slice x1 x.1.ts.length y1) x.1.ts.length (x.1.ts.flatMap dW)/\w'.ownsRow wo.heap.size 68 2 (.slice x2 x.1.gs.length y2) x.1.gs.length (x.1.gs.flatMap eN) /\
  w'.ownsRow wo.heap.size 65 2 (.slice x3 x.1.ss.length y3) x.1.ss.length (x.1.ss.flatMap fJ))/\aB wo w'
theorem lC {P:Program} {fn:Func} {p r:Tmp} {ty tr:TypeId} (h:fn.results=#[.cell p ty,.cell r tr]) (tmps:Array Value) (w:World) (g gr:Nat) (t t2:TypeId) (cs rs:Array Value) (d d2:TypeDesc)
 (hp:tmps.getD p undef=.pointer (some ⟨g,0,none⟩)) (hg:aA w g cs t) (hr:tmps.getD r undef=.pointer (some ⟨gr,0,none⟩)) (IB:aA w gr rs t2)
 (hu:P.underlying ty=some d) (hd:(match d with | .struct _ | .array _ _=>true | _=>false)=true) (hi:(P.info? ty).map (·.size)=some cs.size)
 (hu2:P.underlying tr=some d2) (JH:(match d2 with | .struct _ | .array _ _=>true | _=>false)=true) (RR:(P.info? tr).map (·.size)=some rs.size) :
 (results fn tmps).run P w=.ok (.tuple #[.agg cs,.agg rs]) w:=by
 have hp':tmps[p]?.getD undef=.pointer (some ⟨g,0,none⟩):=by simpa using hp
 have RU:tmps[r]?.getD undef=.pointer (some ⟨gr,0,none⟩):=by simpa using hr
 have hg':w.heap[g]?=some (.cells cs t (0,0)):=hg
 have hgr':w.heap[gr]?=some (.cells rs t2 (0,0)):=IB
 simp [results,h,hp',RU,asAddr,run_loadVar_row w g t ty cs (0,0) d hg' hu hd hi,run_loadVar_row w gr t2 tr rs (0,0) d2 hgr' hu2 JH RR]
structure yL (b1:Nat) (C1:Array Value) (t1:TypeId) (b2:Nat) (C2:Array Value) (t2:TypeId) (b3:Nat) (C3:Array Value) (t3:TypeId) (w:World):Prop where
 h1:aA w b1 C1 t1
 h2:aA w b2 C2 t2
 h3:aA w b3 C3 t3
theorem yL.kept {b1 b2 b3:Nat} {C1 C2 C3:Array Value} {t1 t2 t3:TypeId} {w w':World} (h:yL b1 C1 t1 b2 C2 t2 b3 C3 t3 w) (k:aB w w'):yL b1 C1 t1 b2 C2 t2 b3 C3 t3 w':=⟨h.h1.kept k,h.h2.kept k,h.h3.kept k⟩
theorem yL.row {b1 b2 b3 x:Nat} {C1 C2 C3 cs:Array Value} {t1 t2 t3:TypeId} {w:World} (h:yL b1 C1 t1 b2 C2 t2 b3 C3 t3 w) (n1:b1≠x) (n2:b2≠x) (n3:b3≠x):yL b1 C1 t1 b2 C2 t2 b3 C3 t3 (w.setRow x cs):=⟨h.h1.other _ n1,h.h2.other _ n2,h.h3.other _ n3⟩
structure lZ (base:Nat) (ts:List Th) (gs:List Tg) (ss:List Se) (x1 x2 x3:Option Addr) (y1 y2 y3:Nat) (w:World):Prop where
 oT:w.ownsRow base 62 3 (.slice x1 ts.length y1) ts.length (ts.flatMap dW)
 oG:w.ownsRow base 68 2 (.slice x2 gs.length y2) gs.length (gs.flatMap eN)
 oS:w.ownsRow base 65 2 (.slice x3 ss.length y3) ss.length (ss.flatMap fJ)
theorem lZ.kept {base:Nat} {ts:List Th} {gs:List Tg} {ss:List Se} {x1 x2 x3:Option Addr} {y1 y2 y3:Nat} {w w':World} (h:lZ base ts gs ss x1 x2 x3 y1 y2 y3 w) (k:aB w w'):lZ base ts gs ss x1 x2 x3 y1 y2 y3 w':=⟨aH h.oT k,aH h.oG k,aH h.oS k⟩
theorem lZ.row {base:Nat} {ts:List Th} {gs:List Tg} {ss:List Se} {x1 x2 x3:Option Addr} {y1 y2 y3 x:Nat} {w:World} {old:Array Value} {t:TypeId} (h:lZ base ts gs ss x1 x2 x3 y1 y2 y3 w) (hx:aA w x old t) (e1:t≠62) (e2:t≠68) (e3:t≠65) (cs:Array Value):lZ base ts gs ss x1 x2 x3 y1 y2 y3 (w.setRow x cs) :=
 ⟨cC h.oT hx e1 cs,cC h.oG hx e2 cs,cC h.oS hx e3 cs⟩
theorem Oe (aT aG aS:Option Addr) (cT cG cS:Nat) (ts:List Th) (gs:List Tg) (ss:List Se) (nx:Int) (o:fV) (wo:World) (hT:bO wo aT ts.length ts) (hG:cJ wo aG gs.length gs) (hS:cP wo aS ss.length ss) (GL:dP ⟨ts,gs,ss,nx⟩=true) (OB:o.t.size<=140737488351232) (MA:o.name.size<=1000000) (hk:1<=o.k/\o.k<=13) :
 Calls Tryz.prog 42 (SO aT ts.length cT aG gs.length cG aS ss.length cS nx o.k o.id o.n o.m o.name o.d o.t) wo (Yb wo (dK ⟨ts,gs,ss,nx⟩ o)):=by
 obtain ⟨ok,oi,on,om,GE,od,ot⟩:=o;dsimp only at *
 have k1:=(EX wo).alloc ((KS aT ts.length cT aG gs.length cG aS ss.length cS nx))
 have k2:=(EX (wo.alloc ((KS aT ts.length cT aG gs.length cG aS ss.length cS nx)))).alloc ((KO ok oi on om GE od ot))
 have k3:=(EX ((wo.alloc ((KS aT ts.length cT aG gs.length cG aS ss.length cS nx))).alloc ((KO ok oi on om GE od ot)))).alloc (KN)
 have k4:=(EX (((wo.alloc ((KS aT ts.length cT aG gs.length cG aS ss.length cS nx))).alloc ((KO ok oi on om GE od ot))).alloc (KN))).alloc (KR)
 have HB:=DX ((((EY wo (LS aT ts.length cT aG gs.length cG aS ss.length cS nx) 26).kept k2).kept k3).kept k4);have HO:=DX (((FB wo (LO ok oi on om GE od ot) 35 ((KS aT ts.length cT aG gs.length cG aS ss.length cS nx))).kept k3).kept k4);have HX:=DX ((aA.new2 wo LN 26 ((KS aT ts.length cT aG gs.length cG aS ss.length cS nx)) ((KO ok oi on om GE od ot))).kept k4);have HR:=DX (show aA ((((wo.alloc ((KS aT ts.length cT aG gs.length cG aS ss.length cS nx))).alloc ((KO ok oi on om GE od ot))).alloc (KN)).alloc (KR)) (wo.heap.size+1+1+1) LR 47 by have:=EY (((wo.alloc ((KS aT ts.length cT aG gs.length cG aS ss.length cS nx))).alloc ((KO ok oi on om GE od ot))).alloc (KN)) LR 47;simpa [World.size_alloc] using this);have HK:=DX (((k1.trans k2).trans k3).trans k4);clear k1 k2 k3 k4;have HC:=DX (fun w9 (k:aB wo w9)=>gF aT aG aS cT cG cS ts gs ss nx w9 (hT.kept k) (hG.kept k) (hS.kept k))
 obtain ⟨XX,GR⟩:∃ XX,XX=dK ⟨ts,gs,ss,nx⟩ ⟨ok,oi,on,om,GE,od,ot⟩:=⟨_,rfl⟩
 have GI:=DX (fun base p (hp:base<=p) w9 (q:eX base w9 p ⟨ts,gs,ss,nx⟩)=>show Calls Tryz.prog 58 (PO p ok oi on om GE od ot) w9 (iD base p w9 XX) by rw [GR];exact He base p hp ⟨ts,gs,ss,nx⟩ ⟨ok,oi,on,om,GE,od,ot⟩ w9 q GL OB MA hk);have HER:=DX (show Er ⟨ts,gs,ss,nx⟩ XX by rw [GR];exact Lm _ _);rw [<- GR];clear GR hT hG hS GL hk;go_enter Tryz.func42,Tryz.ntmps42
 go_upto_region 1 with (fail)
 generalize (((wo.alloc ((KS aT ts.length cT aG gs.length cG aS ss.length cS nx))).alloc ((KO ok oi on om GE od ot))).alloc (KN)).alloc (KR)=w1 at *
 obtain ⟨r0,r1,r2,r3⟩:=aI HB.out;go_wp2_with fail
 refine (HC.out w1 HK.out).mono ?_
 rintro e w2 ⟨x1,y1,x2,y2,x3,y3,rfl,o1,o2,o3,FX⟩;have FW:=DX (HK.out.trans FX);have GP:=DX (HB.out.kept FX);have UR:=DX (HO.out.kept FX);have HX2:=DX (HX.out.kept FX);have GK:=DX (HR.out.kept FX);have HP1:=DX (bA o1 (EZ HK.out));have HP2:=DX (bA o2 (EZ HK.out));have TW:=DX (bA o3 (EZ HK.out));clear o1 o2 o3 FX r0 r1 r2 r3 HB HO HX HR HK
 go_upto_region 2 with (fail)
 have NP:=DX ((EX w2).alloc ((KS x1 ts.length y1 x2 gs.length y2 x3 ss.length y3 nx)));have MG:=GK.out.lt;have HQ3:=DX (show eX wo.heap.size (w2.alloc ((KS x1 ts.length y1 x2 gs.length y2 x3 ss.length y3 nx))) w2.heap.size ⟨ts,gs,ss,nx⟩ from ⟨⟨x1,y1,x2,y2,x3,y3,EY _ _ _,aH HP1.out NP.out,aH HP2.out NP.out,aH TW.out NP.out⟩⟩);have GC:=DX (FW.out.trans NP.out);have IU:=DX (GP.out.kept NP.out);have WV:=DX (UR.out.kept NP.out);have TZ:=DX (HX2.out.kept NP.out);have JG:=DX (GK.out.kept NP.out);clear NP HP1 HP2 TW GP UR HX2 GK;generalize w2.alloc ((KS x1 ts.length y1 x2 gs.length y2 x3 ss.length y3 nx))=w3 at *;have hxp:wo.heap.size+1+1+1<w2.heap.size:=MG;generalize w2.heap.size=p at *;obtain ⟨b0,b1,b2,b3,b4,b5,b6⟩:=cX WV.out;go_wp2_with fail
 refine (GI.out wo.heap.size p aE w3 HQ3.out).mono ?_
 obtain ⟨⟨us,hs,vs,mx⟩,⟨rn,rt,re⟩⟩:=XX;rintro e w4 ⟨he,MB,KB⟩
 have he2:e=.returned (.agg (LP rn rt re)):=he
 subst he2;clear he;have LZ:=DX MB;have GQ:=DX (show aB wo w4 from Below.trans GC.out KB.low);have KY:=DX (KB.blk _ _ _ IU.out aE aF aF aF);have HX4:=DX (KB.blk _ _ _ TZ.out aE aF aF aF);have IW:=DX (KB.blk _ _ _ JG.out aE aF aF aF);clear MB KB GI b0 b1 b2 b3 b4 b5 b6 WV IU TZ JG HQ3
 go_upto_region 3 with (fail)
 have HKb:=DX ((EX w4).alloc ((KP rn rt re)));have SC:=DX (LZ.out.kept HKb.out);have IQ:=DX (GQ.out.trans HKb.out);have VK:=DX (KY.out.kept HKb.out);have HX5:=DX (HX4.out.kept HKb.out);have KE:=DX (IW.out.kept HKb.out);have HY5:=DX (EY w4 (LP rn rt re) 47);have hrl:=IW.out.lt;obtain ⟨_,_,_,_,_,_,hqb,_⟩:=LZ.out.rows;have KJ:=hqb.lt;clear hqb HKb LZ GQ KY HX4 IW;generalize w4.alloc ((KP rn rt re))=w5 at *;generalize w4.heap.size=q at *;obtain ⟨d0,d1,d2⟩:=dI HY5.out
 by_cases he:re=0
 . have hq:(re != 0)=false:=by simp [he]
   clear HER;obtain ⟨z1,t1,z2,t2,z3,t3,RD,oT6,oG6,oS6⟩:=SC.out.rows;dsimp only at RD oT6 oG6 oS6;have HI5:=DX (show yL p (LS z1 us.length t1 z2 hs.length t2 z3 vs.length t3 mx) 26 q (LP rn rt re) 47 (wo.heap.size+1+1+1) LR 47 w5 from ⟨RD,HY5.out,KE.out⟩);have RA:=DX (show lZ wo.heap.size us hs vs z1 z2 z3 t1 t2 t3 w5 from ⟨oT6,oG6,oS6⟩);clear RD oT6 oG6 oS6 he;go_wp2_with fail
   refine Pj.Zj 3 (fun az0 L az w=>∃ V:Nat->Value,az=Pj.Zb [(20,0),(21,1)] V az0/\Pj.J wo [Pj.Is (.agg (LS z1 us.length t1 z2 hs.length t2 z3 vs.length t3 mx)),Pj.Is (.agg (LP rn rt re)),(fun _ _=>True),(fun _ _=>True)] L V w/\yL p (LS z1 us.length t1 z2 hs.length t2 z3 vs.length t3 mx) 26 q (LP rn rt re) 47 (wo.heap.size+1+1+1) LR 47 w/\lZ wo.heap.size us hs vs z1 z2 z3 t1 t2 t3 w/\((¬ L 2->aA w (wo.heap.size+1+1) LN 26)/\(L 2->aA w (wo.heap.size+1+1) (LS z1 us.length t1 z2 hs.length t2 z3 vs.length t3 mx) 26))) (fun az0 az w=>∃ V:Nat->Value,az=Pj.Zb [(20,0),(21,1)] V az0/\(aA w (wo.heap.size+1+1) (LS z1 us.length t1 z2 hs.length t2 z3 vs.length t3 mx) 26/\aA w (wo.heap.size+1+1+1) (LP rn rt re) 47/\lZ wo.heap.size us hs vs z1 z2 z3 t1 t2 t3 w/\aB wo w)) nR nR nR ?eh0 ?ehs ?ehe
   case eh0 =>
    intro L hL;exact ⟨_,Pj.Zi _ (fun j=>([20,21,0,0]:List Nat).getD j 0) [0,1],Pj.J.none (n:=4) (EA _) hL (IQ.out.drew),(HI5.out.kept ((EX _).drew)),(RA.out.kept ((EX _).drew)),⟨fun _=>HX5.out.kept ((EX _).drew),fun h=>absurd h (hL 2 aF)⟩⟩
   case ehs =>
    rintro L L' az w iz opz Kq ⟨V,rfl,hJ,hI,hW,hS⟩ ho FY FZ hL IH hKz GH;have HP:=DX (show Pj.Zh [Pj.Is (.agg (LS z1 us.length t1 z2 hs.length t2 z3 vs.length t3 mx)),Pj.Is (.agg (LP rn rt re)),(fun _ _=>True),(fun _ _=>True)] from ⟨Pj.Is.flat _,Pj.Is.flat _,(fun _ _ _ _ _=>trivial),(fun _ _ _ _ _=>trivial),trivial⟩);have HJ:=DX hJ;have ID:=DX hI;have HXhW:=DX hW;have II:=DX hS;clear hJ hI hW hS
    match iz,ho with
    | 0,ho =>
     obtain rfl:=EB ho;obtain ⟨d0,d1,d2,d3⟩:=aI ID.out.h1
     refine Pj.Za.free rfl ?_
     simp only [Pj.PU,Act.put];go_simp;exact IH aF _ _ ⟨Pj.Yz V 0 (.agg (LS z1 us.length t1 z2 hs.length t2 z3 vs.length t3 mx)),by simp only [Pj.PU,Act.put,Pj.Yz,Nat.reduceEqDiff,if_true,if_false],HJ.out.flat HP.out hL (HJ.out.kp.trans (EX _)) (EZ (EX _)) (rfl),ID.out.kept (EX _),HXhW.out.kept (EX _),⟨fun h=>(II.out.1 (fun q=>h ((hL 2).2 (.inr q)))).kept (EX _),fun h=>(II.out.2 (((hL 2).1 h).resolve_left aF)).kept (EX _)⟩⟩
    | 1,ho =>
     obtain rfl:=EB ho;obtain ⟨d0,d1,d2⟩:=dI ID.out.h2
     refine Pj.Za.free rfl ?_
     simp only [Pj.PU,Act.put];go_simp;exact IH aF _ _ ⟨Pj.Yz V 1 (.agg (LP rn rt re)),by simp only [Pj.PU,Act.put,Pj.Yz,Nat.reduceEqDiff,if_true,if_false],HJ.out.flat HP.out hL (HJ.out.kp.trans (EX _)) (EZ (EX _)) (rfl),ID.out.kept (EX _),HXhW.out.kept (EX _),⟨fun h=>(II.out.1 (fun q=>h ((hL 2).2 (.inr q)))).kept (EX _),fun h=>(II.out.2 (((hL 2).1 h).resolve_left aF)).kept (EX _)⟩⟩
    | 2,ho =>
     simp only [iU] at ho;subst ho;have l0:=FZ 0 aW
     have e0:V 0=.agg (LS z1 us.length t1 z2 hs.length t2 z3 vs.length t3 mx):=HJ.out.h 0 l0
     have TI:=II.out.1 FY
     refine Pj.Za.free rfl ?_
     simp only [Pj.PU,Act.put,e0]
     refine Pj.Zf 26 _ _ rfl (wo.heap.size+1+1) (LS z1 us.length t1 z2 hs.length t2 z3 vs.length t3 mx) LN 26 rfl rfl TI aW rfl (by simp [Value.oneCell']) ?_
     simp only [Act.put];exact IH aF _ _ ⟨Pj.Yz V 2 (undef),by simp only [Pj.PU,Act.put,Pj.Yz,Nat.reduceEqDiff,if_false,e0],HJ.out.flat HP.out hL (FC HJ.out.kp (g:=(wo.heap.size+1+1)) aE _) (by simp [World.setRow]) (trivial),ID.out.row aE aE aE,HXhW.out.row TI aF aF aF _,⟨fun h=>absurd ((hL 2).2 (.inl rfl)) h,fun _=>TI.setRow _⟩⟩
    | 3,ho =>
     simp only [iU] at ho;subst ho;have l1:=FZ 1 aW
     have e1:V 1=.agg (LP rn rt re):=HJ.out.h 1 l1
     have l2:=FZ 2 aW;have WO:=ID.out.h3;have PR:=II.out.2 l2;have PM:=HXhW.out
     refine Pj.Za.free rfl ?_
     simp only [Pj.PU,Act.put,e1]
     refine Pj.Zf 47 _ _ rfl (wo.heap.size+1+1+1) (LP rn rt re) LR 47 rfl rfl WO aW rfl (by simp [Value.oneCell']) ?_
     simp only [Act.put];exact hKz rfl _ _ ⟨Pj.Yz V 3 (undef),by simp only [Pj.PU,Act.put,Pj.Yz,Nat.reduceEqDiff,if_false,e1],⟨PR.other _ aE,WO.setRow _,PM.row WO aF aF aF _,FC HJ.out.kp (g:=(wo.heap.size+1+1+1)) aE _⟩⟩
    | n+4,ho=>simp at ho
   case ehe =>
    rintro az w ⟨V,rfl,hf⟩;obtain ⟨hx9,hr9,hw9,GF⟩:=hf;have UW:=DX hx9;have JM:=DX hr9;have OZ:=DX hw9;have JQ:=DX GF;clear hx9 hr9 hw9 GF;simp only [Pj.Zb,dO,Act.put];go_wp2_with fail
    refine EI (v:=.tuple #[.agg (LS z1 us.length t1 z2 hs.length t2 z3 vs.length t3 mx),.agg (LP rn rt re)]) ?_ rfl ⟨⟨z1,t1,z2,t2,z3,t3,rfl,OZ.out.oT,OZ.out.oG,OZ.out.oS⟩,JQ.out⟩
    exact lC rfl _ _ (wo.heap.size+1+1) (wo.heap.size+1+1+1) 26 47 (LS z1 us.length t1 z2 hs.length t2 z3 vs.length t3 mx) (LP rn rt re) _ _ rfl UW.out rfl JM.out EW rfl AY EV rfl AX
 . have hq:(re != 0)=true:=by simpa using he
   obtain ⟨g1,g2⟩:=HER.out he;dsimp only at g1 g2;have g3:(⟨rn,rt,re⟩:rN)=⟨0,ByteArray.empty,re⟩:=g2;cases g1;cases g3;have HI5:=DX (show yL wo.heap.size (LS aT ts.length cT aG gs.length cG aS ss.length cS nx) 26 q (LP 0 ByteArray.empty re) 47 (wo.heap.size+1+1+1) LR 47 w5 from ⟨VK.out,HY5.out,KE.out⟩);clear he g2 HER;go_wp2_with fail
   refine Pj.Zj 6 (fun az0 L az w=>∃ V:Nat->Value,az=Pj.Zb [(15,0),(16,1),(17,2),(18,3),(19,4)] V az0/\Pj.J wo [Pj.Is (.agg (LS aT ts.length cT aG gs.length cG aS ss.length cS nx)),(fun _ _=>True),Pj.Is (.pointer (some ⟨q,2,none⟩)),Pj.Is (.int .i64 re),Pj.Is (.agg #[.int .i64 0,.string { data:=#[] },.int .i64 re]),(fun _ _=>True),(fun _ _=>True)] L V w/\yL wo.heap.size (LS aT ts.length cT aG gs.length cG aS ss.length cS nx) 26 q (LP 0 ByteArray.empty re) 47 (wo.heap.size+1+1+1) LR 47 w/\((¬ L 5->aA w (wo.heap.size+1+1) LN 26)/\(L 5->∃ x1 y1 x2 y2 x3 y3,aA w (wo.heap.size+1+1) (LS x1 ts.length y1 x2 gs.length y2 x3 ss.length y3 nx) 26/\lZ wo.heap.size ts gs ss x1 x2 x3 y1 y2 y3 w))/\(L 1->¬ L 5->∃ x1 y1 x2 y2 x3 y3,V 1=.agg (LS x1 ts.length y1 x2 gs.length y2 x3 ss.length y3 nx)/\lZ wo.heap.size ts gs ss x1 x2 x3 y1 y2 y3 w)) (fun az0 az w=>∃ V:Nat->Value,az=Pj.Zb [(15,0),(16,1),(17,2),(18,3),(19,4)] V az0/\(∃ x1 y1 x2 y2 x3 y3,aA w (wo.heap.size+1+1) (LS x1 ts.length y1 x2 gs.length y2 x3 ss.length y3 nx) 26/\aA w (wo.heap.size+1+1+1) #[.int .i64 0,.string { data:=#[] },.int .i64 re] 47/\lZ wo.heap.size ts gs ss x1 x2 x3 y1 y2 y3 w/\aB wo w)) nR nR nR ?eh0 ?ehs ?ehe
   case eh0 =>
    intro L hL;exact ⟨_,Pj.Zi _ (fun j=>([15,16,17,18,19,0,0]:List Nat).getD j 0) [0,1,2,3,4],Pj.J.none (n:=7) (EA _) hL (IQ.out.drew),(HI5.out.kept ((EX _).drew)),⟨fun _=>HX5.out.kept ((EX _).drew),fun h=>absurd h (hL 5 aF)⟩,fun h=>absurd h (hL 1 aF)⟩
   case ehs =>
    rintro L L' az w iz opz Kq ⟨V,rfl,hJ,hI,hS,hO⟩ ho FY FZ hL IH hKz GH;have HP:=DX (show Pj.Zh [Pj.Is (.agg (LS aT ts.length cT aG gs.length cG aS ss.length cS nx)),(fun _ _=>True),Pj.Is (.pointer (some ⟨q,2,none⟩)),Pj.Is (.int .i64 re),Pj.Is (.agg #[.int .i64 0,.string { data:=#[] },.int .i64 re]),(fun _ _=>True),(fun _ _=>True)] from ⟨Pj.Is.flat _,(fun _ _ _ _ _=>trivial),Pj.Is.flat _,Pj.Is.flat _,Pj.Is.flat _,(fun _ _ _ _ _=>trivial),(fun _ _ _ _ _=>trivial),trivial⟩);have HJ:=DX hJ;have ID:=DX hI;have II:=DX hS;have aBw:=DX hO;clear hJ hI hS hO
    match iz,ho with
    | 0,ho =>
     obtain rfl:=EB ho;obtain ⟨d0,d1,d2,d3⟩:=aI ID.out.h1
     refine Pj.Za.free rfl ?_
     simp only [Pj.PU,Act.put];go_simp;exact IH aF _ _ ⟨Pj.Yz V 0 (.agg (LS aT ts.length cT aG gs.length cG aS ss.length cS nx)),by simp only [Pj.PU,Act.put,Pj.Yz,Nat.reduceEqDiff,if_true,if_false],HJ.out.flat HP.out hL (HJ.out.kp.trans (EX _)) (EZ (EX _)) (rfl),ID.out.kept (EX _),⟨fun h=>(II.out.1 (fun q=>h ((hL 5).2 (.inr q)))).kept (EX _),fun h=>by obtain ⟨x1,y1,x2,y2,x3,y3,g1,g2⟩:=II.out.2 (((hL 5).1 h).resolve_left aF);exact ⟨x1,y1,x2,y2,x3,y3,g1.kept (EX _),g2.kept (EX _)⟩⟩,fun g1 g5=>by obtain ⟨x1,y1,x2,y2,x3,y3,g2,g3⟩:=aBw.out (((hL 1).1 g1).resolve_left aF) (fun q=>g5 ((hL 5).2 (.inr q)));exact ⟨x1,y1,x2,y2,x3,y3,(Pj.Yy _ _ aF).trans g2,g3.kept (EX _)⟩⟩
    | 1,ho =>
     obtain rfl:=EB ho;have l0:=FZ 0 aW
     have e0:V 0=.agg (LS aT ts.length cT aG gs.length cG aS ss.length cS nx):=HJ.out.h 0 l0
     have hcp:=HC.out w HJ.out.kp
     refine Pj.Za.free rfl ?_
     simp only [Pj.PU,Act.put,e0];go_simp
     refine hcp.mono ?_
     rintro e w' ⟨xa,ya,xb,yb,xc,yc,rfl,o1,o2,o3,GF⟩;have LD:lZ wo.heap.size ts gs ss xa xb xc ya yb yc w':=⟨bA o1 (EZ HJ.out.kp),bA o2 (EZ HJ.out.kp),bA o3 (EZ HJ.out.kp)⟩;exact IH aF _ _ ⟨Pj.Yz V 1 (.agg (LS xa ts.length ya xb gs.length yb xc ss.length yc nx)),by simp only [Pj.PU,Act.put,Pj.Yz,Nat.reduceEqDiff,if_true,if_false,e0],HJ.out.flat HP.out hL (HJ.out.kp.trans (GF)) (EZ (GF)) (trivial),ID.out.kept (GF),⟨fun h=>(II.out.1 (fun q=>h ((hL 5).2 (.inr q)))).kept (GF),fun h=>by obtain ⟨x1,y1,x2,y2,x3,y3,g1,g2⟩:=II.out.2 (((hL 5).1 h).resolve_left aF);exact ⟨x1,y1,x2,y2,x3,y3,g1.kept (GF),g2.kept (GF)⟩⟩,fun _ _=>⟨_,_,_,_,_,_,Pj.Zc _ _ _,LD⟩⟩
    | 2,ho =>
     obtain rfl:=EB ho
     refine Pj.Za.free rfl ?_
     simp only [Pj.PU,Act.put];go_simp;exact IH aF _ _ ⟨Pj.Yz V 2 (.pointer (some ⟨q,2,none⟩)),by simp only [Pj.PU,Act.put,Pj.Yz,Nat.reduceEqDiff,if_true,if_false],HJ.out.flat HP.out hL (HJ.out.kp.trans (EX _)) (EZ (EX _)) (rfl),ID.out.kept (EX _),⟨fun h=>(II.out.1 (fun q=>h ((hL 5).2 (.inr q)))).kept (EX _),fun h=>by obtain ⟨x1,y1,x2,y2,x3,y3,g1,g2⟩:=II.out.2 (((hL 5).1 h).resolve_left aF);exact ⟨x1,y1,x2,y2,x3,y3,g1.kept (EX _),g2.kept (EX _)⟩⟩,fun g1 g5=>by obtain ⟨x1,y1,x2,y2,x3,y3,g2,g3⟩:=aBw.out (((hL 1).1 g1).resolve_left aF) (fun q=>g5 ((hL 5).2 (.inr q)));exact ⟨x1,y1,x2,y2,x3,y3,(Pj.Yy _ _ aF).trans g2,g3.kept (EX _)⟩⟩
    | 3,ho =>
     obtain rfl:=EB ho;have l2:=FZ 2 aW
     have e2:V 2=.pointer (some ⟨q,2,none⟩):=HJ.out.h 2 l2
     obtain ⟨d0,d1,d2⟩:=dI ID.out.h2
     refine Pj.Za.free rfl ?_
     simp only [Pj.PU,Act.put,e2];go_simp;exact IH aF _ _ ⟨Pj.Yz V 3 (.int .i64 re),by simp only [Pj.PU,Act.put,Pj.Yz,Nat.reduceEqDiff,if_true,if_false,e2],HJ.out.flat HP.out hL (HJ.out.kp.trans (EX _)) (EZ (EX _)) (rfl),ID.out.kept (EX _),⟨fun h=>(II.out.1 (fun q=>h ((hL 5).2 (.inr q)))).kept (EX _),fun h=>by obtain ⟨x1,y1,x2,y2,x3,y3,g1,g2⟩:=II.out.2 (((hL 5).1 h).resolve_left aF);exact ⟨x1,y1,x2,y2,x3,y3,g1.kept (EX _),g2.kept (EX _)⟩⟩,fun g1 g5=>by obtain ⟨x1,y1,x2,y2,x3,y3,g2,g3⟩:=aBw.out (((hL 1).1 g1).resolve_left aF) (fun q=>g5 ((hL 5).2 (.inr q)));exact ⟨x1,y1,x2,y2,x3,y3,(Pj.Yy _ _ aF).trans g2,g3.kept (EX _)⟩⟩
    | 4,ho =>
     obtain rfl:=EB ho;have l3:=FZ 3 aW
     have e3:V 3=.int .i64 re:=HJ.out.h 3 l3
     refine Pj.Za.free rfl ?_
     simp only [Pj.PU,Act.put,e3];go_simp;exact IH aF _ _ ⟨Pj.Yz V 4 (.agg #[.int .i64 0,.string { data:=#[] },.int .i64 re]),by simp only [Pj.PU,Act.put,Pj.Yz,Nat.reduceEqDiff,if_true,if_false,e3],HJ.out.flat HP.out hL (HJ.out.kp.trans (EX _)) (EZ (EX _)) (rfl),ID.out.kept (EX _),⟨fun h=>(II.out.1 (fun q=>h ((hL 5).2 (.inr q)))).kept (EX _),fun h=>by obtain ⟨x1,y1,x2,y2,x3,y3,g1,g2⟩:=II.out.2 (((hL 5).1 h).resolve_left aF);exact ⟨x1,y1,x2,y2,x3,y3,g1.kept (EX _),g2.kept (EX _)⟩⟩,fun g1 g5=>by obtain ⟨x1,y1,x2,y2,x3,y3,g2,g3⟩:=aBw.out (((hL 1).1 g1).resolve_left aF) (fun q=>g5 ((hL 5).2 (.inr q)));exact ⟨x1,y1,x2,y2,x3,y3,(Pj.Yy _ _ aF).trans g2,g3.kept (EX _)⟩⟩
    | 5,ho =>
     simp only [iU] at ho;subst ho;have l1:=FZ 1 aW;have hx5:=II.out.1 FY;obtain ⟨xa,ya,xb,yb,xc,yc,e1,LD⟩:=aBw.out l1 FY
     refine Pj.Za.free rfl ?_
     simp only [Pj.PU,Act.put,e1]
     refine Pj.Zf 26 _ _ rfl (wo.heap.size+1+1) (LS xa ts.length ya xb gs.length yb xc ss.length yc nx) LN 26 rfl rfl hx5 aW rfl (by simp [Value.oneCell']) ?_
     simp only [Act.put];exact IH aF _ _ ⟨Pj.Yz V 5 (undef),by simp only [Pj.PU,Act.put,Pj.Yz,Nat.reduceEqDiff,if_false,e1],HJ.out.flat HP.out hL (FC HJ.out.kp (g:=(wo.heap.size+1+1)) aE _) (by simp [World.setRow]) (trivial),ID.out.row aE aE aE,⟨fun h=>absurd ((hL 5).2 (.inl rfl)) h,fun _=>⟨xa,ya,xb,yb,xc,yc,hx5.setRow _,LD.row hx5 aF aF aF _⟩⟩,fun _ h=>absurd ((hL 5).2 (.inl rfl)) h⟩
    | 6,ho =>
     simp only [iU] at ho;subst ho;have l4:=FZ 4 aW
     have e4:V 4=.agg #[.int .i64 0,.string { data:=#[] },.int .i64 re]:=HJ.out.h 4 l4
     have l5:=FZ 5 aW;have WO:=ID.out.h3;obtain ⟨xa,ya,xb,yb,xc,yc,PR,PM⟩:=II.out.2 l5
     refine Pj.Za.free rfl ?_
     simp only [Pj.PU,Act.put,e4]
     refine Pj.Zf 47 _ _ rfl (wo.heap.size+1+1+1) #[.int .i64 0,.string { data:=#[] },.int .i64 re] LR 47 rfl rfl WO aW rfl (by simp [Value.oneCell']) ?_
     simp only [Act.put];exact hKz rfl _ _ ⟨Pj.Yz V 6 (undef),by simp only [Pj.PU,Act.put,Pj.Yz,Nat.reduceEqDiff,if_false,e4],⟨xa,ya,xb,yb,xc,yc,PR.other _ aE,WO.setRow _,PM.row WO aF aF aF _,FC HJ.out.kp (g:=(wo.heap.size+1+1+1)) aE _⟩⟩
    | n+7,ho=>simp at ho
   case ehe =>
    rintro az w ⟨V,rfl,hf⟩;obtain ⟨u1,v1,u2,v2,u3,v3,hx9,hr9,hw9,GF⟩:=hf;have UW:=DX hx9;have JM:=DX hr9;have OZ:=DX hw9;have JQ:=DX GF;clear hx9 hr9 hw9 GF;simp only [Pj.Zb,dO,Act.put];go_wp2_with fail
    refine EI (v:=.tuple #[.agg (LS u1 ts.length v1 u2 gs.length v2 u3 ss.length v3 nx),.agg #[.int .i64 0,.string { data:=#[] },.int .i64 re]]) ?_ rfl ⟨⟨u1,v1,u2,v2,u3,v3,rfl,OZ.out.oT,OZ.out.oG,OZ.out.oS⟩,JQ.out⟩
    exact lC rfl _ _ (wo.heap.size+1+1) (wo.heap.size+1+1+1) 26 47 (LS u1 ts.length v1 u2 gs.length v2 u3 ss.length v3 nx) #[.int .i64 0,.string { data:=#[] },.int .i64 re] _ _ rfl UW.out rfl JM.out EW rfl AY EV rfl AX
end Go.Proofs.YtkfmladhicapeaaGreatDoor
