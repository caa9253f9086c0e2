import Derived.Test.YtkfmladhicapeaaGreatDoorY32
set_option maxRecDepth 100000
set_option maxHeartbeats 4000000
namespace Go.Proofs.YtkfmladhicapeaaGreatDoor
open Go.RowKit Go.Shelf
attribute [local go_sem] Oper.semAt_some
theorem Nu (x:Tg) (q:Nat) (D:ByteArray) (w:World) (hq:w.cell? ⟨q,5,none⟩=some (.string D)) :
 Calls Tryz.prog 102 #[.agg #[.string x.n,.string x.d],.pointer (some ⟨q,0,none⟩)] w fun e w'=>e=.returned (.bool (decide (x.d=D)))/\aB w w':=by
 have HB:=DX (EY w #[.string x.n,.string x.d] 68);have HK:=DX ((EX w).alloc (.cells #[.string x.n,.string x.d] 68))
 have WN:(w.alloc (.cells #[.string x.n,.string x.d] 68)).cell? ⟨q,5,none⟩=some (.string D):=HK.out.cell (jC hq) hq
 obtain ⟨R,hR⟩:∃ R,R=decide (x.d=D):=⟨_,rfl⟩
 rw [<- hR]
 have hb:(x.d.toList == D.toList)=R:=by
  rw [hR]
  by_cases h:x.d=D
  . rw [DZ h,h];simp
  . rw [DY h];exact (dM (fun e=>h e)).2.1
 clear hR hq;go_enter Tryz.func102,Tryz.ntmps102
 go_upto_region 1 with (fail)
 generalize w.alloc (.cells #[.string x.n,.string x.d] 68)=w1 at *;obtain ⟨a0,a1⟩:=oV HB.out;go_wp2;go_ret;exact ⟨rfl,HK.out⟩
def xX (gs:List Tg) (D:ByteArray):Bool:=gs.any fun x=>decide (x.d=D)
theorem Ux {gs:List Tg} {D:ByteArray} (h:∀ k,k<gs.length->decide ((gs.getD k bL).d=D)=false):xX gs D=false:=by
 unfold xX;rw [List.any_eq_false];intro x hx;obtain ⟨k,hk,rfl⟩:=List.mem_iff_getElem.1 hx;have:=h k hk
 simpa [List.getD,hk] using this
theorem Oj {gs:List Tg} {D:ByteArray} {k:Nat} (hk:k<gs.length) (h:decide ((gs.getD k bL).d=D)=true):xX gs D=true:=by
 unfold xX;exact List.any_eq_true.2 ⟨_,bY bL hk,h⟩
theorem Km (a:Option Addr) (c q:Nat) (gs:List Tg) (D:ByteArray) (w:World) (h:cJ w a gs.length gs) (hl:gs.length<=1000000) (hq:w.cell? ⟨q,5,none⟩=some (.string D)) :
 Calls Tryz.prog 134 #[.slice a gs.length c,.func (.func 102) #[] #[.pointer (some ⟨q,0,none⟩)]] w fun e w'=>((xX gs D=true/\∃ k:Nat,k<gs.length/\e=.returned (.int .i64 k))\/(xX gs D=false/\e=.returned (.int .i64 (-1))))/\aB w w':=by
 have HS:=DX h;have HQ:=DX hq;have MR:=jC hq;clear h hq;go_enter Tryz.func134,Tryz.ntmps134;go_wp2_with fail;go_loopw [8] (fun kv wr=>∃ k:Nat,k<=gs.length/\kv=.int .i64 k/\Hid (∀ j,j<k->decide ((gs.getD j bL).d=D)=false)/\aB w wr) (fun kv _=>gs.length - (intOf kv).toNat)
 case atStart=>exact Lp
 case round =>
  rename World=>wr
  obtain ⟨k,hk,rfl,HN,IF⟩:=hrel;have IA:=DX IF;clear IF
  by_cases IE:k<gs.length
  . have GU:decide (k<gs.length)=true:=DZ IE
    obtain ⟨bt,ot,rfl,JC⟩:=HS.out.at aE;obtain ⟨c0,c1⟩:=JC k IE wr IA.out;have ZC:=DX (Nu (gs.getD k bL) q D wr (IA.out.cell MR HQ.out));have HYES:=DX (fun h=>Oj (D:=D) IE h)
    obtain ⟨R,hR⟩:∃ R,R=decide ((gs.getD k bL).d=D):=⟨_,rfl⟩
    have HR:=DX hR;rw [<- hR] at ZC HYES;clear JC hR
    generalize (gs.getD k bL).n=xn at c0 ZC
    generalize (gs.getD k bL).d=xd at c1 ZC
    go_wp2_with fail
    refine ZC.out.mono ?_
    rintro e w2 ⟨rfl,FX⟩;have FW:=DX (IA.out.trans FX);clear FX ZC c0 c1
    cases R with
    | true =>
     have HY:=DX (HYES.out rfl);clear HYES HR;go_wp2_with fail;go_ret;exact ⟨.inl ⟨HY.out,k,IE,rfl⟩,FW.out⟩
    | false =>
     clear HYES;exact Ta
  . obtain rfl:k=gs.length:=by omega
    have GU:decide (gs.length<gs.length)=false:=DY aE;have HA:=DX (Ux HN.out);go_wp2_with fail;go_ret;exact ⟨.inr ⟨HA.out,rfl⟩,IA.out⟩
theorem zR (a:Option Addr) (c q:Nat) (gs:List Tg) (D:ByteArray) (w:World) (h:cJ w a gs.length gs) (hl:gs.length<=1000000) (hq:w.cell? ⟨q,5,none⟩=some (.string D)) :
 Calls Tryz.prog 101 #[.slice a gs.length c,.func (.func 102) #[] #[.pointer (some ⟨q,0,none⟩)]] w fun e w'=>e=.returned (.bool (xX gs D))/\aB w w':=by
 have HI:=DX (Km a c q gs D w h hl hq);clear h hq;go_enter Tryz.func101,Tryz.ntmps101;go_wp2_with fail
 refine HI.out.mono ?_
 rintro e w2 ⟨⟨ha,k,hk,rfl⟩ | ⟨ha,rfl⟩,FX⟩
 . have HA:=DX ha
   have HK:=DX FX;have hd:decide ((0:Int)<=(k:Int))=true:=DZ aE;exact Tr
 . have HA:=DX ha
   have HK:=DX FX;exact Tr
theorem Dd (base p:Nat) (hp:base<=p) (s:dN) (o:fV) (w:World) (Q:eX base w p s) (hs:dP s=true) :
 Calls Tryz.prog 73 (PO p o.k o.id o.n o.m o.name o.d o.t) w (iD base p w (eE s o.d)):=by
 obtain ⟨ts,gs,ss,nx⟩:=s;obtain ⟨ok,oi,on,om,GE,od,ot⟩:=o;dsimp only at *;have HQ:=DX Q;obtain ⟨aT,cT,aG,cG,aS,cS,hb,oT,oG,oS⟩:=Q.rows;dsimp only at *
 have GY:base<=w.heap.size:=by have:=hb.lt;omega
 have MG:p<w.heap.size:=hb.lt;have HP:=DX hb
 obtain ⟨XX,GR⟩:∃ XX,XX=(eE ⟨ts,gs,ss,nx⟩ od):=⟨_,rfl⟩
 rw [<- GR];have HX:=DX GR;clear GR;obtain ⟨lT,rT,zT,lG,rG,zG,lS,rS,zS,n0,n1⟩:=bR hs;dsimp only at *;obtain ⟨_,_,hv,hI⟩:=cI oT rfl aE (fun x hx=>by have:=zT x hx;omega);cases hv;obtain ⟨hf,hl⟩:=qT rT od;have HA:=DX (fun w' (k:aB w w')=>oX aT aG aS ts.length gs.length ss.length cT cG cS nx ts od w' (hI.kept k) rT);have HB:=DX ((EY w (LO ok oi on om GE od ot) 35).kept ((EX _).alloc (KR)));have HR:=DX (FB w LR 47 ((KO ok oi on om GE od ot)));have HK:=DX (((EX w).alloc ((KO ok oi on om GE od ot))).alloc (KR))
 by_cases GA:cQ ts od<ts.length
 . rw [hf,hl GA,DZ GA] at HA
   obtain ⟨_,_,hv,hJ⟩:=eA oG rfl aE (fun x hx=>by have:=zG x hx;omega);cases hv;have hT:=hs;unfold dP at hT;rw [Bool.and_eq_true] at hT;have hT2:=hT.1;unfold yR at hT2;rw [Bool.and_eq_true] at hT2;have TX:=DX (fun w' (k:aB w w')=>Do aT ts.length cT ts od w' (hI.kept k) hT2.1);have NN:=DX hJ;have JJ:=DX (show eE ⟨ts,gs,ss,nx⟩ od=_ from if_pos GA)
   try dsimp only at JJ
   clear hT hT2 hJ;clear hs hf hl hI rT zT rG zG rS zS oT oG oS Q hb;generalize cQ ts od=z at *;go_enter Tryz.func73,Tryz.ntmps73
   go_upto_region 1 with (fail)
   generalize (w.alloc ((KO ok oi on om GE od ot))).alloc (KR)=w1 at *
   obtain ⟨r0,r1,r2,r3⟩:=aI (HP.out.kept HK.out);have q0:w1.cell? ⟨w.heap.size,5,none⟩=some (.string od):=HB.out.cell 5;have l0:=aC r0;have l1:=aC r1;have l2:=aC r2;have l3:=aC r3;have l4:=aC q0;clear r0 r1 r2 r3 q0;have GX:=DX (fun u:bF w1=>HA.out u.1 (HK.out.trans u.2))
   refine aJ aW aW ?_
   repeat (go_big_quiet_step ((go_at_call 99;exact aK (GX.out _))))
   refine wpQuiet_nil ?_
   intro _ GD;obtain ⟨nq,FT⟩:=GD;subst FT;have FW:=DX (HK.out.trans nq.2);have GK:=DX (HR.out.kept nq.2);have GP:=DX (HB.out.kept nq.2);clear l0 l1 l2 l3 l4 GX HA HR HB;generalize nq.1=w2 at *;obtain ⟨r0,r1,r2,r3⟩:=aI (HP.out.kept FW.out);have q5:w2.cell? ⟨w.heap.size,5,none⟩=some (.string od):=GP.out.cell 5;go_wp2_with fail;go_region_with (go_at_call 100;refine (TX.out _ (FW.out.trans (EX w2).drew)).mono ?_;rintro e w3 ⟨au,cu,rfl,_,IK⟩)
   all_goals
    have GC:=DX (FW.out.trans ((EX w2).drew.trans IK));have JG:=DX (GK.out.kept ((EX w2).drew.trans IK));have IU:=DX (GP.out.kept ((EX w2).drew.trans IK));clear r0 r1 r2 r3 q5 IK TX GK GP;obtain ⟨r0,r1,r2,r3⟩:=aI (HP.out.kept GC.out);have q5:w3.cell? ⟨w.heap.size,5,none⟩=some (.string od):=IU.out.cell 5;have HCT:=DX (zR aG cG w.heap.size gs od w3 (NN.out.kept GC.out) aE q5);clear q5;go_wp2_with fail
    refine HCT.out.mono ?_
    rintro e w4 ⟨rfl,IV⟩;have GQ:=DX (GC.out.trans IV);have IW:=DX (JG.out.kept IV);clear IV HCT r0 r1 r2 r3 JG IU;rw [show (gs.any fun x=>decide (x.d=od))=xX gs od from rfl] at JJ
    generalize (fS ts od).length=nu at *
    generalize xX gs od=an at *
    by_cases hu:0<nu
    . have hd:decide ((0:Int)<(nu:Int))=true:=DZ aE
      have WF:decide (0<nu)=true:=DZ hu;have GI:=DX (JJ.out.trans (if_pos (.inl hu)));clear JJ hu;go_wp2_with fail
      refine (bU 11 _).mono ?_
      rintro e w9 ⟨rfl,GF⟩;have JQ:=DX (GQ.out.trans GF);have JM:=DX (IW.out.kept GF);clear GF;go_wp2_with (refine aD rfl 47 (.tmp 4) (.tmp 44) rfl (w.heap.size+1) (bB (aY 11)) LR 47 rfl rfl JM.out AX rfl (aL _) ?_)
      refine EI (v:=bW (aY 11)) ?_ rfl ?_
      . exact Sd
      . exact xN
    . have hd:decide ((0:Int)<(nu:Int))=false:=DY aE
      have WF:decide (0<nu)=false:=DY hu
      cases an with
      | true =>
       have GI:=DX (JJ.out.trans (if_pos (.inr rfl)));clear JJ hu;go_wp2_with fail
       refine (bU 11 _).mono ?_
       rintro e w9 ⟨rfl,GF⟩;have JQ:=DX (GQ.out.trans GF);have JM:=DX (IW.out.kept GF);clear GF;go_wp2_with (refine aD rfl 47 (.tmp 4) (.tmp 44) rfl (w.heap.size+1) (bB (aY 11)) LR 47 rfl rfl JM.out AX rfl (aL _) ?_)
       refine EI (v:=bW (aY 11)) ?_ rfl ?_
       . exact Sd
       . exact xN
      | false =>
       have GI:=DX (JJ.out.trans (if_neg (by simp;omega)));clear JJ hu;have LZ:=DX (HQ.out.kept GQ.out);have RM:=DX (FA (p:=p) GQ.out GY);obtain ⟨aT4,cT4,aG4,cG4,aS4,cS4,IM,oT4,oG4,oS4⟩:=LZ.out.rows;dsimp only at IM oT4 oG4 oS4;obtain ⟨g4,rfl⟩:=cA oT4 aE;have HD:=DX (Np base g4 cT4 z ts aE aE w4 oT4);have KF:=DX IM;have PG:=DX oT4;obtain ⟨r0,r1,r2,r3⟩:=aI KF.out;clear IM oT4 oG4 oS4;go_wp2_with fail
       refine HD.out.mono ?_
       rintro e w5 ⟨rfl,FU,IB⟩;have MC:=dX.of PG.out;have XS:=DX (aM KF.out IB (MC.ne KF.out aF));obtain ⟨hq6,hf6⟩:=LZ.out.putT hp (ts.eraseIdx z) IB MC FU;have HQ6:=DX hq6;have HF6:=DX (RM.out.trans hf6);have NR:=DX (hf6.blk _ _ _ IW.out aE aF aF aF);clear r0 r1 r2 r3 FU IB MC hq6 hf6 HD PG;obtain ⟨r0,r1,r2,r3⟩:=aI XS.out;have f0:=XS.out.free 0
       go_upto_region 9 with (fail)
       generalize w5.setCell ⟨p,0,none⟩ (.slice (some ⟨g4,0,none⟩) (ts.eraseIdx z).length cT4)=w6 at *;clear r0 r1 r2 r3 f0;go_wp2_with (refine aD rfl 47 (.tmp 4) (.tmp 56) rfl (w.heap.size+1) (bB (fT)) LR 47 rfl rfl NR.out AX rfl (aL _) ?_)
       refine EI (v:=bW (fT)) ?_ rfl ?_
       . exact Rw
       . exact Yd
 . rw [hf,DY GA] at HA
   have GI:=DX (show eE ⟨ts,gs,ss,nx⟩ od=(⟨ts,gs,ss,nx⟩,aY 3) from if_neg GA);clear hs hf hl hI rT zT rG zG rS zS oT oG oS Q hb;generalize fZ ts od=z at *;clear GA;go_enter Tryz.func73,Tryz.ntmps73
   go_upto_region 1 with (fail)
   generalize (w.alloc ((KO ok oi on om GE od ot))).alloc (KR)=w1 at *
   obtain ⟨r0,r1,r2,r3⟩:=aI (HP.out.kept HK.out);have q0:w1.cell? ⟨w.heap.size,5,none⟩=some (.string od):=HB.out.cell 5;have l0:=aC r0;have l1:=aC r1;have l2:=aC r2;have l3:=aC r3;have l4:=aC q0;clear r0 r1 r2 r3 q0;have GX:=DX (fun u:bF w1=>HA.out u.1 (HK.out.trans u.2))
   refine aJ aW aW ?_
   repeat (go_big_quiet_step ((go_at_call 99;exact aK (GX.out _))))
   refine wpQuiet_nil ?_
   intro _ GD;obtain ⟨nq,FT⟩:=GD;subst FT;have FW:=DX (HK.out.trans nq.2);have GK:=DX (HR.out.kept nq.2);have GP:=DX (HB.out.kept nq.2);clear l0 l1 l2 l3 l4 GX HA HR HB;generalize nq.1=w2 at *;go_wp2_with fail
   refine (bU 3 _).mono ?_
   rintro e w9 ⟨rfl,GF⟩;have JQ:=DX (FW.out.trans GF);have JM:=DX (GK.out.kept GF);clear GF;go_wp2_with (refine aD rfl 47 (.tmp 4) (.tmp 21) rfl (w.heap.size+1) (bB (aY 3)) LR 47 rfl rfl JM.out AX rfl (aL _) ?_)
   refine EI (v:=bW (aY 3)) ?_ rfl ?_
   . exact yX
   . exact xN
theorem Mk (x:ByteArray) (w:World):Calls Tryz.prog 168 #[.string x] w fun e w'=>e=.returned (.bool false)/\w=w':=by
 have hb:(x.toList != x.toList)=false:=by simp
 have QG:(x.toList == x.toList)=true:=by simp
 go_enter Tryz.func168,Tryz.ntmps168;go_wp2;go_ret;exact ⟨rfl,rfl⟩
theorem Lo (x:ByteArray) (w:World):Calls Tryz.prog 143 #[.string x] w fun e w'=>e=.returned (.bool false)/\w=w':=by
 have hb:(x.toList != x.toList)=false:=by simp
 have QG:(x.toList == x.toList)=true:=by simp
 go_enter Tryz.func143,Tryz.ntmps143;go_wp2;go_ret;exact ⟨rfl,rfl⟩
theorem Jp (a b:ByteArray) (w:World):Calls Tryz.prog 142 #[.string a,.string b] w fun e w'=>e=.returned (.bool (cZ a b))/\w=w':=by
 obtain ⟨R,hR⟩:∃ R,R=cZ a b:=⟨_,rfl⟩
 rw [<- hR];have hb:Op.bytesLess a.toList b.toList=R:=hR.symm;clear hR;go_enter Tryz.func142,Tryz.ntmps142;go_wp2_with fail
 refine (Mk a _).mono ?_
 rintro e w' ⟨rfl,rfl⟩;go_wp2;go_ret;exact ⟨rfl,rfl⟩
def Ti (ss:List ByteArray):Prop:=∀ j i,i<j->j<ss.length->cZ (ss.getD i ByteArray.empty) (ss.getD j ByteArray.empty)=true
theorem Js {ss:List ByteArray} {d:ByteArray} {k:Nat} (hr:Ti ss) (h1:∀ q,q<k->cZ (ss.getD q ByteArray.empty) d=true) (h2:∀ q,k<=q->q<ss.length->cZ (ss.getD q ByteArray.empty) d=false) :
 iS d ss=decide (k<ss.length/\ss.getD k ByteArray.empty=d):=by
 rw [Bool.eq_iff_iff,lB,decide_eq_true_iff]
 constructor
 . intro h
   obtain ⟨q,hq,e⟩:=List.mem_iff_getElem.1 h
   have e2:ss.getD q ByteArray.empty=d:=by simp [List.getD,hq,e]
   rcases Nat.lt_trichotomy q k with FV | rfl | UD
   . have:=h1 q FV
     rw [e2,gH] at this;cases this
   . exact ⟨hq,e2⟩
   . have a:=hr q k UD hq
     rw [e2] at a;have b:=h2 k (EA _) aE;rw [b] at a;cases a
 . rintro ⟨hk,e⟩
   rw [<- e]
   simp [List.getD,hk]
theorem Nd (a:Option Addr) (l cap:Nat) (ss:List ByteArray) (d:ByteArray) (w:World) (h:bD w a l ss) (OH:l<=1000000) (hr:Ti ss) :
 Calls Tryz.prog 110 #[.slice a l cap,.string d] w fun e w'=>∃ k:Nat,e=.returned (.tuple #[.int .i64 k,.bool (iS d ss)])/\w=w':=by
 have HS:=DX h;have hL:=h.len_eq;have HL:=DX hL;have HR:=DX hr;clear h hr
 obtain ⟨F,hF⟩:∃ F,F=iS d ss:=⟨_,rfl⟩
 rw [<- hF];have LC:=DX hF;clear hF hL;go_enter Tryz.func110,Tryz.ntmps110;go_wp2_with fail;go_loopw [7,8] (fun x y wr=>∃ lo hi:Nat,x=.int .i64 lo/\y=.int .i64 hi/\lo<=hi/\hi<=l/\Hid ((∀ q,q<lo->cZ (ss.getD q ByteArray.empty) d=true)/\(∀ q,hi<=q->q<l->cZ (ss.getD q ByteArray.empty) d=false))/\w=wr) (fun x y _=>(intOf y).toNat - (intOf x).toNat)
 case atStart=>exact ⟨0,l,rfl,rfl,Nat.zero_le _,EA _,DX ⟨fun q hq=>absurd hq (Nat.not_lt_zero q),fun q h1 h2=>by omega⟩,rfl⟩
 case round =>
  obtain ⟨lo,hi,rfl,rfl,hlh,hhl,HI,rfl⟩:=hrel
  by_cases FV:lo<hi
  . have GU:decide (lo<hi)=true:=DZ FV
    obtain ⟨b,off,rfl,hc⟩:=HS.out.at aE;have c0:=hc ((lo+hi) / 2) aE _ (EX w)
    obtain ⟨x,hx⟩:∃ x,x=ss.getD ((lo+hi) / 2) ByteArray.empty:=⟨_,rfl⟩
    rw [<- hx] at c0;have HX:=DX hx;have XO:=DX (Jp x d w)
    obtain ⟨R,hR⟩:∃ R,R=cZ x d:=⟨_,rfl⟩
    rw [<- hR] at XO;have QB:=DX hR.symm;clear hc hx hR
    cases R with
    | true =>
     go_wp2_with fail
     refine XO.out.mono ?_
     rintro e w2 ⟨rfl,rfl⟩;clear c0;go_wp2_with fail;go_roundw
     case rel =>
      refine ⟨(lo+hi) / 2+1,hi,by go_num,rfl,aE,hhl,DX ⟨fun q hq=>?_,HI.out.2⟩,trivial⟩
      by_cases e:q=(lo+hi) / 2
      . rw [e,<- HX.out];exact QB.out
      . exact eV (HR.out ((lo+hi) / 2) q aE (by rw [HL.out];omega)) (by rw [<- HX.out];exact QB.out)
     case measure=>simp [intOf];omega
    | false =>
     go_wp2_with fail
     refine XO.out.mono ?_
     rintro e w2 ⟨rfl,rfl⟩;clear c0;go_wp2_with fail;go_roundw
     case rel =>
      refine ⟨lo,(lo+hi) / 2,rfl,by go_num,aE,aE,DX ⟨HI.out.1,fun q h1 h2=>?_⟩,trivial⟩
      cases hq:cZ (ss.getD q ByteArray.empty) d with
      | false=>rfl
      | true =>
       have hxx:cZ x d=true:=by
        by_cases e:q=(lo+hi) / 2
        . rw [HX.out,<- e];exact hq
        . exact eV (by rw [HX.out];exact HR.out q ((lo+hi) / 2) aE (by rw [HL.out];omega)) hq
       rw [QB.out] at hxx;cases hxx
     case measure=>simp [intOf];omega
  . obtain rfl:lo=hi:=by omega
    have GU:decide (lo<lo)=false:=DY aE;have OS:=DX (Js HR.out HI.out.1 (fun q h1 h2=>HI.out.2 q h1 (by rw [<- HL.out];exact h2)))
    by_cases QK:lo<l
    . have JH:decide (lo<l)=true:=DZ QK
      obtain ⟨b,off,rfl,hc⟩:=HS.out.at aE;have c0:=hc lo QK _ (EX w)
      obtain ⟨x,hx⟩:∃ x,x=ss.getD lo ByteArray.empty:=⟨_,rfl⟩
      rw [<- hx] at c0 OS;clear hc hx
      by_cases hz:x=d
      . have hq:(x.toList == d.toList)=true:=by rw [hz];simp
        have UQ:=DX (show F=true by rw [LC.out,OS.out];exact DZ ⟨by rw [HL.out];exact QK,hz⟩);clear hz;exact Tq
      . have hq:(x.toList == d.toList)=false:=(dM hz).2.1
        have UQ:=DX (show F=false by rw [LC.out,OS.out];exact DY (fun e=>hz e.2));clear hz;go_wp2_with fail
        refine (Lo x _).mono ?_
        rintro e w' ⟨rfl,rfl⟩;exact Tq
    . have JH:decide (lo<l)=false:=DY QK
      have UQ:=DX (show F=false by rw [LC.out,OS.out];exact DY (fun e=>QK (by rw [<- HL.out];exact e.1)));exact Tq
def KSq (w:World) (q:Nat) (ks:List ByteArray):Prop:=∃ gk ck cs,aA w q #[.slice (some ⟨gk,0,none⟩) ks.length ck] 72/\aA w gk cs 9/\∀ i,i<ks.length->cs[i]?=some (.string (ks.getD i ByteArray.empty))
theorem KSq.kept {w w':World} {q:Nat} {ks:List ByteArray} (h:KSq w q ks) (k:aB w w'):KSq w' q ks:=by
 obtain ⟨gk,ck,cs,h1,h2,h3⟩:=h;exact ⟨gk,ck,cs,h1.kept k,h2.kept k,h3⟩
theorem KSq.grown {base:Nat} {w w':World} {q:Nat} {ks:List ByteArray} {row:Option Nat} (h:KSq w q ks) (g:w.grownBy w' row) (hr:dX base w row 62):KSq w' q ks:=by
 obtain ⟨gk,ck,cs,h1,h2,h3⟩:=h;exact ⟨gk,ck,cs,aM h1 g (hr.ne h1 aF),aM h2 g (hr.ne h2 aF),h3⟩
theorem KSq.strs {w:World} {q:Nat} {ks:List ByteArray} (h:KSq w q ks) (hl:ks.length<=1000000) (hz:∀ s∈ks,s.size<=9223372036854775807):∃ gk ck,w.cell? ⟨q,0,none⟩=some (.slice (some ⟨gk,0,none⟩) ks.length ck)/\bD w (some ⟨gk,0,none⟩) ks.length ks:=by
 obtain ⟨gk,ck,cs,h1,h2,h3⟩:=h;exact ⟨gk,ck,h1.cell 0,rfl,aE,hz,gk,0,fun _=>rfl,fun i hi=>⟨h2.lt,by rw [Nat.zero_add,h2.cell i];exact h3 i hi⟩⟩
theorem Dy (x:Th) (q:Nat) (ks:List ByteArray) (w:World) (h:KSq w q ks) (hl:ks.length<=1000000) (hz:∀ s∈ks,s.size<=9223372036854775807) (hr:Ti ks) :
 Calls Tryz.prog 109 #[.agg (LT x.d x.t x.m),.pointer (some ⟨q,0,none⟩)] w fun e w'=>e=.returned (.bool (!iS x.d ks))/\aB w w':=by
 have HB:=DX (EY w (LT x.d x.t x.m) 62);have HK:=DX ((EX w).alloc ((KT x.d x.t x.m)));have HKS:=DX (h.kept HK.out);have HR:=DX hr;have HZ:=DX hz
 obtain ⟨R,hR⟩:∃ R,R=iS x.d ks:=⟨_,rfl⟩
 rw [<- hR];have HRR:=DX hR;clear h hr hz hR;go_enter Tryz.func109,Tryz.ntmps109
 go_upto_region 1 with (fail)
 generalize w.alloc ((KT x.d x.t x.m))=w1 at *;obtain ⟨gk,ck,q0,hS⟩:=HKS.out.strs hl HZ.out;obtain ⟨a0,a1,a2⟩:=dI HB.out;have RL:=DX (Nd (some ⟨gk,0,none⟩) ks.length ck ks x.d w1 hS hl HR.out);rw [<- HRR.out] at RL;clear hS;go_wp2_with fail
 refine RL.out.mono ?_
 rintro e w2 ⟨k,rfl,rfl⟩;clear RL a0 a1 a2 q0
 cases R with
 | true =>
  go_wp2_with fail;go_ret;exact ⟨rfl,HK.out⟩
 | false =>
  go_wp2_with fail;go_ret;exact ⟨rfl,HK.out⟩
def wU (ts:List Th) (ks:List ByteArray):Nat:=(ts.takeWhile fun x=>iS x.d ks).length
theorem Dt {ks:List ByteArray}:∀ (ts:List Th) (k:Nat),k<=ts.length->(∀ i,i<k->iS (ts.getD i aX).d ks=true)->(k<ts.length->iS (ts.getD k aX).d ks=false)->wU ts ks=k
 | [],k,hk,_,_=>by simp at hk;subst hk;rfl
 | x :: r,0,_,_,h=>by
  have:=h (Nat.succ_pos _)
  simp [List.getD] at this
  unfold wU;rw [List.takeWhile_cons,this];rfl
 | x :: r,k+1,hk,h1,h2=>by
  have h0:=h1 0 (Nat.succ_pos _)
  simp [List.getD] at h0
  have:=Dt r k (by simpa using hk) (fun i hi=>by simpa [List.getD] using h1 (i+1) aE) (fun hk=>by simpa [List.getD] using h2 (by simpa using hk));unfold wU at this ⊢;rw [List.takeWhile_cons,h0]
  simp [this]
theorem zQ (a:Option Addr) (c q:Nat) (ts:List Th) (ks:List ByteArray) (w:World) (h:bO w a ts.length ts) (hl:ts.length<=1000000) (hk:KSq w q ks) (PC:ks.length<=1000000) (hkz:∀ s∈ks,s.size<=9223372036854775807) (hr:Ti ks) :
 Calls Tryz.prog 141 #[.slice a ts.length c,.func (.func 109) #[] #[.pointer (some ⟨q,0,none⟩)]] w fun e w'=>((wU ts ks<ts.length/\e=.returned (.int .i64 (wU ts ks)))\/(wU ts ks=ts.length/\e=.returned (.int .i64 (-1))))/\aB w w':=by
 have HS:=DX h;have HKS:=DX hk;have HKZ:=DX hkz;have NX:=DX hr;clear h hk hkz hr;go_enter Tryz.func141,Tryz.ntmps141;go_wp2_with fail;go_loopw [8] (fun kv wr=>∃ k:Nat,k<=ts.length/\kv=.int .i64 k/\Hid (∀ j,j<k->iS (ts.getD j aX).d ks=true)/\aB w wr) (fun kv _=>ts.length - (intOf kv).toNat)
 case atStart=>exact Lp
 case round =>
  rename World=>wr
  obtain ⟨k,hk,rfl,HN,IF⟩:=hrel;have IA:=DX IF;clear IF
  by_cases IE:k<ts.length
  . have GU:decide (k<ts.length)=true:=DZ IE
    obtain ⟨bt,ot,rfl,JC⟩:=HS.out.at aE;obtain ⟨c0,c1,c2⟩:=JC k IE wr IA.out;have ZC:=DX (Dy (ts.getD k aX) q ks wr (HKS.out.kept IA.out) PC HKZ.out NX.out)
    obtain ⟨R,hR⟩:∃ R,R=iS (ts.getD k aX).d ks:=⟨_,rfl⟩
    have HR:=DX hR;rw [<- hR] at ZC;clear JC hR
    generalize (ts.getD k aX).d=xd at c0 ZC
    generalize (ts.getD k aX).t=xt at c1 ZC
    generalize (ts.getD k aX).m=xm at c2 ZC
    go_wp2_with fail
    refine ZC.out.mono ?_
    rintro e w2 ⟨rfl,FX⟩;have FW:=DX (IA.out.trans FX);clear FX ZC c0 c1 c2
    cases R with
    | false =>
     have HG:=DX (Dt ts k hk HN.out (fun _=>HR.out.symm));clear HR;go_wp2_with fail;go_ret;exact ⟨.inl ⟨by rw [HG.out];exact IE,by rw [HG.out];rfl⟩,FW.out⟩
    | true =>
     exact Ta
  . obtain rfl:k=ts.length:=by omega
    have GU:decide (ts.length<ts.length)=false:=DY aE;have HG:=DX (Dt ts ts.length hk HN.out (fun h=>absurd h (EJ _)));go_wp2_with fail;go_ret;exact ⟨.inr ⟨HG.out,rfl⟩,IA.out⟩
def rV (ks:List ByteArray) (x:Th):Bool:=iS x.d ks
theorem Fi {ks:List ByteArray}:∀ (ts:List Th) (i:Nat),i<wU ts ks->rV ks (ts.getD i aX)=true
 | [],i,h=>by simp [wU] at h
 | x :: r,i,h=>by
  unfold wU at h;rw [List.takeWhile_cons] at h
  cases hx:iS x.d ks with
  | false=>rw [hx] at h;simp at h
  | true =>
   cases i with
   | zero=>exact hx
   | succ i =>
    rw [hx] at h;have:=Fi (ks:=ks) r i (by unfold wU;simpa using h)
    simpa [List.getD] using this
theorem Kt {ks:List ByteArray}:∀ (ts:List Th),wU ts ks<ts.length->rV ks (ts.getD (wU ts ks) aX)=false
 | [],h=>by simp at h
 | x :: r,h=>by
  unfold wU at h ⊢;rw [List.takeWhile_cons] at h ⊢
  cases hx:iS x.d ks with
  | false=>simpa [List.getD,rV] using hx
  | true =>
   rw [hx] at h;have:=Kt (ks:=ks) r (by unfold wU;simpa using h);unfold wU at this
   simpa [List.getD] using this
theorem vT {ks:List ByteArray} {ts:List Th} {i:Nat} (hi:i<=wU ts ks):(ts.take i).filter (rV ks)=ts.take i:=by
 rw [List.filter_eq_self];intro x hx;obtain ⟨k,hk,rfl⟩:=List.mem_iff_getElem.1 hx
 have FX:k<i/\k<ts.length:=by rw [List.length_take] at hk;omega
 have:=Fi ts k (EG FX.1 hi)
 simpa [List.getD,FX.2] using this
theorem qQ {ks:List ByteArray} {ts:List Th} {j:Nat} (hj:j<ts.length):(ts.take (j+1)).filter (rV ks)=(ts.take j).filter (rV ks)++(if rV ks (ts.getD j aX)=true then [ts.getD j aX] else []):=by
 rw [List.take_succ_eq_append_getElem hj,List.filter_append]
 have e:ts.getD j aX=ts[j]:=by simp [List.getD,hj]
 rw [e]
 by_cases h:rV ks ts[j]=true
 . rw [if_pos h];simp [h]
 . rw [if_neg h];simp [h]
theorem xM {L ts:List Th} {j:Nat} (h:L.drop j=ts.drop j):L.getD j aX=ts.getD j aX:=by
 have:=congrArg (fun l:List Th=>l[0]?) h;simp only [List.getElem?_drop,Nat.add_zero] at this;rw [List.getD_eq_getElem?_getD,List.getD_eq_getElem?_getD,this]
theorem zY (L:List Th) (i:Nat) (x:Th) (h:i<L.length):(L.flatMap dW).take (i*3)++dW x++(L.flatMap dW).drop (i*3+(dW x).length)=(L.set i x).flatMap dW:=by
 rw [show i*3+(dW x).length=(i+1)*3 by rw [mA];omega,lA dW 3 mA,eB dW 3 mA,List.set_eq_take_append_cons_drop,if_pos h,List.flatMap_append,List.flatMap_cons,List.append_assoc]
theorem tU {P:Program} (w:World) (t e:TypeId) (z:Value) (K m:Nat) (hm:0<m) (ht:P.underlying t=some (.slice e)) (hv:∀ w,(zeroValue e).run P w=.ok z w) (hz:z.cells.size=K) (h1:∀ u∈z.cells.toList,u.oneCell'=true) (b o c:Nat)
 (hc:∀ j,j<m*K->(w.cell? ⟨b,o+j,none⟩).isSome=true) (hf:∀ j,j<m*K->w.frozen? ⟨b,o+j,none⟩=false) :
 ∃ zs:List Value,zs.length=m*K/\∀ ty,(Builtin.clear_ #[t] ty #[.slice (some ⟨b,o,none⟩) m c]).run P w=.ok (.tuple #[]) (w.setCells b o zs):=by
 obtain ⟨k,rfl⟩:∃ k,m=k+1:=⟨m - 1,aE⟩
 refine ⟨(Builtin.zeroCells z.cells (k+1)).toList,by unfold Builtin.zeroCells;simp [hz],fun ty=>?_⟩
 have hl:(Builtin.zeroCells z.cells (k+1)).toList.length=(k+1)*K:=by unfold Builtin.zeroCells;simp [hz]
 have GL:=run_storeCells_cells (P:=P) b o (Builtin.zeroCells z.cells (k+1)).toList 0 w (by rw [hl];simpa using hc) (by rw [hl];simpa using hf) (fun u hu=>by
  unfold Builtin.zeroCells at hu;simp only [Array.toList_map,List.mem_map] at hu;obtain ⟨i,hi,rfl⟩:=hu
  have RR:i<(k+1)*z.cells.size:=by simpa using hi
  have hp:0<z.cells.size:=by rcases Nat.eq_zero_or_pos z.cells.size with h | h;rw [h] at RR;omega;exact h
  have FV:=Nat.mod_lt i hp;rw [getElem!_pos z.cells (i % z.cells.size) FV]
  exact h1 _ (by simp))
 simp only [Nat.add_zero] at GL
 simp [Builtin.clear_,run_underlying ht,hv,GL]
theorem fM {P:Program} {ops:Array Oper} {rest:List Oper} {op:Oper} {a:Act} {w:World} {Q:Exit->Act->World->Prop} (hgd:op.guard=none) (ty:TypeId) (x y:Operand) (ho:op.op=.store ty x y)
 (g o:Nat) (cells:Array Value) (hx:a.eval x=.pointer (some ⟨g,o,none⟩)) (hy:a.eval y=.agg cells) (ht:w.there g o cells.size) (hi:(P.info? ty).map (·.size)=some cells.size) (h1:cells.all (·.oneCell')=true)
 (h:wpList P ops Q rest (a.put op.dst undef) (w.setCells g o cells.toList)):wpList P ops Q (op :: rest) a w :=
 wpList_plain hgd fun _ hK=>by
  unfold Oper.wp execOp;simp only [ho,hx,hy,Instr.storeAt,Instr.sureAddr,Sem.run_bind,Sem.run_pure,Result.andThen_ok,run_storeVar_mid w g o ty cells ht hi h1];exact hK _ _ h
theorem jO {w w':World} (k:aB w w') (row:Option Nat):w.grownBy w' row:=⟨k.os,k.tape,k.output,k.size,fun i hi _=>k.block i hi⟩
theorem Py (base g c q:Nat) (ts:List Th) (ks:List ByteArray) (w:World) (h:w.ownsRow base 62 3 (.slice (some ⟨g,0,none⟩) ts.length c) ts.length (ts.flatMap dW)) (hz:∀ x∈ts,x.d.size<=140737488351232/\x.t.size<=140737488351232) (hl:ts.length<=1000000)
 (hk:KSq w q ks) (PC:ks.length<=1000000) (hkz:∀ s∈ks,s.size<=9223372036854775807) (hr:Ti ks) :
 Calls Tryz.prog 108 #[.slice (some ⟨g,0,none⟩) ts.length c,.func (.func 109) #[] #[.pointer (some ⟨q,0,none⟩)]] w fun e w'=>e=.returned (.slice (some ⟨g,0,none⟩) (ts.filter (rV ks)).length c) /\
  w'.ownsRow base 62 3 (.slice (some ⟨g,0,none⟩) (ts.filter (rV ks)).length c) (ts.filter (rV ks)).length ((ts.filter (rV ks)).flatMap dW)/\w.grownBy w' (some g):=by
 obtain ⟨i0,IY,GV,GJ,GO⟩:=gD Tryz.prog BA;obtain ⟨NJ,PS,_⟩:=iK h;unfold maxLen at PS;obtain ⟨_,_,hv,hI⟩:=cI h rfl aE hz;cases hv;have HIX:=DX (zQ (some ⟨g,0,none⟩) c q ts ks w hI hl hk PC hkz hr);have HO:=DX h;have HRT:=DX (dX.of h);have HKS:=DX hk;have HKZ:=DX hkz;have NX:=DX hr;have HI:=DX (EC IY (EC GV (EC GJ GO)))
 obtain ⟨F,hF⟩:∃ F,F=ts.filter (rV ks):=⟨_,rfl⟩
 rw [<- hF];have HF:=DX hF;clear h hk hkz hr hI hz IY GV GJ GO hF;go_enter Tryz.func108,Tryz.ntmps108;go_wp2_with fail
 refine HIX.out.mono ?_
 rintro e w1 ⟨⟨hi,rfl⟩ | ⟨hi,rfl⟩,MF⟩
 . have IL:=DX MF
   have NY:=DX (show (ts.take (wU ts ks+1)).filter (rV ks)=ts.take (wU ts ks) by rw [qQ hi,Kt ts hi,if_neg Bool.false_ne_true,List.append_nil];exact vT (EA _));clear MF HIX;generalize wU ts ks=i1 at *
   have GW:((i1:Int) == -1)=false:=by simp
   go_wp2_with fail;go_loopw [5,6] (fun iv jv wr=>∃ i j:Nat,iv=.int .i64 i/\jv=.int .i64 j/\i<j/\j<=ts.length/\∃ L:List Th,L.length=ts.length/\Hid (L.take i=(ts.take j).filter (rV ks)/\L.drop j=ts.drop j)/\Hid (wr.ownsRow base 62 3 (.slice (some ⟨g,0,none⟩) ts.length c) ts.length (L.flatMap dW))/\Hid (w.grownBy wr (some g))) (fun _ jv _=>ts.length - (intOf jv).toNat)
   case atStart=>exact ⟨i1,i1+1,rfl,by go_num,aE,aE,ts,rfl,DX ⟨NY.out.symm,rfl⟩,DX (aH HO.out IL.out),DX (jO IL.out _)⟩
   case round =>
    rename World=>wr
    obtain ⟨i,j,rfl,rfl,WH,hjn,L,hL,HL,HR,HG⟩:=hrel
    by_cases FV:j<ts.length
    . have GU:decide (j<ts.length)=true:=DZ FV
      have QH:=lW L j aE
      have c0:=(HR.out.cellAt (j*3) aE).trans QH.1
      have c1:=(HR.out.cellAt (j*3+1) aE).trans QH.2.1
      have c2:=(HR.out.cellAt (j*3+2) aE).trans QH.2.2
      rw [xM HL.out.2] at c0 c1 c2;have HTF:=DX (qQ (ks:=ks) FV);clear QH
      obtain ⟨x,hx⟩:∃ x,x=ts.getD j aX:=⟨_,rfl⟩
      rw [<- hx] at c0 c1 c2 HTF;have HX:=DX hx;clear hx;have HB:=DX (EY wr (LT x.d x.t x.m) 62);have HA:=DX ((EX wr).alloc ((KT x.d x.t x.m)));have HSW:=DX (Dy x q ks (wr.alloc ((KT x.d x.t x.m))) ((HKS.out.grown HG.out HRT.out).kept HA.out) PC HKZ.out NX.out)
      obtain ⟨B,hB⟩:∃ B,B=iS x.d ks:=⟨_,rfl⟩
      rw [<- hB] at HSW;have RX:=DX (show rV ks x=B from hB.symm);clear hB
      go_upto_region 8 with (fail)
      generalize wr.alloc ((KT x.d x.t x.m))=w2 at *;clear c0 c1 c2;obtain ⟨b0,b1,b2⟩:=dI HB.out;go_wp2_with fail
      refine HSW.out.mono ?_
      rintro e w3 ⟨rfl,IK⟩;have TL:=DX (HA.out.trans IK);have IU:=DX (HB.out.kept IK);clear IK HSW b0 b1 b2 HB HA
      cases B with
      | true =>
       obtain ⟨b0,b1,b2⟩:=dI IU.out
       have hth:w3.there g (i*3) 3:=fun t ht=>bK (aH HR.out TL.out) (i*3+t) aE
       have hoc:=bZ (dW x) (i*3) w3 (L.flatMap dW) (aH HR.out TL.out) (by rw [jS,mA];omega);rw [zY L i x aE] at hoc;have HOC:=DX hoc;clear hoc;go_wp2_with (refine fM rfl 62 (.tmp 33) (.tmp 32) rfl g (i*3) (LT x.d x.t x.m) (by simp [Act.eval]) (by simp [Act.eval]) hth (by rw [HI.out.1];simp [HI.out.2.2.1]) (by simp [Value.oneCell']) ?_);have IW:=DX HOC.out.1;have HG4:=DX (fN (fN HG.out (jO TL.out _)) HOC.out.2);clear HOC hth b0 b1 b2;go_wp2_with fail;go_roundw
       case rel =>
        refine ⟨i+1,j+1,by go_num,by go_num,aE,aE,L.set i x,by rw [List.length_set];exact hL,DX ⟨?_,?_⟩,IW,HG4⟩
        . rw [HTF.out,RX.out,if_pos rfl,<- HL.out.1,List.take_succ_eq_append_getElem (by rw [List.length_set];omega),List.take_set_of_le (EA _)]
          simp
        . rw [List.drop_set_of_lt aE]
          exact Qv
       case measure=>simp [intOf];omega
      | false =>
       go_wp2_with fail;go_roundw
       case rel =>
        refine ⟨i,j+1,rfl,by go_num,aE,aE,L,hL,DX ⟨?_,?_⟩,DX (aH HR.out TL.out),DX (fN HG.out (jO TL.out _))⟩
        . rw [HTF.out,RX.out,if_neg Bool.false_ne_true,List.append_nil]
          exact HL.out.1
        . exact Qv
       case measure=>simp [intOf];omega
    . obtain rfl:j=ts.length:=by omega
      have GU:decide (ts.length<ts.length)=false:=DY aE;have HFT:=DX (show L.take i=F by rw [HL.out.1,List.take_length,HF.out])
      obtain ⟨m,hm⟩:∃ m,m=ts.length - i:=⟨_,rfl⟩
      obtain ⟨cm,hcm2⟩:∃ cm,cm=c - i:=⟨_,rfl⟩
      have WI:ts.length - i=m:=hm.symm;have hci:c - i=cm:=hcm2.symm
      have GW:¬ c=i:=by omega
      have hic:i<=c:=by omega
      have JN:i<=ts.length:=by omega
      obtain ⟨zs,OC,PB⟩:=tU wr 22 62 (.agg (LT ByteArray.empty ByteArray.empty false)) 3 m aE ER Nw rfl (fun u hu=>by simp [Value.cells] at hu;rcases hu with rfl | rfl | rfl <;> rfl) g (i*3) cm (fun t ht=>(bK HR.out _ aE).1) (fun t ht=>(bK HR.out _ aE).2);have hoc:=bZ zs (i*3) wr (L.flatMap dW) HR.out (by rw [jS,OC];omega);have HOC:=DX (EC (nQ hoc.1 (m:=i) JN) hoc.2)
      obtain ⟨W5,hW5⟩:∃ W5,W5=wr.setCells g (i*3) zs:=⟨_,rfl⟩
      rw [<- hW5] at PB HOC
      have HXS:=DX (show (List.take (i*3) (L.flatMap dW)++zs++List.drop (i*3+zs.length) (L.flatMap dW)).take (i*3)=F.flatMap dW by
       rw [List.append_assoc,List.take_append_of_le_length (by rw [List.length_take,jS];omega),List.take_take,Nat.min_self,lA dW 3 mA,HFT.out])
      have NG:=DX (show F.length=i by rw [<- HFT.out,List.length_take];omega);have HIL:=DX WH;clear hm hcm2 hL hW5 hoc OC WH;go_wp2_with fail;go_ret;obtain ⟨ho,hg⟩:=HOC.out;rw [HXS.out] at ho;exact ⟨by rw [NG.out];rfl,by rw [NG.out];exact ho,fN HG.out hg⟩
 . have IL:=DX MF
   have HFT:=DX (show F=ts by rw [HF.out];have:=vT (ks:=ks) (ts:=ts) (i:=ts.length) (by rw [hi];exact EA _);rwa [List.take_length] at this);clear MF HIX hi;go_wp2_with fail;go_ret;rw [HFT.out];exact ⟨rfl,aH HO.out IL.out,jO IL.out _⟩
end Go.Proofs.YtkfmladhicapeaaGreatDoor
