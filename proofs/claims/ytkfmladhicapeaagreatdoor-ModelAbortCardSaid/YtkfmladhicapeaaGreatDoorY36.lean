import Derived.Test.YtkfmladhicapeaaGreatDoorY35
set_option maxRecDepth 100000
set_option maxHeartbeats 8000000
namespace Go.Proofs.YtkfmladhicapeaaGreatDoor
open Go.RowKit Go.Shelf
attribute [local go_sem] Oper.semAt_some
def DoP (wo:World) (s:dN) (o:fV) (e:Ending) (w':World):Prop :=
 (¬ (1<=o.k/\o.k<=13/\dP s=true)->e=.returned (.tuple #[.agg LN,.agg LR,.int .i64 1])) /\
 (1<=o.k/\o.k<=13/\dP s=true->∃ x1 y1 x2 y2 x3 y3,e=.returned (.tuple #[.agg #[.slice x1 (dK s o).1.ts.length y1,.slice x2 (dK s o).1.gs.length y2,.slice x3 (dK s o).1.ss.length y3,.int .i64 (dK s o).1.nx],bW (dK s o).2,.int .i64 0]) /\
  w'.ownsRow wo.heap.size 62 3 (.slice x1 (dK s o).1.ts.length y1) (dK s o).1.ts.length ((dK s o).1.ts.flatMap dW)/\w'.ownsRow wo.heap.size 68 2 (.slice x2 (dK s o).1.gs.length y2) (dK s o).1.gs.length ((dK s o).1.gs.flatMap eN) /\
  w'.ownsRow wo.heap.size 65 2 (.slice x3 (dK s o).1.ss.length y3) (dK s o).1.ss.length ((dK s o).1.ss.flatMap fJ))/\aB wo w'
theorem Ew (aT aG aS:Option Addr) (cT cG cS:Nat) (ts:List Th) (gs:List Tg) (ss:List Se) (nx:Int) (o:fV) (wo:World) (hT:bO wo aT ts.length ts) (hG:cJ wo aG gs.length gs) (hS:cP wo aS ss.length ss) (UE:∀ x∈gs,x.n.size<=1000000) (hE:uR wo) (OB:o.t.size<=140737488351232) (MA:o.name.size<=1000000) :
 Calls Tryz.prog 34 (SO aT ts.length cT aG gs.length cG aS ss.length cS nx o.k o.id o.n o.m o.name o.d o.t) wo (DoP wo ⟨ts,gs,ss,nx⟩ o):=by
 obtain ⟨ok,oi,on,om,GE,od,ot⟩:=o;dsimp only at *
 have k1:=(EX wo).alloc ((KS aT ts.length cT aG gs.length cG aS ss.length cS nx))
 have k2:=(EX (wo.alloc ((KS aT ts.length cT aG gs.length cG aS ss.length cS nx)))).alloc ((KO ok oi on om GE od ot))
 have k3:=(EX ((wo.alloc ((KS aT ts.length cT aG gs.length cG aS ss.length cS nx))).alloc ((KO ok oi on om GE od ot)))).alloc (KN)
 have k4:=(EX (((wo.alloc ((KS aT ts.length cT aG gs.length cG aS ss.length cS nx))).alloc ((KO ok oi on om GE od ot))).alloc (KN))).alloc (KR)
 have HB:=DX ((((EY wo (LS aT ts.length cT aG gs.length cG aS ss.length cS nx) 26).kept k2).kept k3).kept k4);have HO:=DX (((FB wo (LO ok oi on om GE od ot) 35 ((KS aT ts.length cT aG gs.length cG aS ss.length cS nx))).kept k3).kept k4);have HX:=DX ((aA.new2 wo LN 26 ((KS aT ts.length cT aG gs.length cG aS ss.length cS nx)) ((KO ok oi on om GE od ot))).kept k4);have HR:=DX (show aA ((((wo.alloc ((KS aT ts.length cT aG gs.length cG aS ss.length cS nx))).alloc ((KO ok oi on om GE od ot))).alloc (KN)).alloc (KR)) (wo.heap.size+1+1+1) LR 47 by have:=EY (((wo.alloc ((KS aT ts.length cT aG gs.length cG aS ss.length cS nx))).alloc ((KO ok oi on om GE od ot))).alloc (KN)) LR 47;simpa [World.size_alloc] using this);have HK:=DX (((k1.trans k2).trans k3).trans k4);clear k1 k2 k3 k4;have XK:=DX (fun w' (k:aB wo w')=>iQ aT aG aS cT cG cS ts gs ss nx w' (hT.kept k) (hG.kept k) (hS.kept k) UE (hE.kept k));have JV:=DX hT;have NN:=DX hG;have MN:=DX hS;have HE:=DX hE;clear hT hG hS UE hE
 by_cases h1:ok<1
 . have GU:decide (ok<1)=true:=DZ h1
   clear XK;go_enter Tryz.func34,Tryz.ntmps34
   go_upto_region 1 with (fail)
   generalize (((wo.alloc ((KS aT ts.length cT aG gs.length cG aS ss.length cS nx))).alloc ((KO ok oi on om GE od ot))).alloc (KN)).alloc (KR)=w1 at *
   obtain ⟨r0,r1,r2,r3⟩:=aI HB.out;have q0:w1.cell? ⟨wo.heap.size+1,0,none⟩=some (.int .i64 ok):=HO.out.cell 0;go_wp2_with (first | (refine aD rfl 26 (.tmp 4) (.tmp 20) rfl (wo.heap.size+1+1) LN LN 26 rfl rfl HX.out AY rfl (by simp [Value.oneCell']) ?_) | (refine aD rfl 47 (.tmp 5) (.tmp 21) rfl (wo.heap.size+1+1+1) LR LR 47 rfl rfl (HR.out.other _ aE) AX rfl (by simp [Value.oneCell']) ?_))
   refine EI (v:=.tuple #[.agg LN,.agg LR,.int .i64 1]) ?_ rfl ⟨fun _=>rfl,(fun h=>absurd h (fun h=>by have hh:1<=ok:=h.1;omega)),FC (FC HK.out aE _) aE _⟩
   exact Xv
 . have GU:decide (ok<1)=false:=DY h1
   by_cases h2:13<ok
   . have JH:decide (13<ok)=true:=DZ h2
     clear XK;go_enter Tryz.func34,Tryz.ntmps34
     go_upto_region 1 with (fail)
     generalize (((wo.alloc ((KS aT ts.length cT aG gs.length cG aS ss.length cS nx))).alloc ((KO ok oi on om GE od ot))).alloc (KN)).alloc (KR)=w1 at *
     obtain ⟨r0,r1,r2,r3⟩:=aI HB.out;have q0:w1.cell? ⟨wo.heap.size+1,0,none⟩=some (.int .i64 ok):=HO.out.cell 0;go_wp2_with (first | (refine aD rfl 26 (.tmp 4) (.tmp 20) rfl (wo.heap.size+1+1) LN LN 26 rfl rfl HX.out AY rfl (by simp [Value.oneCell']) ?_) | (refine aD rfl 47 (.tmp 5) (.tmp 21) rfl (wo.heap.size+1+1+1) LR LR 47 rfl rfl (HR.out.other _ aE) AX rfl (by simp [Value.oneCell']) ?_))
     refine EI (v:=.tuple #[.agg LN,.agg LR,.int .i64 1]) ?_ rfl ⟨fun _=>rfl,(fun h=>absurd h (fun h=>by have hh:ok<=13:=h.2.1;omega)),FC (FC HK.out aE _) aE _⟩
     exact Xv
   . have JH:decide (13<ok)=false:=DY h2
     cases GL:dP ⟨ts,gs,ss,nx⟩ with
     | false =>
      rw [GL,show (if false=true then (0:Int) else 1)=1 from rfl] at XK;have IN:=DX GL;clear GL;go_enter Tryz.func34,Tryz.ntmps34
      go_upto_region 1 with (fail)
      generalize (((wo.alloc ((KS aT ts.length cT aG gs.length cG aS ss.length cS nx))).alloc ((KO ok oi on om GE od ot))).alloc (KN)).alloc (KR)=w1 at *
      obtain ⟨r0,r1,r2,r3⟩:=aI HB.out;have q0:w1.cell? ⟨wo.heap.size+1,0,none⟩=some (.int .i64 ok):=HO.out.cell 0;go_wp2_with fail
      refine (XK.out w1 HK.out).mono ?_
      rintro e w2 ⟨rfl,FX⟩;have FW:=DX (HK.out.trans FX);have GK:=DX (HR.out.kept FX);have GP:=DX (HB.out.kept FX);have HX2:=DX (HX.out.kept FX);have UR:=DX (HO.out.kept FX);clear FX XK r0 r1 r2 r3 q0 HB HR HX HO;go_wp2_with (first | (refine aD rfl 26 (.tmp 4) (.tmp 20) rfl (wo.heap.size+1+1) LN LN 26 rfl rfl HX2.out AY rfl (by simp [Value.oneCell']) ?_) | (refine aD rfl 47 (.tmp 5) (.tmp 21) rfl (wo.heap.size+1+1+1) LR LR 47 rfl rfl (GK.out.other _ aE) AX rfl (by simp [Value.oneCell']) ?_))
      refine EI (v:=.tuple #[.agg LN,.agg LR,.int .i64 1]) ?_ rfl ⟨fun _=>rfl,(fun h=>absurd h (fun h=>by rw [IN.out] at h;cases h.2.2)),FC (FC FW.out aE _) aE _⟩
      exact fU rfl _ _ (wo.heap.size+1+1) (wo.heap.size+1+1+1) 26 47 LN LR _ _ rfl ((HX2.out.setRow _).other _ aE) rfl ((GK.out.other _ aE).setRow _) EW rfl AY EV rfl AX _ rfl
     | true =>
      have hbf:=bR GL;obtain ⟨lT,_,_,lG,_,_,lS,_,_,_,_⟩:=hbf;dsimp only at lT lG lS;rw [GL,show (if true=true then (0:Int) else 1)=0 from rfl] at XK;have MK:=DX (fun w' (k:aB wo w')=>tM aT aG aS cT cG cS ts gs ss nx w' (JV.out.kept k) (NN.out.kept k) (MN.out.kept k) ⟨aE,aE,aE⟩);have IN:=DX GL;have GI:=DX (fun w' (k:aB wo w') (q:eX wo.heap.size w' (wo.heap.size+1+1) ⟨ts,gs,ss,nx⟩)=>Vc wo.heap.size (wo.heap.size+1+1) aE ⟨ts,gs,ss,nx⟩ ⟨ok,oi,on,om,GE,od,ot⟩ w' q GL (HE.out.kept k) OB MA ⟨show 1<=ok by omega,show ok<=13 by omega⟩)
      obtain ⟨XX,GR⟩:∃ XX,XX=dK ⟨ts,gs,ss,nx⟩ ⟨ok,oi,on,om,GE,od,ot⟩:=⟨_,rfl⟩
      rw [<- GR] at GI;have HPP:=DX (show ∀ e w',DoP wo ⟨ts,gs,ss,nx⟩ ⟨ok,oi,on,om,GE,od,ot⟩ e w'=_ from fun e w'=>rfl);have HXX:=DX GR;clear GL GR HPP;go_enter Tryz.func34,Tryz.ntmps34
      go_upto_region 1 with (fail)
      generalize (((wo.alloc ((KS aT ts.length cT aG gs.length cG aS ss.length cS nx))).alloc ((KO ok oi on om GE od ot))).alloc (KN)).alloc (KR)=w1 at *
      obtain ⟨r0,r1,r2,r3⟩:=aI HB.out;have q0:w1.cell? ⟨wo.heap.size+1,0,none⟩=some (.int .i64 ok):=HO.out.cell 0;go_wp2_with fail
      refine (XK.out w1 HK.out).mono ?_
      rintro e w2 ⟨rfl,FX⟩;have FW:=DX (HK.out.trans FX);have GK:=DX (HR.out.kept FX);have GP:=DX (HB.out.kept FX);have HX2:=DX (HX.out.kept FX);have UR:=DX (HO.out.kept FX);clear FX XK r0 r1 r2 r3 q0 HB HR HX HO;obtain ⟨r0,r1,r2,r3⟩:=aI GP.out;go_wp2_with fail
      refine (MK.out w2 FW.out).mono ?_
      rintro e w3 ⟨x1,y1,x2,y2,x3,y3,rfl,o1,o2,o3,IK⟩;have GC:=DX (FW.out.trans IK);have JG:=DX (GK.out.kept IK);have TZ:=DX (HX2.out.kept IK);have WV:=DX (UR.out.kept IK);have HP1:=DX (bA o1 (EZ FW.out));have HP2:=DX (bA o2 (EZ FW.out));have TW:=DX (bA o3 (EZ FW.out));clear o1 o2 o3 IK MK r0 r1 r2 r3 GP FW GK HX2 UR
      go_upto_region 4 with (refine aD rfl 26 (.tmp 4) (.tmp 23) rfl (wo.heap.size+1+1) (LS x1 ts.length y1 x2 gs.length y2 x3 ss.length y3 nx) LN 26 rfl rfl TZ.out AY rfl (by simp [Value.oneCell']) ?_)
      have LZ:=DX (show eX wo.heap.size (w3.setRow (wo.heap.size+1+1) (LS x1 ts.length y1 x2 gs.length y2 x3 ss.length y3 nx)) (wo.heap.size+1+1) ⟨ts,gs,ss,nx⟩ from ⟨⟨x1,y1,x2,y2,x3,y3,TZ.out.setRow _,cC HP1.out TZ.out aF _,cC HP2.out TZ.out aF _,cC TW.out TZ.out aF _⟩⟩);have IW:=DX (JG.out.other (g':=wo.heap.size+1+1) (LS x1 ts.length y1 x2 gs.length y2 x3 ss.length y3 nx) aE);have PG:=DX (WV.out.other (g':=wo.heap.size+1+1) (LS x1 ts.length y1 x2 gs.length y2 x3 ss.length y3 nx) aE);have GQ:=DX (FC GC.out (g:=wo.heap.size+1+1) aE (LS x1 ts.length y1 x2 gs.length y2 x3 ss.length y3 nx));generalize w3.setRow (wo.heap.size+1+1) (LS x1 ts.length y1 x2 gs.length y2 x3 ss.length y3 nx)=w4 at *;obtain ⟨b0,b1,b2,b3,b4,b5,b6⟩:=cX PG.out;go_wp2_with fail
      refine (GI.out w4 GQ.out LZ.out).mono ?_
      rintro e w5 ⟨rfl,UJ,QJ⟩;have SC:=DX UJ;have OJ:=DX QJ;have KE:=DX (QJ.blk _ _ _ IW.out aE aF aF aF);have IQ:=DX (show aB wo w5 from Below.trans GQ.out QJ.low);clear UJ QJ GI b0 b1 b2 b3 b4 b5 b6
      go_upto_region 5 with (refine aD rfl 47 (.tmp 5) (.tmp 25) rfl (wo.heap.size+1+1+1) (bB XX.2) LR 47 rfl rfl KE.out AX rfl (aL _) ?_)
      have HQ6:=DX (SC.out.setRow KE.out aF aF aF aF (bB XX.2));have NR:=DX (KE.out.setRow (bB XX.2));have NO:=DX (FC IQ.out (g:=wo.heap.size+1+1+1) aE (bB XX.2));generalize w5.setRow (wo.heap.size+1+1+1) (bB XX.2)=w6 at *;obtain ⟨z1,t1,z2,t2,z3,t3,RD,oT6,oG6,oS6⟩:=HQ6.out.rows;obtain ⟨⟨us,hs,vs,mx⟩,⟨rn,rt,re⟩⟩:=XX;dsimp only at RD oT6 oG6 oS6;have XP:=DX (EC oT6 (EC oG6 oS6));have ZF:=DX RD;have hr6:aA w6 (wo.heap.size+1+1+1) (LP rn rt re) 47:=NR.out;have HY6:=DX hr6;obtain ⟨r0,r1,r2,r3⟩:=aI RD;obtain ⟨d0,d1,d2⟩:=dI hr6;have f0:=RD.free 0;have f1:=RD.free 1;have f2:=RD.free 2;have f3:=RD.free 3;have g0:=hr6.free 0;have g1:=hr6.free 1;have g2:=hr6.free 2;have s0:=eP (i:=0) (v:=.slice z1 us.length t1) RD rfl;have s1:=eP (i:=1) (v:=.slice z2 hs.length t2) RD rfl;have s2:=eP (i:=2) (v:=.slice z3 vs.length t3) RD rfl;have s3:=eP (i:=3) (v:=.int .i64 mx) RD rfl;have u0:=eP (i:=0) (v:=.int .i64 rn) hr6 rfl;have u1:=eP (i:=1) (v:=.string rt) hr6 rfl;have u2:=eP (i:=2) (v:=.int .i64 re) hr6 rfl;clear RD oT6 oG6 oS6 hr6;go_wp2_with fail;go_region;clear r0 r1 r2 r3 d0 d1 d2 f0 f1 f2 f3 g0 g1 g2 s0 s1 s2 s3 u0 u1 u2;go_wp2_with fail
      refine EI (v:=.tuple #[.agg (LS z1 us.length t1 z2 hs.length t2 z3 vs.length t3 mx),.agg (LP rn rt re),.int .i64 0]) ?_ rfl ?_
      . exact fU rfl _ _ (wo.heap.size+1+1) (wo.heap.size+1+1+1) 26 47 (LS z1 us.length t1 z2 hs.length t2 z3 vs.length t3 mx) (LP rn rt re) _ _ rfl (ZF.out.kept ((EX _).drew)) rfl (HY6.out.kept ((EX _).drew)) EW rfl AY EV rfl AX _ rfl
      . refine ⟨fun h=>absurd ⟨show 1<=ok by omega,show ok<=13 by omega,IN.out⟩ h,fun _=>?_,NO.out.drew⟩
        rw [<- HXX.out];exact ⟨z1,t1,z2,t2,z3,t3,rfl,XP.out.1.drew,XP.out.2.1.drew,XP.out.2.2.drew⟩
theorem Tv {l:List Se} {d:Int} {k:Nat} (hk:k<l.length) (h1:∀ j,j<k->(l.getD j bQ).i≠d) (h2:(l.getD k bQ).i=d):fR l d=k:=by
 rcases Nat.lt_trichotomy (fR l d) k with h | h | h
 . exact absurd (yP l aE) (h1 _ h)
 . exact h
 . exact absurd h2 (Cj l k h)
theorem Oz {l:List Se} {d:Int} (h1:∀ j,j<l.length->(l.getD j bQ).i≠d):¬ fR l d<l.length:=fun h=>h1 _ h (yP l h)
def uX (l:List Se) (d:Int):Int:=if fR l d<l.length then ((fR l d:Nat):Int) else -1
theorem mJ (a:Option Addr) (c:Nat) (l:List Se) (d:Int) (w:World) (h:cP w a l.length l) (hl:l.length<=1000000) :
 Calls Tryz.prog 111 #[.slice a l.length c,.int .i64 d] w fun e w'=>e=.returned (.int .i64 (uX l d))/\w=w':=by
 have HS:=DX h;clear h
 obtain ⟨R,hR⟩:∃ R,R=uX l d:=⟨_,rfl⟩
 rw [<- hR];have HR:=DX hR;clear hR;go_enter Tryz.func111,Tryz.ntmps111;go_wp2_with fail;go_loopw [5] (fun kv wr=>∃ k:Nat,k<=l.length/\kv=.int .i64 k/\Hid (∀ j,j<k->(l.getD j bQ).i≠d)/\w=wr) (fun kv _=>l.length - (intOf kv).toNat)
 case atStart=>exact Rc
 case round =>
  obtain ⟨k,hk,rfl,HN,rfl⟩:=hrel
  by_cases IE:k<l.length
  . have GU:decide (k<l.length)=true:=DZ IE
    obtain ⟨bt,ot,rfl,JC⟩:=HS.out.at aE;obtain ⟨c0,c1⟩:=JC k IE w (EX w)
    obtain ⟨x,hx⟩:∃ x,x=(l.getD k bQ).i:=⟨_,rfl⟩
    rw [<- hx] at c0;have HX:=DX hx;clear JC c1 hx
    by_cases he:x=d
    . have hq:(x == d)=true:=by rw [he];simp
      have HE:=DX (show R=(k:Int) by rw [HR.out];unfold uX;rw [Tv IE HN.out (by rw [<- HX.out];exact he),if_pos IE]);clear he;exact Ef
    . have hq:(x == d)=false:=by simpa using he
      have TU:=DX (show ∀ j,j<k+1->(l.getD j bQ).i≠d from fun j hj=>by
       by_cases e:j=k
       . rw [e,<- HX.out];exact he
       . exact HN.out j aE)
      exact Qn
  . obtain rfl:k=l.length:=by omega
    have GU:decide (l.length<l.length)=false:=DY aE;have HE:=DX (show R = -1 by rw [HR.out];unfold uX;rw [if_neg (Oz HN.out)]);exact Ef
theorem Vg {l:List Tg} {d:ByteArray} {k:Nat} (hk:k<l.length) (h1:∀ j,j<k->(l.getD j bL).n≠d) (h2:(l.getD k bL).n=d):gK l d=k:=by
 rcases Nat.lt_trichotomy (gK l d) k with h | h | h
 . exact absurd (xJ l aE) (h1 _ h)
 . exact h
 . exact absurd h2 (wW l k h)
theorem Ng {l:List Tg} {d:ByteArray} (h1:∀ j,j<l.length->(l.getD j bL).n≠d):¬ gK l d<l.length:=fun h=>h1 _ h (xJ l h)
def uW (l:List Tg) (d:ByteArray):Int:=if gK l d<l.length then ((gK l d:Nat):Int) else -1
theorem yJ (a:Option Addr) (c:Nat) (l:List Tg) (d:ByteArray) (w:World) (h:cJ w a l.length l) (hl:l.length<=1000000) :
 Calls Tryz.prog 83 #[.slice a l.length c,.string d] w fun e w'=>e=.returned (.int .i64 (uW l d))/\w=w':=by
 have HS:=DX h;clear h
 obtain ⟨R,hR⟩:∃ R,R=uW l d:=⟨_,rfl⟩
 rw [<- hR];have HR:=DX hR;clear hR;go_enter Tryz.func83,Tryz.ntmps83;go_wp2_with fail;go_loopw [5] (fun kv wr=>∃ k:Nat,k<=l.length/\kv=.int .i64 k/\Hid (∀ j,j<k->(l.getD j bL).n≠d)/\w=wr) (fun kv _=>l.length - (intOf kv).toNat)
 case atStart=>exact Rc
 case round =>
  obtain ⟨k,hk,rfl,HN,rfl⟩:=hrel
  by_cases IE:k<l.length
  . have GU:decide (k<l.length)=true:=DZ IE
    obtain ⟨bt,ot,rfl,JC⟩:=HS.out.at aE;obtain ⟨c0,c1⟩:=JC k IE w (EX w)
    obtain ⟨x,hx⟩:∃ x,x=(l.getD k bL).n:=⟨_,rfl⟩
    rw [<- hx] at c0;have HX:=DX hx;clear JC c1 hx
    by_cases he:x=d
    . have hq:(x.toList == d.toList)=true:=by rw [he];simp
      have HE:=DX (show R=(k:Int) by rw [HR.out];unfold uW;rw [Vg IE HN.out (by rw [<- HX.out];exact he),if_pos IE]);clear he;exact Ef
    . have hq:(x.toList == d.toList)=false:=(dM he).2.1
      have TU:=DX (show ∀ j,j<k+1->(l.getD j bL).n≠d from fun j hj=>by
       by_cases e:j=k
       . rw [e,<- HX.out];exact he
       . exact HN.out j aE)
      exact Qn
  . obtain rfl:k=l.length:=by omega
    have GU:decide (l.length<l.length)=false:=DY aE;have HE:=DX (show R = -1 by rw [HR.out];unfold uW;rw [if_neg (Ng HN.out)]);exact Ef
theorem iP (aT aG aS bT bG bS:Option Addr) (cT cG cS dT dG dS:Nat) (ts:List Th) (gs:List Tg) (ss:List Se) (nx:Int) (w:World) (hT:bO w aT ts.length ts) (hG:cJ w aG gs.length gs) (hS:cP w aS ss.length ss) (kT:bO w bT ts.length ts) (kG:cJ w bG gs.length gs) (kS:cP w bS ss.length ss) :
 Calls Tryz.prog 30 #[.agg (LS aT ts.length cT aG gs.length cG aS ss.length cS nx),.agg (LS bT ts.length dT bG gs.length dG bS ss.length dS nx)] w fun e w'=>e=.returned (.bool true)/\aB w w':=by
 have HB:=DX ((EY w (LS aT ts.length cT aG gs.length cG aS ss.length cS nx) 26).kept ((EX _).alloc ((KS bT ts.length dT bG gs.length dG bS ss.length dS nx))));have HC:=DX (FB w (LS bT ts.length dT bG gs.length dG bS ss.length dS nx) 26 ((KS aT ts.length cT aG gs.length cG aS ss.length cS nx)));have HK:=DX (((EX w).alloc ((KS aT ts.length cT aG gs.length cG aS ss.length cS nx))).alloc ((KS bT ts.length dT bG gs.length dG bS ss.length dS nx)));have H1:=DX (fun w' (k:aB w w')=>Gk aT bT ts.length cT dT ts w' (hT.kept k) (kT.kept k));have H2:=DX (fun w' (k:aB w w')=>Xr aG bG gs.length cG dG gs w' (hG.kept k) (kG.kept k));have H3:=DX (fun w' (k:aB w w')=>Wn aS bS ss.length cS dS ss w' (hS.kept k) (kS.kept k))
 have hn:(nx == nx)=true:=by simp
 clear hT hG hS kT kG kS;go_enter Tryz.func30,Tryz.ntmps30
 go_upto_region 1 with (fail)
 generalize (w.alloc ((KS aT ts.length cT aG gs.length cG aS ss.length cS nx))).alloc ((KS bT ts.length dT bG gs.length dG bS ss.length dS nx))=w1 at *
 obtain ⟨r0,r1,r2,r3⟩:=aI HB.out;obtain ⟨q0,q1,q2,q3⟩:=aI HC.out;go_wp2_with fail
 refine (H1.out w1 HK.out).mono ?_
 rintro e w2 ⟨rfl,FX⟩;have FW:=DX (HK.out.trans FX);clear r0 r1 r2 r3 q0 q1 q2 q3;obtain ⟨r0,r1,r2,r3⟩:=aI (HB.out.kept FX);obtain ⟨q0,q1,q2,q3⟩:=aI (HC.out.kept FX);have GP:=DX (HB.out.kept FX);have YY:=DX (HC.out.kept FX);clear FX H1 HB HC;go_wp2_with fail
 refine (H2.out w2 FW.out).mono ?_
 rintro e w3 ⟨rfl,IK⟩;have GC:=DX (FW.out.trans IK);clear r0 r1 r2 r3 q0 q1 q2 q3;obtain ⟨r0,r1,r2,r3⟩:=aI (GP.out.kept IK);obtain ⟨q0,q1,q2,q3⟩:=aI (YY.out.kept IK);have IU:=DX (GP.out.kept IK);have TP:=DX (YY.out.kept IK);clear IK H2 GP YY;go_wp2_with fail
 refine (H3.out w3 GC.out).mono ?_
 rintro e w4 ⟨rfl,IV⟩;have GQ:=DX (GC.out.trans IV);clear r0 r1 r2 r3 q0 q1 q2 q3;obtain ⟨r0,r1,r2,r3⟩:=aI (IU.out.kept IV);obtain ⟨q0,q1,q2,q3⟩:=aI (TP.out.kept IV);clear IV H3 IU TP;go_wp2_with fail;go_ret;exact ⟨rfl,GQ.out⟩
theorem Cs (n a b:Int) (w:World):Calls Tryz.prog 55 #[.int .i64 n,.int .i64 a,.int .i64 b] w fun e w'=>e=.returned (.bool (decide (a<=n)&&decide (n<=b)))/\w=w':=by
 go_enter Tryz.func55,Tryz.ntmps55
 by_cases h:a<=n
 . go_wp2
   go_ret;exact ⟨by simp [h],rfl⟩
 . have hd:decide (a<=n)=false:=DY h
   go_wp2;go_ret;exact ⟨rfl,rfl⟩
theorem Mg (o:fV) (w:World):Calls Tryz.prog 33 #[.agg (LO o.k o.id o.n o.m o.name o.d o.t)] w fun e w'=>e=.returned (.bool (decide (1<=o.k/\o.k<=13)))/\aB w w':=by
 obtain ⟨ok,oi,on,om,GE,od,ot⟩:=o;dsimp only
 obtain ⟨R,hR⟩:∃ R,R=decide (1<=ok/\ok<=13):=⟨_,rfl⟩
 rw [<- hR];have HR:=DX hR;clear hR;have HB:=DX (EY w (LO ok oi on om GE od ot) 35);have HK:=DX ((EX w).alloc ((KO ok oi on om GE od ot)));go_enter Tryz.func33,Tryz.ntmps33
 go_upto_region 1 with (fail)
 generalize w.alloc ((KO ok oi on om GE od ot))=w1 at *;have b0:w1.cell? ⟨w.heap.size,0,none⟩=some (.int .i64 ok):=HB.out.cell 0;go_wp2_with fail
 refine (Cs ok 1 13 _).mono ?_
 rintro e w' ⟨rfl,rfl⟩;have HE:=DX (show (decide (1<=ok)&&decide (ok<=13))=R by rw [HR.out];simp);rw [HE.out];go_wp2_with fail;go_ret;exact ⟨rfl,HK.out⟩
theorem gF (aT aG aS:Option Addr) (cT cG cS:Nat) (ts:List Th) (gs:List Tg) (ss:List Se) (nx:Int) (wo:World) (hT:bO wo aT ts.length ts) (hG:cJ wo aG gs.length gs) (hS:cP wo aS ss.length ss) :
 Calls Tryz.prog 23 #[.agg (LS aT ts.length cT aG gs.length cG aS ss.length cS nx)] wo fun e w'=>∃ x0 y0 x1 y1 x2 y2,e=.returned (.agg (LS x0 ts.length y0 x1 gs.length y1 x2 ss.length y2 nx))/\w'.ownsRow wo.heap.size 62 3 (.slice x0 ts.length y0) ts.length (ts.flatMap dW)/\w'.ownsRow wo.heap.size 68 2 (.slice x1 gs.length y1) gs.length (gs.flatMap eN)/\w'.ownsRow wo.heap.size 65 2 (.slice x2 ss.length y2) ss.length (ss.flatMap fJ)/\aB wo w':=by
 have k1:=(EX wo).alloc ((KS aT ts.length cT aG gs.length cG aS ss.length cS nx))
 have k2:=(EX (wo.alloc ((KS aT ts.length cT aG gs.length cG aS ss.length cS nx)))).alloc (KN)
 have k3:=(EX ((wo.alloc ((KS aT ts.length cT aG gs.length cG aS ss.length cS nx))).alloc (KN))).alloc ((KS aT ts.length cT aG gs.length cG aS ss.length cS nx))
 have MT:=DX (((EY wo (LS aT ts.length cT aG gs.length cG aS ss.length cS nx) 26).kept k2).kept k3);have HR0:=DX ((FB wo LN 26 ((KS aT ts.length cT aG gs.length cG aS ss.length cS nx))).kept k3);have HX0:=DX (aA.new2 wo (LS aT ts.length cT aG gs.length cG aS ss.length cS nx) 26 ((KS aT ts.length cT aG gs.length cG aS ss.length cS nx)) (KN));have QT:=DX ((k1.trans k2).trans k3);have HC0:=DX (fun w' (k:aB wo w')=>mQ aT ts.length cT ts w' (hT.kept k));have HC1:=DX (fun w' (k:aB wo w')=>sD aG gs.length cG gs w' (hG.kept k));have YY:=DX (fun w' (k:aB wo w')=>rQ aS ss.length cS ss w' (hS.kept k));clear k1 k2 k3 hT hG hS;go_enter Tryz.func23,Tryz.ntmps23
 go_upto_region 1 with (fail)
 obtain ⟨q0,q1,q2,q3⟩:=aI ((EY wo (LS aT ts.length cT aG gs.length cG aS ss.length cS nx) 26).kept ((EX _).alloc (KN)))
 go_upto_region 2 with (fail)
 generalize ((wo.alloc ((KS aT ts.length cT aG gs.length cG aS ss.length cS nx))).alloc (KN)).alloc ((KS aT ts.length cT aG gs.length cG aS ss.length cS nx))=v0 at *
 clear q0 q1 q2 q3;obtain ⟨d0,d1,d2,d3⟩:=aI MT.out;go_wp2_with fail
 refine (HC0.out v0 QT.out).mono ?_
 rintro e w0 ⟨x0,y0,rfl,FU,hk⟩;have hx:=HX0.out.kept hk;obtain ⟨e0,e1,e2,e3⟩:=aI hx;have f0:=hx.free 0;have IC:=eK w0 (wo.heap.size+1+1) 0 (.slice x0 ts.length y0);have HX1:=DX (show aA (w0.setCell ⟨wo.heap.size+1+1,0,none⟩ (.slice x0 ts.length y0)) (wo.heap.size+1+1) (LS x0 ts.length y0 aG gs.length cG aS ss.length cS nx) 26 by have:=hx.set (i:=0) (.slice x0 ts.length y0);simpa using this);have NL:=DX (aM (MT.out.kept hk) IC (by simp;omega));have HR1:=DX (aM (HR0.out.kept hk) IC (by simp));have HO0_1:=DX (bI (bA FU (EZ QT.out)) hx aF IC);have IL:=DX (aB.setCell (QT.out.trans hk) (p:=⟨wo.heap.size+1+1,0,none⟩) (by show wo.heap.size<=wo.heap.size+1+1;omega) (.slice x0 ts.length y0));clear IC hx FU hk d0 d1 d2 d3
 go_upto_region 3 with (fail)
 generalize w0.setCell ⟨wo.heap.size+1+1,0,none⟩ (.slice x0 ts.length y0)=v1 at *;clear e0 e1 e2 e3 f0;obtain ⟨d0,d1,d2,d3⟩:=aI NL.out;go_wp2_with fail
 refine (HC1.out v1 IL.out).mono ?_
 rintro e w1 ⟨x1,y1,rfl,FU,hk⟩;have hx:=HX1.out.kept hk;obtain ⟨e0,e1,e2,e3⟩:=aI hx;have f0:=hx.free 1;have IC:=eK w1 (wo.heap.size+1+1) 1 (.slice x1 gs.length y1);have HX2:=DX (show aA (w1.setCell ⟨wo.heap.size+1+1,1,none⟩ (.slice x1 gs.length y1)) (wo.heap.size+1+1) (LS x0 ts.length y0 x1 gs.length y1 aS ss.length cS nx) 26 by have:=hx.set (i:=1) (.slice x1 gs.length y1);simpa using this);have GP:=DX (aM (NL.out.kept hk) IC (by simp;omega));have GK:=DX (aM (HR1.out.kept hk) IC (by simp));have HO1_2:=DX (bI (bA FU (EZ IL.out)) hx aF IC);have HO0_2:=DX (bI (aH HO0_1.out hk) hx aF IC);have FW:=DX (aB.setCell (IL.out.trans hk) (p:=⟨wo.heap.size+1+1,1,none⟩) (by show wo.heap.size<=wo.heap.size+1+1;omega) (.slice x1 gs.length y1));clear IC hx FU hk d0 d1 d2 d3
 go_upto_region 4 with (fail)
 generalize w1.setCell ⟨wo.heap.size+1+1,1,none⟩ (.slice x1 gs.length y1)=v2 at *;clear e0 e1 e2 e3 f0;obtain ⟨d0,d1,d2,d3⟩:=aI GP.out;go_wp2_with fail
 refine (YY.out v2 FW.out).mono ?_
 rintro e w2 ⟨x2,y2,rfl,FU,hk⟩;have hx:=HX2.out.kept hk;obtain ⟨e0,e1,e2,e3⟩:=aI hx;have f0:=hx.free 2;have IC:=eK w2 (wo.heap.size+1+1) 2 (.slice x2 ss.length y2);have TZ:=DX (show aA (w2.setCell ⟨wo.heap.size+1+1,2,none⟩ (.slice x2 ss.length y2)) (wo.heap.size+1+1) (LS x0 ts.length y0 x1 gs.length y1 x2 ss.length y2 nx) 26 by have:=hx.set (i:=2) (.slice x2 ss.length y2);simpa using this);have IU:=DX (aM (GP.out.kept hk) IC (by simp;omega));have JG:=DX (aM (GK.out.kept hk) IC (by simp));have HO2_3:=DX (bI (bA FU (EZ FW.out)) hx aF IC);have HO0_3:=DX (bI (aH HO0_2.out hk) hx aF IC);have HO1_3:=DX (bI (aH HO1_2.out hk) hx aF IC);have GC:=DX (aB.setCell (FW.out.trans hk) (p:=⟨wo.heap.size+1+1,2,none⟩) (by show wo.heap.size<=wo.heap.size+1+1;omega) (.slice x2 ss.length y2));clear IC hx FU hk d0 d1 d2 d3
 go_upto_region 5 with (fail)
 generalize w2.setCell ⟨wo.heap.size+1+1,2,none⟩ (.slice x2 ss.length y2)=v3 at *;clear e0 e1 e2 e3 f0;obtain ⟨d0,d1,d2,d3⟩:=aI TZ.out;go_wp2_with (refine aD rfl 26 (.tmp 2) (.tmp 17) rfl (wo.heap.size+1) (LS x0 ts.length y0 x1 gs.length y1 x2 ss.length y2 nx) LN 26 rfl rfl JG.out AY rfl (by simp [Value.oneCell']) ?_)
 refine EI (v:=.agg (LS x0 ts.length y0 x1 gs.length y1 x2 ss.length y2 nx)) ?_ rfl ⟨x0,y0,x1,y1,x2,y2,rfl,cC HO0_3.out JG.out aF _,cC HO1_3.out JG.out aF _,cC HO2_3.out JG.out aF _,FC GC.out (ED _) _⟩
 exact EH rfl _ _ (wo.heap.size+1) 26 (LS x0 ts.length y0 x1 gs.length y1 x2 ss.length y2 nx) (0,0) _ rfl (JG.out.setRow _) EW rfl AY
theorem zD (aT aG aS:Option Addr) (cT cG cS:Nat) (ts:List Th) (gs:List Tg) (ss:List Se) (nx:Int) (wo:World) (hT:bO wo aT ts.length ts) (hG:cJ wo aG gs.length gs) (hS:cP wo aS ss.length ss) :
 Calls Tryz.prog 28 #[.agg (LS aT ts.length cT aG gs.length cG aS ss.length cS nx)] wo fun e w'=>∃ x1 y1 x2 y2,e=.returned (.agg (LS x1 ts.length y1 x2 gs.length y2 none 0 0 0))/\w'.ownsRow wo.heap.size 62 3 (.slice x1 ts.length y1) ts.length (ts.flatMap dW)/\w'.ownsRow wo.heap.size 68 2 (.slice x2 gs.length y2) gs.length (gs.flatMap eN)/\aB wo w':=by
 have HB:=DX ((EY wo (LS aT ts.length cT aG gs.length cG aS ss.length cS nx) 26).kept ((EX _).alloc (KN)));have HR:=DX (FB wo LN 26 ((KS aT ts.length cT aG gs.length cG aS ss.length cS nx)));have HK:=DX (((EX wo).alloc ((KS aT ts.length cT aG gs.length cG aS ss.length cS nx))).alloc (KN));have HC:=DX (fun w' (k:aB wo w')=>gF aT aG aS cT cG cS ts gs ss nx w' (hT.kept k) (hG.kept k) (hS.kept k));clear hT hG hS;go_enter Tryz.func28,Tryz.ntmps28
 go_upto_region 1 with (fail)
 generalize (wo.alloc ((KS aT ts.length cT aG gs.length cG aS ss.length cS nx))).alloc (KN)=w1 at *
 obtain ⟨r0,r1,r2,r3⟩:=aI HB.out;go_wp2_with fail
 refine (HC.out w1 HK.out).mono ?_
 rintro e w2 ⟨x1,y1,x2,y2,x3,y3,rfl,o1,o2,_,FX⟩;have FW:=DX (HK.out.trans FX);have GK:=DX (HR.out.kept FX);have GP:=DX (HB.out.kept FX);have HO1:=DX (bA o1 (EZ HK.out));have UR:=DX (bA o2 (EZ HK.out));clear o1 o2 FX HC r0 r1 r2 r3 HB HR HK
 go_upto_region 2 with (refine aD rfl 26 (.tmp 1) (.tmp 4) rfl wo.heap.size (LS x1 ts.length y1 x2 gs.length y2 x3 ss.length y3 nx) (LS aT ts.length cT aG gs.length cG aS ss.length cS nx) 26 rfl rfl GP.out AY rfl (by simp [Value.oneCell']) ?_)
 have HX:=DX (GP.out.setRow (LS x1 ts.length y1 x2 gs.length y2 x3 ss.length y3 nx));have WV:=DX (cC HO1.out GP.out aF (LS x1 ts.length y1 x2 gs.length y2 x3 ss.length y3 nx));have PG:=DX (cC UR.out GP.out aF (LS x1 ts.length y1 x2 gs.length y2 x3 ss.length y3 nx));have IW:=DX (GK.out.other (g':=wo.heap.size) (LS x1 ts.length y1 x2 gs.length y2 x3 ss.length y3 nx) aE);have GQ:=DX (FC FW.out (g:=wo.heap.size) (EA _) (LS x1 ts.length y1 x2 gs.length y2 x3 ss.length y3 nx));generalize w2.setRow wo.heap.size (LS x1 ts.length y1 x2 gs.length y2 x3 ss.length y3 nx)=w4 at *;obtain ⟨r0,r1,r2,r3⟩:=aI HX.out;have f2:=HX.out.free 2;have f3:=HX.out.free 3;have hX5:=HX.out.set (i:=2) (.slice none 0 0);have UK:=eK w4 wo.heap.size 2 (.slice none 0 0);have hR5:=aM IW.out UK (by simp);have o5:=bI WV.out HX.out aF UK;have o6:=bI PG.out HX.out aF UK;have k5:=aB.setCell GQ.out (p:=⟨wo.heap.size,2,none⟩) (EA _) (.slice none 0 0);have hs7:=eK (w4.setCell ⟨wo.heap.size,2,none⟩ (.slice none 0 0)) wo.heap.size 3 (.int .i64 0);have RC:=DX (show aA ((w4.setCell ⟨wo.heap.size,2,none⟩ (.slice none 0 0)).setCell ⟨wo.heap.size,3,none⟩ (.int .i64 0)) wo.heap.size (LS x1 ts.length y1 x2 gs.length y2 none 0 0 0) 26 by have:=hX5.set (i:=3) (.int .i64 0);simpa using this);have VY:=DX (aM hR5 hs7 (by simp));have XP:=DX (bI o5 hX5 aF hs7);have HO8:=DX (bI o6 hX5 aF hs7);have SP:=DX (aB.setCell k5 (p:=⟨wo.heap.size,3,none⟩) (EA _) (.int .i64 0));clear hX5 UK hR5 o5 o6 k5 hs7
 go_upto_region 3 with (fail)
 generalize (w4.setCell ⟨wo.heap.size,2,none⟩ (.slice none 0 0)).setCell ⟨wo.heap.size,3,none⟩ (.int .i64 0)=w7 at *
 clear r0 r1 r2 r3 f2 f3;obtain ⟨r0,r1,r2,r3⟩:=aI RC.out;go_wp2_with (refine aD rfl 26 (.tmp 2) (.tmp 7) rfl (wo.heap.size+1) (LS x1 ts.length y1 x2 gs.length y2 none 0 0 0) LN 26 rfl rfl VY.out AY rfl (by simp [Value.oneCell']) ?_)
 refine EI (v:=.agg (LS x1 ts.length y1 x2 gs.length y2 none 0 0 0)) ?_ rfl ⟨x1,y1,x2,y2,rfl,cC XP.out VY.out aF _,cC HO8.out VY.out aF _,FC SP.out (ED _) _⟩
 exact EH rfl _ _ (wo.heap.size+1) 26 (LS x1 ts.length y1 x2 gs.length y2 none 0 0 0) (0,0) _ rfl (VY.out.setRow _) EW rfl AY
end Go.Proofs.YtkfmladhicapeaaGreatDoor
namespace Go.Proofs.YtkfmladhicapeaaGreatDoor
open Go.RowKit Go.Shelf
theorem iL {w:World} {base:Nat} {e:TypeId} {K n c:Nat} {a:Option Addr} {xs:List Value} (h:w.ownsRow base e K (.slice a n c) n xs) (k:Nat) (hk:k<=n):∃ az:Option Addr,Hid ((if c=k then a else Option.map (fun x=>x.add (k*K)) a)=az) /\
 Hid (az=none->n - k=0)/\Hid (∀ w',aB w w'->(xs.drop (k*K)).length=(n - k)*K/\∀ ad,az=some ad->∀ j u,(xs.drop (k*K))[j]?=some u->w'.cell? (ad.add j)=some u):=by
 have hl:(xs.drop (k*K)).length=(n - k)*K:=by rw [List.length_drop,h.1,Nat.sub_mul]
 refine ⟨_,DX rfl,DX (fun e2=>?_),DX (fun w' kk=>⟨hl,fun ad e2 j u hj=>?_⟩)⟩
 . rcases h.2 with ⟨h',h0⟩ | ⟨g,cap,cur,h',_⟩
   . omega
   . simp only [Value.slice.injEq] at h'
     obtain ⟨rfl,_,_⟩:=h'
     split at e2 <;> cases e2
 . have hj2:j<(n - k)*K:=by
    have:=(List.getElem?_eq_some_iff.1 hj).1
    omega
   have JE:k<n:=by
    rcases Nat.lt_or_ge k n with q | q
    . exact q
    . rw [Nat.sub_eq_zero_of_le q,Nat.zero_mul] at hj2;omega
   rcases h.2 with ⟨h',h0⟩ | ⟨g,cap,cur,h',_,_,NJ,_⟩
   . omega
   . simp only [Value.slice.injEq] at h'
     obtain ⟨rfl,_,rfl⟩:=h';rw [if_neg aE] at e2
     have e3:ad=⟨g,k*K,none⟩:=by
      have:=EB e2;rw [<- this];unfold Addr.add
      show (if k*K=0 then (⟨g,0,none⟩:Addr) else ⟨g,0+k*K,none⟩)=_
      split <;> simp_all
     subst e3
     have e4:(⟨g,k*K,none⟩:Addr).add j=⟨g,k*K+j,none⟩:=by unfold Addr.add;split <;> simp_all
     rw [e4]
     have hs:n*K=k*K+(n - k)*K:=by rw [<- Nat.add_mul];congr 1;omega
     rw [(aH h kk).cellAt (k*K+j) aE,<- List.getElem?_drop];exact hj
theorem iJ {w:World} {base:Nat} {e:TypeId} {K n c:Nat} {a:Option Addr} {xs:List Value} (h:w.ownsRow base e K (.slice a n c) n xs):n<=c:=by
 rcases h.2 with ⟨h',h0⟩ | ⟨g,cap,cur,h',_,_,NJ,_⟩
 . omega
 . simp only [Value.slice.injEq] at h'
   omega
theorem gY {P:Program} {f:FuncId} {xs:Array Value} {w:World} {V:Ending} (h:Calls P f xs w fun e w'=>e=V/\w=w'):Calls P f xs w fun e w'=>e=V/\aB w w':=h.mono (fun _ _ q=>⟨q.1,q.2 ▸ EX _⟩)
theorem Av {W:World} {a:Option Addr} {l:Nat} {ts:List Th} (h:bO W a l ts) {n:Nat} (hn:n<=l):bO W a n (ts.take n):=by
 obtain ⟨b,off,ha,hc⟩:=h.cells;refine ⟨by rw [List.length_take,h.len_eq];omega,by have:=h.le;omega,fun s hs=>h.sizes s (List.mem_of_mem_take hs),b,off,fun h0=>ha aE,fun i hi=>?_⟩
 have e:(ts.take n).getD i aX=ts.getD i aX:=by
  exact Ln
 rw [e];exact hc i aE
theorem tV {W:World} {a:Option Addr} {l:Nat} {ts:List Tg} (h:cJ W a l ts) {n:Nat} (hn:n<=l):cJ W a n (ts.take n):=by
 obtain ⟨b,off,ha,hc⟩:=h.cells;refine ⟨by rw [List.length_take,h.len_eq];omega,by have:=h.le;omega,fun s hs=>h.sizes s (List.mem_of_mem_take hs),b,off,fun h0=>ha aE,fun i hi=>?_⟩
 have e:(ts.take n).getD i bL=ts.getD i bL:=by
  exact Ln
 rw [e];exact hc i aE
theorem uI {W:World} {a:Option Addr} {l:Nat} {ts:List Se} (h:cP W a l ts) {n:Nat} (hn:n<=l):cP W a n (ts.take n):=by
 obtain ⟨b,off,ha,hc⟩:=h.cells;refine ⟨by rw [List.length_take,h.len_eq];omega,by have:=h.le;omega,fun s hs=>h.sizes s (List.mem_of_mem_take hs),b,off,fun h0=>ha aE,fun i hi=>?_⟩
 have e:(ts.take n).getD i bQ=ts.getD i bQ:=by
  exact Ln
 rw [e];exact hc i aE
end Go.Proofs.YtkfmladhicapeaaGreatDoor
