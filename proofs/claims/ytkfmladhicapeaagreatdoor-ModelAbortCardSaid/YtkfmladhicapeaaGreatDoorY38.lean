import Derived.Test.YtkfmladhicapeaaGreatDoorY37
set_option maxRecDepth 100000
set_option maxHeartbeats 4000000
namespace Go.Proofs.YtkfmladhicapeaaGreatDoor
open Go.RowKit Go.Shelf
attribute [local go_sem] Oper.semAt_some
theorem Ag (base p:Nat) (hp:base<=p) (s:dN) (o:fV) (wo:World) (Q:eX base wo p s) (hs:dP s=true) (hk:o.k=3) :
 Calls Tryz.prog 80 (PO p o.k o.id o.n o.m o.name o.d o.t) wo (iD base p wo (eD s o.id o.d)):=by
 obtain ⟨ts,gs,ss,nx⟩:=s;obtain ⟨ok,oi,on,om,GE,od,ot⟩:=o;dsimp only at *;subst hk;have HQ:=DX Q;obtain ⟨aT,cT,aG,cG,aS,cS,hb,oT,oG,oS⟩:=Q.rows;dsimp only at *
 have GY:base<=wo.heap.size:=by have:=hb.lt;omega
 have MG:p<wo.heap.size:=hb.lt;have HP:=DX hb;have LB:=DX (bR hs)
 obtain ⟨XX,GR⟩:∃ XX,XX=(eD ⟨ts,gs,ss,nx⟩ oi od):=⟨_,rfl⟩
 rw [<- GR];have HX:=DX GR;clear GR;obtain ⟨lT,rT,zT,lG,rG,zG,lS,rS,zS,n0,n1⟩:=bR hs;dsimp only at *;have HB:=DX ((EY wo (LO 3 oi on om GE od ot) 35).kept ((EX _).alloc (KR)));have HR:=DX (FB wo LR 47 ((KO 3 oi on om GE od ot)));have HK:=DX (((EX wo).alloc ((KO 3 oi on om GE od ot))).alloc (KR));obtain ⟨_,_,hv,hI⟩:=gO oS rfl aE (fun x hx=>EF (zS x hx) aF);cases hv;have WX:=DX (fun w9 (k:aB wo w9)=>gY (mJ aS cS ss oi w9 (hI.kept k) aE));have OK:=DX oS;have VR:=DX oT;have WW:=DX oG;obtain ⟨_,_,hv,hJ⟩:=cI oT rfl aE (fun x hx=>by have:=zT x hx;omega);cases hv;have JA:=DX (fun w9 (k:aB wo w9)=>gR aT ts.length cT ts od w9 (hJ.kept k));clear hJ
 by_cases GA:fR ss oi<ss.length
 . rw [show uX ss oi=((fR ss oi:Nat):Int) from if_pos GA] at WX
   obtain ⟨g,rfl⟩:=cA oS aE;have HC:=DX (fun w9 (k:aB wo w9)=>((aH oS k).cellAt (fR ss oi*2+1) aE).trans (nP ss (fR ss oi) GA).2);have JJ:=DX (show eD ⟨ts,gs,ss,nx⟩ oi od=_ from if_pos GA);dsimp only at JJ;have GO:=zS _ (bY bQ GA);clear rT zT rG zG rS zS oT oG oS Q hb hI;clear hs;generalize fR ss oi=z at *;go_enter Tryz.func80,Tryz.ntmps80
   go_upto_region 1 with (fail)
   generalize (wo.alloc ((KO 3 oi on om GE od ot))).alloc (KR)=w1 at *
   have b0:w1.cell? ⟨wo.heap.size,0,none⟩=some (.int .i64 3):=HB.out.cell 0;have b1:w1.cell? ⟨wo.heap.size,1,none⟩=some (.int .i64 oi):=HB.out.cell 1;obtain ⟨r0,r1,r2,r3⟩:=aI (HP.out.kept HK.out)
   go_upto_region 7 with (fail)
   clear b0;replace r0:=aC r0;replace r1:=aC r1;replace r2:=aC r2;replace r3:=aC r3;replace b1:=aC b1;have GX:=DX (fun u:bF w1=>WX.out u.1 (HK.out.trans u.2))
   refine aJ aW aW ?_
   repeat (go_big_quiet_step ((go_at_call 111;exact aK (GX.out _))))
   refine wpQuiet_nil ?_
   intro _ GD;obtain ⟨nq,FT⟩:=GD;subst FT;have FW:=DX (HK.out.trans nq.2);have GK:=DX (HR.out.kept nq.2);have GP:=DX (HB.out.kept nq.2);clear r0 r1 r2 r3 b1 GX;generalize nq.1=w2 at *;have b0:w2.cell? ⟨wo.heap.size,0,none⟩=some (.int .i64 3):=GP.out.cell 0;have hd:decide ((z:Int)<0)=false:=DY aE;have c1:=HC.out w2 FW.out;obtain ⟨r0,r1,r2,r3⟩:=aI (HP.out.kept FW.out)
   generalize (ss.getD z bQ).t=X at *
   obtain ⟨D,hD⟩:∃ D,D=dg X.data.toList:=⟨_,rfl⟩
   have hX:X.size<=2000:=GO;have SR:=DX (fun (u:bF w2)=>show Calls Tryz.prog 46 #[.string X] u.1 fun e w9=>e=.returned (.string D)/\aB u.1 w9 by rw [hD];exact nC X aE u.1);rw [<- hD] at JJ;have q5:w2.cell? ⟨wo.heap.size,5,none⟩=some (.string od):=GP.out.cell 5;have e1:=aC q5;clear hD q5
   go_upto_region 19 with (fail)
   clear r0 r1 r2 r3 c1 b0
   by_cases MI:D=od
   . have hq:(od.toList != D.toList)=false:=by rw [MI];simp
     have XF:(od.toList == D.toList)=true:=by rw [MI];simp
     have OI:=DX (JJ.out.trans (if_pos MI));clear MI JJ;go_wp2_with fail
     refine aJ aW aW ?_
     repeat (go_big_quiet_step ((go_at_call 46;exact aK (SR.out _))))
     refine wpQuiet_nil ?_
     intro _ GD;obtain ⟨nq,FT⟩:=GD;subst FT;have GC:=DX (FW.out.trans nq.2);have JG:=DX (GK.out.kept nq.2);have IU:=DX (GP.out.kept nq.2);clear e1 SR;generalize nq.1=w3 at *;obtain ⟨r0,r1,r2,r3⟩:=aI (HP.out.kept GC.out);have q5:w3.cell? ⟨wo.heap.size,5,none⟩=some (.string od):=IU.out.cell 5
     by_cases JN:cQ ts od<ts.length
     . rw [show kR ts od=((cQ ts od:Nat):Int) from if_pos JN] at JA
       have GI:=DX (OI.out.trans (if_pos JN));have hd9:decide (((cQ ts od:Nat):Int)<0)=false:=DY aE;clear OI JN;generalize cQ ts od=y at *;replace r0:=aC r0;replace r1:=aC r1;replace r2:=aC r2;replace r3:=aC r3;replace q5:=aC q5;have GX:=DX (fun u:bF w3=>JA.out u.1 (GC.out.trans u.2));go_wp2_with fail
       refine aJ aW aW ?_
       repeat (go_big_quiet_step ((go_at_call 52;exact aK (GX.out _))))
       refine wpQuiet_nil ?_
       intro _ GD;obtain ⟨nq,FT⟩:=GD;subst FT;have GQ:=DX (GC.out.trans nq.2);have IW:=DX (JG.out.kept nq.2);have KY:=DX (IU.out.kept nq.2);clear r0 r1 r2 r3 q5 GX;generalize nq.1=w4 at *;have LZ:=DX (HQ.out.kept GQ.out);obtain ⟨aT4,cT4,aG4,cG4,aS4,cS4,IM,oT4,oG4,oS4⟩:=LZ.out.rows;dsimp only at IM oT4 oG4 oS4;have KF:=DX IM;have PG:=DX oS4;obtain ⟨i0,IY,GV,GJ,GO⟩:=kA Tryz.prog BE;have HI:=DX (EC IY (EC GV (EC GJ GO)));obtain ⟨_,_,hv,TA⟩:=gO oS4 rfl aE (fun x hx=>EF (LB.out.zS x hx) aF);cases hv
       obtain ⟨m,hm⟩:∃ m,m=z+1:=⟨_,rfl⟩
       have ZM:m<=ss.length:=by omega
       have HZW:=DX (show IntKind.i64.wrap ((z:Int)+1)=(m:Int) by rw [IntWalk.i64_in _ aE];omega);have NJ:ss.length<=cS4:=iJ oS4;obtain ⟨aq,UU,SQ,NS⟩:=iL oS4 m ZM;rw [eB fJ 2 Ep] at NS;have MK:=DX (fun w9 (kk:aB w4 w9)=>rQ aS4 z cS4 (ss.take z) w9 (uI (TA.kept kk) aE));have JU:=DX (show z+(ss.length - m)=(ss.eraseIdx z).length by rw [List.length_eraseIdx_of_lt aE];omega);have NG:=DX (show (ss.take z).flatMap fJ++(ss.drop m).flatMap fJ=(ss.eraseIdx z).flatMap fJ by rw [List.eraseIdx_eq_take_drop_succ,List.flatMap_append,hm]);have OP:=DX (show base<=w4.heap.size by have:=IM.lt;omega)
       have hzc:z<=cS4:=by omega
       clear hm IY GV GJ GO IM oT4 oG4 oS4 TA;go_wp2_with fail
       have mixed:Tryz.prog.follows Departure.mixedOrders=true:=by kernel_rfl
       have ZQ:=UU.out;have hzw:=HZW.out;obtain ⟨d0,d1,d2,d3⟩:=aI KF.out;go_region_law_o (first | (rw [if_pos (Pj.Ze rfl _)];go_simp;refine (MK.out _ ((EX w4).drew)).mono ?_;rintro e y5 ⟨a5,c5,rfl,JF,OG⟩;have GZ:=((EX w4).drew).trans OG;have IP:=bA JF (EZ ((EX w4).drew));have hp5:=KF.out.kept GZ;obtain ⟨d0,d1,d2,d3⟩:=aI hp5;have LX:=NS.out y5 GZ;try dsimp only) | (refine fG rfl (.tmp 161) (.tmp 168) 24 rfl w4.heap.size 65 i0 (.agg #[.int .i64 0,.string ByteArray.empty]) 2 24 EU HI.out.1 HI.out.2.1 HI.out.2.2.1 HI.out.2.2.2 rfl aF (.slice a5 z c5) z ((ss.take z).flatMap fJ) rfl IP aq (ss.length - m) (cS4 - m) ((ss.drop m).flatMap fJ) rfl SQ.out LX.1 LX.2 (fun u hu=>oQ _ u hu) aE aF GZ.size ?_;intro v9 y9 GS ND;obtain ⟨a6,c6,rfl⟩:=aP GS;have GF:=cD GZ ND (fun q e=>(IP.lt q e).1) (EA _);have KW:=KF.out.kept GF;obtain ⟨d0,d1,d2,d3⟩:=aI KW;have f9:=KW.free 2))
       all_goals
        have QN:=GS;rw [JU.out,NG.out] at QN
        have JB:=(LZ.out.kept GF).putS hp (ss.eraseIdx z) (row:=none) ⟨rfl,rfl,rfl,EA _,fun _ _ _=>rfl⟩ dX.none (bA QN OP.out)
        rw [<- JU.out] at JB;have SC:=DX JB.1;have OJ:=DX ((FA GF OP.out).trans JB.2);clear QN JB GS ND IP KW f9 d0 d1 d2 d3;generalize y9.setCell ⟨p,2,none⟩ (.slice a6 (z+(ss.length - m)) c6)=w5 at *;have LC:=DX ((FA GQ.out GY).trans OJ.out);have KE:=DX (OJ.out.blk _ _ _ IW.out aE aF aF aF);go_wp2_with (refine aD rfl 47 (.tmp 4) (.tmp 173) rfl (wo.heap.size+1) (bB (dY (X.size:Int))) LR 47 rfl rfl KE.out AX rfl (aL _) ?_)
        refine EI (v:=bW (dY (X.size:Int))) ?_ rfl ?_
        . exact EH rfl _ _ (wo.heap.size+1) 47 (bB (dY (X.size:Int))) (0,0) _ rfl (KE.out.setRow _) EV rfl AX
        . rw [HX.out,GI.out];exact ⟨rfl,SC.out.setRow KE.out aF aF aF aF _,LC.out.setRow (ED _) GY _⟩
     . rw [show kR ts od = -1 from if_neg JN] at JA
       have hd9:decide ((-1:Int)<0)=true:=by decide
       replace r0:=aC r0;replace r1:=aC r1;replace r2:=aC r2;replace r3:=aC r3;replace q5:=aC q5;have GX:=DX (fun u:bF w3=>JA.out u.1 (GC.out.trans u.2));go_wp2_with fail
       refine aJ aW aW ?_
       repeat (go_big_quiet_step ((go_at_call 52;exact aK (GX.out _))))
       refine wpQuiet_nil ?_
       intro _ GD;obtain ⟨nq,FT⟩:=GD;subst FT;have GQ:=DX (GC.out.trans nq.2);have IW:=DX (JG.out.kept nq.2);have KY:=DX (IU.out.kept nq.2);clear r0 r1 r2 r3 q5 GX;generalize nq.1=w4 at *;obtain ⟨r0,r1,r2,r3⟩:=aI (HP.out.kept GQ.out)
       by_cases hful:ts.length>=60
       . have hd:decide ((60:Int)<=(ts.length:Int))=true:=DZ aE
         have WF:decide (60<=ts.length)=true:=DZ hful;have GI:=DX ((OI.out.trans (if_neg JN)).trans (if_pos hful));clear OI JN hful;go_wp2_with (refine aD rfl 47 (.tmp 4) (.tmp 139) rfl (wo.heap.size+1) (bB (aY 2)) LR 47 rfl rfl IW.out AX rfl (aL _) ?_);exact Xm
       . have hd:decide ((60:Int)<=(ts.length:Int))=false:=DY aE
         have WF:decide (60<=ts.length)=false:=DY hful;have GI:=DX ((OI.out.trans (if_neg JN)).trans (if_neg hful));clear OI JN hful;have LZ:=DX (HQ.out.kept GQ.out)
         go_upto_region 24 with (fail)
         clear r0 r1 r2 r3;obtain ⟨aT4,cT4,aG4,cG4,aS4,cS4,IM,oT4,oG4,oS4⟩:=LZ.out.rows;dsimp only at IM oT4 oG4 oS4;have KF:=DX IM;have HWI:=DX (fun w9 (kk:aB w4 w9)=>Ac base aT4 ts.length cT4 ts od X false w9 (aH oT4 kk) rfl (fun x hx=>by have:=LB.out.zT x hx;omega) aE);have HIL:=DX (uG ts ⟨od,X,false⟩);have OP:=DX (show base<=w4.heap.size by have:=IM.lt;omega);clear IM oT4 oG4 oS4;generalize iR ts ⟨od,X,false⟩=NT at *;go_wp2_with fail
         have mixed:Tryz.prog.follows Departure.mixedOrders=true:=by kernel_rfl
         obtain ⟨d0,d1,d2,d3⟩:=aI KF.out;obtain ⟨d0w4,d1w4,d2w4,d3w4⟩:=aI (KF.out.kept (EX w4))
         have q9w4:w4.cell? ⟨wo.heap.size,5,none⟩=some (.string od):=(KY.out.kept (EX w4)).cell 5
         go_region_law_o (rw [if_pos (Pj.Ze rfl _)];go_simp;refine (HWI.out _ ((EX w4).drew)).mono ?_;rintro e y9 ⟨a9,c9,rfl,h9',hk9'⟩;have GF:=((EX w4).drew).trans hk9';have h9:=bA h9' (EZ ((EX w4).drew));rw [<- HIL.out] at h9;have KW:=KF.out.kept GF;obtain ⟨d0,d1,d2,d3⟩:=aI KW;have f9:=KW.free 0;obtain ⟨d0y9,d1y9,d2y9,d3y9⟩:=aI (KF.out.kept (GF));have q9y9:y9.cell? ⟨wo.heap.size,5,none⟩=some (.string od):=(KY.out.kept (GF)).cell 5;try dsimp only)
         all_goals
          have JB:=(LZ.out.kept GF).putT hp NT (row:=none) ⟨rfl,rfl,rfl,EA _,fun _ _ _=>rfl⟩ dX.none (bA h9 OP.out)
          rw [HIL.out] at JB;have SC:=DX JB.1;have OJ:=DX ((FA GF OP.out).trans JB.2);generalize y9.setCell ⟨p,0,none⟩ (.slice a9 (ts.length+1) c9)=w5 at *;have KE:=DX (OJ.out.blk _ _ _ IW.out aE aF aF aF);have HF5b:=DX ((FA GQ.out GY).trans OJ.out);clear KF OP;obtain ⟨aT4,cT4,aG4,cG4,aS4,cS4,IM,oT4,oG4,oS4⟩:=SC.out.rows;dsimp only at IM oT4 oG4 oS4;have KF:=DX IM;have PG:=DX oS4;obtain ⟨i0,IY,GV,GJ,GO⟩:=kA Tryz.prog BE;have HI:=DX (EC IY (EC GV (EC GJ GO)));obtain ⟨_,_,hv,TA⟩:=gO oS4 rfl aE (fun x hx=>EF (LB.out.zS x hx) aF);cases hv
          obtain ⟨m,hm⟩:∃ m,m=z+1:=⟨_,rfl⟩
          have ZM:m<=ss.length:=by omega
          have HZW:=DX (show IntKind.i64.wrap ((z:Int)+1)=(m:Int) by rw [IntWalk.i64_in _ aE];omega);have NJ:ss.length<=cS4:=iJ oS4;obtain ⟨aq,UU,SQ,NS⟩:=iL oS4 m ZM;rw [eB fJ 2 Ep] at NS;have MK:=DX (fun w9 (kk:aB w5 w9)=>rQ aS4 z cS4 (ss.take z) w9 (uI (TA.kept kk) aE));have JU:=DX (show z+(ss.length - m)=(ss.eraseIdx z).length by rw [List.length_eraseIdx_of_lt aE];omega);have NG:=DX (show (ss.take z).flatMap fJ++(ss.drop m).flatMap fJ=(ss.eraseIdx z).flatMap fJ by rw [List.eraseIdx_eq_take_drop_succ,List.flatMap_append,hm]);have OP:=DX (show base<=w5.heap.size by have:=IM.lt;omega)
          have hzc:z<=cS4:=by omega
          clear hm IY GV GJ GO IM oT4 oG4 oS4 TA;go_wp2_with fail
          have mixed:Tryz.prog.follows Departure.mixedOrders=true:=by kernel_rfl
          have ZQ:=UU.out;have hzw:=HZW.out;obtain ⟨d0,d1,d2,d3⟩:=aI KF.out;go_region_law_o (first | (rw [if_pos (Pj.Ze rfl _)];go_simp;refine (MK.out _ ((EX w5).drew)).mono ?_;rintro e y5 ⟨a5,c5,rfl,JF,OG⟩;have GZ:=((EX w5).drew).trans OG;have IP:=bA JF (EZ ((EX w5).drew));have hp5:=KF.out.kept GZ;obtain ⟨d0,d1,d2,d3⟩:=aI hp5;have LX:=NS.out y5 GZ;try dsimp only) | (refine fG rfl (.tmp 161) (.tmp 168) 24 rfl w5.heap.size 65 i0 (.agg #[.int .i64 0,.string ByteArray.empty]) 2 24 EU HI.out.1 HI.out.2.1 HI.out.2.2.1 HI.out.2.2.2 rfl aF (.slice a5 z c5) z ((ss.take z).flatMap fJ) rfl IP aq (ss.length - m) (cS4 - m) ((ss.drop m).flatMap fJ) rfl SQ.out LX.1 LX.2 (fun u hu=>oQ _ u hu) aE aF GZ.size ?_;intro v9 y9 GS ND;obtain ⟨a6,c6,rfl⟩:=aP GS;have GF:=cD GZ ND (fun q e=>(IP.lt q e).1) (EA _);have KW:=KF.out.kept GF;obtain ⟨d0,d1,d2,d3⟩:=aI KW;have f9:=KW.free 2))
          all_goals
           have QN:=GS;rw [JU.out,NG.out] at QN
           have JB:=(SC.out.kept GF).putS hp (ss.eraseIdx z) (row:=none) ⟨rfl,rfl,rfl,EA _,fun _ _ _=>rfl⟩ dX.none (bA QN OP.out)
           rw [<- JU.out] at JB;have HQ6:=DX JB.1;have HF6:=DX ((FA GF OP.out).trans JB.2);clear QN JB GS ND IP KW f9 d0 d1 d2 d3;generalize y9.setCell ⟨p,2,none⟩ (.slice a6 (z+(ss.length - m)) c6)=w6 at *;have LC:=DX (HF5b.out.trans HF6.out);have NR:=DX (HF6.out.blk _ _ _ KE.out aE aF aF aF);go_wp2_with (refine aD rfl 47 (.tmp 4) (.tmp 173) rfl (wo.heap.size+1) (bB (dY (X.size:Int))) LR 47 rfl rfl NR.out AX rfl (aL _) ?_)
           refine EI (v:=bW (dY (X.size:Int))) ?_ rfl ?_
           . exact EH rfl _ _ (wo.heap.size+1) 47 (bB (dY (X.size:Int))) (0,0) _ rfl (NR.out.setRow _) EV rfl AX
           . rw [HX.out,GI.out];exact ⟨rfl,HQ6.out.setRow NR.out aF aF aF aF _,LC.out.setRow (ED _) GY _⟩
   . have hq:(od.toList != D.toList)=true:=(dM (fun e=>MI e.symm)).2.2
     have XF:(od.toList == D.toList)=false:=(dM (fun e=>MI e.symm)).2.1
     have GI:=DX (JJ.out.trans (if_neg MI));clear MI JJ;go_wp2_with fail
     refine aJ aW aW ?_
     repeat (go_big_quiet_step ((go_at_call 46;exact aK (SR.out _))))
     refine wpQuiet_nil ?_
     intro _ GD;obtain ⟨nq,FT⟩:=GD;subst FT;have GC:=DX (FW.out.trans nq.2);have JG:=DX (GK.out.kept nq.2);have IU:=DX (GP.out.kept nq.2);clear e1 SR;generalize nq.1=w3 at *;go_wp2_with (refine aD rfl 47 (.tmp 4) (.tmp 124) rfl (wo.heap.size+1) (bB (aY 7)) LR 47 rfl rfl JG.out AX rfl (aL _) ?_)
     refine EI (v:=bW (aY 7)) ?_ rfl ?_
     . exact Qf
     . exact Ie
 . have GI:=DX (show eD ⟨ts,gs,ss,nx⟩ oi od=(⟨ts,gs,ss,nx⟩,aY 3) from if_neg GA)
   rw [show uX ss oi = -1 from if_neg GA] at WX;clear rT zT rG zG rS zS oT oG oS Q hb hI;clear hs GA;go_enter Tryz.func80,Tryz.ntmps80
   go_upto_region 1 with (fail)
   generalize (wo.alloc ((KO 3 oi on om GE od ot))).alloc (KR)=w1 at *
   have b0:w1.cell? ⟨wo.heap.size,0,none⟩=some (.int .i64 3):=HB.out.cell 0;have b1:w1.cell? ⟨wo.heap.size,1,none⟩=some (.int .i64 oi):=HB.out.cell 1;obtain ⟨r0,r1,r2,r3⟩:=aI (HP.out.kept HK.out)
   go_upto_region 7 with (fail)
   clear b0;replace r0:=aC r0;replace r1:=aC r1;replace r2:=aC r2;replace r3:=aC r3;replace b1:=aC b1;have GX:=DX (fun u:bF w1=>WX.out u.1 (HK.out.trans u.2))
   refine aJ aW aW ?_
   repeat (go_big_quiet_step ((go_at_call 111;exact aK (GX.out _))))
   refine wpQuiet_nil ?_
   intro _ GD;obtain ⟨nq,FT⟩:=GD;subst FT;have FW:=DX (HK.out.trans nq.2);have GK:=DX (HR.out.kept nq.2);have GP:=DX (HB.out.kept nq.2);clear r0 r1 r2 r3 b1 GX;generalize nq.1=w2 at *;have b0:w2.cell? ⟨wo.heap.size,0,none⟩=some (.int .i64 3):=GP.out.cell 0
   have hd:decide ((-1:Int)<0)=true:=by decide
   go_wp2_with (refine aD rfl 47 (.tmp 4) (.tmp 61) rfl (wo.heap.size+1) (bB (aY 3)) LR 47 rfl rfl GK.out AX rfl (aL _) ?_)
   refine EI (v:=bW (aY 3)) ?_ rfl ?_
   . exact xT
   . exact vN
theorem Dq (base p:Nat) (hp:base<=p) (s:dN) (o:fV) (wo:World) (Q:eX base wo p s) (hs:dP s=true) (hk:o.k=2) (OB:o.t.size<=140737488351232) :
 Calls Tryz.prog 80 (PO p o.k o.id o.n o.m o.name o.d o.t) wo (iD base p wo (eW s o.id o.t)):=by
 obtain ⟨ts,gs,ss,nx⟩:=s;obtain ⟨ok,oi,on,om,GE,od,ot⟩:=o;dsimp only at *;subst hk;have HQ:=DX Q;obtain ⟨aT,cT,aG,cG,aS,cS,hb,oT,oG,oS⟩:=Q.rows;dsimp only at *
 have GY:base<=wo.heap.size:=by have:=hb.lt;omega
 have MG:p<wo.heap.size:=hb.lt;have HP:=DX hb;have LB:=DX (bR hs)
 obtain ⟨XX,GR⟩:∃ XX,XX=(eW ⟨ts,gs,ss,nx⟩ oi ot):=⟨_,rfl⟩
 rw [<- GR];have HX:=DX GR;clear GR;obtain ⟨lT,rT,zT,lG,rG,zG,lS,rS,zS,n0,n1⟩:=bR hs;dsimp only at *;have HB:=DX ((EY wo (LO 2 oi on om GE od ot) 35).kept ((EX _).alloc (KR)));have HR:=DX (FB wo LR 47 ((KO 2 oi on om GE od ot)));have HK:=DX (((EX wo).alloc ((KO 2 oi on om GE od ot))).alloc (KR));obtain ⟨_,_,hv,hI⟩:=gO oS rfl aE (fun x hx=>EF (zS x hx) aF);cases hv;have WX:=DX (fun w9 (k:aB wo w9)=>gY (mJ aS cS ss oi w9 (hI.kept k) aE));have OK:=DX oS;have VR:=DX oT;have WW:=DX oG
 by_cases GA:fR ss oi<ss.length
 . rw [show uX ss oi=((fR ss oi:Nat):Int) from if_pos GA] at WX
   obtain ⟨g,rfl⟩:=cA oS aE;have hco:=nP ss (fR ss oi) GA;have HC:=DX (fun w9 (k:aB wo w9)=>((aH oS k).cellAt (fR ss oi*2+1) aE).trans hco.2);have HFZ:=DX (fun w9 (k:aB wo w9)=>(aH oS k).frozenAt (fR ss oi*2+1));have JJ:=DX (show eW ⟨ts,gs,ss,nx⟩ oi ot=_ from if_pos GA);dsimp only at JJ;have OU:=DX (mN ((ss.getD (fR ss oi) bQ).t++ot) ss (fR ss oi) GA);have GO:=zS _ (bY bQ GA);clear hco;clear rT zT rG zG rS zS oT oG oS Q hb hI;clear hs;generalize fR ss oi=z at *;go_enter Tryz.func80,Tryz.ntmps80
   go_upto_region 1 with (fail)
   generalize (wo.alloc ((KO 2 oi on om GE od ot))).alloc (KR)=w1 at *
   have b0:w1.cell? ⟨wo.heap.size,0,none⟩=some (.int .i64 2):=HB.out.cell 0;have b1:w1.cell? ⟨wo.heap.size,1,none⟩=some (.int .i64 oi):=HB.out.cell 1;obtain ⟨r0,r1,r2,r3⟩:=aI (HP.out.kept HK.out)
   go_upto_region 7 with (fail)
   clear b0;replace r0:=aC r0;replace r1:=aC r1;replace r2:=aC r2;replace r3:=aC r3;replace b1:=aC b1;have GX:=DX (fun u:bF w1=>WX.out u.1 (HK.out.trans u.2))
   refine aJ aW aW ?_
   repeat (go_big_quiet_step ((go_at_call 111;exact aK (GX.out _))))
   refine wpQuiet_nil ?_
   intro _ GD;obtain ⟨nq,FT⟩:=GD;subst FT;have FW:=DX (HK.out.trans nq.2);have GK:=DX (HR.out.kept nq.2);have GP:=DX (HB.out.kept nq.2);clear r0 r1 r2 r3 b1 GX;generalize nq.1=w2 at *;have b0:w2.cell? ⟨wo.heap.size,0,none⟩=some (.int .i64 2):=GP.out.cell 0;have hd:decide ((z:Int)<0)=false:=DY aE;have c1:=HC.out w2 FW.out;obtain ⟨r0,r1,r2,r3⟩:=aI (HP.out.kept FW.out);have q1:w2.cell? ⟨wo.heap.size,6,none⟩=some (.string ot):=GP.out.cell 6
   generalize (ss.getD z bQ).t=X at *
   have hX:X.size<=2000:=GO
   obtain ⟨n,hn⟩:∃ n,n=X.size+ot.size:=⟨_,rfl⟩
   obtain ⟨m,hm⟩:∃ m,m=2000 - X.size:=⟨_,rfl⟩
   have hmi:(2000:Int) - (X.size:Int)=(m:Int):=by omega
   rw [<- hn] at JJ;have HN:=DX hn;have HM:=DX (show n>2000↔m<ot.size by omega)
   go_upto_region 13 with (fail)
   have l0:=aC r0;have l1:=aC r1;have l2:=aC r2;have l3:=aC r3;have l4:=aC c1;have l5:=aC q1;clear r0 r1 r2 r3 c1 q1 hn hm b0
   refine aJ aW aW ?_
   repeat (go_big_quiet_step (fail))
   refine wpQuiet_nil ?_
   intro _ GD;obtain ⟨nq,FT⟩:=GD;subst FT;have GC:=DX (FW.out.trans nq.2);have JG:=DX (GK.out.kept nq.2);have IU:=DX (GP.out.kept nq.2);clear l0 l1 l2 l3 l4 l5;generalize nq.1=w3 at *
   by_cases UD:n>2000
   . have hmo:=HM.out.1 UD
     have GI:=DX (JJ.out.trans (if_pos UD));have hd:decide ((m:Int)<(ot.size:Int))=true:=DZ aE;have WF:decide (m<ot.size)=true:=DZ aE;clear UD JJ;go_wp2_with (refine aD rfl 47 (.tmp 4) (.tmp 80) rfl (wo.heap.size+1) (bB (aY 2)) LR 47 rfl rfl JG.out AX rfl (aL _) ?_)
     refine EI (v:=bW (aY 2)) ?_ rfl ?_
     . exact EH rfl _ _ (wo.heap.size+1) 47 (bB (aY 2)) (0,0) _ rfl (JG.out.setRow _) EV rfl AX
     . exact Ie
   . have hmo:¬ m<ot.size:=fun q=>UD (HM.out.2 q)
     have GI:=DX (JJ.out.trans (if_neg UD));have hd:decide ((m:Int)<(ot.size:Int))=false:=DY aE;have WF:decide (m<ot.size)=false:=DY aE;clear UD JJ;obtain ⟨r0,r1,r2,r3⟩:=aI (HP.out.kept GC.out);have c1:=HC.out w3 GC.out;have f1:=HFZ.out w3 GC.out;have q1:w3.cell? ⟨wo.heap.size,6,none⟩=some (.string ot):=IU.out.cell 6
     obtain ⟨Y,hY⟩:∃ Y,Y=X++ot:=⟨_,rfl⟩
     have HYN:=DX (show Y.size=n by rw [hY,ByteArray.size_append,HN.out]);rw [<- hY] at OU GI;have HY:=DX hY;clear hmi hY;go_wp2_with fail;go_region;rw [<- HY.out]
     obtain ⟨h1,h2⟩:=(aH OK.out GC.out).stored (z*2+1) (.string Y)
     rw [<- OU.out] at h1
     have XD:w3.grownBy (w3.setCell ⟨g,z*2+1,none⟩ (.string Y)).drew (some g):=⟨h2.os,h2.tape,h2.output,h2.size,fun k hk GW=>h2.block k hk GW⟩
     obtain ⟨MB,KB⟩:=eX.inS (ss':=ss.set z ⟨(ss.getD z bQ).i,Y⟩) (HP.out.kept GC.out) (aH VR.out GC.out) (aH WW.out GC.out) XD (dX.of (aH OK.out GC.out)) List.length_set h1.drew (EF GY GC.out.size);have LZ:=DX MB;have RM:=DX ((FA GC.out GY).trans KB);have IW:=DX (KB.blk _ _ _ JG.out aE aF aF aF);have KF:=DX (aM (HP.out.kept GC.out) XD ((dX.of (aH OK.out GC.out)).ne (HP.out.kept GC.out) aF))
     have c4:(w3.setCell ⟨g,z*2+1,none⟩ (.string Y)).drew.cell? ⟨g,z*2+1,none⟩=some (.string Y):=by rw [h1.drew.cellAt (z*2+1) aE,OU.out,List.getElem?_set_self (by rw [rP];omega)]
     clear r0 r1 r2 r3 c1 f1 q1 h1 h2 XD MB KB OU HC HFZ
     generalize (w3.setCell ⟨g,z*2+1,none⟩ (.string Y)).drew=w4 at *
     obtain ⟨r0,r1,r2,r3⟩:=aI KF.out
     have hyn:(Y.size:Int)=(n:Int):=by rw [HYN.out]
     go_wp2_with (refine aD rfl 47 (.tmp 4) (.tmp 108) rfl (wo.heap.size+1) (bB (dY (n:Int))) LR 47 rfl rfl IW.out AX rfl (aL _) ?_)
     refine EI (v:=bW (dY (n:Int))) ?_ rfl ?_
     . exact EH rfl _ _ (wo.heap.size+1) 47 (bB (dY (n:Int))) (0,0) _ rfl (IW.out.setRow _) EV rfl AX
     . exact Nz
 . have GI:=DX (show eW ⟨ts,gs,ss,nx⟩ oi ot=(⟨ts,gs,ss,nx⟩,aY 3) from if_neg GA)
   rw [show uX ss oi = -1 from if_neg GA] at WX;clear rT zT rG zG rS zS oT oG oS Q hb hI;clear hs GA;go_enter Tryz.func80,Tryz.ntmps80
   go_upto_region 1 with (fail)
   generalize (wo.alloc ((KO 2 oi on om GE od ot))).alloc (KR)=w1 at *
   have b0:w1.cell? ⟨wo.heap.size,0,none⟩=some (.int .i64 2):=HB.out.cell 0;have b1:w1.cell? ⟨wo.heap.size,1,none⟩=some (.int .i64 oi):=HB.out.cell 1;obtain ⟨r0,r1,r2,r3⟩:=aI (HP.out.kept HK.out)
   go_upto_region 7 with (fail)
   clear b0;replace r0:=aC r0;replace r1:=aC r1;replace r2:=aC r2;replace r3:=aC r3;replace b1:=aC b1;have GX:=DX (fun u:bF w1=>WX.out u.1 (HK.out.trans u.2))
   refine aJ aW aW ?_
   repeat (go_big_quiet_step ((go_at_call 111;exact aK (GX.out _))))
   refine wpQuiet_nil ?_
   intro _ GD;obtain ⟨nq,FT⟩:=GD;subst FT;have FW:=DX (HK.out.trans nq.2);have GK:=DX (HR.out.kept nq.2);have GP:=DX (HB.out.kept nq.2);clear r0 r1 r2 r3 b1 GX;generalize nq.1=w2 at *;have b0:w2.cell? ⟨wo.heap.size,0,none⟩=some (.int .i64 2):=GP.out.cell 0
   have hd:decide ((-1:Int)<0)=true:=by decide
   go_wp2_with (refine aD rfl 47 (.tmp 4) (.tmp 61) rfl (wo.heap.size+1) (bB (aY 3)) LR 47 rfl rfl GK.out AX rfl (aL _) ?_)
   refine EI (v:=bW (aY 3)) ?_ rfl ?_
   . exact xT
   . exact vN
theorem rI {P:Program} {ops:Array Oper} {o:Oper} {a:Act} {w:World} {K:Act->World->Prop} {Q:Exit->Act->World->Prop} {E:Prop} (hgd:o.guard=none) (s x:Operand) (t:TypeId)
 (ho:o.op=.call { callee:=.builtin .append,args:=#[s,x],argTypes:=#[t,t] })
 (base:Nat) (e:TypeId) (i:TypeInfo) (z:Value) (size bytes:Nat) (ht:P.underlying t=some (.slice e)) (hi:P.info? e=some i) (hz:i.zero=some z)
 (JT:i.size=size) (XB:i.bytes=bytes) (XH:z.cells.size=size) (IG:0<size)
 (v:Value) (n:Nat) (xs:List Value) (hs:a.eval s=v) (FU:w.ownsRow base e size v n xs)
 (ad:Addr) (m c:Nat) (news:List Value) (hx:a.eval x=.slice (some ad) m c) (hl:news.length=m*size) (GN:∀ j u,news[j]?=some u->w.cell? (ad.add j)=some u) (h1:∀ u∈news,u.oneCell'=true)
 (h63:n+m<=maxLen) (KZ:(n+m)*bytes<=140737488355328) (JI:base<=w.heap.size)
 (h:∀ v' w',w'.ownsRow base e size v' (n+m) (xs++news)->w.grownBy w' v.ownBlock->K (a.put o.dst v') w') :
 if Region.wanted o (yielded ops a.tmps)=true then Oper.wp P o a w K Q else E:=by
 have hw:Region.wanted o (yielded ops a.tmps)=true:=by simp [Region.wanted,hgd]
 rw [if_pos hw];obtain ⟨v',w',hr,h2,h3,h4,h5⟩:=run_append_own_at (P:=P) w base t o.type e i z size bytes ht hi hz JT XB XH IG v n xs FU ad m c news hl GN h1 h63 KZ JI;exact Ug
theorem Df (base p:Nat) (hp:base<=p) (s:dN) (o:fV) (wo:World) (Q:eX base wo p s) (hs:dP s=true) (hk:o.k=1) :
 Calls Tryz.prog 80 (PO p o.k o.id o.n o.m o.name o.d o.t) wo (iD base p wo (eF s)):=by
 obtain ⟨ts,gs,ss,nx⟩:=s;obtain ⟨ok,oi,on,om,GE,od,ot⟩:=o;dsimp only at *;subst hk;have HQ:=DX Q;obtain ⟨aT,cT,aG,cG,aS,cS,hb,oT,oG,oS⟩:=Q.rows;dsimp only at *
 have GY:base<=wo.heap.size:=by have:=hb.lt;omega
 have MG:p<wo.heap.size:=hb.lt;have HP:=DX hb;have LB:=DX (bR hs)
 obtain ⟨XX,GR⟩:∃ XX,XX=(eF ⟨ts,gs,ss,nx⟩):=⟨_,rfl⟩
 rw [<- GR];have HX:=DX GR;clear GR;obtain ⟨lT,rT,zT,lG,rG,zG,lS,rS,zS,n0,n1⟩:=bR hs;dsimp only at *;have HB:=DX ((EY wo (LO 1 oi on om GE od ot) 35).kept ((EX _).alloc (KR)));have HR:=DX (FB wo LR 47 ((KO 1 oi on om GE od ot)));have HK:=DX (((EX wo).alloc ((KO 1 oi on om GE od ot))).alloc (KR));have OK:=DX oS;obtain ⟨i0,IY,GV,GJ,GO⟩:=kA Tryz.prog BE;have HI:=DX (EC IY (EC GV (EC GJ GO)))
 have mixed:Tryz.prog.follows Departure.mixedOrders=true:=by kernel_rfl
 by_cases hfull:8<=ss.length
 . have GU:decide ((8:Int)<=(ss.length:Int))=true:=DZ aE
   have aBD:decide (8<=ss.length)=true:=DZ hfull
   have XE:ss.length>=8\/nx=1073741824:=.inl hfull
   have GI:=DX (show eF ⟨ts,gs,ss,nx⟩=(⟨ts,gs,ss,nx⟩,aY 2) from if_pos XE);clear hfull;exact Wf
 . have GU:decide ((8:Int)<=(ss.length:Int))=false:=DY aE
   have aBD:decide (8<=ss.length)=false:=DY hfull
   by_cases TF:nx=1073741824
   . have XE:ss.length>=8\/nx=1073741824:=.inr TF
     have GI:=DX (show eF ⟨ts,gs,ss,nx⟩=(⟨ts,gs,ss,nx⟩,aY 2) from if_pos XE);have JH:decide ((1073741824:Int)<=nx)=true:=DZ aE;clear hfull TF;exact Wf
   . have JH:decide ((1073741824:Int)<=nx)=false:=DY aE
     have GI:=DX (show eF ⟨ts,gs,ss,nx⟩=(⟨ts,gs,ss++[⟨nx,ByteArray.empty⟩],nx+1⟩,dY nx) from if_neg (show ¬ (ss.length>=8\/nx=1073741824) by omega))
     have FV:nx<1073741824:=by omega
     clear TF hfull;clear rT zT rG zG rS zS oT oG oS Q hb hs IY GV GJ GO;go_enter Tryz.func80,Tryz.ntmps80
     go_upto_region 1 with (fail)
     generalize (wo.alloc ((KO 1 oi on om GE od ot))).alloc (KR)=w1 at *
     have b0:w1.cell? ⟨wo.heap.size,0,none⟩=some (.int .i64 1):=HB.out.cell 0;obtain ⟨r0,r1,r2,r3⟩:=aI (HP.out.kept HK.out)
     go_upto_region 4 with (fail)
     clear b0;have NP:=DX (HK.out.trans (((EX w1).alloc (.cells #[.int .i64 nx,.string { data:=#[] }] 65)).drew));have HRa:=DX (HR.out.kept (((EX w1).alloc (.cells #[.int .i64 nx,.string { data:=#[] }] 65)).drew));have WV:=DX (aH OK.out NP.out);have MC:=dX.own WV.out;have hpa:=HP.out.kept NP.out;have HL1:=DX (show (ss++[(⟨nx,ByteArray.empty⟩:Se)]).length=ss.length+1 by simp);have NG:=DX (show (ss++[(⟨nx,ByteArray.empty⟩:Se)]).flatMap fJ=ss.flatMap fJ++[.int .i64 nx,.string ByteArray.empty] by simp [fJ]);have IG:=NP.out.size
     have e2:=fun o=>((HP.out.kept HK.out).kept ((EX w1).alloc o)).cell 2
     have e3:=fun o=>((HP.out.kept HK.out).kept ((EX w1).alloc o)).cell 3
     simp only [List.getElem?_toArray,List.getElem?_cons_zero,List.getElem?_cons_succ] at e2 e3;go_region_law_o (refine rI rfl (.tmp 29) (.tmp 35) 24 rfl base 65 i0 (.agg #[.int .i64 0,.string ByteArray.empty]) 2 24 EU HI.out.1 HI.out.2.1 HI.out.2.2.1 HI.out.2.2.2 rfl aF _ _ _ rfl WV.out ⟨w1.heap.size,0,none⟩ 1 1 [.int .i64 nx,.string ByteArray.empty] rfl rfl (yB w1 ⟨nx,ByteArray.empty⟩ _) (by intro u hu;simp at hu;rcases hu with rfl | rfl <;> rfl) (by unfold maxLen;omega) aE aE ?_;intro v9 w9 FU IB;obtain ⟨a9,c9,rfl⟩:=aP FU;have hp9:=aM hpa IB (MC.ne hpa aF);obtain ⟨p0,p1,p2,p3⟩:=aI hp9;have f9:=hp9.free 2)
     all_goals
      rw [<- HL1.out,<- NG.out] at FU
      obtain ⟨MB,KB⟩:=(HQ.out.kept NP.out).putS hp (ss++[⟨nx,ByteArray.empty⟩]) IB MC FU
      rw [HL1.out] at MB KB;have LZ:=DX MB;have RM:=DX ((FA NP.out GY).trans KB);have IW:=DX (KB.blk _ _ _ HRa.out aE aF aF aF);clear FU IB MC MB KB hpa hp9 p0 p1 p2 p3 f9 e2 e3 r0 r1 r2 r3;generalize w9.setCell ⟨p,2,none⟩ (.slice a9 (ss.length+1) c9)=w4 at *;obtain ⟨_,_,_,_,_,_,IM,_⟩:=LZ.out.rows;dsimp only at IM;obtain ⟨r0,r1,r2,r3⟩:=aI IM;have f0:=IM.free 3;obtain ⟨UJ,QJ⟩:=LZ.out.putN hp (nx+1);have SC:=DX UJ;have OJ:=DX (RM.out.trans QJ);have KE:=DX (QJ.blk _ _ _ IW.out aE aF aF aF);have VK:=DX (IM.set (i:=3) (.int .i64 (nx+1)));clear UJ QJ IM
      go_upto_region 6 with (fail)
      generalize w4.setCell ⟨p,3,none⟩ (.int .i64 (nx+1))=w5 at *;clear r0 r1 r2 r3 f0
      have r3:w5.cell? ⟨p,3,none⟩=some (.int .i64 (nx+1)):=by have:=VK.out.cell 3;simpa using this
      have NV:nx+1 - 1=nx:=by omega
      go_wp2_with (refine aD rfl 47 (.tmp 4) (.tmp 51) rfl (wo.heap.size+1) (bB (dY nx)) LR 47 rfl rfl KE.out AX rfl (aL _) ?_)
      refine EI (v:=bW (dY nx)) ?_ rfl ?_
      . exact EH rfl _ _ (wo.heap.size+1) 47 (bB (dY nx)) (0,0) _ rfl (KE.out.setRow _) EV rfl AX
      . exact Pf
end Go.Proofs.YtkfmladhicapeaaGreatDoor
