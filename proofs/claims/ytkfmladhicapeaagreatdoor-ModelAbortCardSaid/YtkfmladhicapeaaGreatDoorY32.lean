import Derived.Test.YtkfmladhicapeaaGreatDoorY31
set_option maxRecDepth 100000
set_option maxHeartbeats 2000000
namespace Go.Proofs.YtkfmladhicapeaaGreatDoor
open Go.RowKit Go.Shelf
attribute [local go_sem] Oper.semAt_some
theorem Dw (base p:Nat) (hp:base<=p) (s:dN) (o:fV) (w:World) (Q:eX base w p s) (hs:dP s=true) (hE:uR w) :
 Calls Tryz.prog 71 (PO p o.k o.id o.n o.m o.name o.d o.t) w (iD base p w (eD s o.id o.d)):=by
 obtain ⟨ts,gs,ss,nx⟩:=s;obtain ⟨ok,oi,on,om,GE,od,ot⟩:=o;dsimp only at *;have HQ:=DX Q;obtain ⟨aT,cT,aG,cG,aS,cS,hb,oT,oG,oS⟩:=Q.rows;dsimp only at *
 have GY:base<=w.heap.size:=by have:=hb.lt;omega
 have MG:p<w.heap.size:=hb.lt;have HP:=DX hb
 obtain ⟨XX,GR⟩:∃ XX,XX=(eD ⟨ts,gs,ss,nx⟩ oi od):=⟨_,rfl⟩
 rw [<- GR];have HX:=DX GR;clear GR;obtain ⟨lT,rT,zT,lG,rG,zG,lS,rS,zS,n0,n1⟩:=bR hs;dsimp only at *;obtain ⟨_,_,hv,hI⟩:=gO oS rfl aE (fun x hx=>EF (zS x hx) aF);cases hv;obtain ⟨hf,hl⟩:=By rS oi;have HA:=DX (fun w' (k:aB w w')=>uC aT aG aS ts.length gs.length ss.length cT cG cS nx ss oi w' (hI.kept k) rS);have HB:=DX ((EY w (LO ok oi on om GE od ot) 35).kept ((EX _).alloc (KR)));have HR:=DX (FB w LR 47 ((KO ok oi on om GE od ot)));have HK:=DX (((EX w).alloc ((KO ok oi on om GE od ot))).alloc (KR))
 by_cases GA:fR ss oi<ss.length
 . rw [hf,hl GA,DZ GA] at HA
   have LB:=DX (bR hs);have HE:=DX hE;obtain ⟨g,rfl⟩:=cA oS aE;have HC:=DX (fun w' (k:aB w w')=>((aH oS k).cellAt (fR ss oi*2+1) aE).trans (nP ss (fR ss oi) GA).2);have JJ:=DX (show eD ⟨ts,gs,ss,nx⟩ oi od=_ from if_pos GA);dsimp only at JJ;have GO:=zS _ (bY bQ GA);clear hE;clear hs hf hl hI rT zT rG zG rS zS oT oG oS Q hb;generalize fR ss oi=z at *;go_enter Tryz.func71,Tryz.ntmps71
   go_upto_region 1 with (fail)
   generalize (w.alloc ((KO ok oi on om GE od ot))).alloc (KR)=w1 at *
   obtain ⟨r0,r1,r2,r3⟩:=aI (HP.out.kept HK.out);have q0:w1.cell? ⟨w.heap.size,1,none⟩=some (.int .i64 oi):=HB.out.cell 1;have l0:=aC r0;have l1:=aC r1;have l2:=aC r2;have l3:=aC r3;have l4:=aC q0;clear r0 r1 r2 r3 q0;have GX:=DX (fun u:bF w1=>HA.out u.1 (HK.out.trans u.2))
   refine aJ aW aW ?_
   repeat (go_big_quiet_step ((go_at_call 96;exact aK (GX.out _))))
   refine wpQuiet_nil ?_
   intro _ GD;obtain ⟨nq,FT⟩:=GD;subst FT;have FW:=DX (HK.out.trans nq.2);have GK:=DX (HR.out.kept nq.2);have GP:=DX (HB.out.kept nq.2);clear l0 l1 l2 l3 l4 GX HA HR HB;generalize nq.1=w2 at *;obtain ⟨r0,r1,r2,r3⟩:=aI (HP.out.kept FW.out);have c1:=HC.out w2 FW.out
   generalize (ss.getD z bQ).t=X at *
   obtain ⟨D,hD⟩:∃ D,D=dg X.data.toList:=⟨_,rfl⟩
   have hX:X.size<=2000:=GO;have SR:=DX (fun (u:bF w2)=>show Calls Tryz.prog 87 #[.string X] u.1 fun e w'=>e=.returned (.string D)/\aB u.1 w' by rw [hD];exact Cg X aE u.1 (HE.out.kept (FW.out.trans u.2)).b (HE.out.kept (FW.out.trans u.2)).o);rw [<- hD] at JJ;have q1:w2.cell? ⟨w.heap.size,5,none⟩=some (.string od):=GP.out.cell 5;have e1:=aC q1;clear hD q1
   go_upto_region 5 with (fail)
   clear r0 r1 r2 r3 c1
   by_cases MI:D=od
   . have hq:(D.toList != od.toList)=false:=by rw [MI];simp
     have XF:(D.toList == od.toList)=true:=by rw [MI];simp
     have OI:=DX (JJ.out.trans (if_pos MI));clear MI JJ;go_wp2_with fail
     refine aJ aW aW ?_
     repeat (go_big_quiet_step ((go_at_call 87;exact aK (SR.out _))))
     refine wpQuiet_nil ?_
     intro _ GD;obtain ⟨nq,FT⟩:=GD;subst FT;have GC:=DX (FW.out.trans nq.2);have JG:=DX (GK.out.kept nq.2);have IU:=DX (GP.out.kept nq.2);clear e1 SR;generalize nq.1=w3 at *;have q5:w3.cell? ⟨w.heap.size,5,none⟩=some (.string od):=IU.out.cell 5
     by_cases JN:cQ ts od<ts.length
     . have OO:=DX (show Calls Tryz.prog 97 #[.pointer (some ⟨p,0,none⟩),.agg (LT od X false)] w3 fun e w'=>e=.returned (.int .i64 0)/\eX base w' p ⟨ts,gs,ss,nx⟩/\Fr base p w3 w' by have h:=nA base p hp ⟨ts,gs,ss,nx⟩ ⟨od,X,false⟩ w3 (HQ.out.kept GC.out) LB.out;rw [show tH ⟨ts,gs,ss,nx⟩ ⟨od,X,false⟩=(⟨ts,gs,ss,nx⟩,0) from if_pos JN] at h;exact h)
       have GI:=DX (OI.out.trans (if_pos JN));clear OI JN;exact Xj
     . by_cases hful:ts.length>=60
       . have GI:=DX ((OI.out.trans (if_neg JN)).trans (if_pos hful))
         have OO:=DX (show Calls Tryz.prog 97 #[.pointer (some ⟨p,0,none⟩),.agg (LT od X false)] w3 fun e w'=>e=.returned (.int .i64 2)/\eX base w' p ⟨ts,gs,ss,nx⟩/\Fr base p w3 w' by have h:=nA base p hp ⟨ts,gs,ss,nx⟩ ⟨od,X,false⟩ w3 (HQ.out.kept GC.out) LB.out;rw [show tH ⟨ts,gs,ss,nx⟩ ⟨od,X,false⟩=(⟨ts,gs,ss,nx⟩,2) from (if_neg JN).trans (if_pos hful)] at h;exact h);clear OI JN hful;go_wp2_with fail
         refine OO.out.mono ?_
         rintro e w4 ⟨rfl,MB,KB⟩;have LZ:=DX MB;have RM:=DX ((FA GC.out GY).trans KB);have IW:=DX (KB.blk _ _ _ JG.out aE aF aF aF);clear MB KB OO;go_wp2_with fail
         refine (bU 2 _).mono ?_
         rintro e w9 ⟨rfl,GF⟩;have XU:=DX (LZ.out.kept GF);have HF9:=DX (RM.out.trans (FA GF (EF GY RM.out.low.size)));have JM:=DX (IW.out.kept GF);clear GF;go_wp2_with (refine aD rfl 47 (.tmp 4) (.tmp 44) rfl (w.heap.size+1) (bB (aY 2)) LR 47 rfl rfl JM.out AX rfl (aL _) ?_)
         refine EI (v:=bW (aY 2)) ?_ rfl ?_
         . exact Oa
         . exact Si
       . have GI:=DX ((OI.out.trans (if_neg JN)).trans (if_neg hful))
         have OO:=DX (show Calls Tryz.prog 97 #[.pointer (some ⟨p,0,none⟩),.agg (LT od X false)] w3 fun e w'=>e=.returned (.int .i64 0)/\eX base w' p ⟨iR ts ⟨od,X,false⟩,gs,ss,nx⟩/\Fr base p w3 w' by have h:=nA base p hp ⟨ts,gs,ss,nx⟩ ⟨od,X,false⟩ w3 (HQ.out.kept GC.out) LB.out;rw [show tH ⟨ts,gs,ss,nx⟩ ⟨od,X,false⟩=(⟨iR ts ⟨od,X,false⟩,gs,ss,nx⟩,0) from (if_neg JN).trans (if_neg hful)] at h;exact h);clear OI JN hful;generalize iR ts ⟨od,X,false⟩=NT at *;exact Xj
   . have hq:(D.toList != od.toList)=true:=(dM (fun e=>MI e)).2.2
     have XF:(D.toList == od.toList)=false:=(dM (fun e=>MI e)).2.1
     have GI:=DX (JJ.out.trans (if_neg MI));clear MI JJ;go_wp2_with fail
     refine aJ aW aW ?_
     repeat (go_big_quiet_step ((go_at_call 87;exact aK (SR.out _))))
     refine wpQuiet_nil ?_
     intro _ GD;obtain ⟨nq,FT⟩:=GD;subst FT;have GC:=DX (FW.out.trans nq.2);have JG:=DX (GK.out.kept nq.2);clear e1 SR;generalize nq.1=w3 at *;go_wp2_with fail
     refine (bU 7 _).mono ?_
     rintro e w9 ⟨rfl,GF⟩;have JQ:=DX (GC.out.trans GF);have JM:=DX (JG.out.kept GF);clear GF;go_wp2_with (refine aD rfl 47 (.tmp 4) (.tmp 34) rfl (w.heap.size+1) (bB (aY 7)) LR 47 rfl rfl JM.out AX rfl (aL _) ?_)
     refine EI (v:=bW (aY 7)) ?_ rfl ?_
     . exact Tp
     . exact xN
 . rw [hf,DY GA] at HA
   have GI:=DX (show eD ⟨ts,gs,ss,nx⟩ oi od=(⟨ts,gs,ss,nx⟩,aY 3) from if_neg GA);clear hs hf hl hI rT zT rG zG rS zS oT oG oS Q hb;generalize zF ss oi=z at *;clear GA;go_enter Tryz.func71,Tryz.ntmps71
   go_upto_region 1 with (fail)
   generalize (w.alloc ((KO ok oi on om GE od ot))).alloc (KR)=w1 at *
   obtain ⟨r0,r1,r2,r3⟩:=aI (HP.out.kept HK.out);have q0:w1.cell? ⟨w.heap.size,1,none⟩=some (.int .i64 oi):=HB.out.cell 1;have l0:=aC r0;have l1:=aC r1;have l2:=aC r2;have l3:=aC r3;have l4:=aC q0;clear r0 r1 r2 r3 q0;have GX:=DX (fun u:bF w1=>HA.out u.1 (HK.out.trans u.2))
   refine aJ aW aW ?_
   repeat (go_big_quiet_step ((go_at_call 96;exact aK (GX.out _))))
   refine wpQuiet_nil ?_
   intro _ GD;obtain ⟨nq,FT⟩:=GD;subst FT;have FW:=DX (HK.out.trans nq.2);have GK:=DX (HR.out.kept nq.2);have GP:=DX (HB.out.kept nq.2);clear l0 l1 l2 l3 l4 GX HA HR HB;generalize nq.1=w2 at *;go_wp2_with fail
   refine (bU 3 _).mono ?_
   rintro e w9 ⟨rfl,GF⟩;have JQ:=DX (FW.out.trans GF);have JM:=DX (GK.out.kept GF);clear GF;go_wp2_with (refine aD rfl 47 (.tmp 4) (.tmp 20) rfl (w.heap.size+1) (bB (aY 3)) LR 47 rfl rfl JM.out AX rfl (aL _) ?_)
   refine EI (v:=bW (aY 3)) ?_ rfl ?_
   . exact yX
   . exact xN
theorem Ly (base p:Nat) (hp:base<=p) (s:dN) (o:fV) (w:World) (Q:eX base w p s) (hs:dP s=true) (hE:uR w) (OB:o.t.size<=140737488351232) :
 Calls Tryz.prog 74 (PO p o.k o.id o.n o.m o.name o.d o.t) w (iD base p w (iC s o.t)):=by
 obtain ⟨ts,gs,ss,nx⟩:=s;obtain ⟨ok,oi,on,om,GE,od,ot⟩:=o;dsimp only at *;have HQ:=DX Q;obtain ⟨aT,cT,aG,cG,aS,cS,hb,oT,oG,oS⟩:=Q.rows;dsimp only at *
 have GY:base<=w.heap.size:=by have:=hb.lt;omega
 have MG:p<w.heap.size:=hb.lt;have HP:=DX hb
 obtain ⟨XX,GR⟩:∃ XX,XX=(iC ⟨ts,gs,ss,nx⟩ ot):=⟨_,rfl⟩
 rw [<- GR];have HX:=DX GR;clear GR;obtain ⟨lT,rT,zT,lG,rG,zG,lS,rS,zS,n0,n1⟩:=bR hs;dsimp only at *;have LB:=DX (bR hs);have HE:=DX hE;obtain ⟨_,_,hv,hI⟩:=cI oT rfl aE (fun x hx=>by have:=zT x hx;omega);cases hv;have JV:=DX hI;have HRT:=DX rT
 obtain ⟨m,hm⟩:∃ m,m=pR (bJ ot):=⟨_,rfl⟩
 have HB:=DX ((EY w (LO ok oi on om GE od ot) 35).kept ((EX _).alloc (KR)));have HR:=DX (FB w LR 47 ((KO ok oi on om GE od ot)));have HK:=DX (((EX w).alloc ((KO ok oi on om GE od ot))).alloc (KR))
 cases ho:bJ ot with
 | none =>
  have GI:=DX (show iC ⟨ts,gs,ss,nx⟩ ot=(⟨ts,gs,ss,nx⟩,aY 7) by unfold iC;rw [ho];rfl);have QZ:=DX (fun w'=>oF ot m false hm (by rw [ho];rfl) w');clear hm ho hs hE zT rT zG rG zS rS oT oG oS Q hb hI;obtain ⟨mk,mb,mu⟩:=m;dsimp only at QZ;rw [show (if false=true then (0:Int) else 7)=7 from rfl] at QZ;go_enter Tryz.func74,Tryz.ntmps74
  go_upto_region 1 with (fail)
  generalize (w.alloc ((KO ok oi on om GE od ot))).alloc (KR)=w1 at *
  have q6:w1.cell? ⟨w.heap.size,6,none⟩=some (.string ot):=HB.out.cell 6;go_wp2_with fail
  refine (QZ.out w1).mono ?_
  rintro e w2 ⟨ab,cb,au,cu,rfl,PY,PZ,FX⟩
  go_upto_region 2 with (fail)
  have GC:=DX (HK.out.trans (FX.alloc ((KM mk ab mb.length cb au mu.length cu))));have JG:=DX (HR.out.kept (FX.alloc ((KM mk ab mb.length cb au mu.length cu))));have IU:=DX (HB.out.kept (FX.alloc ((KM mk ab mb.length cb au mu.length cu))));have HM3:=DX (EY w2 (LM mk ab mb.length cb au mu.length cu) 85);have ST:=DX (PY.kept ((EX _).alloc ((KM mk ab mb.length cb au mu.length cu))));have SD:=DX (PZ.kept ((EX _).alloc ((KM mk ab mb.length cb au mu.length cu))));clear PY PZ FX q6 QZ HR HB;generalize w2.alloc ((KM mk ab mb.length cb au mu.length cu))=w3 at *;go_wp2_with fail
  refine (bU 7 _).mono ?_
  rintro e w9 ⟨rfl,GF⟩;have JQ:=DX (GC.out.trans GF);have JM:=DX (JG.out.kept GF);clear GF;go_wp2_with (refine aD rfl 47 (.tmp 4) (.tmp 17) rfl (w.heap.size+1) (bB (aY 7)) LR 47 rfl rfl JM.out AX rfl (aL _) ?_)
  refine EI (v:=bW (aY 7)) ?_ rfl ?_
  . exact Tp
  . exact xN
 | some m1 =>
  have HFW:=DX (wB ho);have QZ:=DX (fun w'=>oF ot m1 true (by rw [ho];rfl) (by rw [ho];rfl) w');have RO:=DX (show iN ts ot=(m1.bs.all (fun d=>iZ ts d false)&&m1.us.all (fun d=>iZ ts d true)) by unfold iN;rw [ho]);have JJ:=DX (show iC ⟨ts,gs,ss,nx⟩ ot=_ from if_pos (by rw [ho];rfl));dsimp only at JJ;clear hm ho hs hE zT rT zG rG zS rS oT oG oS Q hb hI;obtain ⟨mk,mb,mu⟩:=m1;dsimp only at QZ RO HFW;rw [show (if true=true then (0:Int) else 7)=0 from rfl] at QZ;go_enter Tryz.func74,Tryz.ntmps74
  go_upto_region 1 with (fail)
  generalize (w.alloc ((KO ok oi on om GE od ot))).alloc (KR)=w1 at *
  have q6:w1.cell? ⟨w.heap.size,6,none⟩=some (.string ot):=HB.out.cell 6;go_wp2_with fail
  refine (QZ.out w1).mono ?_
  rintro e w2 ⟨ab,cb,au,cu,rfl,PY,PZ,FX⟩
  go_upto_region 2 with (fail)
  have GC:=DX (HK.out.trans (FX.alloc ((KM mk ab mb.length cb au mu.length cu))));have JG:=DX (HR.out.kept (FX.alloc ((KM mk ab mb.length cb au mu.length cu))));have IU:=DX (HB.out.kept (FX.alloc ((KM mk ab mb.length cb au mu.length cu))));have HM3:=DX (EY w2 (LM mk ab mb.length cb au mu.length cu) 85);have ST:=DX (PY.kept ((EX _).alloc ((KM mk ab mb.length cb au mu.length cu))));have SD:=DX (PZ.kept ((EX _).alloc ((KM mk ab mb.length cb au mu.length cu))));clear PY PZ FX q6 QZ HR HB;generalize w2.alloc ((KM mk ab mb.length cb au mu.length cu))=w3 at *
  obtain ⟨NM,UY⟩:∃ NM,NM=iN ts ot:=⟨_,rfl⟩
  rw [<- UY] at RO;have HWH:=DX (fun (u:bF w3)=>show Calls Tryz.prog 89 #[.agg (LS aT ts.length cT aG gs.length cG aS ss.length cS nx),.agg (LM mk ab mb.length cb au mu.length cu)] u.1 fun e w'=>e=.returned (.bool NM)/\aB u.1 w' by rw [RO.out];exact wD aT aG aS ab au ts.length gs.length ss.length cT cG cS cb cu nx mk ts mb mu u.1 (JV.out.kept (GC.out.trans u.2)) HRT.out (ST.out.kept u.2) (SD.out.kept u.2) HFW.out);clear RO;obtain ⟨r0,r1,r2,r3⟩:=aI (HP.out.kept GC.out);obtain ⟨d0,d1,d2⟩:=dI HM3.out;have l0:=aC r0;have l1:=aC r1;have l2:=aC r2;have l3:=aC r3;have e0:=aC d0;have e1:=aC d1;have e2:=aC d2;clear r0 r1 r2 r3 d0 d1 d2
  cases NM with
  | true =>
   have HDR:=DX (JJ.out.trans (if_pos (by rw [<- UY])));clear UY JJ;go_wp2_with fail
   refine aJ aW aW ?_
   repeat (go_big_quiet_step ((go_at_call 89;exact aK (HWH.out _))))
   refine wpQuiet_nil ?_
   intro _ GD;obtain ⟨nq,FT⟩:=GD;subst FT;have GQ:=DX (GC.out.trans nq.2);have IW:=DX (JG.out.kept nq.2);have KY:=DX (IU.out.kept nq.2);clear l0 l1 l2 l3 e0 e1 e2 HWH JG IU HM3 ST SD;generalize nq.1=w4 at *
   obtain ⟨D,hD⟩:∃ D,D=dg ot.data.toList:=⟨_,rfl⟩
   rw [<- hD] at HDR;have SR:=DX (show Calls Tryz.prog 87 #[.string ot] w4 fun e w'=>e=.returned (.string D)/\aB w4 w' by rw [hD];exact Cg ot aE w4 (HE.out.kept GQ.out).b (HE.out.kept GQ.out).o);clear hD;have q6:w4.cell? ⟨w.heap.size,6,none⟩=some (.string ot):=KY.out.cell 6;go_wp2_with fail
   refine SR.out.mono ?_
   rintro e w5 ⟨rfl,GZ⟩;have IQ:=DX (GQ.out.trans GZ);have JG:=DX (IW.out.kept GZ);have VK:=DX (KY.out.kept GZ);clear GZ SR q6 IW KY;have q6:w5.cell? ⟨w.heap.size,6,none⟩=some (.string ot):=VK.out.cell 6;have OI:=HDR
   by_cases JN:cQ ts D<ts.length
   . have OO:=DX (show Calls Tryz.prog 97 #[.pointer (some ⟨p,0,none⟩),.agg (LT D ot true)] w5 fun e w'=>e=.returned (.int .i64 0)/\eX base w' p ⟨ts,gs,ss,nx⟩/\Fr base p w5 w' by have h:=nA base p hp ⟨ts,gs,ss,nx⟩ ⟨D,ot,true⟩ w5 (HQ.out.kept IQ.out) LB.out;rw [show tH ⟨ts,gs,ss,nx⟩ ⟨D,ot,true⟩=(⟨ts,gs,ss,nx⟩,0) from if_pos JN] at h;exact h)
     have GI:=DX (OI.out.trans (if_pos JN));clear OI JN;exact Xn
   . by_cases hful:ts.length>=60
     . have GI:=DX ((OI.out.trans (if_neg JN)).trans (if_pos hful))
       have OO:=DX (show Calls Tryz.prog 97 #[.pointer (some ⟨p,0,none⟩),.agg (LT D ot true)] w5 fun e w'=>e=.returned (.int .i64 2)/\eX base w' p ⟨ts,gs,ss,nx⟩/\Fr base p w5 w' by have h:=nA base p hp ⟨ts,gs,ss,nx⟩ ⟨D,ot,true⟩ w5 (HQ.out.kept IQ.out) LB.out;rw [show tH ⟨ts,gs,ss,nx⟩ ⟨D,ot,true⟩=(⟨ts,gs,ss,nx⟩,2) from (if_neg JN).trans (if_pos hful)] at h;exact h);clear OI JN hful;go_wp2_with fail
       refine OO.out.mono ?_
       rintro e w6 ⟨rfl,MB,KB⟩;have LZ:=DX MB;have RM:=DX ((FA IQ.out GY).trans KB);have IW:=DX (KB.blk _ _ _ JG.out aE aF aF aF);clear MB KB OO;go_wp2_with fail
       refine (bU 2 _).mono ?_
       rintro e w9 ⟨rfl,GF⟩;have XU:=DX (LZ.out.kept GF);have HF9:=DX (RM.out.trans (FA GF (EF GY RM.out.low.size)));have JM:=DX (IW.out.kept GF);clear GF;go_wp2_with (refine aD rfl 47 (.tmp 4) (.tmp 37) rfl (w.heap.size+1) (bB (aY 2)) LR 47 rfl rfl JM.out AX rfl (aL _) ?_)
       refine EI (v:=bW (aY 2)) ?_ rfl ?_
       . exact Oa
       . exact Si
     . have GI:=DX ((OI.out.trans (if_neg JN)).trans (if_neg hful))
       have OO:=DX (show Calls Tryz.prog 97 #[.pointer (some ⟨p,0,none⟩),.agg (LT D ot true)] w5 fun e w'=>e=.returned (.int .i64 0)/\eX base w' p ⟨iR ts ⟨D,ot,true⟩,gs,ss,nx⟩/\Fr base p w5 w' by have h:=nA base p hp ⟨ts,gs,ss,nx⟩ ⟨D,ot,true⟩ w5 (HQ.out.kept IQ.out) LB.out;rw [show tH ⟨ts,gs,ss,nx⟩ ⟨D,ot,true⟩=(⟨iR ts ⟨D,ot,true⟩,gs,ss,nx⟩,0) from (if_neg JN).trans (if_neg hful)] at h;exact h);clear OI JN hful;generalize iR ts ⟨D,ot,true⟩=NT at *;exact Xn
  | false =>
   have GI:=DX (JJ.out.trans (if_neg (by rw [<- UY];decide)));clear UY JJ;go_wp2_with fail
   refine aJ aW aW ?_
   repeat (go_big_quiet_step ((go_at_call 89;exact aK (HWH.out _))))
   refine wpQuiet_nil ?_
   intro _ GD;obtain ⟨nq,FT⟩:=GD;subst FT;have GQ:=DX (GC.out.trans nq.2);have IW:=DX (JG.out.kept nq.2);clear l0 l1 l2 l3 e0 e1 e2 HWH JG IU HM3 ST SD;generalize nq.1=w4 at *;go_wp2_with fail
   refine (bU 3 _).mono ?_
   rintro e w9 ⟨rfl,GF⟩;have JQ:=DX (GQ.out.trans GF);have JM:=DX (IW.out.kept GF);clear GF;go_wp2_with (refine aD rfl 47 (.tmp 4) (.tmp 24) rfl (w.heap.size+1) (bB (aY 3)) LR 47 rfl rfl JM.out AX rfl (aL _) ?_)
   refine EI (v:=bW (aY 3)) ?_ rfl ?_
   . exact yX
   . exact xN
theorem Ok (base p:Nat) (hp:base<=p) (s:dN) (o:fV) (w:World) (Q:eX base w p s) (hs:dP s=true) (hE:uR w) (MA:o.name.size<=1000000) :
 Calls Tryz.prog 75 (PO p o.k o.id o.n o.m o.name o.d o.t) w (iD base p w (mC s o.name o.d)):=by
 obtain ⟨ts,gs,ss,nx⟩:=s;obtain ⟨ok,oi,on,om,GE,od,ot⟩:=o;dsimp only at *;have HQ:=DX Q;obtain ⟨aT,cT,aG,cG,aS,cS,hb,oT,oG,oS⟩:=Q.rows;dsimp only at *
 have GY:base<=w.heap.size:=by have:=hb.lt;omega
 have MG:p<w.heap.size:=hb.lt;have HP:=DX hb
 obtain ⟨XX,GR⟩:∃ XX,XX=(mC ⟨ts,gs,ss,nx⟩ GE od):=⟨_,rfl⟩
 rw [<- GR];have HX:=DX GR;clear GR;obtain ⟨lT,rT,zT,lG,rG,zG,lS,rS,zS,n0,n1⟩:=bR hs;dsimp only at *;have HE:=DX hE;obtain ⟨_,_,hv,hI⟩:=cI oT rfl aE (fun x hx=>by have:=zT x hx;omega);cases hv;obtain ⟨_,_,hv,hJ⟩:=eA oG rfl aE (fun x hx=>by have:=zG x hx;omega);cases hv;obtain ⟨hf,hl⟩:=Me rG GE;have ML:=DX (fun w' (k:aB w w')=>Dk aT aG aS ts.length gs.length ss.length cT cG cS nx ts od true w' (hI.kept k) rT);have HA:=DX (fun w' (k:aB w w')=>yY aT aG aS ts.length gs.length ss.length cT cG cS nx gs GE w' (hJ.kept k) rG);have KQ:=DX (fun w' (k:aB w w')=>Ah GE w' MA (HE.out.kept k).m);have VR:=DX oT;have WW:=DX oG;have OK:=DX oS;have HZ:=DX (Ii gs GE);have HB:=DX ((EY w (LO ok oi on om GE od ot) 35).kept ((EX _).alloc (KR)));have HR:=DX (FB w LR 47 ((KO ok oi on om GE od ot)));have HK:=DX (((EX w).alloc ((KO ok oi on om GE od ot))).alloc (KR))
 by_cases UH:dV GE=true
 . have HDN:=DX (show mC ⟨ts,gs,ss,nx⟩ GE od=_ from if_pos UH)
   try dsimp only at HDN
   rw [show kJ GE=0 by unfold kJ;rw [if_pos UH]] at KQ;clear UH
   by_cases his:iZ ts od true=true
   . have HDI:=DX (HDN.out.trans (if_pos his))
     rw [his] at ML;clear his HDN
     by_cases GA:gK gs GE<gs.length
     . rw [hf,hl GA,DZ GA] at HA
       have GI:=DX (HDI.out.trans (if_pos GA))
       try dsimp only at GI
       obtain ⟨g,rfl⟩:=cA oG aE;have OU:=DX (mM od gs (gK gs GE) GA);have HCI:=DX (fun w' (k:aB w w')=>((aH oG k).cellAt (gK gs GE*2+1) aE).trans (oB gs (gK gs GE) GA).2);have HFZ:=DX (fun w' (k:aB w w')=>(aH oG k).frozenAt (gK gs GE*2+1));clear hs hE hI hJ hl rT zT rG zG rS zS oT oG oS Q hb;clear hf HDI;generalize gK gs GE=z at *;go_enter Tryz.func75,Tryz.ntmps75
       go_upto_region 1 with (fail)
       generalize (w.alloc ((KO ok oi on om GE od ot))).alloc (KR)=w1 at *
       have q4:w1.cell? ⟨w.heap.size,4,none⟩=some (.string GE):=HB.out.cell 4;go_wp2_with fail
       refine (KQ.out w1 HK.out).mono ?_
       rintro e w2 ⟨rfl,FX⟩;have FW:=DX (HK.out.trans FX);have GK:=DX (HR.out.kept FX);have GP:=DX (HB.out.kept FX);clear FX q4 KQ HK HR HB;obtain ⟨r0,r1,r2,r3⟩:=aI (HP.out.kept FW.out);have q5:w2.cell? ⟨w.heap.size,5,none⟩=some (.string od):=GP.out.cell 5;have l0:=aC r0;have l1:=aC r1;have l2:=aC r2;have l3:=aC r3;have l4:=aC q5;clear r0 r1 r2 r3 q5;have QS:=DX (fun u:bF w2=>ML.out u.1 (FW.out.trans u.2));go_wp2_with fail
       refine aJ aW aW ?_
       repeat (go_big_quiet_step ((go_at_call 91;exact aK (QS.out _))))
       refine wpQuiet_nil ?_
       intro _ GD;obtain ⟨nq,FT⟩:=GD;subst FT;have GC:=DX (FW.out.trans nq.2);have JG:=DX (GK.out.kept nq.2);have IU:=DX (GP.out.kept nq.2);clear l0 l1 l2 l3 l4 QS ML GK GP FW;generalize nq.1=w3 at *;obtain ⟨r0,r1,r2,r3⟩:=aI (HP.out.kept GC.out);have q4:w3.cell? ⟨w.heap.size,4,none⟩=some (.string GE):=IU.out.cell 4;have l0:=aC r0;have l1:=aC r1;have l2:=aC r2;have l3:=aC r3;have l4:=aC q4;clear r0 r1 r2 r3 q4;have GX:=DX (fun u:bF w3=>HA.out u.1 (GC.out.trans u.2));go_wp2_with fail
       refine aJ aW aW ?_
       repeat (go_big_quiet_step ((go_at_call 104;exact aK (GX.out _))))
       refine wpQuiet_nil ?_
       intro _ GD;obtain ⟨nq,FT⟩:=GD;subst FT;have GQ:=DX (GC.out.trans nq.2);have IW:=DX (JG.out.kept nq.2);have KY:=DX (IU.out.kept nq.2);clear l0 l1 l2 l3 l4 GX HA JG IU GC;generalize nq.1=w4 at *;obtain ⟨r0,r1,r2,r3⟩:=aI (HP.out.kept GQ.out);have c1:=HCI.out w4 GQ.out;have f1:=HFZ.out w4 GQ.out;have q5:w4.cell? ⟨w.heap.size,5,none⟩=some (.string od):=KY.out.cell 5;go_wp2_with fail;go_region
       obtain ⟨h1,h2⟩:=(aH WW.out GQ.out).stored (z*2+1) (.string od)
       rw [<- OU.out] at h1
       have XD:w4.grownBy (w4.setCell ⟨g,z*2+1,none⟩ (.string od)).drew (some g):=⟨h2.os,h2.tape,h2.output,h2.size,fun k hk GW=>h2.block k hk GW⟩
       obtain ⟨UJ,QJ⟩:=eX.inG (gs':=gs.set z ⟨(gs.getD z bL).n,od⟩) (HP.out.kept GQ.out) (aH VR.out GQ.out) (aH OK.out GQ.out) XD (dX.of (aH WW.out GQ.out)) List.length_set h1.drew (EF GY GQ.out.size);have SC:=DX UJ;have OJ:=DX ((FA GQ.out GY).trans QJ);have KE:=DX (QJ.blk _ _ _ IW.out aE aF aF aF);clear r0 r1 r2 r3 c1 f1 q5 h1 h2 XD UJ QJ OU HCI HFZ
       generalize (w4.setCell ⟨g,z*2+1,none⟩ (.string od)).drew=w5 at *
       go_wp2_with (refine aD rfl 47 (.tmp 4) (.tmp 63) rfl (w.heap.size+1) (bB (fT)) LR 47 rfl rfl KE.out AX rfl (aL _) ?_)
       refine EI (v:=bW (fT)) ?_ rfl ?_
       . exact EH rfl _ _ (w.heap.size+1) 47 (bB (fT)) (0,0) _ rfl (KE.out.setRow _) EV rfl AX
       . exact Pf
     . rw [hf,DY GA] at HA
       have HDJ:=DX (HDI.out.trans (if_neg GA));clear HDI hf
       by_cases hful:gs.length>=40
       . have hd:decide ((40:Int)<=(gs.length:Int))=true:=DZ aE
         have WF:decide (40<=gs.length)=true:=DZ hful;have GI:=DX (HDJ.out.trans (if_pos hful));clear hs hE hI hJ hl rT zT rG zG rS zS oT oG oS Q hb;clear hful GA HDJ;generalize rJ gs GE=z at *;go_enter Tryz.func75,Tryz.ntmps75
         go_upto_region 1 with (fail)
         generalize (w.alloc ((KO ok oi on om GE od ot))).alloc (KR)=w1 at *
         have q4:w1.cell? ⟨w.heap.size,4,none⟩=some (.string GE):=HB.out.cell 4;go_wp2_with fail
         refine (KQ.out w1 HK.out).mono ?_
         rintro e w2 ⟨rfl,FX⟩;have FW:=DX (HK.out.trans FX);have GK:=DX (HR.out.kept FX);have GP:=DX (HB.out.kept FX);clear FX q4 KQ HK HR HB;obtain ⟨r0,r1,r2,r3⟩:=aI (HP.out.kept FW.out);have q5:w2.cell? ⟨w.heap.size,5,none⟩=some (.string od):=GP.out.cell 5;have l0:=aC r0;have l1:=aC r1;have l2:=aC r2;have l3:=aC r3;have l4:=aC q5;clear r0 r1 r2 r3 q5;have QS:=DX (fun u:bF w2=>ML.out u.1 (FW.out.trans u.2));go_wp2_with fail
         refine aJ aW aW ?_
         repeat (go_big_quiet_step ((go_at_call 91;exact aK (QS.out _))))
         refine wpQuiet_nil ?_
         intro _ GD;obtain ⟨nq,FT⟩:=GD;subst FT;have GC:=DX (FW.out.trans nq.2);have JG:=DX (GK.out.kept nq.2);have IU:=DX (GP.out.kept nq.2);clear l0 l1 l2 l3 l4 QS ML GK GP FW;generalize nq.1=w3 at *;obtain ⟨r0,r1,r2,r3⟩:=aI (HP.out.kept GC.out);have q4:w3.cell? ⟨w.heap.size,4,none⟩=some (.string GE):=IU.out.cell 4;have l0:=aC r0;have l1:=aC r1;have l2:=aC r2;have l3:=aC r3;have l4:=aC q4;clear r0 r1 r2 r3 q4;have GX:=DX (fun u:bF w3=>HA.out u.1 (GC.out.trans u.2));go_wp2_with fail
         refine aJ aW aW ?_
         repeat (go_big_quiet_step ((go_at_call 104;exact aK (GX.out _))))
         refine wpQuiet_nil ?_
         intro _ GD;obtain ⟨nq,FT⟩:=GD;subst FT;have GQ:=DX (GC.out.trans nq.2);have IW:=DX (JG.out.kept nq.2);have KY:=DX (IU.out.kept nq.2);clear l0 l1 l2 l3 l4 GX HA JG IU GC;generalize nq.1=w4 at *;obtain ⟨r0,r1,r2,r3⟩:=aI (HP.out.kept GQ.out);go_wp2_with fail
         refine (bU 2 _).mono ?_
         rintro e w9 ⟨rfl,GF⟩;have JQ:=DX (GQ.out.trans GF);have JM:=DX (IW.out.kept GF);clear GF;go_wp2_with (refine aD rfl 47 (.tmp 4) (.tmp 62) rfl (w.heap.size+1) (bB (aY 2)) LR 47 rfl rfl JM.out AX rfl (aL _) ?_)
         refine EI (v:=bW (aY 2)) ?_ rfl ?_
         . exact Oa
         . exact xN
       . have hd:decide ((40:Int)<=(gs.length:Int))=false:=DY aE
         have WF:decide (40<=gs.length)=false:=DY hful;have GI:=DX (HDJ.out.trans (if_neg hful));unfold mO at GI
         try dsimp only at GI
         clear hs hE hI hJ hl rT zT rG zG rS zS oT oG oS Q hb;clear hful GA HDJ;generalize rJ gs GE=z at *;go_enter Tryz.func75,Tryz.ntmps75
         go_upto_region 1 with (fail)
         generalize (w.alloc ((KO ok oi on om GE od ot))).alloc (KR)=w1 at *
         have q4:w1.cell? ⟨w.heap.size,4,none⟩=some (.string GE):=HB.out.cell 4;go_wp2_with fail
         refine (KQ.out w1 HK.out).mono ?_
         rintro e w2 ⟨rfl,FX⟩;have FW:=DX (HK.out.trans FX);have GK:=DX (HR.out.kept FX);have GP:=DX (HB.out.kept FX);clear FX q4 KQ HK HR HB;obtain ⟨r0,r1,r2,r3⟩:=aI (HP.out.kept FW.out);have q5:w2.cell? ⟨w.heap.size,5,none⟩=some (.string od):=GP.out.cell 5;have l0:=aC r0;have l1:=aC r1;have l2:=aC r2;have l3:=aC r3;have l4:=aC q5;clear r0 r1 r2 r3 q5;have QS:=DX (fun u:bF w2=>ML.out u.1 (FW.out.trans u.2));go_wp2_with fail
         refine aJ aW aW ?_
         repeat (go_big_quiet_step ((go_at_call 91;exact aK (QS.out _))))
         refine wpQuiet_nil ?_
         intro _ GD;obtain ⟨nq,FT⟩:=GD;subst FT;have GC:=DX (FW.out.trans nq.2);have JG:=DX (GK.out.kept nq.2);have IU:=DX (GP.out.kept nq.2);clear l0 l1 l2 l3 l4 QS ML GK GP FW;generalize nq.1=w3 at *;obtain ⟨r0,r1,r2,r3⟩:=aI (HP.out.kept GC.out);have q4:w3.cell? ⟨w.heap.size,4,none⟩=some (.string GE):=IU.out.cell 4;have l0:=aC r0;have l1:=aC r1;have l2:=aC r2;have l3:=aC r3;have l4:=aC q4;clear r0 r1 r2 r3 q4;have GX:=DX (fun u:bF w3=>HA.out u.1 (GC.out.trans u.2));go_wp2_with fail
         refine aJ aW aW ?_
         repeat (go_big_quiet_step ((go_at_call 104;exact aK (GX.out _))))
         refine wpQuiet_nil ?_
         intro _ GD;obtain ⟨nq,FT⟩:=GD;subst FT;have GQ:=DX (GC.out.trans nq.2);have IW:=DX (JG.out.kept nq.2);have KY:=DX (IU.out.kept nq.2);clear l0 l1 l2 l3 l4 GX HA JG IU GC;generalize nq.1=w4 at *;obtain ⟨r0,r1,r2,r3⟩:=aI (HP.out.kept GQ.out);have q4:w4.cell? ⟨w.heap.size,4,none⟩=some (.string GE):=KY.out.cell 4;have q5:w4.cell? ⟨w.heap.size,5,none⟩=some (.string od):=KY.out.cell 5
         have f0:=(HP.out.kept GQ.out).free 1
         have e0:=fun o=>((HP.out.kept GQ.out).kept ((EX w4).alloc o)).cell 1
         simp only [List.getElem?_toArray,List.getElem?_cons_zero,List.getElem?_cons_succ] at e0
         have g0:=fun o=>((HP.out.kept GQ.out).kept ((EX w4).alloc o)).free 1
         have aBh:=DX (fun (w8:World) (k:aB w4 w8) (hv:aA w8 w4.heap.size #[.string GE,.string od] 68)=>Mw base cG z w4.heap.size aG gs ⟨GE,od⟩ w8 (aH WW.out (GQ.out.trans k)) HZ.out aE (EF GY (GQ.out.trans k).size) hv (fun g hg=>by have h1:=(WW.out.lt g hg).2;have h2:=GQ.out.size;omega));generalize gs.take z++[(⟨GE,od⟩:Tg)]++gs.drop z=NT at *;go_wp2_with fail;go_region_with (go_at_call 105;refine (aBh.out _ (((EX w4).alloc _).drew) ((EY w4 _ _).kept ((EX _).drew))).mono ?_;rintro e w5 ⟨a9,c9,row,rfl,FU,IB,MC⟩;have hp4:=aM ((HP.out.kept GQ.out).kept (((EX w4).alloc (.cells #[.string GE,.string od] 68)).drew)) IB (MC.ne ((HP.out.kept GQ.out).kept (((EX w4).alloc (.cells #[.string GE,.string od] 68)).drew)) aF);obtain ⟨p0,p1,p2,p3⟩:=aI hp4;have f4:=hp4.free 1)
         all_goals
          have NP:=DX (GQ.out.trans (((EX w4).alloc (.cells #[.string GE,.string od] 68)).drew));have HRa:=DX (IW.out.kept (((EX w4).alloc (.cells #[.string GE,.string od] 68)).drew))
          obtain ⟨hq6,hf6⟩:=(HQ.out.kept NP.out).putG hp NT IB MC FU
          have HQ6:=DX hq6;have HF6:=DX ((FA NP.out GY).trans hf6);have NR:=DX (hf6.blk _ _ _ HRa.out aE aF aF aF);clear hq6 hf6 FU IB MC p0 p1 p2 p3 f4 hp4 aBh r0 r1 r2 r3 q4 q5 f0 e0 g0;go_wp2_with (refine aD rfl 47 (.tmp 4) (.tmp 63) rfl (w.heap.size+1) (bB (fT)) LR 47 rfl rfl NR.out AX rfl (aL _) ?_)
          refine EI (v:=bW (fT)) ?_ rfl ?_
          . exact Rw
          . exact Yd
   . have GI:=DX (HDN.out.trans (if_neg his))
     rw [show iZ ts od true=false by simpa using his] at ML;clear hs hE hI hJ hl rT zT rG zG rS zS oT oG oS Q hb;clear his hf HDN;go_enter Tryz.func75,Tryz.ntmps75
     go_upto_region 1 with (fail)
     generalize (w.alloc ((KO ok oi on om GE od ot))).alloc (KR)=w1 at *
     have q4:w1.cell? ⟨w.heap.size,4,none⟩=some (.string GE):=HB.out.cell 4;go_wp2_with fail
     refine (KQ.out w1 HK.out).mono ?_
     rintro e w2 ⟨rfl,FX⟩;have FW:=DX (HK.out.trans FX);have GK:=DX (HR.out.kept FX);have GP:=DX (HB.out.kept FX);clear FX q4 KQ HK HR HB;obtain ⟨r0,r1,r2,r3⟩:=aI (HP.out.kept FW.out);have q5:w2.cell? ⟨w.heap.size,5,none⟩=some (.string od):=GP.out.cell 5;have l0:=aC r0;have l1:=aC r1;have l2:=aC r2;have l3:=aC r3;have l4:=aC q5;clear r0 r1 r2 r3 q5;have QS:=DX (fun u:bF w2=>ML.out u.1 (FW.out.trans u.2));go_wp2_with fail
     refine aJ aW aW ?_
     repeat (go_big_quiet_step ((go_at_call 91;exact aK (QS.out _))))
     refine wpQuiet_nil ?_
     intro _ GD;obtain ⟨nq,FT⟩:=GD;subst FT;have GC:=DX (FW.out.trans nq.2);have JG:=DX (GK.out.kept nq.2);have IU:=DX (GP.out.kept nq.2);clear l0 l1 l2 l3 l4 QS ML GK GP FW;generalize nq.1=w3 at *;go_wp2_with fail
     refine (bU 3 _).mono ?_
     rintro e w9 ⟨rfl,GF⟩;have JQ:=DX (GC.out.trans GF);have JM:=DX (JG.out.kept GF);clear GF;go_wp2_with (refine aD rfl 47 (.tmp 4) (.tmp 19) rfl (w.heap.size+1) (bB (aY 3)) LR 47 rfl rfl JM.out AX rfl (aL _) ?_)
     refine EI (v:=bW (aY 3)) ?_ rfl ?_
     . exact yX
     . exact xN
 . have GI:=DX (show mC ⟨ts,gs,ss,nx⟩ GE od=(⟨ts,gs,ss,nx⟩,aY 7) from if_neg UH)
   rw [show kJ GE=7 by unfold kJ;rw [if_neg UH]] at KQ;clear hs hE hI hJ hl rT zT rG zG rS zS oT oG oS Q hb;clear UH hf;go_enter Tryz.func75,Tryz.ntmps75
   go_upto_region 1 with (fail)
   generalize (w.alloc ((KO ok oi on om GE od ot))).alloc (KR)=w1 at *
   have q4:w1.cell? ⟨w.heap.size,4,none⟩=some (.string GE):=HB.out.cell 4;go_wp2_with fail
   refine (KQ.out w1 HK.out).mono ?_
   rintro e w2 ⟨rfl,FX⟩;have FW:=DX (HK.out.trans FX);have GK:=DX (HR.out.kept FX);have GP:=DX (HB.out.kept FX);clear FX q4 KQ HK HR HB;go_wp2_with fail
   refine (bU 7 _).mono ?_
   rintro e w9 ⟨rfl,GF⟩;have JQ:=DX (FW.out.trans GF);have JM:=DX (GK.out.kept GF);clear GF;go_wp2_with (refine aD rfl 47 (.tmp 4) (.tmp 11) rfl (w.heap.size+1) (bB (aY 7)) LR 47 rfl rfl JM.out AX rfl (aL _) ?_)
   refine EI (v:=bW (aY 7)) ?_ rfl ?_
   . exact Tp
   . exact xN
end Go.Proofs.YtkfmladhicapeaaGreatDoor
