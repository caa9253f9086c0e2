import Derived.Test.YtkfmladhicapeaaGreatDoorY38
set_option maxRecDepth 100000
set_option maxHeartbeats 4000000
namespace Go.Proofs.YtkfmladhicapeaaGreatDoor
open Go.RowKit Go.Shelf
attribute [local go_sem] Oper.semAt_some
theorem Im (base p:Nat) (hp:base<=p) (s:dN) (o:fV) (wo:World) (Q:eX base wo p s) (hs:dP s=true) (hk:o.k=4) :
 Calls Tryz.prog 81 (PO p o.k o.id o.n o.m o.name o.d o.t) wo (iD base p wo (cW s 4 o.d o.n o.m)):=by
 obtain ⟨ts,gs,ss,nx⟩:=s;obtain ⟨ok,oi,on,om,GE,od,ot⟩:=o;dsimp only at *;subst hk;have HQ:=DX Q;obtain ⟨aT,cT,aG,cG,aS,cS,hb,oT,oG,oS⟩:=Q.rows;dsimp only at *
 have GY:base<=wo.heap.size:=by have:=hb.lt;omega
 have MG:p<wo.heap.size:=hb.lt;have HP:=DX hb;have LB:=DX (bR hs)
 obtain ⟨XX,GR⟩:∃ XX,XX=(cW ⟨ts,gs,ss,nx⟩ 4 od on om):=⟨_,rfl⟩
 rw [<- GR];have HX:=DX GR;clear GR;obtain ⟨lT,rT,zT,lG,rG,zG,lS,rS,zS,n0,n1⟩:=bR hs;dsimp only at *;have HB:=DX ((EY wo (LO 4 oi on om GE od ot) 35).kept ((EX _).alloc (KR)));have HR:=DX (FB wo LR 47 ((KO 4 oi on om GE od ot)));have HK:=DX (((EX wo).alloc ((KO 4 oi on om GE od ot))).alloc (KR));obtain ⟨_,_,hv,hI⟩:=cI oT rfl aE (fun x hx=>by have:=zT x hx;omega);cases hv;have JA:=DX (fun w9 (k:aB wo w9)=>gR aT ts.length cT ts od w9 (hI.kept k));have JV:=DX hI;obtain ⟨_,_,hv,hJ⟩:=eA oG rfl aE (fun x hx=>by have:=zG x hx;omega);cases hv;have NN:=DX hJ
 by_cases GA:cQ ts od<ts.length
 . rw [show kR ts od=((cQ ts od:Nat):Int) from if_pos GA] at JA
   obtain ⟨g,rfl⟩:=cA oT aE;have HC:=DX (fun w9 (k:aB wo w9)=>((aH oT k).cellAt (cQ ts od*3+1) aE).trans (lW ts (cQ ts od) GA).2.1)
   have GO:=(zT _ (bY aX GA)).2
   have GI:=DX (show cW ⟨ts,gs,ss,nx⟩ 4 od on om=(⟨ts,gs,ss,nx⟩,eT (ts.getD (cQ ts od) aX).t) from (if_pos GA).trans ((if_neg aF).trans (if_pos rfl)));clear rT zT rG zG rS zS oT oG oS Q hb hI hJ;clear hs;generalize cQ ts od=z at *;go_enter Tryz.func81,Tryz.ntmps81
   go_upto_region 1 with (fail)
   generalize (wo.alloc ((KO 4 oi on om GE od ot))).alloc (KR)=w1 at *
   have b5:w1.cell? ⟨wo.heap.size,5,none⟩=some (.string od):=HB.out.cell 5;obtain ⟨r0,r1,r2,r3⟩:=aI (HP.out.kept HK.out);replace r0:=aC r0;replace r1:=aC r1;replace r2:=aC r2;replace r3:=aC r3;replace b5:=aC b5;have GX:=DX (fun u:bF w1=>JA.out u.1 (HK.out.trans u.2))
   refine aJ aW aW ?_
   repeat (go_big_quiet_step ((go_at_call 52;exact aK (GX.out _))))
   refine wpQuiet_nil ?_
   intro _ GD;obtain ⟨nq,FT⟩:=GD;subst FT;have FW:=DX (HK.out.trans nq.2);have GK:=DX (HR.out.kept nq.2);have GP:=DX (HB.out.kept nq.2);clear r0 r1 r2 r3 b5 GX;generalize nq.1=w2 at *;have b0:w2.cell? ⟨wo.heap.size,0,none⟩=some (.int .i64 4):=GP.out.cell 0;have hd:decide ((z:Int)<0)=false:=DY aE;have c1:=HC.out w2 FW.out;obtain ⟨r0,r1,r2,r3⟩:=aI (HP.out.kept FW.out)
   generalize (ts.getD z aX).t=X at *
   go_wp2_with (refine aD rfl 47 (.tmp 4) (.tmp 31) rfl (wo.heap.size+1) (bB (eT X)) LR 47 rfl rfl GK.out AX rfl (aL _) ?_)
   refine EI (v:=bW (eT X)) ?_ rfl ?_
   . exact EH rfl _ _ (wo.heap.size+1) 47 (bB (eT X)) (0,0) _ rfl (GK.out.setRow _) EV rfl AX
   . exact vN
 . have GI:=DX (show cW ⟨ts,gs,ss,nx⟩ 4 od on om=(⟨ts,gs,ss,nx⟩,aY 3) from if_neg GA)
   rw [show kR ts od = -1 from if_neg GA] at JA;clear rT zT rG zG rS zS oT oG oS Q hb hI hJ;clear hs GA;go_enter Tryz.func81,Tryz.ntmps81
   go_upto_region 1 with (fail)
   generalize (wo.alloc ((KO 4 oi on om GE od ot))).alloc (KR)=w1 at *
   have b5:w1.cell? ⟨wo.heap.size,5,none⟩=some (.string od):=HB.out.cell 5;obtain ⟨r0,r1,r2,r3⟩:=aI (HP.out.kept HK.out);replace r0:=aC r0;replace r1:=aC r1;replace r2:=aC r2;replace r3:=aC r3;replace b5:=aC b5;have GX:=DX (fun u:bF w1=>JA.out u.1 (HK.out.trans u.2))
   refine aJ aW aW ?_
   repeat (go_big_quiet_step ((go_at_call 52;exact aK (GX.out _))))
   refine wpQuiet_nil ?_
   intro _ GD;obtain ⟨nq,FT⟩:=GD;subst FT;have FW:=DX (HK.out.trans nq.2);have GK:=DX (HR.out.kept nq.2);have GP:=DX (HB.out.kept nq.2);clear r0 r1 r2 r3 b5 GX;generalize nq.1=w2 at *;have b0:w2.cell? ⟨wo.heap.size,0,none⟩=some (.int .i64 4):=GP.out.cell 0
   have hd:decide ((-1:Int)<0)=true:=by decide
   go_wp2_with (refine aD rfl 47 (.tmp 4) (.tmp 17) rfl (wo.heap.size+1) (bB (aY 3)) LR 47 rfl rfl GK.out AX rfl (aL _) ?_)
   refine EI (v:=bW (aY 3)) ?_ rfl ?_
   . exact xT
   . exact vN
theorem Hi (base p:Nat) (hp:base<=p) (s:dN) (o:fV) (wo:World) (Q:eX base wo p s) (hs:dP s=true) (hk:o.k=5) :
 Calls Tryz.prog 81 (PO p o.k o.id o.n o.m o.name o.d o.t) wo (iD base p wo (cW s 5 o.d o.n o.m)):=by
 obtain ⟨ts,gs,ss,nx⟩:=s;obtain ⟨ok,oi,on,om,GE,od,ot⟩:=o;dsimp only at *;subst hk;have HQ:=DX Q;obtain ⟨aT,cT,aG,cG,aS,cS,hb,oT,oG,oS⟩:=Q.rows;dsimp only at *
 have GY:base<=wo.heap.size:=by have:=hb.lt;omega
 have MG:p<wo.heap.size:=hb.lt;have HP:=DX hb;have LB:=DX (bR hs)
 obtain ⟨XX,GR⟩:∃ XX,XX=(cW ⟨ts,gs,ss,nx⟩ 5 od on om):=⟨_,rfl⟩
 rw [<- GR];have HX:=DX GR;clear GR;obtain ⟨lT,rT,zT,lG,rG,zG,lS,rS,zS,n0,n1⟩:=bR hs;dsimp only at *;have HB:=DX ((EY wo (LO 5 oi on om GE od ot) 35).kept ((EX _).alloc (KR)));have HR:=DX (FB wo LR 47 ((KO 5 oi on om GE od ot)));have HK:=DX (((EX wo).alloc ((KO 5 oi on om GE od ot))).alloc (KR));obtain ⟨_,_,hv,hI⟩:=cI oT rfl aE (fun x hx=>by have:=zT x hx;omega);cases hv;have JA:=DX (fun w9 (k:aB wo w9)=>gR aT ts.length cT ts od w9 (hI.kept k));have JV:=DX hI;obtain ⟨_,_,hv,hJ⟩:=eA oG rfl aE (fun x hx=>by have:=zG x hx;omega);cases hv;have NN:=DX hJ
 by_cases GA:cQ ts od<ts.length
 . rw [show kR ts od=((cQ ts od:Nat):Int) from if_pos GA] at JA
   obtain ⟨g,rfl⟩:=cA oT aE;have HC:=DX (fun w9 (k:aB wo w9)=>((aH oT k).cellAt (cQ ts od*3+1) aE).trans (lW ts (cQ ts od) GA).2.1)
   have GO:=(zT _ (bY aX GA)).2
   have GI:=DX (show cW ⟨ts,gs,ss,nx⟩ 5 od on om=(⟨ts,gs,ss,nx⟩,dY ((ts.getD (cQ ts od) aX).t.size:Int)) from (if_pos GA).trans (if_pos rfl));clear rT zT rG zG rS zS oT oG oS Q hb hI hJ;clear hs;generalize cQ ts od=z at *;go_enter Tryz.func81,Tryz.ntmps81
   go_upto_region 1 with (fail)
   generalize (wo.alloc ((KO 5 oi on om GE od ot))).alloc (KR)=w1 at *
   have b5:w1.cell? ⟨wo.heap.size,5,none⟩=some (.string od):=HB.out.cell 5;obtain ⟨r0,r1,r2,r3⟩:=aI (HP.out.kept HK.out);replace r0:=aC r0;replace r1:=aC r1;replace r2:=aC r2;replace r3:=aC r3;replace b5:=aC b5;have GX:=DX (fun u:bF w1=>JA.out u.1 (HK.out.trans u.2))
   refine aJ aW aW ?_
   repeat (go_big_quiet_step ((go_at_call 52;exact aK (GX.out _))))
   refine wpQuiet_nil ?_
   intro _ GD;obtain ⟨nq,FT⟩:=GD;subst FT;have FW:=DX (HK.out.trans nq.2);have GK:=DX (HR.out.kept nq.2);have GP:=DX (HB.out.kept nq.2);clear r0 r1 r2 r3 b5 GX;generalize nq.1=w2 at *;have b0:w2.cell? ⟨wo.heap.size,0,none⟩=some (.int .i64 5):=GP.out.cell 0;have hd:decide ((z:Int)<0)=false:=DY aE;have c1:=HC.out w2 FW.out;obtain ⟨r0,r1,r2,r3⟩:=aI (HP.out.kept FW.out)
   generalize (ts.getD z aX).t=X at *
   go_wp2_with (refine aD rfl 47 (.tmp 4) (.tmp 36) rfl (wo.heap.size+1) (bB (dY (X.size:Int))) LR 47 rfl rfl GK.out AX rfl (aL _) ?_)
   refine EI (v:=bW (dY (X.size:Int))) ?_ rfl ?_
   . exact EH rfl _ _ (wo.heap.size+1) 47 (bB (dY (X.size:Int))) (0,0) _ rfl (GK.out.setRow _) EV rfl AX
   . exact vN
 . have GI:=DX (show cW ⟨ts,gs,ss,nx⟩ 5 od on om=(⟨ts,gs,ss,nx⟩,aY 3) from if_neg GA)
   rw [show kR ts od = -1 from if_neg GA] at JA;clear rT zT rG zG rS zS oT oG oS Q hb hI hJ;clear hs GA;go_enter Tryz.func81,Tryz.ntmps81
   go_upto_region 1 with (fail)
   generalize (wo.alloc ((KO 5 oi on om GE od ot))).alloc (KR)=w1 at *
   have b5:w1.cell? ⟨wo.heap.size,5,none⟩=some (.string od):=HB.out.cell 5;obtain ⟨r0,r1,r2,r3⟩:=aI (HP.out.kept HK.out);replace r0:=aC r0;replace r1:=aC r1;replace r2:=aC r2;replace r3:=aC r3;replace b5:=aC b5;have GX:=DX (fun u:bF w1=>JA.out u.1 (HK.out.trans u.2))
   refine aJ aW aW ?_
   repeat (go_big_quiet_step ((go_at_call 52;exact aK (GX.out _))))
   refine wpQuiet_nil ?_
   intro _ GD;obtain ⟨nq,FT⟩:=GD;subst FT;have FW:=DX (HK.out.trans nq.2);have GK:=DX (HR.out.kept nq.2);have GP:=DX (HB.out.kept nq.2);clear r0 r1 r2 r3 b5 GX;generalize nq.1=w2 at *;have b0:w2.cell? ⟨wo.heap.size,0,none⟩=some (.int .i64 5):=GP.out.cell 0
   have hd:decide ((-1:Int)<0)=true:=by decide
   go_wp2_with (refine aD rfl 47 (.tmp 4) (.tmp 17) rfl (wo.heap.size+1) (bB (aY 3)) LR 47 rfl rfl GK.out AX rfl (aL _) ?_)
   refine EI (v:=bW (aY 3)) ?_ rfl ?_
   . exact xT
   . exact vN
theorem Cn (base p:Nat) (hp:base<=p) (s:dN) (o:fV) (wo:World) (Q:eX base wo p s) (hs:dP s=true) (hk:o.k=6) :
 Calls Tryz.prog 81 (PO p o.k o.id o.n o.m o.name o.d o.t) wo (iD base p wo (cW s 6 o.d o.n o.m)):=by
 obtain ⟨ts,gs,ss,nx⟩:=s;obtain ⟨ok,oi,on,om,GE,od,ot⟩:=o;dsimp only at *;subst hk;have HQ:=DX Q;obtain ⟨aT,cT,aG,cG,aS,cS,hb,oT,oG,oS⟩:=Q.rows;dsimp only at *
 have GY:base<=wo.heap.size:=by have:=hb.lt;omega
 have MG:p<wo.heap.size:=hb.lt;have HP:=DX hb;have LB:=DX (bR hs)
 obtain ⟨XX,GR⟩:∃ XX,XX=(cW ⟨ts,gs,ss,nx⟩ 6 od on om):=⟨_,rfl⟩
 rw [<- GR];have HX:=DX GR;clear GR;obtain ⟨lT,rT,zT,lG,rG,zG,lS,rS,zS,n0,n1⟩:=bR hs;dsimp only at *;have HB:=DX ((EY wo (LO 6 oi on om GE od ot) 35).kept ((EX _).alloc (KR)));have HR:=DX (FB wo LR 47 ((KO 6 oi on om GE od ot)));have HK:=DX (((EX wo).alloc ((KO 6 oi on om GE od ot))).alloc (KR));obtain ⟨_,_,hv,hI⟩:=cI oT rfl aE (fun x hx=>by have:=zT x hx;omega);cases hv;have JA:=DX (fun w9 (k:aB wo w9)=>gR aT ts.length cT ts od w9 (hI.kept k));have JV:=DX hI;obtain ⟨_,_,hv,hJ⟩:=eA oG rfl aE (fun x hx=>by have:=zG x hx;omega);cases hv;have NN:=DX hJ
 by_cases GA:cQ ts od<ts.length
 . rw [show kR ts od=((cQ ts od:Nat):Int) from if_pos GA] at JA
   obtain ⟨g,rfl⟩:=cA oT aE;have HC:=DX (fun w9 (k:aB wo w9)=>((aH oT k).cellAt (cQ ts od*3+1) aE).trans (lW ts (cQ ts od) GA).2.1)
   have GO:=(zT _ (bY aX GA)).2
   have JJ:=DX ((show cW ⟨ts,gs,ss,nx⟩ 6 od on om=_ from if_pos GA).trans ((if_neg aF).trans (if_neg aF)));dsimp only at JJ;clear rT zT rG zG rS zS oT oG oS Q hb hI hJ;clear hs;generalize cQ ts od=z at *;go_enter Tryz.func81,Tryz.ntmps81
   go_upto_region 1 with (fail)
   generalize (wo.alloc ((KO 6 oi on om GE od ot))).alloc (KR)=w1 at *
   have b5:w1.cell? ⟨wo.heap.size,5,none⟩=some (.string od):=HB.out.cell 5;obtain ⟨r0,r1,r2,r3⟩:=aI (HP.out.kept HK.out);replace r0:=aC r0;replace r1:=aC r1;replace r2:=aC r2;replace r3:=aC r3;replace b5:=aC b5;have GX:=DX (fun u:bF w1=>JA.out u.1 (HK.out.trans u.2))
   refine aJ aW aW ?_
   repeat (go_big_quiet_step ((go_at_call 52;exact aK (GX.out _))))
   refine wpQuiet_nil ?_
   intro _ GD;obtain ⟨nq,FT⟩:=GD;subst FT;have FW:=DX (HK.out.trans nq.2);have GK:=DX (HR.out.kept nq.2);have GP:=DX (HB.out.kept nq.2);clear r0 r1 r2 r3 b5 GX;generalize nq.1=w2 at *;have b0:w2.cell? ⟨wo.heap.size,0,none⟩=some (.int .i64 6):=GP.out.cell 0;have hd:decide ((z:Int)<0)=false:=DY aE;have c1:=HC.out w2 FW.out;obtain ⟨r0,r1,r2,r3⟩:=aI (HP.out.kept FW.out)
   generalize (ts.getD z aX).t=X at *
   have b2:w2.cell? ⟨wo.heap.size,2,none⟩=some (.int .i64 on):=GP.out.cell 2;have b3:w2.cell? ⟨wo.heap.size,3,none⟩=some (.int .i64 om):=GP.out.cell 3
   by_cases JR:0<=on/\on<=(X.size:Int)
   . have hnn:(decide (0<=on)&&decide (on<=(X.size:Int)))=true:=by rw [DZ (show 0<=on by omega),DZ (show on<=(X.size:Int) by omega)];rfl
     go_wp2_with fail
     refine (xH _ _ _).mono ?_
     rintro e w9 ⟨rfl,rfl⟩;rw [hnn];clear hnn;have WJ:0<=on:=JR.1;have NV:on<=(X.size:Int):=JR.2
     obtain ⟨N,rfl⟩:∃ N:Nat,on=N:=⟨on.toNat,aE⟩
     clear JR
     by_cases NE:om<0
     . have JH:decide (om<0)=true:=DZ NE
       have GI:=DX (JJ.out.trans (if_pos (.inr (.inr NE))));clear NE;go_wp2_with (refine aD rfl 47 (.tmp 4) (.tmp 50) rfl (wo.heap.size+1) (bB (aY 1)) LR 47 rfl rfl GK.out AX rfl (aL _) ?_)
       refine EI (v:=bW (aY 1)) ?_ rfl ?_
       . exact Sa
       . exact vN
     . have JH:decide (om<0)=false:=DY NE
       obtain ⟨M,rfl⟩:∃ M:Nat,om=M:=⟨om.toNat,aE⟩
       have GI:=DX (JJ.out.trans (if_neg aE))
       obtain ⟨D,hD⟩:∃ D,D=X.size - N:=⟨_,rfl⟩
       have hDi:(X.size:Int) - (N:Int)=(D:Int):=by omega
       obtain ⟨K,hK⟩:∃ K,K=min M D:=⟨_,rfl⟩
       have hKi:min (M:Int) (D:Int)=(K:Int):=by omega
       obtain ⟨L,hL⟩:∃ L,L=N+K:=⟨_,rfl⟩
       have hNK:(N:Int)+(K:Int)=(L:Int):=by omega
       have hNL:N<=L:=by omega
       have hLX:L<=X.size:=by omega
       have GI:=DX (show cW ⟨ts,gs,ss,nx⟩ 6 od N M=(⟨ts,gs,ss,nx⟩,eT (X.extract N L)) by rw [GI.out];unfold Vj;rw [hL,hK,hD];simp);clear NE NV WJ hK hD hL;go_wp2_with (refine aD rfl 47 (.tmp 4) (.tmp 66) rfl (wo.heap.size+1) (bB (eT (X.extract N L))) LR 47 rfl rfl GK.out AX rfl (aL _) ?_)
       refine EI (v:=bW (eT (X.extract N L))) ?_ rfl ?_
       . exact EH rfl _ _ (wo.heap.size+1) 47 (bB (eT (X.extract N L))) (0,0) _ rfl (GK.out.setRow _) EV rfl AX
       . exact vN
   . have hnn:(decide (0<=on)&&decide (on<=(X.size:Int)))=false:=by rw [Bool.and_eq_false_iff,decide_eq_false_iff_not,decide_eq_false_iff_not];omega
     have GI:=DX (JJ.out.trans (if_pos aE));go_wp2_with fail
     refine (xH _ _ _).mono ?_
     rintro e w9 ⟨rfl,rfl⟩;rw [hnn];clear hnn JR;go_wp2_with (refine aD rfl 47 (.tmp 4) (.tmp 50) rfl (wo.heap.size+1) (bB (aY 1)) LR 47 rfl rfl GK.out AX rfl (aL _) ?_)
     refine EI (v:=bW (aY 1)) ?_ rfl ?_
     . exact Sa
     . exact vN
 . have GI:=DX (show cW ⟨ts,gs,ss,nx⟩ 6 od on om=(⟨ts,gs,ss,nx⟩,aY 3) from if_neg GA)
   rw [show kR ts od = -1 from if_neg GA] at JA;clear rT zT rG zG rS zS oT oG oS Q hb hI hJ;clear hs GA;go_enter Tryz.func81,Tryz.ntmps81
   go_upto_region 1 with (fail)
   generalize (wo.alloc ((KO 6 oi on om GE od ot))).alloc (KR)=w1 at *
   have b5:w1.cell? ⟨wo.heap.size,5,none⟩=some (.string od):=HB.out.cell 5;obtain ⟨r0,r1,r2,r3⟩:=aI (HP.out.kept HK.out);replace r0:=aC r0;replace r1:=aC r1;replace r2:=aC r2;replace r3:=aC r3;replace b5:=aC b5;have GX:=DX (fun u:bF w1=>JA.out u.1 (HK.out.trans u.2))
   refine aJ aW aW ?_
   repeat (go_big_quiet_step ((go_at_call 52;exact aK (GX.out _))))
   refine wpQuiet_nil ?_
   intro _ GD;obtain ⟨nq,FT⟩:=GD;subst FT;have FW:=DX (HK.out.trans nq.2);have GK:=DX (HR.out.kept nq.2);have GP:=DX (HB.out.kept nq.2);clear r0 r1 r2 r3 b5 GX;generalize nq.1=w2 at *;have b0:w2.cell? ⟨wo.heap.size,0,none⟩=some (.int .i64 6):=GP.out.cell 0
   have hd:decide ((-1:Int)<0)=true:=by decide
   go_wp2_with (refine aD rfl 47 (.tmp 4) (.tmp 17) rfl (wo.heap.size+1) (bB (aY 3)) LR 47 rfl rfl GK.out AX rfl (aL _) ?_)
   refine EI (v:=bW (aY 3)) ?_ rfl ?_
   . exact xT
   . exact vN
theorem zX (base p:Nat) (hp:base<=p) (s:dN) (o:fV) (wo:World) (Q:eX base wo p s) (hs:dP s=true) (hk:o.k=7) :
 Calls Tryz.prog 81 (PO p o.k o.id o.n o.m o.name o.d o.t) wo (iD base p wo (eE s o.d)):=by
 obtain ⟨ts,gs,ss,nx⟩:=s;obtain ⟨ok,oi,on,om,GE,od,ot⟩:=o;dsimp only at *;subst hk;have HQ:=DX Q;obtain ⟨aT,cT,aG,cG,aS,cS,hb,oT,oG,oS⟩:=Q.rows;dsimp only at *
 have GY:base<=wo.heap.size:=by have:=hb.lt;omega
 have MG:p<wo.heap.size:=hb.lt;have HP:=DX hb;have LB:=DX (bR hs)
 obtain ⟨XX,GR⟩:∃ XX,XX=(eE ⟨ts,gs,ss,nx⟩ od):=⟨_,rfl⟩
 rw [<- GR];have HX:=DX GR;clear GR;obtain ⟨lT,rT,zT,lG,rG,zG,lS,rS,zS,n0,n1⟩:=bR hs;dsimp only at *;have HB:=DX ((EY wo (LO 7 oi on om GE od ot) 35).kept ((EX _).alloc (KR)));have HR:=DX (FB wo LR 47 ((KO 7 oi on om GE od ot)));have HK:=DX (((EX wo).alloc ((KO 7 oi on om GE od ot))).alloc (KR));obtain ⟨_,_,hv,hI⟩:=cI oT rfl aE (fun x hx=>by have:=zT x hx;omega);cases hv;have JA:=DX (fun w9 (k:aB wo w9)=>gR aT ts.length cT ts od w9 (hI.kept k));have JV:=DX hI;obtain ⟨_,_,hv,hJ⟩:=eA oG rfl aE (fun x hx=>by have:=zG x hx;omega);cases hv;have NN:=DX hJ;have HTB:=DX (show fF ts=true from (cU.1 hs).1.b)
 by_cases GA:cQ ts od<ts.length
 . rw [show kR ts od=((cQ ts od:Nat):Int) from if_pos GA] at JA
   obtain ⟨g,rfl⟩:=cA oT aE;have HC:=DX (fun w9 (k:aB wo w9)=>((aH oT k).cellAt (cQ ts od*3+1) aE).trans (lW ts (cQ ts od) GA).2.1)
   have GO:=(zT _ (bY aX GA)).2
   have JJ:=DX (show eE ⟨ts,gs,ss,nx⟩ od=_ from if_pos GA);dsimp only at JJ
   obtain ⟨UL,hUL⟩:∃ UL,UL=fS ts od:=⟨_,rfl⟩
   rw [<- hUL] at JJ;have TX:=DX (fun w9 (k:aB wo w9)=>show Calls Tryz.prog 112 #[.slice (some ⟨g,0,none⟩) ts.length cT,.string od] w9 (qL w9 UL) by rw [hUL];exact Cd _ ts.length cT ts od w9 (JV.out.kept k) HTB.out);clear hUL;clear rT zT rG zG rS zS oT oG oS Q hb hI hJ;clear hs;generalize cQ ts od=z at *;go_enter Tryz.func81,Tryz.ntmps81
   go_upto_region 1 with (fail)
   generalize (wo.alloc ((KO 7 oi on om GE od ot))).alloc (KR)=w1 at *
   have b5:w1.cell? ⟨wo.heap.size,5,none⟩=some (.string od):=HB.out.cell 5;obtain ⟨r0,r1,r2,r3⟩:=aI (HP.out.kept HK.out);replace r0:=aC r0;replace r1:=aC r1;replace r2:=aC r2;replace r3:=aC r3;replace b5:=aC b5;have GX:=DX (fun u:bF w1=>JA.out u.1 (HK.out.trans u.2))
   refine aJ aW aW ?_
   repeat (go_big_quiet_step ((go_at_call 52;exact aK (GX.out _))))
   refine wpQuiet_nil ?_
   intro _ GD;obtain ⟨nq,FT⟩:=GD;subst FT;have FW:=DX (HK.out.trans nq.2);have GK:=DX (HR.out.kept nq.2);have GP:=DX (HB.out.kept nq.2);clear r0 r1 r2 r3 b5 GX;generalize nq.1=w2 at *;have b0:w2.cell? ⟨wo.heap.size,0,none⟩=some (.int .i64 7):=GP.out.cell 0;have hd:decide ((z:Int)<0)=false:=DY aE;have c1:=HC.out w2 FW.out;obtain ⟨r0,r1,r2,r3⟩:=aI (HP.out.kept FW.out)
   generalize (ts.getD z aX).t=X at *
   go_upto_region 15 with (fail)
   clear r0 r1 r2 r3 c1 b0;go_loopw [7] (fun kv wr=>∃ k:Nat,k<=gs.length/\kv=.int .i64 k/\Hid (∀ j,j<k->(gs.getD j bL).d≠od)/\aB wo wr/\aB w2 wr) (fun kv _=>gs.length - (intOf kv).toNat)
   case atStart=>exact ⟨0,aE,rfl,DX (fun j hj=>absurd hj (Nat.not_lt_zero j)),FW.out,EX _⟩
   case round =>
    rename World=>wr
    obtain ⟨k,hk,rfl,HN,IF,hk2r⟩:=hrel;have IA:=DX IF;have HRR:=DX (GK.out.kept hk2r);have HBR:=DX (GP.out.kept hk2r);have HK2R:=DX hk2r;clear IF hk2r;obtain ⟨r0,r1,r2,r3⟩:=aI (HP.out.kept IA.out)
    by_cases IE:k<gs.length
    . have GU:decide (k<gs.length)=true:=DZ IE
      have KG:decide ((k:Int)<(gs.length:Int))=true:=DZ aE;obtain ⟨bt,of,NZ,JC⟩:=NN.out.at aE;obtain ⟨_,c1⟩:=JC k IE wr IA.out;have b5:wr.cell? ⟨wo.heap.size,5,none⟩=some (.string od):=HBR.out.cell 5;have HMEM:=DX (bY bL IE)
      obtain ⟨x,hx⟩:∃ x,x=(gs.getD k bL).d:=⟨_,rfl⟩
      rw [<- hx] at c1;have HXX:=DX hx;rw [NZ] at r1;clear JC hx
      by_cases he:x=od
      . have hq:(x.toList == od.toList)=true:=by rw [he];simp
        have GI:=DX (JJ.out.trans (if_pos (.inr (List.any_eq_true.2 ⟨_,HMEM.out,DZ (HXX.out.symm.trans he)⟩))));clear he
        go_upto_region 17 with (fail)
        go_quiet (fail);have JQ:=DX (IA.out.drewN nq);have JM:=DX (HRR.out.kept ((EX wr).drewN nq));go_wp2_with (refine aD rfl 47 (.tmp 4) (.tmp 87) rfl (wo.heap.size+1) (bB (aY 11)) LR 47 rfl rfl JM.out AX rfl (aL _) ?_)
        refine EI (v:=bW (aY 11)) ?_ rfl ?_
        . exact EH rfl _ _ (wo.heap.size+1) 47 (bB (aY 11)) (0,0) _ rfl (JM.out.setRow _) EV rfl AX
        . exact xN
      . have hq:(x.toList == od.toList)=false:=(dM he).2.1
        have TU:=DX (show ∀ j,j<k+1->(gs.getD j bL).d≠od from fun j hj=>by rcases Nat.lt_or_ge j k with q | q;exact HN.out j q;rw [show j=k by omega,<- HXX.out];exact he);clear he
        go_upto_region 17 with (fail)
        go_quiet (fail);have JQ:=DX (IA.out.drewN nq);have HK29:=DX (HK2R.out.drewN nq);go_wp2_with fail;go_roundw
        case rel=>exact ⟨k+1,aE,by go_num,TU,JQ.out,HK29.out⟩
        case measure=>simp [intOf];omega
    . obtain rfl:k=gs.length:=by omega
      have GU:decide (gs.length<gs.length)=false:=DY aE;have KG:decide ((gs.length:Int)<(gs.length:Int))=false:=DY aE;have HNA:=DX (show ¬ (gs.any fun x=>decide (x.d=od))=true from fun q=>by obtain ⟨x,hx,hxd⟩:=List.any_eq_true.1 q;obtain ⟨j,hj,rfl⟩:=List.mem_iff_getElem.1 hx;exact HN.out j hj (by rw [List.getD_eq_getElem?_getD,List.getElem?_eq_getElem hj];exact of_decide_eq_true hxd))
      go_upto_region 19 with (fail)
      clear r0 r1 r2 r3;have HKC:=DX IA.out;have HRC:=DX HRR.out;have HBC:=DX HBR.out;clear IA HRR HBR HN hk IE;generalize wr=wc at *;have HPQ:=HP
      obtain ⟨UB,hUB⟩:∃ UB,UB=decide (0<(UL.length:Int)):=⟨_,rfl⟩
      have HUB:=DX hUB.symm;have HUBN:=DX (show decide (0<UL.length)=UB by rw [hUB];simp);have HUBX:=DX hUB;clear hUB
      refine Pj.Zg (fun az0 L az w=>∃ V:Nat->Value,az=Pj.Zb [(88,0),(89,1),(90,2),(91,3),(92,4),(93,5),(94,6),(95,7),(96,8)] V az0/\Pj.J wc [Pj.Is (.pointer (some ⟨p,0,none⟩)),Pj.Is (.pointer (some ⟨p,0,none⟩)),Pj.Is (.pointer (some ⟨p,0,none⟩)),Pj.Is (.slice (some ⟨g,0,none⟩) ts.length cT),Pj.Is (.pointer (some ⟨wo.heap.size,5,none⟩)),Pj.Is (.string od),(fun _ v=>∃ a c,v=.slice a UL.length c),Pj.Is (.int .i64 (UL.length:Int)),Pj.Is (.bool UB)] L V w) nR nR ?eh0 ?ehs ?ehe
      case eh0 =>
       intro L hL;exact ⟨_,Pj.Zi _ (fun j=>([88,89,90,91,92,93,94,95,96]:List Nat).getD j 0) [0,1,2,3,4,5,6,7,8],Pj.J.none (n:=9) (EA _) hL ((EX _).drew)⟩
      case ehs =>
       rintro L L' az w iz opz Kq ⟨V,rfl,hJ⟩ ho FY FZ hL IH;have hP:Pj.Zl [Pj.Is (.pointer (some ⟨p,0,none⟩)),Pj.Is (.pointer (some ⟨p,0,none⟩)),Pj.Is (.pointer (some ⟨p,0,none⟩)),Pj.Is (.slice (some ⟨g,0,none⟩) ts.length cT),Pj.Is (.pointer (some ⟨wo.heap.size,5,none⟩)),Pj.Is (.string od),(fun _ v=>∃ a c,v=.slice a UL.length c),Pj.Is (.int .i64 (UL.length:Int)),Pj.Is (.bool UB)]:=⟨Pj.Is.stays _,Pj.Is.stays _,Pj.Is.stays _,Pj.Is.stays _,Pj.Is.stays _,Pj.Is.stays _,fun _ _ _ h _=>h,Pj.Is.stays _,Pj.Is.stays _,trivial⟩;have HP:=DX hP;clear hP
       match iz,ho with
       | 0,ho =>
        simp only [iU] at ho;have HJ:=DX hJ;clear hJ;subst ho
        refine Pj.Za.free rfl ?_
        simp only [Pj.Zb,dO,Act.put];go_simp;exact IH _ _ ⟨Pj.Yz V 0 (.pointer (some ⟨p,0,none⟩)),by simp only [Pj.Zb,dO,Act.put,Pj.Yz,Nat.reduceEqDiff,if_true,if_false],HJ.out.more HP.out hL (EX _) (rfl)⟩
       | 1,ho =>
        simp only [iU] at ho
        have e0:V 0=.pointer (some ⟨p,0,none⟩):=hJ.h 0 (FZ 0 (by rw [<- ho];kernel_rfl))
        have HJ:=DX hJ;clear hJ;subst ho
        refine Pj.Za.free rfl ?_
        simp only [Pj.Zb,dO,Act.put,e0];go_simp;exact IH _ _ ⟨Pj.Yz V 1 (.pointer (some ⟨p,0,none⟩)),by simp only [Pj.Zb,dO,Act.put,Pj.Yz,Nat.reduceEqDiff,if_true,if_false,e0],HJ.out.more HP.out hL (EX _) (rfl)⟩
       | 2,ho =>
        simp only [iU] at ho
        have e1:V 1=.pointer (some ⟨p,0,none⟩):=hJ.h 1 (FZ 1 (by rw [<- ho];kernel_rfl))
        have HJ:=DX hJ;clear hJ;subst ho
        refine Pj.Za.free rfl ?_
        simp only [Pj.Zb,dO,Act.put,e1];go_simp;exact IH _ _ ⟨Pj.Yz V 2 (.pointer (some ⟨p,0,none⟩)),by simp only [Pj.Zb,dO,Act.put,Pj.Yz,Nat.reduceEqDiff,if_true,if_false,e1],HJ.out.more HP.out hL (EX _) (rfl)⟩
       | 3,ho =>
        simp only [iU] at ho
        have e2:V 2=.pointer (some ⟨p,0,none⟩):=hJ.h 2 (FZ 2 (by rw [<- ho];kernel_rfl))
        obtain ⟨d0,d1,d2,d3⟩:=aI (HPQ.out.kept (HKC.out.trans hJ.kp));have HJ:=DX hJ;clear hJ;subst ho
        refine Pj.Za.free rfl ?_
        simp only [Pj.Zb,dO,Act.put,e2];go_simp;exact IH _ _ ⟨Pj.Yz V 3 (.slice (some ⟨g,0,none⟩) ts.length cT),by simp only [Pj.Zb,dO,Act.put,Pj.Yz,Nat.reduceEqDiff,if_true,if_false,e2],HJ.out.more HP.out hL (EX _) (rfl)⟩
       | 4,ho =>
        simp only [iU] at ho;have HJ:=DX hJ;clear hJ;subst ho
        refine Pj.Za.free rfl ?_
        simp only [Pj.Zb,dO,Act.put];go_simp;exact IH _ _ ⟨Pj.Yz V 4 (.pointer (some ⟨wo.heap.size,5,none⟩)),by simp only [Pj.Zb,dO,Act.put,Pj.Yz,Nat.reduceEqDiff,if_true,if_false],HJ.out.more HP.out hL (EX _) (rfl)⟩
       | 5,ho =>
        simp only [iU] at ho
        have e4:V 4=.pointer (some ⟨wo.heap.size,5,none⟩):=hJ.h 4 (FZ 4 (by rw [<- ho];kernel_rfl))
        have q9:w.cell? ⟨wo.heap.size,5,none⟩=some (.string od):=(HBC.out.kept hJ.kp).cell 5
        have HJ:=DX hJ;clear hJ;subst ho
        refine Pj.Za.free rfl ?_
        simp only [Pj.Zb,dO,Act.put,e4];go_simp;exact IH _ _ ⟨Pj.Yz V 5 (.string od),by simp only [Pj.Zb,dO,Act.put,Pj.Yz,Nat.reduceEqDiff,if_true,if_false,e4],HJ.out.more HP.out hL (EX _) (rfl)⟩
       | 6,ho =>
        simp only [iU] at ho
        have e3:V 3=.slice (some ⟨g,0,none⟩) ts.length cT:=hJ.h 3 (FZ 3 (by rw [<- ho];kernel_rfl))
        have e5:V 5=.string od:=hJ.h 5 (FZ 5 (by rw [<- ho];kernel_rfl))
        have hcp:=TX.out w (HKC.out.trans hJ.kp);have HJ:=DX hJ;clear hJ;subst ho
        refine Pj.Za.free rfl ?_
        simp only [Pj.Zb,dO,Act.put,e3,e5];go_simp
        refine hcp.mono ?_
        rintro e w' ⟨a5,c5,rfl,_,GF⟩;exact IH _ _ ⟨Pj.Yz V 6 (.slice a5 UL.length c5),by simp only [Pj.Zb,dO,Act.put,Pj.Yz,Nat.reduceEqDiff,if_true,if_false,e3,e5],HJ.out.more HP.out hL (GF) (⟨_,_,rfl⟩)⟩
       | 7,ho =>
        simp only [iU] at ho;obtain ⟨a6,c6,e6⟩:=hJ.h 6 (FZ 6 (by rw [<- ho];kernel_rfl));have HJ:=DX hJ;clear hJ;subst ho
        refine Pj.Za.free rfl ?_
        simp only [Pj.Zb,dO,Act.put,e6];go_simp;exact IH _ _ ⟨Pj.Yz V 7 (.int .i64 (UL.length:Int)),by simp only [Pj.Zb,dO,Act.put,Pj.Yz,Nat.reduceEqDiff,if_true,if_false,e6],HJ.out.more HP.out hL (EX _) (rfl)⟩
       | 8,ho =>
        simp only [iU] at ho
        have e7:V 7=.int .i64 (UL.length:Int):=hJ.h 7 (FZ 7 (by rw [<- ho];kernel_rfl))
        have hub:=HUB.out;have hubn:=HUBN.out;have HJ:=DX hJ;clear hJ;subst ho
        refine Pj.Za.free rfl ?_
        simp only [Pj.Zb,dO,Act.put,e7];go_simp;exact IH _ _ ⟨Pj.Yz V 8 (.bool UB),by simp only [Pj.Zb,dO,Act.put,Pj.Yz,Nat.reduceEqDiff,if_true,if_false,e7],HJ.out.more HP.out hL (EX _) (rfl)⟩
       | n+9,ho=>simp at ho
      case ehe =>
       rintro L az w ⟨V,rfl,hJ⟩ GH
       have e8:V 8=.bool UB:=hJ.h 8 (GH 8 aF)
       have HKj:=DX hJ.kp;clear hJ GH;simp only [Pj.Zb,dO,Act.put,e8];clear e8;have VP:=DX (HKC.out.trans HKj.out);have IW:=DX (HRC.out.kept HKj.out)
       rename World=>w4
       have LZ:=DX (HQ.out.kept VP.out)
       cases UB with
       | true =>
        have GI:=DX (JJ.out.trans (if_pos (.inl (by have:=of_decide_eq_true HUBX.out.symm;omega))));go_wp2_with (refine aD rfl 47 (.tmp 4) (.tmp 97) rfl (wo.heap.size+1) (bB (aY 11)) LR 47 rfl rfl IW.out AX rfl (aL _) ?_)
        refine EI (v:=bW (aY 11)) ?_ rfl ?_
        . exact EH rfl _ _ (wo.heap.size+1) 47 (bB (aY 11)) (0,0) _ rfl (IW.out.setRow _) EV rfl AX
        . rw [HX.out,GI.out];exact ⟨rfl,(HQ.out.kept VP.out).setRow IW.out aF aF aF aF _,(FA VP.out GY).setRow (ED _) GY _⟩
       | false =>
        have GI:=DX (JJ.out.trans (if_neg (fun q=>q.elim (fun q=>by have:=of_decide_eq_false HUBX.out.symm;omega) HNA.out)));clear HUBX HNA;have OC:z<ts.length:=GA
        go_upto_region 21 with (fail)
        obtain ⟨aT4,cT4,aG4,cG4,aS4,cS4,IM,oT4,oG4,oS4⟩:=LZ.out.rows;dsimp only at IM oT4 oG4 oS4;have KF:=DX IM;have PG:=DX oT4;obtain ⟨i0,IY,GV,GJ,GO⟩:=gD Tryz.prog BA;have HI:=DX (EC IY (EC GV (EC GJ GO)));obtain ⟨_,_,hv,TA⟩:=cI oT4 rfl aE (fun x hx=>by have:=LB.out.zT x hx;omega);cases hv
        obtain ⟨m,hm⟩:∃ m,m=z+1:=⟨_,rfl⟩
        have ZM:m<=ts.length:=by omega
        have HZW:=DX (show IntKind.i64.wrap ((z:Int)+1)=(m:Int) by rw [IntWalk.i64_in _ aE];omega);have NJ:ts.length<=cT4:=iJ oT4;obtain ⟨aq,UU,SQ,NS⟩:=iL oT4 m ZM;rw [eB dW 3 mA] at NS;have MK:=DX (fun w9 (kk:aB w4 w9)=>mQ aT4 z cT4 (ts.take z) w9 (Av (TA.kept kk) aE));have JU:=DX (show z+(ts.length - m)=(ts.eraseIdx z).length by rw [List.length_eraseIdx_of_lt aE];omega);have NG:=DX (show (ts.take z).flatMap dW++(ts.drop m).flatMap dW=(ts.eraseIdx z).flatMap dW by rw [List.eraseIdx_eq_take_drop_succ,List.flatMap_append,hm]);have OP:=DX (show base<=w4.heap.size by have:=IM.lt;omega)
        have hzc:z<=cT4:=by omega
        clear hm IY GV GJ GO IM oT4 oG4 oS4 TA;go_wp2_with fail
        have mixed:Tryz.prog.follows Departure.mixedOrders=true:=by kernel_rfl
        have ZQ:=UU.out;have hzw:=HZW.out;obtain ⟨d0,d1,d2,d3⟩:=aI KF.out;go_region_law_o (first | (rw [if_pos (Pj.Ze rfl _)];go_simp;refine (MK.out _ ((EX w4).drew)).mono ?_;rintro e y5 ⟨a5,c5,rfl,JF,OG⟩;have GZ:=((EX w4).drew).trans OG;have IP:=bA JF (EZ ((EX w4).drew));have hp5:=KF.out.kept GZ;obtain ⟨d0,d1,d2,d3⟩:=aI hp5;have LX:=NS.out y5 GZ;try dsimp only) | (refine fG rfl (.tmp 105) (.tmp 112) 22 rfl w4.heap.size 62 i0 (.agg (LT ByteArray.empty ByteArray.empty false)) 3 40 ER HI.out.1 HI.out.2.1 HI.out.2.2.1 HI.out.2.2.2 rfl aF (.slice a5 z c5) z ((ts.take z).flatMap dW) rfl IP aq (ts.length - m) (cT4 - m) ((ts.drop m).flatMap dW) rfl SQ.out LX.1 LX.2 (fun u hu=>lQ _ u hu) aE aF GZ.size ?_;intro v9 y9 GS ND;obtain ⟨a6,c6,rfl⟩:=aP GS;have GF:=cD GZ ND (fun q e=>(IP.lt q e).1) (EA _);have KW:=KF.out.kept GF;obtain ⟨d0,d1,d2,d3⟩:=aI KW;have f9:=KW.free 0))
        all_goals
         have QN:=GS;rw [JU.out,NG.out] at QN
         have JB:=(LZ.out.kept GF).putT hp (ts.eraseIdx z) (row:=none) ⟨rfl,rfl,rfl,EA _,fun _ _ _=>rfl⟩ dX.none (bA QN OP.out)
         rw [<- JU.out] at JB;have SC:=DX JB.1;have OJ:=DX ((FA GF OP.out).trans JB.2);clear QN JB GS ND IP KW f9 d0 d1 d2 d3;generalize y9.setCell ⟨p,0,none⟩ (.slice a6 (z+(ts.length - m)) c6)=w5 at *;have LC:=DX ((FA VP.out GY).trans OJ.out);have KE:=DX (OJ.out.blk _ _ _ IW.out aE aF aF aF);go_wp2_with (refine aD rfl 47 (.tmp 4) (.tmp 116) rfl (wo.heap.size+1) (bB (fT)) LR 47 rfl rfl KE.out AX rfl (aL _) ?_);exact Ll
 . have GI:=DX (show eE ⟨ts,gs,ss,nx⟩ od=(⟨ts,gs,ss,nx⟩,aY 3) from if_neg GA)
   rw [show kR ts od = -1 from if_neg GA] at JA;clear rT zT rG zG rS zS oT oG oS Q hb hI hJ;clear hs GA;go_enter Tryz.func81,Tryz.ntmps81
   go_upto_region 1 with (fail)
   generalize (wo.alloc ((KO 7 oi on om GE od ot))).alloc (KR)=w1 at *
   have b5:w1.cell? ⟨wo.heap.size,5,none⟩=some (.string od):=HB.out.cell 5;obtain ⟨r0,r1,r2,r3⟩:=aI (HP.out.kept HK.out);replace r0:=aC r0;replace r1:=aC r1;replace r2:=aC r2;replace r3:=aC r3;replace b5:=aC b5;have GX:=DX (fun u:bF w1=>JA.out u.1 (HK.out.trans u.2))
   refine aJ aW aW ?_
   repeat (go_big_quiet_step ((go_at_call 52;exact aK (GX.out _))))
   refine wpQuiet_nil ?_
   intro _ GD;obtain ⟨nq,FT⟩:=GD;subst FT;have FW:=DX (HK.out.trans nq.2);have GK:=DX (HR.out.kept nq.2);have GP:=DX (HB.out.kept nq.2);clear r0 r1 r2 r3 b5 GX;generalize nq.1=w2 at *;have b0:w2.cell? ⟨wo.heap.size,0,none⟩=some (.int .i64 7):=GP.out.cell 0
   have hd:decide ((-1:Int)<0)=true:=by decide
   go_wp2_with (refine aD rfl 47 (.tmp 4) (.tmp 17) rfl (wo.heap.size+1) (bB (aY 3)) LR 47 rfl rfl GK.out AX rfl (aL _) ?_)
   refine EI (v:=bW (aY 3)) ?_ rfl ?_
   . exact xT
   . exact vN
end Go.Proofs.YtkfmladhicapeaaGreatDoor
