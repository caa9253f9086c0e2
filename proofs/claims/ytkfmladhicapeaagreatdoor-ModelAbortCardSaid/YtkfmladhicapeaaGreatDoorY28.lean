import Derived.Test.YtkfmladhicapeaaGreatDoorY27
import Derived.Test.YtkfmladhicapeaaGreatDoorY16
set_option maxRecDepth 100000
set_option maxHeartbeats 8000000
namespace Go.Proofs.YtkfmladhicapeaaGreatDoor
open Go.RowKit Go.Shelf
attribute [local go_sem] Oper.semAt_some
theorem xH (n m:Int) (w:World):Calls Tryz.prog 49 #[.int .i64 n,.int .i64 m] w fun e w'=>e=.returned (.bool (decide (0<=n)&&decide (n<=m)))/\w=w':=by
 by_cases h0:0<=n
 . have hd0:decide (0<=n)=true:=DZ h0
   by_cases h1:n<=m
   . have GU:decide (n<=m)=true:=DZ h1
     rw [hd0,GU];exact Ee
   . have GU:decide (n<=m)=false:=DY h1
     rw [hd0,GU];exact Ee
 . have hd0:decide (0<=n)=false:=DY h0
   rw [hd0];exact Ee
theorem jM (aT aG aS:Option Addr) (cT cG cS:Nat) (ts:List Th) (gs:List Tg) (ss:List Se) (nx:Int) (w0:World) (hT:bO w0 aT ts.length ts) (hG:cJ w0 aG gs.length gs) (hS:cP w0 aS ss.length ss) (UE:∀ x∈gs,x.n.size<=1000000) :
 Calls Tryz.prog 27 #[.agg (LS aT ts.length cT aG gs.length cG aS ss.length cS nx)] w0 fun e w'=>e=.returned (.bool (dP ⟨ts,gs,ss,nx⟩))/\aB w0 w':=by
 have JV:=DX hT;have NN:=DX hG;have MN:=DX hS;have PN:=DX UE;have FV:=hT.le;have hlg:=hG.le;have hls:=hS.le;have HB:=DX (EY w0 (LS aT ts.length cT aG gs.length cG aS ss.length cS nx) 26);have IL:=DX ((EX w0).alloc ((KS aT ts.length cT aG gs.length cG aS ss.length cS nx)));clear hT hG hS UE;go_enter Tryz.func27,Tryz.ntmps27
 go_upto_region 1 with (fail)
 generalize w0.alloc ((KS aT ts.length cT aG gs.length cG aS ss.length cS nx))=w1 at *;have JK:=DX (fun w (k:aB w1 w)=>aI (HB.out.kept k));generalize w0.heap.size=p0 at *;obtain ⟨r0,r1,r2,r3⟩:=JK.out _ (EX _);clear HB
 obtain ⟨B,hB⟩:∃ B,B=fF ts:=⟨_,rfl⟩
 have HRT:=DX (Az aT ts.length cT ts w1 (JV.out.kept IL.out));rw [<- hB] at HRT;have HB:=DX hB;clear hB;go_wp2_with fail
 refine HRT.out.mono ?_
 rintro e w2 ⟨rfl,FX⟩;have FW:=DX FX;clear r0 r1 r2 r3 HRT;obtain ⟨r0,r1,r2,r3⟩:=JK.out _ FX;clear FX
 cases B with
 | false =>
  have HO:=DX (show dP ⟨ts,gs,ss,nx⟩=false from bV (bV HB.out.symm));exact Rd
 | true =>
  have HTB:=DX (show fF ts=true from HB.out.symm);clear HB
  by_cases hg40:gs.length<=40
  . have hdg:decide (40<(gs.length:Int))=false:=DY aE
    have HG40:=DX (DZ hg40)
    by_cases hs8:ss.length<=8
    . have hds:decide (8<(ss.length:Int))=false:=DY aE
      have HS8:=DX (DZ hs8);go_wp2_with fail
      refine (xH _ _ _).mono ?_
      rintro e w' ⟨rfl,rfl⟩
      by_cases TF:0<=nx/\nx<=1073741824
      . have WF:(decide (0<=nx)&&decide (nx<=1073741824))=true:=by rw [DZ TF.1,DZ TF.2];rfl
        rw [WF];have QV:=DX (DZ TF);obtain ⟨WJ,NV⟩:=TF;clear WF;go_wp2_with fail;clear r0 r1 r2 r3;go_loopw [3] (fun kv wr=>∃ k:Nat,k<=ts.length/\kv=.int .i64 k/\(ts.take k).all (oN ts)=true/\aB w1 wr) (fun kv _=>ts.length - (intOf kv).toNat)
        case atStart=>exact ⟨0,aE,rfl,rfl,FW.out⟩
        case round =>
         rename World=>wr
         obtain ⟨k,hk,rfl,GH,IF⟩:=hrel;have IA:=DX IF;have IR:=DX GH;obtain ⟨r0,r1,r2,r3⟩:=JK.out _ IF;clear IF GH
         by_cases FV:k<ts.length
         . have GU:decide (k<ts.length)=true:=DZ FV
           have NY:=DX (kV (oN ts) ts aX k FV);have IJ:=DX (bY aX FV);have IG:=JV.out.size k FV;obtain ⟨bt,ot,NZ,JC⟩:=JV.out.at aE;rw [NZ] at r0;obtain ⟨c0,c1,c2⟩:=JC k FV wr (IL.out.trans IA.out);generalize ts.getD k aX=x at *;obtain ⟨xd,xt,xm⟩:=x;dsimp only at c0 c1 c2 IG;clear JC
           go_upto_region 7 with (fail)
           have WS:=DX (EY wr (LT xd xt xm) 62);have GC:=DX (IA.out.alloc ((KT xd xt xm)));clear c0 c1 c2 r0 r1 r2 r3;generalize wr.alloc ((KT xd xt xm))=w3 at *;obtain ⟨r0,r1,r2,r3⟩:=JK.out _ GC.out;obtain ⟨d0,d1,d2⟩:=dI WS.out
           obtain ⟨D,hD⟩:∃ D,D=dg xt.data.toList:=⟨_,rfl⟩
           obtain ⟨NM,UY⟩:∃ NM,NM=iN ts xt:=⟨_,rfl⟩
           have UT:=DX (show oN ts ⟨xd,xt,xm⟩=(decide (xd=D)&&(!xm||NM)) by rw [hD,UY];rfl);have HDC:=DX (fun (u:bF w3)=>show Calls Tryz.prog 46 #[.string xt] u.1 fun e w'=>e=.returned (.string D)/\aB u.1 w' by rw [hD];exact nC xt aE u.1);have HNC:=DX (fun (u:bF w3)=>show Calls Tryz.prog 50 #[.slice aT ts.length cT,.string xt] u.1 fun e w'=>e=.returned (.bool NM)/\aB u.1 w' by rw [UY];exact sP aT ts.length cT ts xt u.1 (JV.out.kept (IL.out.trans (GC.out.trans u.2))));have l0:=aC r0;have e0:=aC d0;have e1:=aC d1;have e2:=aC d2;clear hD UY NZ d0 d1 d2 r0 r1 r2 r3
           by_cases MI:xd=D
           . have hq:(xd.toList != D.toList)=false:=by subst MI;simp
             have XF:(xd.toList == D.toList)=true:=by subst MI;simp
             have HD1:=DX MI;clear MI
             cases xm with
             | false =>
              have HO:=DX (show oN ts ⟨xd,xt,false⟩=true by rw [UT.out,DZ HD1.out];rfl);go_wp2_with fail
              refine aJ aW aW ?_
              repeat (go_big_quiet_step ((go_at_call 46;exact aK (HDC.out _))))
              refine wpQuiet_nil ?_
              intro _ GD;obtain ⟨nq,FT⟩:=GD;subst FT;have GQ:=DX (GC.out.trans nq.2);clear l0 e0 e1 e2;generalize nq.1=w4 at *;exact Aj
             | true =>
              cases NM with
              | true =>
               have HO:=DX (show oN ts ⟨xd,xt,true⟩=true by rw [UT.out,DZ HD1.out];rfl);go_wp2_with fail
               refine aJ aW aW ?_
               repeat (go_big_quiet_step (first | (go_at_call 46;exact aK (HDC.out _)) | (go_at_call 50;exact aK (HNC.out _))))
               refine wpQuiet_nil ?_
               intro _ GD;obtain ⟨nq,FT⟩:=GD;subst FT;have GQ:=DX (GC.out.trans nq.2);clear l0 e0 e1 e2;generalize nq.1=w4 at *;exact Aj
              | false =>
               have HO:=DX (show dP ⟨ts,gs,ss,nx⟩=false from bV (bC (eQ IJ.out (by rw [UT.out];simp))));go_wp2_with fail
               refine aJ aW aW ?_
               repeat (go_big_quiet_step (first | (go_at_call 46;exact aK (HDC.out _)) | (go_at_call 50;exact aK (HNC.out _))))
               refine wpQuiet_nil ?_
               intro _ GD;obtain ⟨nq,FT⟩:=GD;subst FT;have GQ:=DX (IL.out.trans (GC.out.trans nq.2));clear l0 e0 e1 e2;generalize nq.1=w4 at *;exact Qe
           . have hq:(xd.toList != D.toList)=true:=(dM MI).2.2
             have XF:(xd.toList == D.toList)=false:=(dM MI).2.1
             have HO:=DX (show dP ⟨ts,gs,ss,nx⟩=false from bV (bC (eQ IJ.out (by rw [UT.out,DY MI];rfl))));clear MI;go_wp2_with fail
             refine aJ aW aW ?_
             repeat (go_big_quiet_step ((go_at_call 46;exact aK (HDC.out _))))
             refine wpQuiet_nil ?_
             intro _ GD;obtain ⟨nq,FT⟩:=GD;subst FT;have GQ:=DX (IL.out.trans (GC.out.trans nq.2));clear l0 e0 e1 e2;generalize nq.1=w4 at *;exact Qe
         . obtain rfl:k=ts.length:=by omega
           have GU:decide (ts.length<ts.length)=false:=DY aE;rw [List.take_length] at IR;have HTT:=DX (show yR ts=true by unfold yR;rw [HTB.out,IR.out];rfl);clear IR hk FV;go_wp2_with fail;clear r0 r1 r2 r3;go_loopw [5] (fun kv wr=>∃ k:Nat,k<=gs.length/\kv=.int .i64 k/\(gs.take k).all (rK ts)=true/\pS (kL gs) k=true/\aB w1 wr) (fun kv _=>gs.length - (intOf kv).toNat)
           case atStart=>exact ⟨0,aE,rfl,rfl,zI _,IA.out⟩
           case round =>
            clear IA
            rename World=>wr
            obtain ⟨k,hk,rfl,GH,SK,IF⟩:=hrel;have IA:=DX IF;have IR:=DX GH;have NX:=DX SK;obtain ⟨r0,r1,r2,r3⟩:=JK.out _ IF;clear IF GH SK
            by_cases FV:k<gs.length
            . have GU:decide (k<gs.length)=true:=DZ FV
              have NY:=DX (kV (rK ts) gs bL k FV);have IJ:=DX (bY bL FV);have VZ:=DX (mT (kL gs) k);have HRF:=DX (fun (h0:0<k) h=>show gG (kL gs)=false from kY (l:=kL gs) (n:=(kL gs).length) (i:=k) (by unfold kL;rw [List.length_map];exact FV) h0 h);rw [jT,jT] at VZ HRF;have IG:=NN.out.size k FV;have MA:=PN.out _ IJ.out;obtain ⟨bg,og,NZ,hcg⟩:=NN.out.at aE;rw [NZ] at r1;obtain ⟨c0,c1⟩:=hcg k FV wr (IL.out.trans IA.out);have MK:=DX (fun (h0:0<k) w (kk:aB wr w)=>(hcg (k - 1) aE w (IL.out.trans (IA.out.trans kk))).1);have KQ:=DX (fun w (kk:aB wr w)=>hcg k FV w (IL.out.trans (IA.out.trans kk)));have ZU:=DX (fun w (kk:aB wr w)=>show w.cell? ⟨p0,0,none⟩=some (.slice aT ts.length cT)/\w.cell? ⟨p0,1,none⟩=some (.slice (some ⟨bg,og,none⟩) gs.length cG) from ⟨(JK.out _ (IA.out.trans kk)).1,by rw [<- NZ];exact (JK.out _ (IA.out.trans kk)).2.1⟩)
              generalize (gs.getD (k - 1) bL).n=pn at *
              generalize gs.getD k bL=x at *;obtain ⟨xn,xd⟩:=x;dsimp only at c0 c1 IG MA KQ VZ HRF;clear hcg NZ;go_wp2_with fail
              refine (yT xn wr MA).mono ?_
              rintro e w3 ⟨hN,IK⟩;have GC:=DX IK;have YZ:=DX (IL.out.trans (IA.out.trans IK));clear IK c0 c1 r0 r1 r2 r3;unfold vP pW at hN;have HRA:=DX (fun (u:bF w3)=>gR aT ts.length cT ts xd u.1 (JV.out.kept (YZ.out.trans u.2)));obtain ⟨z0,z1⟩:=ZU.out w3 GC.out;obtain ⟨y0,y1⟩:=KQ.out w3 GC.out;have l0:=aC z0;have l1:=aC z1;have l2:=aC y1;clear z0 z1 y0 y1
              rcases hN with ⟨JR,a9,c9,rfl,_,_⟩ | ⟨JR,rfl⟩
              . have HOKN:=DX JR
                clear JR;go_wp2_with fail
                refine aJ aW aW ?_
                repeat (go_big_quiet_step ((go_at_call 52;exact aK (HRA.out _))))
                refine wpQuiet_nil ?_
                intro _ GD;obtain ⟨nq,FT⟩:=GD;subst FT;have GQ:=DX (GC.out.trans nq.2);clear l0 l1 l2 HRA;generalize nq.1=w4 at *;obtain ⟨z0,z1⟩:=ZU.out w4 GQ.out;obtain ⟨y0,y1⟩:=KQ.out w4 GQ.out
                by_cases GA:cQ ts xd<ts.length
                . have hz:kR ts xd=(cQ ts xd:Int):=by unfold kR;rw [if_pos GA]
                  rw [hz];have JH:decide (((cQ ts xd:Nat):Int)<0)=false:=DY aE;obtain ⟨bt,ot,hta,JC⟩:=JV.out.at aE;rw [hta] at z0;obtain ⟨_,_,t2⟩:=JC (cQ ts xd) GA w4 (IL.out.trans (IA.out.trans GQ.out));have ZK:decide (cQ ts xd<ts.length)=true:=DZ GA
                  obtain ⟨M,hM⟩:∃ M,M=(ts.getD (cQ ts xd) aX).m:=⟨_,rfl⟩
                  have HTO:=DX (show rK ts ⟨xn,xd⟩=M by
                   show (dV xn&&iZ ts xd true)=M
                   unfold iZ;rw [HOKN.out,ZK,hM]
                   cases (ts.getD (cQ ts xd) aX).m <;> rfl)
                  rw [<- hM] at t2;clear JC hz hM hta;generalize cQ ts xd=z at *
                  cases M with
                  | false =>
                   have HO:=DX (show dP ⟨ts,gs,ss,nx⟩=false from bC (bV (bC (bV (eQ IJ.out HTO.out)))));exact Qc
                  | true =>
                   by_cases RT:k=0
                   . have hdk:decide (0<k)=false:=DY aE
                     have aBG:decide (0<(k:Int))=false:=DY aE;have HN:=DX (show pS (kL gs) (k+1)=true by rw [VZ.out,NX.out,DZ RT];rfl);clear RT;exact Sw
                   . have MF:0<k:=by omega
                     have hdk:decide (0<k)=true:=DZ MF;have aBG:decide (0<(k:Int))=true:=DZ aE;have y2:=MK.out MF w4 GQ.out
                     obtain ⟨m,hm⟩:∃ m,m=k - 1:=⟨_,rfl⟩
                     rw [<- hm] at y2
                     have hkm:IntKind.i64.wrap ((k:Int) - 1)=(m:Int):=by rw [IntWalk.i64_in _ aE];omega
                     have LA:m<gs.length:=by omega
                     have hdml:decide (m<gs.length)=true:=DZ LA
                     cases hq:cZ pn xn with
                     | true =>
                      have ZO:=jV hq;have HN:=DX (show pS (kL gs) (k+1)=true by rw [VZ.out,NX.out,hq];simp);clear RT hm hq;exact Sw
                     | false =>
                      have ZO:=jV hq;have HO:=DX (show dP ⟨ts,gs,ss,nx⟩=false from bC (bV (bC (bC (HRF.out MF hq)))));clear RT hm hq;exact Qc
                . have hz:kR ts xd = -1:=by unfold kR;rw [if_neg GA]
                  rw [hz]
                  have JH:decide ((-1:Int)<0)=true:=by decide
                  have HTO:=DX (show rK ts ⟨xn,xd⟩=false from bC (by show iZ ts xd true=false;unfold iZ;rw [DY GA];rfl));have HO:=DX (show dP ⟨ts,gs,ss,nx⟩=false from bC (bV (bC (bV (eQ IJ.out HTO.out)))));clear hz GA;exact Qc
              . have HTO:=DX (show rK ts ⟨xn,xd⟩=false from bV JR)
                have HO:=DX (show dP ⟨ts,gs,ss,nx⟩=false from bC (bV (bC (bV (eQ IJ.out HTO.out)))));clear JR;go_wp2_with fail
                refine aJ aW aW ?_
                repeat (go_big_quiet_step ((go_at_call 52;exact aK (HRA.out _))))
                refine wpQuiet_nil ?_
                intro _ GD;obtain ⟨nq,FT⟩:=GD;subst FT;have GQ:=DX (GC.out.trans nq.2);clear l0 l1 l2 HRA;generalize nq.1=w4 at *;exact Qc
            . obtain rfl:k=gs.length:=by omega
              have GU:decide (gs.length<gs.length)=false:=DY aE;rw [List.take_length] at IR
              have HGG:=DX (show Cc ts gs=true by
               unfold Cc gG
               rw [HG40.out,IR.out,show (kL gs).length=gs.length by unfold kL;rw [List.length_map],NX.out];rfl)
              clear IR NX hk FV;go_wp2_with fail;clear r0 r1 r2 r3;go_loopw [10] (fun kv wr=>∃ k:Nat,k<=ss.length/\kv=.int .i64 k/\(ss.take k).all (nI nx)=true/\kF ss k=true/\aB w1 wr) (fun kv _=>ss.length - (intOf kv).toNat)
              case atStart=>exact ⟨0,aE,rfl,rfl,rfl,IA.out⟩
              case round =>
               clear IA
               rename World=>wr
               obtain ⟨k,hk,rfl,GH,SK,IF⟩:=hrel;have IA:=DX IF;have IR:=DX GH;have NX:=DX SK;obtain ⟨r0,r1,r2,r3⟩:=JK.out _ IF;clear IF GH SK
               by_cases FV:k<ss.length
               . have GU:decide (k<ss.length)=true:=DZ FV
                 have NY:=DX (kV (nI nx) ss bQ k FV);have IJ:=DX (bY bQ FV);have VZ:=DX (vE ss k);have HRF:=DX (fun (h0:0<k) h=>uA (ss:=ss) (n:=ss.length) (i:=k) FV h0 h);have IG:=MN.out.size k FV;obtain ⟨bs,os,NZ,JW⟩:=MN.out.at aE;rw [NZ] at r2;obtain ⟨c0,c1⟩:=JW k FV wr (IL.out.trans IA.out);have MK:=DX (fun (h0:0<k) w (kk:aB wr w)=>(JW (k - 1) aE w (IL.out.trans (IA.out.trans kk))).1);have ZU:=DX (fun w (kk:aB wr w)=>show w.cell? ⟨p0,2,none⟩=some (.slice (some ⟨bs,os,none⟩) ss.length cS)/\w.cell? ⟨p0,3,none⟩=some (.int .i64 nx) from ⟨by rw [<- NZ];exact (JK.out _ (IA.out.trans kk)).2.2.1,(JK.out _ (IA.out.trans kk)).2.2.2⟩)
                 generalize (ss.getD (k - 1) bQ).i=pn at *
                 generalize ss.getD k bQ=x at *;obtain ⟨xi,xt⟩:=x;dsimp only at c0 c1 IG VZ HRF;clear JW NZ
                 go_upto_region 20 with (fail)
                 have WS:=DX (EY wr #[.int .i64 xi,.string xt] 65);have GC:=DX ((EX wr).alloc (.cells #[.int .i64 xi,.string xt] 65));clear c0 c1 r0 r1 r2 r3;generalize wr.alloc (.cells #[.int .i64 xi,.string xt] 65)=w3 at *;obtain ⟨z2,z3⟩:=ZU.out w3 GC.out;obtain ⟨d0,d1⟩:=oV WS.out;have hnw:IntKind.i64.wrap (nx - 1)=nx - 1:=IntWalk.i64_in _ aE
                 obtain ⟨RN,hRN⟩:∃ RN,RN=(decide (0<=xi)&&decide (xi<=nx - 1)):=⟨_,rfl⟩
                 have UH:=fun w=>xH xi (nx - 1) w
                 rw [<- hRN] at UH;have RO:=DX UH
                 have ZD:=DX (show RN=decide (0<=xi/\xi<nx) by
                  rw [hRN]
                  by_cases h0:0<=xi
                  . by_cases h1:xi<nx
                    . rw [DZ h0,DZ (show xi<=nx - 1 by omega),DZ (show 0<=xi/\xi<nx from ⟨h0,h1⟩)];rfl
                    . rw [DY (show ¬ xi<=nx - 1 by omega),DY (show ¬ (0<=xi/\xi<nx) from fun q=>h1 q.2),Bool.and_false]
                  . rw [DY h0,DY (show ¬ (0<=xi/\xi<nx) from fun q=>h0 q.1),Bool.false_and])
                 clear hRN UH
                 cases RN with
                 | false =>
                  have SV:=DX (show nI nx ⟨xi,xt⟩=false from bV ZD.out.symm);have HO:=DX (show dP ⟨ts,gs,ss,nx⟩=false from bC (bC (bC (bC (bV (eQ IJ.out SV.out))))));exact Us
                 | true =>
                  by_cases hxz:xt.size<=2000
                  . have hdz:decide (2000<(xt.size:Int))=false:=DY aE
                    have SV:=DX (show nI nx ⟨xi,xt⟩=true by unfold nI;rw [<- ZD.out,DZ hxz];rfl)
                    by_cases RT:k=0
                    . have hdk:decide (0<k)=false:=DY aE
                      have aBG:decide (0<(k:Int))=false:=DY aE;have HN:=DX (show kF ss (k+1)=true by rw [VZ.out,NX.out,DZ RT];rfl);clear RT;exact Ex
                    . have MF:0<k:=by omega
                      have hdk:decide (0<k)=true:=DZ MF;have aBG:decide (0<(k:Int))=true:=DZ aE;have y2:=MK.out MF w3 GC.out
                      obtain ⟨m,hm⟩:∃ m,m=k - 1:=⟨_,rfl⟩
                      rw [<- hm] at y2
                      have hkm:IntKind.i64.wrap ((k:Int) - 1)=(m:Int):=by rw [IntWalk.i64_in _ aE];omega
                      have LA:m<ss.length:=by omega
                      have hdml:decide (m<ss.length)=true:=DZ LA
                      by_cases hq:pn<xi
                      . have hge:decide (xi<=pn)=false:=DY aE
                        have HN:=DX (show kF ss (k+1)=true by rw [VZ.out,NX.out,DZ hq];simp);clear RT hm hq;exact Ex
                      . have hge:decide (xi<=pn)=true:=DZ aE
                        have HO:=DX (show dP ⟨ts,gs,ss,nx⟩=false from bC (bC (bC (bC (bC (HRF.out MF hq))))));clear RT hm hq;exact Us
                  . have hdz:decide (2000<(xt.size:Int))=true:=DZ aE
                    have SV:=DX (show nI nx ⟨xi,xt⟩=false from bC (DY hxz));have HO:=DX (show dP ⟨ts,gs,ss,nx⟩=false from bC (bC (bC (bC (bV (eQ IJ.out SV.out))))));exact Us
               . obtain rfl:k=ss.length:=by omega
                 have GU:decide (ss.length<ss.length)=false:=DY aE;rw [List.take_length] at IR
                 have HO:=DX (show dP ⟨ts,gs,ss,nx⟩=true by
                  unfold dP yO
                  rw [HTT.out,HGG.out,HS8.out,QV.out,IR.out,NX.out];rfl)
                 clear IR NX hk FV;go_wp2_with fail;exact Dz
      . have WF:(decide (0<=nx)&&decide (nx<=1073741824))=false:=by
         rw [Bool.and_eq_false_iff]
         by_cases h:0<=nx
         . exact .inr (DY fun q=>TF ⟨h,q⟩)
         . exact .inl (DY h)
        rw [WF];have HO:=DX (show dP ⟨ts,gs,ss,nx⟩=false from bC (bC (bC (bV (DY TF)))));clear TF WF;exact Rd
    . have hds:decide (8<(ss.length:Int))=true:=DZ aE
      have HO:=DX (show dP ⟨ts,gs,ss,nx⟩=false from bC (bC (bV (DY hs8))));exact Rd
  . have hdg:decide (40<(gs.length:Int))=true:=DZ aE
    have HO:=DX (show dP ⟨ts,gs,ss,nx⟩=false from bC (bV (bV (DY hg40))));exact Rd
structure uR (w:World):Prop where
 b:fD w
 o:fW w
 m:Dj w
theorem uR.kept {w w':World} (h:uR w) (k:aB w w'):uR w':=⟨h.b.kept k,h.o.kept k,h.m.kept k⟩
theorem Lu {t:ByteArray} {m:Mf} (h:bJ t=some m):rY m=true:=by
 unfold bJ at h
 split at h
 . rename_i hc
   cases h;exact hc.2.2.1
 . cases h
theorem wB {t:ByteArray} {m:Mf} (h:bJ t=some m):m.bs.length<=1000000/\m.us.length<=1000000:=by
 have:=(pF (Lu h)).1
 omega
theorem Nk {n:ByteArray} (h:dV n=true):cZ ByteArray.empty n=true:=by
 have h1:¬ n.size=0:=fun e=>by
  have hz:n.data.toList=[]:=by
   have:n.data.toList.length=0:=by rw [Array.length_toList];exact e
   exact List.length_eq_zero_iff.1 this
  unfold dV at h;rw [Bool.and_eq_true,Bool.and_eq_true] at h;have hg:=h.2.2;unfold jP at hg
  have hp:(aR n).data.toList=[]:=by
   have:=oE n
   have:(aR n).data.toList.length=0:=by rw [Array.length_toList];show (aR n).size=0;omega
   exact List.length_eq_zero_iff.1 this
  rw [hp] at hg;have hb:=lH [] 0 aF (fA []) (Bn []);rw [hb] at hg;cases hg
 unfold cZ;rw [ByteArray.toList_eq,ByteArray.toList_eq];obtain ⟨⟨l⟩⟩:=n
 cases l with
 | nil=>exact absurd rfl h1
 | cons x r=>rfl
theorem Al (aT aG aS:Option Addr) (cT cG cS:Nat) (ts:List Th) (gs:List Tg) (ss:List Se) (nx:Int) (w0:World) (hT:bO w0 aT ts.length ts) (hE:uR w0) :
 Calls Tryz.prog 59 #[.agg (LS aT ts.length cT aG gs.length cG aS ss.length cS nx)] w0 fun e w'=>e=.returned (.bool (yR ts))/\aB w0 w':=by
 have JV:=DX hT;have HEN:=DX hE;have FV:=hT.le;clear hT hE;have HB:=DX (EY w0 (LS aT ts.length cT aG gs.length cG aS ss.length cS nx) 26);have IL:=DX ((EX w0).alloc ((KS aT ts.length cT aG gs.length cG aS ss.length cS nx)));go_enter Tryz.func59,Tryz.ntmps59
 go_upto_region 1 with (fail)
 generalize w0.alloc ((KS aT ts.length cT aG gs.length cG aS ss.length cS nx))=w1 at *;have JK:=DX (fun w (k:aB w1 w)=>aI (HB.out.kept k));generalize w0.heap.size=p0 at *;obtain ⟨r0,r1,r2,r3⟩:=JK.out _ (EX _);clear HB
 obtain ⟨B,hB⟩:∃ B,B=fF ts:=⟨_,rfl⟩
 have HRT:=DX (nX aT ts.length cT ts w1 (JV.out.kept IL.out));rw [<- hB] at HRT;have HB:=DX hB;clear hB;go_step3;go_wp2_with fail
 refine HRT.out.mono ?_
 rintro e w2 ⟨rfl,FX⟩;have FW:=DX FX;clear r0 r1 r2 r3 HRT;obtain ⟨r0,r1,r2,r3⟩:=JK.out _ FX;clear FX
 cases B with
 | false =>
  have HO:=DX (show yR ts=false from bV HB.out.symm)
  have h10:((if false=true then (0:Int) else 1) != 0)=true:=by decide
  rw [show (if false=true then (0:Int) else 1)=1 from rfl];go_wp2_with fail;rw [Exit.noGoto_ret];go_ret;exact ⟨by rw [HO.out];rfl,IL.out.trans FW.out⟩
 | true =>
  have HTB:=DX (show fF ts=true from HB.out.symm);rw [show (if true=true then (0:Int) else 1)=0 from rfl];clear HB;go_wp2_with fail
  refine wp_label ?_
  go_wp2_with fail;clear r0 r1 r2 r3;go_loopw [14] (fun kv wr=>∃ k:Nat,k<=ts.length/\kv=.int .i64 k/\(ts.take k).all (oN ts)=true/\aB w1 wr) (fun kv _=>ts.length - (intOf kv).toNat)
  case atStart=>exact ⟨0,aE,rfl,rfl,FW.out⟩
  case round =>
   rename World=>wr
   obtain ⟨k,hk,rfl,GH,IF⟩:=hrel;have IA:=DX IF;have IR:=DX GH;clear IF GH
   by_cases IE:k<ts.length
   . have GU:decide (k<ts.length)=true:=DZ IE
     have NY:=DX (kV (oN ts) ts aX k IE);have IJ:=DX (bY aX IE);have IG:=JV.out.size k IE;have HTH:=DX (show sF (ts.getD k aX)=true from List.all_eq_true.1 (by have h:=HTB.out;unfold fF at h;rw [Bool.and_eq_true,Bool.and_eq_true] at h;exact h.2.1) _ IJ.out);obtain ⟨bt,ot,rfl,JC⟩:=JV.out.at aE;obtain ⟨c0,c1,c2⟩:=JC k IE wr (IL.out.trans IA.out);generalize ts.getD k aX=x at *;obtain ⟨xd,xt,xm⟩:=x;dsimp only at c0 c1 c2 IG;clear JC
     go_upto_region 6 with (fail)
     have WS:=DX (EY wr (LT xd xt xm) 62);have GC:=DX (IA.out.alloc ((KT xd xt xm)));clear c0 c1 c2;generalize wr.alloc ((KT xd xt xm))=w3 at *;obtain ⟨d0,d1,d2⟩:=dI WS.out
     obtain ⟨D,hD⟩:∃ D,D=dg xt.data.toList:=⟨_,rfl⟩
     have SR:=DX (fun (u:bF w3)=>show Calls Tryz.prog 87 #[.string xt] u.1 fun e w'=>e=.returned (.string D)/\aB u.1 w' by rw [hD];exact Cg xt aE u.1 (HEN.out.kept (IL.out.trans (GC.out.trans u.2))).b (HEN.out.kept (IL.out.trans (GC.out.trans u.2))).o);have UT:=DX (show oN ts ⟨xd,xt,xm⟩=(decide (xd=D)&&(!xm||iN ts xt)) by rw [hD];rfl);have e0:=aC d0;have e1:=aC d1;clear hD d0 d1 d2
     by_cases MI:xd=D
     . have hq:(D.toList != xd.toList)=false:=by subst MI;simp
       have XF:(D.toList == xd.toList)=true:=by subst MI;simp
       have HD1:=DX MI;clear MI;go_wp2_with fail
       refine aJ aW aW ?_
       repeat (go_big_quiet_step ((go_at_call 87;exact aK (SR.out _))))
       refine wpQuiet_nil ?_
       intro _ GD;obtain ⟨nq,FT⟩:=GD;subst FT;have GQ:=DX (GC.out.trans nq.2);have HBZ:=DX (WS.out.kept nq.2);clear e0 e1 SR WS;generalize nq.1=w4 at *;obtain ⟨d0,d1,d2⟩:=dI HBZ.out
       cases xm with
       | false =>
        have HO:=DX (show oN ts ⟨xd,xt,false⟩=true by rw [UT.out,DZ HD1.out];rfl);exact Aj
       | true =>
        have hiss:(bJ xt).isSome=true:=by
         have h:=HTH.out;unfold sF at h;rw [Bool.and_eq_true,Bool.and_eq_true] at h;exact h.2.2
        obtain ⟨m,hm⟩:∃ m,bJ xt=some m:=Option.isSome_iff_exists.1 hiss
        have HFW:=DX (wB hm);have QZ:=DX (oF xt m true (by rw [hm];rfl) (by rw [hm];rfl) w4);have RO:=DX (show iN ts xt=(m.bs.all (fun d=>iZ ts d false)&&m.us.all (fun d=>iZ ts d true)) by unfold iN;rw [hm]);clear hiss hm;rw [show (if true=true then (0:Int) else 7)=0 from rfl] at QZ;obtain ⟨mk,mb,mu⟩:=m;dsimp only at QZ RO HFW;go_wp2_with fail
        refine QZ.out.mono ?_
        rintro e w5 ⟨ab,cb,au,cu,rfl,PY,PZ,GZ⟩;have ST:=DX PY;have SD:=DX PZ;have IQ:=DX (GQ.out.trans GZ);clear PY PZ GZ QZ d0 d1 d2
        go_upto_region 10 with (fail)
        have HBM:=DX (EY w5 (LM mk ab mb.length cb au mu.length cu) 85);have HKM:=DX (IQ.out.alloc ((KM mk ab mb.length cb au mu.length cu)));have HSB6:=DX (ST.out.kept ((EX _).alloc ((KM mk ab mb.length cb au mu.length cu))));have HSU6:=DX (SD.out.kept ((EX _).alloc ((KM mk ab mb.length cb au mu.length cu))));generalize w5.alloc ((KM mk ab mb.length cb au mu.length cu))=w6 at *;obtain ⟨r0,r1,r2,r3⟩:=JK.out _ HKM.out;obtain ⟨m0,m1,m2⟩:=dI HBM.out;have HWH:=DX (wD (some ⟨bt,ot,none⟩) aG aS ab au ts.length gs.length ss.length cT cG cS cb cu nx mk ts mb mu w6 (JV.out.kept (IL.out.trans HKM.out)) (iY HTB.out) HSB6.out HSU6.out HFW.out);rw [<- RO.out] at HWH
        obtain ⟨NM,UY⟩:∃ NM,NM=iN ts xt:=⟨_,rfl⟩
        rw [<- UY] at HWH;have HOK2:=DX (show oN ts ⟨xd,xt,true⟩=NM by rw [UT.out,DZ HD1.out,UY];rfl);clear UY;go_wp2_with fail
        refine HWH.out.mono ?_
        rintro e w7 ⟨rfl,KD⟩;have SP:=DX (HKM.out.trans KD);clear KD HWH r0 r1 r2 r3 m0 m1 m2
        cases NM with
        | true =>
         go_wp2_with fail;go_roundw
         case rel=>exact ⟨k+1,aE,by go_num,by rw [NY.out,IR.out,HOK2.out];rfl,SP.out⟩
         case measure=>simp [intOf];omega
        | false =>
         have HO:=DX (show yR ts=false from bC (eQ IJ.out HOK2.out));go_wp2_with fail;rw [Exit.noGoto_ret];go_ret;exact ⟨by rw [HO.out];rfl,IL.out.trans SP.out⟩
     . have hq:(D.toList != xd.toList)=true:=(dM (fun e=>MI e.symm)).2.2
       have XF:(D.toList == xd.toList)=false:=(dM (fun e=>MI e.symm)).2.1
       have HO:=DX (show yR ts=false from bC (eQ IJ.out (by rw [UT.out,DY MI];rfl)));clear MI;go_wp2_with fail
       refine aJ aW aW ?_
       repeat (go_big_quiet_step ((go_at_call 87;exact aK (SR.out _))))
       refine wpQuiet_nil ?_
       intro _ GD;obtain ⟨nq,FT⟩:=GD;subst FT;have GQ:=DX (IL.out.trans (GC.out.trans nq.2));clear e0 e1 SR WS;generalize nq.1=w4 at *;go_wp2_with fail;rw [Exit.noGoto_ret];go_ret;exact ⟨by rw [HO.out];rfl,GQ.out⟩
   . obtain rfl:k=ts.length:=by omega
     have GU:decide (ts.length<ts.length)=false:=DY aE;rw [List.take_length] at IR;have HO:=DX (show yR ts=true by unfold yR;rw [HTB.out,IR.out];rfl);clear IR hk IE;go_wp2_with fail;rw [Exit.noGoto_ret];exact Dz
end Go.Proofs.YtkfmladhicapeaaGreatDoor
