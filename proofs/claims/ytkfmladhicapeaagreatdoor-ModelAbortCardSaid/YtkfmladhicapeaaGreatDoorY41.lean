import Derived.Test.YtkfmladhicapeaaGreatDoorY40
set_option maxRecDepth 100000
set_option maxHeartbeats 8000000
namespace Go.Proofs.YtkfmladhicapeaaGreatDoor
open Go.RowKit Go.Shelf
attribute [local go_sem] Oper.semAt_some
theorem Ni (base p:Nat) (hp:base<=p) (s:dN) (o:fV) (wo:World) (Q:eX base wo p s) (hs:dP s=true) (hk:o.k=9) (MA:o.name.size<=1000000) :
 Calls Tryz.prog 58 (PO p o.k o.id o.n o.m o.name o.d o.t) wo (iD base p wo (dK s o)):=by
 obtain ⟨ts,gs,ss,nx⟩:=s;obtain ⟨ok,oi,on,om,GE,od,ot⟩:=o;dsimp only at *;subst hk;have HQ:=DX Q;obtain ⟨aT,cT,aG,cG,aS,cS,hb,oT,oG,oS⟩:=Q.rows;dsimp only at *
 have GY:base<=wo.heap.size:=by have:=hb.lt;omega
 have MG:p<wo.heap.size:=hb.lt;have HP:=DX hb;have LB:=DX (bR hs)
 obtain ⟨XX,GR⟩:∃ XX,XX=(dK ⟨ts,gs,ss,nx⟩ ⟨9,oi,on,om,GE,od,ot⟩):=⟨_,rfl⟩
 rw [<- GR];have HX:=DX GR;clear GR;obtain ⟨lT,rT,zT,lG,rG,zG,lS,rS,zS,n0,n1⟩:=bR hs;dsimp only at *;have HB:=DX ((EY wo (LO 9 oi on om GE od ot) 35).kept ((EX _).alloc (KR)));have HR:=DX (FB wo LR 47 ((KO 9 oi on om GE od ot)));have HK:=DX (((EX wo).alloc ((KO 9 oi on om GE od ot))).alloc (KR));obtain ⟨_,_,hv,hI⟩:=cI oT rfl aE (fun x hx=>by have:=zT x hx;omega);cases hv;have JV:=DX hI;obtain ⟨_,_,hv,hJ⟩:=eA oG rfl aE (fun x hx=>by have:=zG x hx;omega);cases hv;have NN:=DX hJ;have WY:=DX (fun w9 (k:aB wo w9)=>gY (yJ aG cG gs GE w9 (hJ.kept k) aE));have JA:=DX (fun w9 (k:aB wo w9)=>gR aT ts.length cT ts od w9 (hI.kept k));rw [show dK ⟨ts,gs,ss,nx⟩ ⟨9,oi,on,om,GE,od,ot⟩=mC ⟨ts,gs,ss,nx⟩ GE od by simp [dK]] at HX;have VR:=DX oT;have WW:=DX oG;have OK:=DX oS;clear rT zT rG zG rS zS oT oG oS Q hb hI hJ hs;go_enter Tryz.func58,Tryz.ntmps58
 go_upto_region 1 with (fail)
 generalize (wo.alloc ((KO 9 oi on om GE od ot))).alloc (KR)=w1 at *
 have b0:w1.cell? ⟨wo.heap.size,0,none⟩=some (.int .i64 9):=HB.out.cell 0;have b4:w1.cell? ⟨wo.heap.size,4,none⟩=some (.string GE):=HB.out.cell 4;go_wp2_with fail
 refine (yT GE w1 MA).mono ?_
 rintro e w2 ⟨hN,FX⟩;have FW:=DX (HK.out.trans FX);have GK:=DX (HR.out.kept FX);have GP:=DX (HB.out.kept FX);clear b0 b4 FX;unfold vP pW at hN
 rcases hN with ⟨JR,xa,xc,rfl,_,_⟩ | ⟨JR,rfl⟩
 . generalize fA (aR GE).data.toList=cn
   generalize gJ GE=vn;generalize aR GE=pn at *;have JJ:=DX (show mC ⟨ts,gs,ss,nx⟩ GE od=_ from if_pos JR)
   try dsimp only at JJ
   clear JR
   by_cases JN:cQ ts od<ts.length
   . rw [show kR ts od=((cQ ts od:Nat):Int) from if_pos JN] at JA
     have hd9:decide (((cQ ts od:Nat):Int)<0)=false:=DY aE;have ML:=DX (show iZ ts od true=((ts.getD (cQ ts od) aX).m == true) by unfold iZ;rw [DZ JN];rfl);generalize cQ ts od=y at *;obtain ⟨bx,ox,rfl,JC⟩:=JV.out.at aE;have HCM:=DX (fun w9 (k:aB wo w9)=>(JC y JN w9 k).2.2);clear JC
     generalize (ts.getD y aX).m=M at *
     obtain ⟨r0,r1,r2,r3⟩:=aI (HP.out.kept FW.out);have b5:w2.cell? ⟨wo.heap.size,5,none⟩=some (.string od):=GP.out.cell 5
     go_upto_region 28 with (fail)
     replace r0:=aC r0;replace r1:=aC r1;replace r2:=aC r2;replace r3:=aC r3;replace b5:=aC b5;have GX:=DX (fun u:bF w2=>JA.out u.1 (FW.out.trans u.2))
     refine aJ aW aW ?_
     repeat (go_big_quiet_step ((go_at_call 52;exact aK (GX.out _))))
     refine wpQuiet_nil ?_
     intro _ GD;obtain ⟨nq,FT⟩:=GD;subst FT;have GC:=DX (FW.out.trans nq.2);have JG:=DX (GK.out.kept nq.2);have IU:=DX (GP.out.kept nq.2);clear r0 r1 r2 r3 b5 GX;generalize nq.1=w3 at *;obtain ⟨r0,r1,r2,r3⟩:=aI (HP.out.kept GC.out);have c2:=HCM.out w3 GC.out
     cases M with
     | false =>
      have GI:=DX (JJ.out.trans (if_neg (by rw [ML.out];decide)));clear ML;go_wp2_with (refine aD rfl 47 (.tmp 4) (.tmp 121) rfl (wo.heap.size+1) (bB (aY 3)) LR 47 rfl rfl JG.out AX rfl (aL _) ?_)
      refine EI (v:=bW (aY 3)) ?_ rfl ?_
      . exact Su
      . exact Ie
     | true =>
      have HDI:=DX (JJ.out.trans (if_pos (by rw [ML.out];rfl)))
      try dsimp only at HDI
      clear ML
      by_cases GA:gK gs GE<gs.length
      . rw [show uW gs GE=((gK gs GE:Nat):Int) from if_pos GA] at WY
        have GI:=DX (HDI.out.trans (if_pos GA))
        try dsimp only at GI
        have OU:=DX (mM od gs (gK gs GE) GA);obtain ⟨g,rfl⟩:=cA WW.out aE;have HCI:=DX (fun w9 (k:aB wo w9)=>((aH WW.out k).cellAt (gK gs GE*2+1) aE).trans (oB gs (gK gs GE) GA).2);have HFZ:=DX (fun w9 (k:aB wo w9)=>(aH WW.out k).frozenAt (gK gs GE*2+1));clear HDI;generalize gK gs GE=z at *;have hd:decide ((0:Int)<=(z:Int))=true:=DZ aE
        go_upto_region 31 with (fail)
        clear c2;have b4:w3.cell? ⟨wo.heap.size,4,none⟩=some (.string GE):=IU.out.cell 4;replace r0:=aC r0;replace r1:=aC r1;replace r2:=aC r2;replace r3:=aC r3;replace b4:=aC b4;have GX:=DX (fun u:bF w3=>WY.out u.1 (GC.out.trans u.2))
        refine aJ aW aW ?_
        repeat (go_big_quiet_step ((go_at_call 83;exact aK (GX.out _))))
        refine wpQuiet_nil ?_
        intro _ GD;obtain ⟨nq,FT⟩:=GD;subst FT;have GQ:=DX (GC.out.trans nq.2);have IW:=DX (JG.out.kept nq.2);have KY:=DX (IU.out.kept nq.2);clear r0 r1 r2 r3 b4 GX;generalize nq.1=w4 at *;obtain ⟨r0,r1,r2,r3⟩:=aI (HP.out.kept GQ.out);have c1:=HCI.out w4 GQ.out;have f1:=HFZ.out w4 GQ.out;have q5:w4.cell? ⟨wo.heap.size,5,none⟩=some (.string od):=KY.out.cell 5
        go_upto_region 33 with (fail)
        go_region
        obtain ⟨h1,h2⟩:=(aH WW.out GQ.out).stored (z*2+1) (.string od)
        rw [<- OU.out] at h1
        have XD:w4.grownBy (w4.setCell ⟨g,z*2+1,none⟩ (.string od)).drew (some g):=⟨h2.os,h2.tape,h2.output,h2.size,fun k hk GW=>h2.block k hk GW⟩
        obtain ⟨UJ,QJ⟩:=eX.inG (gs':=gs.set z ⟨(gs.getD z bL).n,od⟩) (HP.out.kept GQ.out) (aH VR.out GQ.out) (aH OK.out GQ.out) XD (dX.of (aH WW.out GQ.out)) List.length_set h1.drew (EF GY GQ.out.size);have SC:=DX UJ;have OJ:=DX ((FA GQ.out GY).trans QJ);have KE:=DX (QJ.blk _ _ _ IW.out aE aF aF aF);clear r0 r1 r2 r3 c1 f1 q5 h1 h2 XD UJ QJ OU HCI HFZ
        generalize (w4.setCell ⟨g,z*2+1,none⟩ (.string od)).drew=w5 at *
        go_wp2_with (refine aD rfl 47 (.tmp 4) (.tmp 140) rfl (wo.heap.size+1) (bB (fT)) LR 47 rfl rfl KE.out AX rfl (aL _) ?_)
        refine EI (v:=bW (fT)) ?_ rfl ?_
        . exact EH rfl _ _ (wo.heap.size+1) 47 (bB (fT)) (0,0) _ rfl (KE.out.setRow _) EV rfl AX
        . exact Pf
      . rw [show uW gs GE = -1 from if_neg GA] at WY
        have HDJ:=DX (HDI.out.trans (if_neg GA));clear HDI
        have hd:decide ((0:Int)<=(-1:Int))=false:=by decide
        go_upto_region 31 with (fail)
        clear c2;have b4:w3.cell? ⟨wo.heap.size,4,none⟩=some (.string GE):=IU.out.cell 4;replace r0:=aC r0;replace r1:=aC r1;replace r2:=aC r2;replace r3:=aC r3;replace b4:=aC b4;have GX:=DX (fun u:bF w3=>WY.out u.1 (GC.out.trans u.2))
        refine aJ aW aW ?_
        repeat (go_big_quiet_step ((go_at_call 83;exact aK (GX.out _))))
        refine wpQuiet_nil ?_
        intro _ GD;obtain ⟨nq,FT⟩:=GD;subst FT;have GQ:=DX (GC.out.trans nq.2);have IW:=DX (JG.out.kept nq.2);have KY:=DX (IU.out.kept nq.2);clear r0 r1 r2 r3 b4 GX;generalize nq.1=w4 at *;obtain ⟨r0,r1,r2,r3⟩:=aI (HP.out.kept GQ.out)
        by_cases hful:gs.length>=40
        . have hd40:decide ((40:Int)<=(gs.length:Int))=true:=DZ aE
          have hd40n:decide (40<=gs.length)=true:=DZ hful;have GI:=DX (HDJ.out.trans (if_pos hful));clear hful GA HDJ;go_wp2_with (refine aD rfl 47 (.tmp 4) (.tmp 147) rfl (wo.heap.size+1) (bB (aY 2)) LR 47 rfl rfl IW.out AX rfl (aL _) ?_);exact Xm
        . have hd40:decide ((40:Int)<=(gs.length:Int))=false:=DY aE
          have hd40n:decide (40<=gs.length)=false:=DY hful;have GI:=DX (HDJ.out.trans (if_neg hful));clear hful GA HDJ
          go_upto_region 38 with (fail)
          clear r0 r1 r2 r3;go_loopw [12] (fun kv wr=>∃ k:Nat,k<=gs.length/\kv=.int .i64 k/\Hid (∀ j,j<k->cZ (gs.getD j bL).n GE=true)/\aB w4 wr) (fun kv _=>gs.length - (intOf kv).toNat)
          case atStart=>exact Lp
          case round =>
           rename World=>wr
           obtain ⟨k,hk,rfl,HN,IF⟩:=hrel;have IA:=DX IF;clear IF;obtain ⟨r0,r1,r2,r3⟩:=aI (HP.out.kept (GQ.out.trans IA.out))
           by_cases IE:k<gs.length
           . have GU:decide (k<gs.length)=true:=DZ IE
             have KG:decide ((k:Int)<(gs.length:Int))=true:=DZ aE;obtain ⟨bg,og,NZ,JC⟩:=NN.out.at aE;obtain ⟨c1,_⟩:=JC k IE wr (GQ.out.trans IA.out)
             have b4:wr.cell? ⟨wo.heap.size,4,none⟩=some (.string GE):=(KY.out.kept IA.out).cell 4
             obtain ⟨x,hx⟩:∃ x,x=(gs.getD k bL).n:=⟨_,rfl⟩
             rw [<- hx] at c1;have HXX:=DX hx;rw [NZ] at r1;clear JC hx NZ
             cases FV:cZ x GE with
             | true =>
              have hb:Op.bytesLess x.toList GE.toList=true:=FV;have TU:=DX (show ∀ j,j<k+1->cZ (gs.getD j bL).n GE=true from fun j hj=>by rcases Nat.lt_or_ge j k with q | q;exact HN.out j q;rw [show j=k by omega,<- HXX.out];exact FV);clear FV;go_wp2_with fail;go_quiet (fail);have IQ:=DX (IA.out.drewN nq);go_wp2_with fail;go_roundw
              case rel=>exact ⟨k+1,aE,by go_num,TU,IQ.out⟩
              case measure=>simp [intOf];omega
             | false =>
              have hb:Op.bytesLess x.toList GE.toList=false:=FV;have HPL:=DX (show rJ gs GE=k from uM gs k hk HN.out (fun _=>by rw [<- HXX.out];exact FV));clear FV;have FX:=hk;go_wp2_with fail;go_quiet (fail);have HKQ:=DX ((GQ.out.trans IA.out).drewN nq);have HRQ:=DX ((IW.out.kept IA.out).kept ((EX wr).drewN nq));have HBQ:=DX ((KY.out.kept IA.out).kept ((EX wr).drewN nq));generalize wr.drewN nq=wq at *;clear b4 c1 HXX hb IE GU KG;clear r0 r1 r2 r3;have HQQ:=DX (HQ.out.kept HKQ.out);clear hk;have PC:k<=gs.length:=FX;obtain ⟨aT4,cT4,aG4,cG4,aS4,cS4,IM,oT4,oG4,oS4⟩:=HQQ.out.rows;dsimp only at IM oT4 oG4 oS4;have KF:=DX IM;have PG:=DX oG4;obtain ⟨i0,IY,GV,GJ,GO⟩:=iH Tryz.prog BC;have HI:=DX (EC IY (EC GV (EC GJ GO)));obtain ⟨_,_,hv,TA⟩:=eA oG4 rfl aE (fun x hx=>by have:=LB.out.zG x hx;omega);cases hv;have NJ:gs.length<=cG4:=iJ oG4;obtain ⟨aq,UU,SQ,NS⟩:=iL oG4 k aE;rw [eB eN 2 rE] at NS;have MK:=DX (fun w9 (kk:aB wq w9)=>sD aG4 k cG4 (gs.take k) w9 (tV (TA.kept kk) aE));have JU:=DX (show k+1+(gs.length - k)=(mO gs ⟨GE,od⟩).length by rw [sW];omega);have NG:=DX (show (gs.take k).flatMap eN++[.string GE,.string od]++(gs.drop k).flatMap eN=(mO gs ⟨GE,od⟩).flatMap eN by unfold mO;rw [HPL.out,List.flatMap_append,List.flatMap_append];rfl);have OP:=DX (show base<=wq.heap.size by have:=IM.lt;omega)
              have hzc:k<=cG4:=by omega
              clear IY GV GJ GO IM oT4 oG4 oS4 TA;go_wp2_with fail
              refine Pj.Zj 24 (fun az0 L az w=>∃ V:Nat->Value,az=Pj.Zb [(170,0),(171,1),(172,2),(173,3),(174,4),(175,5),(176,6),(177,7),(178,8),(179,9),(180,10),(181,11),(182,12),(183,13),(184,14),(185,15),(186,16),(187,17),(188,18),(189,19),(190,20),(191,21),(192,22),(193,23)] V az0/\Pj.J wq [Pj.Is (.pointer (some ⟨p,0,none⟩)),Pj.Is (.pointer (some ⟨p,0,none⟩)),Pj.Is (.pointer (some ⟨p,0,none⟩)),Pj.Is (.pointer (some ⟨p,1,none⟩)),Pj.Is (.slice aG4 gs.length cG4),Pj.Is (.int .i64 k),Pj.Is (.slice aG4 k cG4),(fun _ v=>∃ a c,v=.slice a k c),Pj.Is (.pointer (some ⟨wo.heap.size,4,none⟩)),Pj.Is (.string GE),Pj.Is (.pointer (some ⟨wo.heap.size,5,none⟩)),Pj.Is (.string od),Pj.Is (.agg #[.string GE,.string od]),(fun _ v=>∃ g:Nat,v=.slice (some ⟨g,0,none⟩) 1 1),(fun _ v=>∃ a c,v=.slice a (k+1) c),Pj.Is (.pointer (some ⟨p,0,none⟩)),Pj.Is (.pointer (some ⟨p,0,none⟩)),Pj.Is (.pointer (some ⟨p,1,none⟩)),Pj.Is (.slice aG4 gs.length cG4),Pj.Is (.int .i64 k),Pj.Is (.slice aq (gs.length - k) (cG4 - k)),(fun _ v=>∃ a c,v=.slice a (k+1+(gs.length - k)) c),Pj.Is (.pointer (some ⟨p,0,none⟩)),Pj.Is (.pointer (some ⟨p,1,none⟩)),(fun _ _=>True)] L V w/\Pj.AE wq.heap.size 68 2 k (gs.length - k) ((gs.take k).flatMap eN) [.string GE,.string od] ((gs.drop k).flatMap eN) 7 13 14 21 L V w) (fun az0 az w=>∃ V:Nat->Value,az=Pj.Zb [(170,0),(171,1),(172,2),(173,3),(174,4),(175,5),(176,6),(177,7),(178,8),(179,9),(180,10),(181,11),(182,12),(183,13),(184,14),(185,15),(186,16),(187,17),(188,18),(189,19),(190,20),(191,21),(192,22),(193,23)] V az0/\(eX base w p ⟨ts,mO gs ⟨GE,od⟩,ss,nx⟩/\Fr base p wq w)) nR nR nR ?eh0 ?ehs ?ehe
              case eh0 =>
               exact Ws
              case ehs =>
               rintro L L' az w iz opz Kq ⟨V,rfl,hJ,hI⟩ ho FY FZ hL IH hKz GH;have HP:=DX (show Pj.Zh [Pj.Is (.pointer (some ⟨p,0,none⟩)),Pj.Is (.pointer (some ⟨p,0,none⟩)),Pj.Is (.pointer (some ⟨p,0,none⟩)),Pj.Is (.pointer (some ⟨p,1,none⟩)),Pj.Is (.slice aG4 gs.length cG4),Pj.Is (.int .i64 k),Pj.Is (.slice aG4 k cG4),(fun _ v=>∃ a c,v=.slice a k c),Pj.Is (.pointer (some ⟨wo.heap.size,4,none⟩)),Pj.Is (.string GE),Pj.Is (.pointer (some ⟨wo.heap.size,5,none⟩)),Pj.Is (.string od),Pj.Is (.agg #[.string GE,.string od]),(fun _ v=>∃ g:Nat,v=.slice (some ⟨g,0,none⟩) 1 1),(fun _ v=>∃ a c,v=.slice a (k+1) c),Pj.Is (.pointer (some ⟨p,0,none⟩)),Pj.Is (.pointer (some ⟨p,0,none⟩)),Pj.Is (.pointer (some ⟨p,1,none⟩)),Pj.Is (.slice aG4 gs.length cG4),Pj.Is (.int .i64 k),Pj.Is (.slice aq (gs.length - k) (cG4 - k)),(fun _ v=>∃ a c,v=.slice a (k+1+(gs.length - k)) c),Pj.Is (.pointer (some ⟨p,0,none⟩)),Pj.Is (.pointer (some ⟨p,1,none⟩)),(fun _ _=>True)] from ⟨Pj.Is.flat _,Pj.Is.flat _,Pj.Is.flat _,Pj.Is.flat _,Pj.Is.flat _,Pj.Is.flat _,Pj.Is.flat _,(fun _ _ _ h _=>h),Pj.Is.flat _,Pj.Is.flat _,Pj.Is.flat _,Pj.Is.flat _,Pj.Is.flat _,(fun _ _ _ h _=>h),(fun _ _ _ h _=>h),Pj.Is.flat _,Pj.Is.flat _,Pj.Is.flat _,Pj.Is.flat _,Pj.Is.flat _,Pj.Is.flat _,(fun _ _ _ h _=>h),Pj.Is.flat _,Pj.Is.flat _,(fun _ _ _ _ _=>trivial),trivial⟩);have HJ:=DX hJ;have ID:=DX hI;clear hJ hI
               match iz,ho with
               | 0,ho =>
                exact Yk
               | 1,ho =>
                exact Wz
               | 2,ho =>
                exact Ya
               | 3,ho =>
                exact Vm
               | 4,ho =>
                exact Wl
               | 5,ho =>
                exact Vr
               | 6,ho =>
                exact Wh
               | 7,ho =>
                exact Vx
               | 8,ho =>
                exact Xz
               | 9,ho =>
                exact Wx
               | 10,ho =>
                exact Yn
               | 11,ho =>
                exact Xu
               | 12,ho =>
                exact Wj
               | 13,ho =>
                exact Vu
               | 14,ho =>
                exact Wq
               | 15,ho =>
                exact Xc
               | 16,ho =>
                exact Vv
               | 17,ho =>
                exact Yc
               | 18,ho =>
                exact Wg
               | 19,ho =>
                exact Ys
               | 20,ho =>
                exact Wo
               | 21,ho =>
                exact Yv
               | 22,ho =>
                exact Wa
               | 23,ho =>
                exact Wv
               | 24,ho =>
                exact Yg
               | n+25,ho=>simp at ho
              case ehe =>
               rintro az w ⟨V,rfl,hf⟩;obtain ⟨hq9,hf9⟩:=hf;have SC:=DX hq9;have OJ:=DX hf9;clear hq9 hf9;simp only [Pj.Zb,dO,Act.put]
               rename World=>w5
               have LC:=DX ((FA HKQ.out GY).trans OJ.out);have KE:=DX (OJ.out.blk _ _ _ HRQ.out aE aF aF aF);go_wp2_with (refine aD rfl 47 (.tmp 4) (.tmp 194) rfl (wo.heap.size+1) (bB (fT)) LR 47 rfl rfl KE.out AX rfl (aL _) ?_);exact Ll
           . have GU:decide (k<gs.length)=false:=DY IE
             have KG:decide ((k:Int)<(gs.length:Int))=false:=DY aE;have HPL:=DX (show rJ gs GE=k from uM gs k hk HN.out (fun h=>absurd h IE));have FX:=hk;go_wp2_with fail;go_quiet (fail);have HKQ:=DX ((GQ.out.trans IA.out).drewN nq);have HRQ:=DX ((IW.out.kept IA.out).kept ((EX wr).drewN nq));have HBQ:=DX ((KY.out.kept IA.out).kept ((EX wr).drewN nq));generalize wr.drewN nq=wq at *;clear IE GU KG;clear r0 r1 r2 r3;have HQQ:=DX (HQ.out.kept HKQ.out);clear hk;have PC:k<=gs.length:=FX;obtain ⟨aT4,cT4,aG4,cG4,aS4,cS4,IM,oT4,oG4,oS4⟩:=HQQ.out.rows;dsimp only at IM oT4 oG4 oS4;have KF:=DX IM;have PG:=DX oG4;obtain ⟨i0,IY,GV,GJ,GO⟩:=iH Tryz.prog BC;have HI:=DX (EC IY (EC GV (EC GJ GO)));obtain ⟨_,_,hv,TA⟩:=eA oG4 rfl aE (fun x hx=>by have:=LB.out.zG x hx;omega);cases hv;have NJ:gs.length<=cG4:=iJ oG4;obtain ⟨aq,UU,SQ,NS⟩:=iL oG4 k aE;rw [eB eN 2 rE] at NS;have MK:=DX (fun w9 (kk:aB wq w9)=>sD aG4 k cG4 (gs.take k) w9 (tV (TA.kept kk) aE));have JU:=DX (show k+1+(gs.length - k)=(mO gs ⟨GE,od⟩).length by rw [sW];omega);have NG:=DX (show (gs.take k).flatMap eN++[.string GE,.string od]++(gs.drop k).flatMap eN=(mO gs ⟨GE,od⟩).flatMap eN by unfold mO;rw [HPL.out,List.flatMap_append,List.flatMap_append];rfl);have OP:=DX (show base<=wq.heap.size by have:=IM.lt;omega)
             have hzc:k<=cG4:=by omega
             clear IY GV GJ GO IM oT4 oG4 oS4 TA;go_wp2_with fail
             refine Pj.Zj 24 (fun az0 L az w=>∃ V:Nat->Value,az=Pj.Zb [(170,0),(171,1),(172,2),(173,3),(174,4),(175,5),(176,6),(177,7),(178,8),(179,9),(180,10),(181,11),(182,12),(183,13),(184,14),(185,15),(186,16),(187,17),(188,18),(189,19),(190,20),(191,21),(192,22),(193,23)] V az0/\Pj.J wq [Pj.Is (.pointer (some ⟨p,0,none⟩)),Pj.Is (.pointer (some ⟨p,0,none⟩)),Pj.Is (.pointer (some ⟨p,0,none⟩)),Pj.Is (.pointer (some ⟨p,1,none⟩)),Pj.Is (.slice aG4 gs.length cG4),Pj.Is (.int .i64 k),Pj.Is (.slice aG4 k cG4),(fun _ v=>∃ a c,v=.slice a k c),Pj.Is (.pointer (some ⟨wo.heap.size,4,none⟩)),Pj.Is (.string GE),Pj.Is (.pointer (some ⟨wo.heap.size,5,none⟩)),Pj.Is (.string od),Pj.Is (.agg #[.string GE,.string od]),(fun _ v=>∃ g:Nat,v=.slice (some ⟨g,0,none⟩) 1 1),(fun _ v=>∃ a c,v=.slice a (k+1) c),Pj.Is (.pointer (some ⟨p,0,none⟩)),Pj.Is (.pointer (some ⟨p,0,none⟩)),Pj.Is (.pointer (some ⟨p,1,none⟩)),Pj.Is (.slice aG4 gs.length cG4),Pj.Is (.int .i64 k),Pj.Is (.slice aq (gs.length - k) (cG4 - k)),(fun _ v=>∃ a c,v=.slice a (k+1+(gs.length - k)) c),Pj.Is (.pointer (some ⟨p,0,none⟩)),Pj.Is (.pointer (some ⟨p,1,none⟩)),(fun _ _=>True)] L V w/\Pj.AE wq.heap.size 68 2 k (gs.length - k) ((gs.take k).flatMap eN) [.string GE,.string od] ((gs.drop k).flatMap eN) 7 13 14 21 L V w) (fun az0 az w=>∃ V:Nat->Value,az=Pj.Zb [(170,0),(171,1),(172,2),(173,3),(174,4),(175,5),(176,6),(177,7),(178,8),(179,9),(180,10),(181,11),(182,12),(183,13),(184,14),(185,15),(186,16),(187,17),(188,18),(189,19),(190,20),(191,21),(192,22),(193,23)] V az0/\(eX base w p ⟨ts,mO gs ⟨GE,od⟩,ss,nx⟩/\Fr base p wq w)) nR nR nR ?eh0 ?ehs ?ehe
             case eh0 =>
              exact Ws
             case ehs =>
              rintro L L' az w iz opz Kq ⟨V,rfl,hJ,hI⟩ ho FY FZ hL IH hKz GH;have HP:=DX (show Pj.Zh [Pj.Is (.pointer (some ⟨p,0,none⟩)),Pj.Is (.pointer (some ⟨p,0,none⟩)),Pj.Is (.pointer (some ⟨p,0,none⟩)),Pj.Is (.pointer (some ⟨p,1,none⟩)),Pj.Is (.slice aG4 gs.length cG4),Pj.Is (.int .i64 k),Pj.Is (.slice aG4 k cG4),(fun _ v=>∃ a c,v=.slice a k c),Pj.Is (.pointer (some ⟨wo.heap.size,4,none⟩)),Pj.Is (.string GE),Pj.Is (.pointer (some ⟨wo.heap.size,5,none⟩)),Pj.Is (.string od),Pj.Is (.agg #[.string GE,.string od]),(fun _ v=>∃ g:Nat,v=.slice (some ⟨g,0,none⟩) 1 1),(fun _ v=>∃ a c,v=.slice a (k+1) c),Pj.Is (.pointer (some ⟨p,0,none⟩)),Pj.Is (.pointer (some ⟨p,0,none⟩)),Pj.Is (.pointer (some ⟨p,1,none⟩)),Pj.Is (.slice aG4 gs.length cG4),Pj.Is (.int .i64 k),Pj.Is (.slice aq (gs.length - k) (cG4 - k)),(fun _ v=>∃ a c,v=.slice a (k+1+(gs.length - k)) c),Pj.Is (.pointer (some ⟨p,0,none⟩)),Pj.Is (.pointer (some ⟨p,1,none⟩)),(fun _ _=>True)] from ⟨Pj.Is.flat _,Pj.Is.flat _,Pj.Is.flat _,Pj.Is.flat _,Pj.Is.flat _,Pj.Is.flat _,Pj.Is.flat _,(fun _ _ _ h _=>h),Pj.Is.flat _,Pj.Is.flat _,Pj.Is.flat _,Pj.Is.flat _,Pj.Is.flat _,(fun _ _ _ h _=>h),(fun _ _ _ h _=>h),Pj.Is.flat _,Pj.Is.flat _,Pj.Is.flat _,Pj.Is.flat _,Pj.Is.flat _,Pj.Is.flat _,(fun _ _ _ h _=>h),Pj.Is.flat _,Pj.Is.flat _,(fun _ _ _ _ _=>trivial),trivial⟩);have HJ:=DX hJ;have ID:=DX hI;clear hJ hI
              match iz,ho with
              | 0,ho =>
               exact Yk
              | 1,ho =>
               exact Wz
              | 2,ho =>
               exact Ya
              | 3,ho =>
               exact Vm
              | 4,ho =>
               exact Wl
              | 5,ho =>
               exact Vr
              | 6,ho =>
               exact Wh
              | 7,ho =>
               exact Vx
              | 8,ho =>
               exact Xz
              | 9,ho =>
               exact Wx
              | 10,ho =>
               exact Yn
              | 11,ho =>
               exact Xu
              | 12,ho =>
               exact Wj
              | 13,ho =>
               exact Vu
              | 14,ho =>
               exact Wq
              | 15,ho =>
               exact Xc
              | 16,ho =>
               exact Vv
              | 17,ho =>
               exact Yc
              | 18,ho =>
               exact Wg
              | 19,ho =>
               exact Ys
              | 20,ho =>
               exact Wo
              | 21,ho =>
               exact Yv
              | 22,ho =>
               exact Wa
              | 23,ho =>
               exact Wv
              | 24,ho =>
               exact Yg
              | n+25,ho=>simp at ho
             case ehe =>
              rintro az w ⟨V,rfl,hf⟩;obtain ⟨hq9,hf9⟩:=hf;have SC:=DX hq9;have OJ:=DX hf9;clear hq9 hf9;simp only [Pj.Zb,dO,Act.put]
              rename World=>w5
              have LC:=DX ((FA HKQ.out GY).trans OJ.out);have KE:=DX (OJ.out.blk _ _ _ HRQ.out aE aF aF aF);go_wp2_with (refine aD rfl 47 (.tmp 4) (.tmp 194) rfl (wo.heap.size+1) (bB (fT)) LR 47 rfl rfl KE.out AX rfl (aL _) ?_);exact Ll
   . have GI:=DX (JJ.out.trans (if_neg (by unfold iZ;rw [DY JN];simp)))
     rw [show kR ts od = -1 from if_neg JN] at JA
     have hd9:decide ((-1:Int)<0)=true:=by decide
     obtain ⟨r0,r1,r2,r3⟩:=aI (HP.out.kept FW.out);have b5:w2.cell? ⟨wo.heap.size,5,none⟩=some (.string od):=GP.out.cell 5
     go_upto_region 28 with (fail)
     replace r0:=aC r0;replace r1:=aC r1;replace r2:=aC r2;replace r3:=aC r3;replace b5:=aC b5;have GX:=DX (fun u:bF w2=>JA.out u.1 (FW.out.trans u.2))
     refine aJ aW aW ?_
     repeat (go_big_quiet_step ((go_at_call 52;exact aK (GX.out _))))
     refine wpQuiet_nil ?_
     intro _ GD;obtain ⟨nq,FT⟩:=GD;subst FT;have GC:=DX (FW.out.trans nq.2);have JG:=DX (GK.out.kept nq.2);have IU:=DX (GP.out.kept nq.2);clear r0 r1 r2 r3 b5 GX;generalize nq.1=w3 at *;go_wp2_with (refine aD rfl 47 (.tmp 4) (.tmp 121) rfl (wo.heap.size+1) (bB (aY 3)) LR 47 rfl rfl JG.out AX rfl (aL _) ?_)
     refine EI (v:=bW (aY 3)) ?_ rfl ?_
     . exact Su
     . exact Ie
 . have GI:=DX (show mC ⟨ts,gs,ss,nx⟩ GE od=(⟨ts,gs,ss,nx⟩,aY 7) from if_neg (by rw [JR];decide))
   clear JR;go_wp2_with (refine aD rfl 47 (.tmp 4) (.tmp 100) rfl (wo.heap.size+1) (bB (aY 7)) LR 47 rfl rfl GK.out AX rfl (aL _) ?_)
   refine EI (v:=bW (aY 7)) ?_ rfl ?_
   . exact EH rfl _ _ (wo.heap.size+1) 47 (bB (aY 7)) (0,0) _ rfl (GK.out.setRow _) EV rfl AX
   . exact vN
end Go.Proofs.YtkfmladhicapeaaGreatDoor
