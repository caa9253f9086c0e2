import Derived.Test.YtkfmladhicapeaaGreatDoorY29
set_option maxRecDepth 100000
set_option maxHeartbeats 2000000
namespace Go.Proofs.YtkfmladhicapeaaGreatDoor
open Go.RowKit Go.Shelf
attribute [local go_sem] Oper.semAt_some
theorem lA {α:Type} (C:α->List Value) (k:Nat) (hk:∀ x,(C x).length=k):∀ (l:List α) (i:Nat),(l.flatMap C).take (i*k)=(l.take i).flatMap C
 | l,0=>by simp
 | [],i+1=>by simp
 | x :: r,i+1=>by
  rw [List.flatMap_cons,List.take_succ_cons,List.flatMap_cons,Nat.succ_mul,List.take_append,EE (by rw [hk];omega),hk,Nat.add_sub_cancel,lA C k hk r i]
theorem eB {α:Type} (C:α->List Value) (k:Nat) (hk:∀ x,(C x).length=k):∀ (l:List α) (i:Nat),(l.flatMap C).drop (i*k)=(l.drop i).flatMap C
 | l,0=>by simp
 | [],i+1=>by simp
 | x :: r,i+1=>by
  rw [List.flatMap_cons,List.drop_succ_cons,Nat.succ_mul,List.drop_append,List.drop_of_length_le (by rw [hk];omega),hk,Nat.add_sub_cancel,eB C k hk r i,List.nil_append]
theorem nZ {α:Type} (C:α->List Value) (k:Nat) (hk:∀ x,(C x).length=k) (l:List α) (i:Nat):(l.flatMap C).take (i*k)++(l.flatMap C).drop ((i+1)*k)=(l.eraseIdx i).flatMap C:=by
 rw [lA C k hk,eB C k hk,List.eraseIdx_eq_take_drop_succ,List.flatMap_append]
theorem Ad {α:Type} (C:α->List Value) (k:Nat) (hk:∀ x,(C x).length=k) (l:List α) (i:Nat) (t:α):(l.flatMap C).take (i*k)++C t++(l.flatMap C).drop (i*k)=(l.take i++[t]++l.drop i).flatMap C:=by
 rw [lA C k hk,eB C k hk,List.flatMap_append,List.flatMap_append]
 simp
theorem mA (x:Th):(dW x).length=3:=rfl
theorem rE (x:Tg):(eN x).length=2:=rfl
theorem Ep (x:Se):(fJ x).length=2:=rfl
theorem Np (base g c z:Nat) (l:List Th) (hz:z<l.length) (hl:l.length<=1000000) (w:World) (h:w.ownsRow base 62 3 (.slice (some ⟨g,0,none⟩) l.length c) l.length (l.flatMap dW)) :
 Calls Tryz.prog 103 #[.slice (some ⟨g,0,none⟩) l.length c,.int .i64 z,.int .i64 ((z+1:Nat):Int)] w fun e w'=>e=.returned (.slice (some ⟨g,0,none⟩) (l.eraseIdx z).length c) /\
  w'.ownsRow base 62 3 (.slice (some ⟨g,0,none⟩) (l.eraseIdx z).length c) (l.eraseIdx z).length ((l.eraseIdx z).flatMap dW)/\w.grownBy w' (some g):=by
 have hn:(l.eraseIdx z).length=l.length - 1:=List.length_eraseIdx_of_lt hz
 rw [hn,<- nZ dW 3 mA];exact Tz base g l.length c z (z+1) rfl (l.flatMap dW) w h (lQ l) hz hl
theorem Pt (base g c z:Nat) (l:List Tg) (hz:z<l.length) (hl:l.length<=1000000) (w:World) (h:w.ownsRow base 68 2 (.slice (some ⟨g,0,none⟩) l.length c) l.length (l.flatMap eN)) :
 Calls Tryz.prog 106 #[.slice (some ⟨g,0,none⟩) l.length c,.int .i64 z,.int .i64 ((z+1:Nat):Int)] w fun e w'=>e=.returned (.slice (some ⟨g,0,none⟩) (l.eraseIdx z).length c) /\
  w'.ownsRow base 68 2 (.slice (some ⟨g,0,none⟩) (l.eraseIdx z).length c) (l.eraseIdx z).length ((l.eraseIdx z).flatMap eN)/\w.grownBy w' (some g):=by
 have hn:(l.eraseIdx z).length=l.length - 1:=List.length_eraseIdx_of_lt hz
 rw [hn,<- nZ eN 2 rE];exact Uz base g l.length c z (z+1) rfl (l.flatMap eN) w h (lP l) hz hl
theorem El (base g c z:Nat) (l:List Se) (hz:z<l.length) (hl:l.length<=1000000) (w:World) (h:w.ownsRow base 65 2 (.slice (some ⟨g,0,none⟩) l.length c) l.length (l.flatMap fJ)) :
 Calls Tryz.prog 98 #[.slice (some ⟨g,0,none⟩) l.length c,.int .i64 z,.int .i64 ((z+1:Nat):Int)] w fun e w'=>e=.returned (.slice (some ⟨g,0,none⟩) (l.eraseIdx z).length c) /\
  w'.ownsRow base 65 2 (.slice (some ⟨g,0,none⟩) (l.eraseIdx z).length c) (l.eraseIdx z).length ((l.eraseIdx z).flatMap fJ)/\w.grownBy w' (some g):=by
 have hn:(l.eraseIdx z).length=l.length - 1:=List.length_eraseIdx_of_lt hz
 rw [hn,<- nZ fJ 2 Ep];exact Uh base g l.length c z (z+1) rfl (l.flatMap fJ) w h (oQ l) hz hl
theorem wJ {ss:List Se} {nx:Int} (h:yO ss nx=true):ss.length<=8/\kF ss ss.length=true/\(∀ x∈ss,x.t.size<=2000)/\0<=nx/\nx<=1073741824:=by
 unfold yO at h;simp only [Bool.and_eq_true,decide_eq_true_eq,List.all_eq_true] at h;obtain ⟨h1,h2,h3,h4⟩:=h;refine ⟨h1,h4,fun x hx=>?_,h2.1,h2.2⟩;have:=h3 x hx;unfold nI at this;simp only [Bool.and_eq_true,decide_eq_true_eq] at this;exact this.2
theorem Hx (base p:Nat) (hp:base<=p) (s:dN) (o:fV) (w:World) (Q:eX base w p s) (hs:yO s.ss s.nx=true) :
 Calls Tryz.prog 78 (PO p o.k o.id o.n o.m o.name o.d o.t) w (iD base p w (eZ s o.id)):=by
 obtain ⟨ts,gs,ss,nx⟩:=s;obtain ⟨ok,oi,on,om,GE,od,ot⟩:=o;dsimp only at *;have HQ:=DX Q;obtain ⟨aT,cT,aG,cG,aS,cS,hb,oT,oG,oS⟩:=Q.rows;dsimp only at *
 have GY:base<=w.heap.size:=by have:=hb.lt;omega
 have MG:p<w.heap.size:=hb.lt;have HP:=DX hb
 obtain ⟨XX,GR⟩:∃ XX,XX=(eZ ⟨ts,gs,ss,nx⟩ oi):=⟨_,rfl⟩
 rw [<- GR];have HX:=DX GR;clear GR;obtain ⟨GM,SK,IG,_,_⟩:=wJ hs;obtain ⟨_,_,hv,hS⟩:=gO oS rfl aE (fun x hx=>EF (IG x hx) aF);cases hv;obtain ⟨hf,hl⟩:=By SK oi;have HA:=DX (fun w' (k:aB w w')=>uC aT aG aS ts.length gs.length ss.length cT cG cS nx ss oi w' (hS.kept k) SK);have HB:=DX ((EY w (LO ok oi on om GE od ot) 35).kept ((EX _).alloc (KR)));have HR:=DX (FB w LR 47 ((KO ok oi on om GE od ot)));have HK:=DX (((EX w).alloc ((KO ok oi on om GE od ot))).alloc (KR))
 by_cases GA:fR ss oi<ss.length
 . rw [hf,hl GA,DZ GA] at HA
   have GI:=DX (show eZ ⟨ts,gs,ss,nx⟩ oi=(⟨ts,gs,ss.eraseIdx (fR ss oi),nx⟩,fT) from if_pos GA);obtain ⟨g,rfl⟩:=cA oS aE;have HD:=DX (fun w' (k:aB w w')=>El base g cS (fR ss oi) ss GA aE w' (aH oS k));have HO:=DX oS;clear hs hf hl SK IG hS oT oG oS Q hb;generalize fR ss oi=z at *;go_enter Tryz.func78,Tryz.ntmps78
   go_upto_region 1 with (fail)
   generalize (w.alloc ((KO ok oi on om GE od ot))).alloc (KR)=w1 at *
   obtain ⟨r0,r1,r2,r3⟩:=aI (HP.out.kept HK.out);have q0:w1.cell? ⟨w.heap.size,1,none⟩=some (.int .i64 oi):=HB.out.cell 1;have l0:=aC r0;have l1:=aC r1;have l2:=aC r2;have l3:=aC r3;have l4:=aC q0;clear r0 r1 r2 r3 q0;have GX:=DX (fun u:bF w1=>HA.out u.1 (HK.out.trans u.2))
   refine aJ aW aW ?_
   repeat (go_big_quiet_step ((go_at_call 96;exact aK (GX.out _))))
   refine wpQuiet_nil ?_
   intro _ GD;obtain ⟨nq,FT⟩:=GD;subst FT;have FW:=DX (HK.out.trans nq.2);have GK:=DX (HR.out.kept nq.2);have GP:=DX (HB.out.kept nq.2);clear l0 l1 l2 l3 l4 GX HA HR HB;generalize nq.1=w2 at *;obtain ⟨r0,r1,r2,r3⟩:=aI (HP.out.kept FW.out);go_wp2_with fail
   refine (HD.out _ FW.out).mono ?_
   rintro e w3 ⟨rfl,FU,IB⟩;have MC:=dX.of (aH HO.out FW.out);have TW:=DX (aM (HP.out.kept FW.out) IB (MC.ne (HP.out.kept FW.out) aF))
   obtain ⟨MB,KB⟩:=(HQ.out.kept FW.out).putS hp (ss.eraseIdx z) IB MC FU
   have LZ:=DX MB;have RM:=DX ((FA FW.out GY).trans KB);have IW:=DX (KB.blk _ _ _ GK.out aE aF aF aF);clear r0 r1 r2 r3 FU IB MC MB KB HD HO;obtain ⟨r0,r1,r2,r3⟩:=aI TW.out;have f0:=TW.out.free 2
   go_upto_region 5 with (fail)
   generalize w3.setCell ⟨p,2,none⟩ (.slice (some ⟨g,0,none⟩) (ss.eraseIdx z).length cS)=w4 at *;clear r0 r1 r2 r3 f0;go_wp2_with (refine aD rfl 47 (.tmp 4) (.tmp 30) rfl (w.heap.size+1) (bB fT) LR 47 rfl rfl IW.out AX rfl (aL _) ?_)
   refine EI (v:=bW (fT)) ?_ rfl ?_
   . exact Rx
   . exact Nz
 . rw [hf,DY GA] at HA
   have GI:=DX (show eZ ⟨ts,gs,ss,nx⟩ oi=(⟨ts,gs,ss,nx⟩,aY 3) from if_neg GA);clear hs hf hl SK IG hS oT oG oS Q hb;generalize zF ss oi=z at *;clear GA;go_enter Tryz.func78,Tryz.ntmps78
   go_upto_region 1 with (fail)
   generalize (w.alloc ((KO ok oi on om GE od ot))).alloc (KR)=w1 at *
   obtain ⟨r0,r1,r2,r3⟩:=aI (HP.out.kept HK.out);have q0:w1.cell? ⟨w.heap.size,1,none⟩=some (.int .i64 oi):=HB.out.cell 1;have l0:=aC r0;have l1:=aC r1;have l2:=aC r2;have l3:=aC r3;have l4:=aC q0;clear r0 r1 r2 r3 q0;have GX:=DX (fun u:bF w1=>HA.out u.1 (HK.out.trans u.2))
   refine aJ aW aW ?_
   repeat (go_big_quiet_step ((go_at_call 96;exact aK (GX.out _))))
   refine wpQuiet_nil ?_
   intro _ GD;obtain ⟨nq,FT⟩:=GD;subst FT;have FW:=DX (HK.out.trans nq.2);have GK:=DX (HR.out.kept nq.2);have GP:=DX (HB.out.kept nq.2);clear l0 l1 l2 l3 l4 GX HA HR HB;generalize nq.1=w2 at *;go_wp2_with fail
   refine (bU 3 _).mono ?_
   rintro e w9 ⟨rfl,GF⟩;have JQ:=DX (FW.out.trans GF);have JM:=DX (GK.out.kept GF);clear GF;go_wp2_with (refine aD rfl 47 (.tmp 4) (.tmp 18) rfl (w.heap.size+1) (bB (aY 3)) LR 47 rfl rfl JM.out AX rfl (aL _) ?_)
   refine EI (v:=bW (aY 3)) ?_ rfl ?_
   . exact yX
   . exact xN
structure BF (s:dN):Prop where
 lT:s.ts.length<=60
 rT:gG (cY s.ts)=true
 zT:∀ x∈s.ts,x.d.size=32/\x.t.size<=2000
 lG:s.gs.length<=40
 rG:gG (kL s.gs)=true
 zG:∀ x∈s.gs,x.n.size<=40/\x.d.size=32
 lS:s.ss.length<=8
 rS:kF s.ss s.ss.length=true
 zS:∀ x∈s.ss,x.t.size<=2000
 n0:0<=s.nx
 n1:s.nx<=1073741824
theorem Dp {n:ByteArray} (h:dV n=true):n.size<=40:=by
 unfold dV at h;exact Rb
theorem Kg {ts:List Th} {d:ByteArray} {j:Bool} (h:iZ ts d j=true):cQ ts d<ts.length/\(ts.getD (cQ ts d) aX).m=j:=by
 unfold iZ at h;rw [Bool.and_eq_true] at h;exact ⟨of_decide_eq_true h.1,by simpa using h.2⟩
theorem bR {s:dN} (h:dP s=true):BF s:=by
 unfold dP at h;rw [Bool.and_eq_true,Bool.and_eq_true] at h;obtain ⟨hT,hG,hS⟩:=h;obtain ⟨lS,rS,zS,n0,n1⟩:=wJ hS;unfold yR at hT;rw [Bool.and_eq_true] at hT
 have zT:∀ x∈s.ts,x.d.size=32/\x.t.size<=2000:=fun x hx=>by
  have:=Fe hT.1 x hx;unfold sF at this;simp only [Bool.and_eq_true,decide_eq_true_eq] at this;exact ⟨this.1,this.2.1⟩
 unfold Cc at hG;simp only [Bool.and_eq_true,decide_eq_true_eq,List.all_eq_true] at hG;refine ⟨jL hT.1,iY hT.1,zT,hG.1,hG.2.2,fun x hx=>?_,lS,rS,zS,n0,n1⟩;have:=hG.2.1 x hx;unfold rK at this;rw [Bool.and_eq_true] at this;obtain ⟨q,_⟩:=Kg this.2;refine ⟨Dp this.1,?_⟩;rw [<- uE s.ts q]
 exact (zT _ (bY aX q)).1
theorem vH (base p:Nat) (hp:base<=p) (s:dN) (o:fV) (w:World) (Q:eX base w p s) (hs:dP s=true) :
 Calls Tryz.prog 76 (PO p o.k o.id o.n o.m o.name o.d o.t) w (iD base p w (if o.k=10 then gQ s o.name else eY s o.name)):=by
 obtain ⟨ts,gs,ss,nx⟩:=s;obtain ⟨ok,oi,on,om,GE,od,ot⟩:=o;dsimp only at *;have HQ:=DX Q;obtain ⟨aT,cT,aG,cG,aS,cS,hb,oT,oG,oS⟩:=Q.rows;dsimp only at *
 have GY:base<=w.heap.size:=by have:=hb.lt;omega
 have MG:p<w.heap.size:=hb.lt;have HP:=DX hb
 obtain ⟨XX,GR⟩:∃ XX,XX=(if ok=10 then gQ ⟨ts,gs,ss,nx⟩ GE else eY ⟨ts,gs,ss,nx⟩ GE):=⟨_,rfl⟩
 rw [<- GR];have HX:=DX GR;clear GR;obtain ⟨lT,rT,zT,lG,rG,zG,lS,rS,zS,n0,n1⟩:=bR hs;dsimp only at *;obtain ⟨_,_,hv,hI⟩:=eA oG rfl aE (fun x hx=>by have:=zG x hx;omega);cases hv;obtain ⟨hf,hl⟩:=Me rG GE;have HA:=DX (fun w' (k:aB w w')=>yY aT aG aS ts.length gs.length ss.length cT cG cS nx gs GE w' (hI.kept k) rG);have HB:=DX ((EY w (LO ok oi on om GE od ot) 35).kept ((EX _).alloc (KR)));have HR:=DX (FB w LR 47 ((KO ok oi on om GE od ot)));have HK:=DX (((EX w).alloc ((KO ok oi on om GE od ot))).alloc (KR))
 by_cases GA:gK gs GE<gs.length
 . rw [hf,hl GA,DZ GA] at HA
   obtain ⟨g,rfl⟩:=cA oG aE;have HD:=DX (fun w' (k:aB w w')=>Pt base g cG (gK gs GE) gs GA aE w' (aH oG k));have HC:=DX (fun w' (k:aB w w')=>((aH oG k).cellAt (gK gs GE*2+1) aE).trans (oB gs (gK gs GE) GA).2);have HF:=DX (show gQ ⟨ts,gs,ss,nx⟩ GE=(⟨ts,gs,ss,nx⟩,eT (gs.getD (gK gs GE) bL).d) from if_pos GA);have HU:=DX (show eY ⟨ts,gs,ss,nx⟩ GE=(⟨ts,gs.eraseIdx (gK gs GE),ss,nx⟩,fT) from if_pos GA);have HO:=DX oG;clear hs hf hl hI rT zT rG zG rS zS oT oG oS Q hb;generalize gK gs GE=z at *;go_enter Tryz.func76,Tryz.ntmps76
   go_upto_region 1 with (fail)
   generalize (w.alloc ((KO ok oi on om GE od ot))).alloc (KR)=w1 at *
   obtain ⟨r0,r1,r2,r3⟩:=aI (HP.out.kept HK.out);have q0:w1.cell? ⟨w.heap.size,4,none⟩=some (.string GE):=HB.out.cell 4;have l0:=aC r0;have l1:=aC r1;have l2:=aC r2;have l3:=aC r3;have l4:=aC q0;clear r0 r1 r2 r3 q0;have GX:=DX (fun u:bF w1=>HA.out u.1 (HK.out.trans u.2))
   refine aJ aW aW ?_
   repeat (go_big_quiet_step ((go_at_call 104;exact aK (GX.out _))))
   refine wpQuiet_nil ?_
   intro _ GD;obtain ⟨nq,FT⟩:=GD;subst FT;have FW:=DX (HK.out.trans nq.2);have GK:=DX (HR.out.kept nq.2);have GP:=DX (HB.out.kept nq.2);clear l0 l1 l2 l3 l4 GX HA HR HB;generalize nq.1=w2 at *;have q0:w2.cell? ⟨w.heap.size,0,none⟩=some (.int .i64 ok):=GP.out.cell 0
   by_cases hk:ok=10
   . subst hk
     have GI:=DX (show (if (10:Int)=10 then gQ ⟨ts,gs,ss,nx⟩ GE else eY ⟨ts,gs,ss,nx⟩ GE)=_ from (if_pos rfl).trans HF.out);have c1:=HC.out w2 FW.out
     generalize (gs.getD z bL).d=D at *
     obtain ⟨r0,r1,r2,r3⟩:=aI (HP.out.kept FW.out);go_wp2_with (refine aD rfl 47 (.tmp 4) (.tmp 30) rfl (w.heap.size+1) (bB (eT D)) LR 47 rfl rfl GK.out AX rfl (aL _) ?_)
     refine EI (v:=bW (eT D)) ?_ rfl ?_
     . exact EH rfl _ _ (w.heap.size+1) 47 (bB (eT D)) (0,0) _ rfl (GK.out.setRow _) EV rfl AX
     . exact vN
   . have OA:(ok == (10:Int))=false:=by simpa using hk
     have GI:=DX (show (if ok=10 then gQ ⟨ts,gs,ss,nx⟩ GE else eY ⟨ts,gs,ss,nx⟩ GE)=_ from (if_neg hk).trans HU.out);clear hk HC;obtain ⟨r0,r1,r2,r3⟩:=aI (HP.out.kept FW.out);go_wp2_with fail
     refine (HD.out _ FW.out).mono ?_
     rintro e w3 ⟨rfl,FU,IB⟩;have MC:=dX.of (aH HO.out FW.out);have TW:=DX (aM (HP.out.kept FW.out) IB (MC.ne (HP.out.kept FW.out) aF))
     obtain ⟨MB,KB⟩:=(HQ.out.kept FW.out).putG hp (gs.eraseIdx z) IB MC FU
     have LZ:=DX MB;have RM:=DX ((FA FW.out GY).trans KB);have IW:=DX (KB.blk _ _ _ GK.out aE aF aF aF);clear r0 r1 r2 r3 FU IB MC MB KB HD HO;obtain ⟨r0,r1,r2,r3⟩:=aI TW.out;have f0:=TW.out.free 1
     go_upto_region 7 with (fail)
     generalize w3.setCell ⟨p,1,none⟩ (.slice (some ⟨g,0,none⟩) (gs.eraseIdx z).length cG)=w4 at *;clear r0 r1 r2 r3 f0;go_wp2_with (refine aD rfl 47 (.tmp 4) (.tmp 42) rfl (w.heap.size+1) (bB fT) LR 47 rfl rfl IW.out AX rfl (aL _) ?_)
     refine EI (v:=bW (fT)) ?_ rfl ?_
     . exact Rx
     . exact Nz
 . rw [hf,DY GA] at HA
   have GI:=DX (show (if ok=10 then gQ ⟨ts,gs,ss,nx⟩ GE else eY ⟨ts,gs,ss,nx⟩ GE)=(⟨ts,gs,ss,nx⟩,aY 3) by split;exact if_neg GA;exact if_neg GA);clear hs hf hl hI rT zT rG zG rS zS oT oG oS Q hb;generalize rJ gs GE=z at *;clear GA;go_enter Tryz.func76,Tryz.ntmps76
   go_upto_region 1 with (fail)
   generalize (w.alloc ((KO ok oi on om GE od ot))).alloc (KR)=w1 at *
   obtain ⟨r0,r1,r2,r3⟩:=aI (HP.out.kept HK.out);have q0:w1.cell? ⟨w.heap.size,4,none⟩=some (.string GE):=HB.out.cell 4;have l0:=aC r0;have l1:=aC r1;have l2:=aC r2;have l3:=aC r3;have l4:=aC q0;clear r0 r1 r2 r3 q0;have GX:=DX (fun u:bF w1=>HA.out u.1 (HK.out.trans u.2))
   refine aJ aW aW ?_
   repeat (go_big_quiet_step ((go_at_call 104;exact aK (GX.out _))))
   refine wpQuiet_nil ?_
   intro _ GD;obtain ⟨nq,FT⟩:=GD;subst FT;have FW:=DX (HK.out.trans nq.2);have GK:=DX (HR.out.kept nq.2);have GP:=DX (HB.out.kept nq.2);clear l0 l1 l2 l3 l4 GX HA HR HB;generalize nq.1=w2 at *;go_wp2_with fail
   refine (bU 3 _).mono ?_
   rintro e w9 ⟨rfl,GF⟩;have JQ:=DX (FW.out.trans GF);have JM:=DX (GK.out.kept GF);clear GF;go_wp2_with (refine aD rfl 47 (.tmp 4) (.tmp 18) rfl (w.heap.size+1) (bB (aY 3)) LR 47 rfl rfl JM.out AX rfl (aL _) ?_)
   refine EI (v:=bW (aY 3)) ?_ rfl ?_
   . exact yX
   . exact xN
theorem tR (base p:Nat) (hp:base<=p) (s:dN) (o:fV) (w:World) (Q:eX base w p s) (hs:dP s=true) :
 Calls Tryz.prog 72 (PO p o.k o.id o.n o.m o.name o.d o.t) w (iD base p w (cW s o.k o.d o.n o.m)):=by
 obtain ⟨ts,gs,ss,nx⟩:=s;obtain ⟨ok,oi,on,om,GE,od,ot⟩:=o;dsimp only at *;have HQ:=DX Q;obtain ⟨aT,cT,aG,cG,aS,cS,hb,oT,oG,oS⟩:=Q.rows;dsimp only at *
 have GY:base<=w.heap.size:=by have:=hb.lt;omega
 have MG:p<w.heap.size:=hb.lt;have HP:=DX hb
 obtain ⟨XX,GR⟩:∃ XX,XX=(cW ⟨ts,gs,ss,nx⟩ ok od on om):=⟨_,rfl⟩
 rw [<- GR];have HX:=DX GR;clear GR;obtain ⟨lT,rT,zT,lG,rG,zG,lS,rS,zS,n0,n1⟩:=bR hs;dsimp only at *;obtain ⟨_,_,hv,hI⟩:=cI oT rfl aE (fun x hx=>by have:=zT x hx;omega);cases hv;obtain ⟨hf,hl⟩:=qT rT od;have HA:=DX (fun w' (k:aB w w')=>oX aT aG aS ts.length gs.length ss.length cT cG cS nx ts od w' (hI.kept k) rT);have HB:=DX ((EY w (LO ok oi on om GE od ot) 35).kept ((EX _).alloc (KR)));have HR:=DX (FB w LR 47 ((KO ok oi on om GE od ot)));have HK:=DX (((EX w).alloc ((KO ok oi on om GE od ot))).alloc (KR))
 by_cases GA:cQ ts od<ts.length
 . rw [hf,hl GA,DZ GA] at HA
   obtain ⟨g,rfl⟩:=cA oT aE;have HC:=DX (fun w' (k:aB w w')=>((aH oT k).cellAt (cQ ts od*3+1) aE).trans (lW ts (cQ ts od) GA).2.1);have JJ:=DX (fun k=>(show cW ⟨ts,gs,ss,nx⟩ k od on om=_ from if_pos GA))
   have GO:=(zT _ (bY aX GA)).2
   clear hs hf hl hI rT zT rG zG rS zS oT oG oS Q hb;generalize cQ ts od=z at *;go_enter Tryz.func72,Tryz.ntmps72
   go_upto_region 1 with (fail)
   generalize (w.alloc ((KO ok oi on om GE od ot))).alloc (KR)=w1 at *
   obtain ⟨r0,r1,r2,r3⟩:=aI (HP.out.kept HK.out);have q0:w1.cell? ⟨w.heap.size,5,none⟩=some (.string od):=HB.out.cell 5;have l0:=aC r0;have l1:=aC r1;have l2:=aC r2;have l3:=aC r3;have l4:=aC q0;clear r0 r1 r2 r3 q0;have GX:=DX (fun u:bF w1=>HA.out u.1 (HK.out.trans u.2))
   refine aJ aW aW ?_
   repeat (go_big_quiet_step ((go_at_call 99;exact aK (GX.out _))))
   refine wpQuiet_nil ?_
   intro _ GD;obtain ⟨nq,FT⟩:=GD;subst FT;have FW:=DX (HK.out.trans nq.2);have GK:=DX (HR.out.kept nq.2);have GP:=DX (HB.out.kept nq.2);clear l0 l1 l2 l3 l4 GX HA HR HB;generalize nq.1=w2 at *;have q0:w2.cell? ⟨w.heap.size,0,none⟩=some (.int .i64 ok):=GP.out.cell 0;have q2:w2.cell? ⟨w.heap.size,2,none⟩=some (.int .i64 on):=GP.out.cell 2;have q3:w2.cell? ⟨w.heap.size,3,none⟩=some (.int .i64 om):=GP.out.cell 3;have c1:=HC.out w2 FW.out;dsimp only at JJ
   generalize (ts.getD z aX).t=X at *
   have GI:=DX (JJ.out ok);clear JJ HC;obtain ⟨r0,r1,r2,r3⟩:=aI (HP.out.kept FW.out)
   by_cases h5:ok=5
   . subst h5
     have GI:=DX (GI.out.trans (if_pos rfl));go_wp2_with (refine aD rfl 47 (.tmp 4) (.tmp 34) rfl (w.heap.size+1) (bB (dY (X.size:Int))) LR 47 rfl rfl GK.out AX rfl (aL _) ?_)
     refine EI (v:=bW (dY (X.size:Int))) ?_ rfl ?_
     . exact EH rfl _ _ (w.heap.size+1) 47 (bB (dY (X.size:Int))) (0,0) _ rfl (GK.out.setRow _) EV rfl AX
     . exact vN
   . have h5b:(ok == (5:Int))=false:=by simpa using h5
     have GI:=DX (GI.out.trans (if_neg h5));clear h5
     by_cases h4:ok=4
     . subst h4
       have GI:=DX (GI.out.trans (if_pos rfl));go_wp2_with (refine aD rfl 47 (.tmp 4) (.tmp 38) rfl (w.heap.size+1) (bB (eT X)) LR 47 rfl rfl GK.out AX rfl (aL _) ?_)
       refine EI (v:=bW (eT X)) ?_ rfl ?_
       . exact EH rfl _ _ (w.heap.size+1) 47 (bB (eT X)) (0,0) _ rfl (GK.out.setRow _) EV rfl AX
       . exact vN
     . have h4b:(ok == (4:Int))=false:=by simpa using h4
       have GI:=DX (GI.out.trans (if_neg h4));clear h4
       by_cases WJ:on<0
       . have hd0:decide (on<0)=true:=DZ WJ
         have GI:=DX (GI.out.trans (if_pos (.inl WJ)));clear WJ;go_wp2_with fail
         refine (bU 1 _).mono ?_
         rintro e w9 ⟨rfl,GF⟩;have JQ:=DX (FW.out.trans GF);have JM:=DX (GK.out.kept GF);clear GF;go_wp2_with (refine aD rfl 47 (.tmp 4) (.tmp 54) rfl (w.heap.size+1) (bB (aY 1)) LR 47 rfl rfl JM.out AX rfl (aL _) ?_)
         refine EI (v:=bW (aY 1)) ?_ rfl ?_
         . exact Kj
         . exact xN
       . have hd0:decide (on<0)=false:=DY WJ
         obtain ⟨N,rfl⟩:∃ N:Nat,on=N:=⟨on.toNat,aE⟩
         by_cases NV:X.size<N
         . have GU:decide ((X.size:Int)<(N:Int))=true:=DZ aE
           have aBD:decide (X.size<N)=true:=DZ NV;have GI:=DX (GI.out.trans (if_pos (.inr (.inl aE))));go_wp2_with fail
           refine (bU 1 _).mono ?_
           rintro e w9 ⟨rfl,GF⟩;have JQ:=DX (FW.out.trans GF);have JM:=DX (GK.out.kept GF);clear GF;go_wp2_with (refine aD rfl 47 (.tmp 4) (.tmp 54) rfl (w.heap.size+1) (bB (aY 1)) LR 47 rfl rfl JM.out AX rfl (aL _) ?_)
           refine EI (v:=bW (aY 1)) ?_ rfl ?_
           . exact Kj
           . exact xN
         . have GU:decide ((X.size:Int)<(N:Int))=false:=DY aE
           have aBD:decide (X.size<N)=false:=DY NV
           by_cases NE:om<0
           . have JH:decide (om<0)=true:=DZ NE
             have GI:=DX (GI.out.trans (if_pos (.inr (.inr NE))));clear NE;go_wp2_with fail
             refine (bU 1 _).mono ?_
             rintro e w9 ⟨rfl,GF⟩;have JQ:=DX (FW.out.trans GF);have JM:=DX (GK.out.kept GF);clear GF;go_wp2_with (refine aD rfl 47 (.tmp 4) (.tmp 54) rfl (w.heap.size+1) (bB (aY 1)) LR 47 rfl rfl JM.out AX rfl (aL _) ?_)
             refine EI (v:=bW (aY 1)) ?_ rfl ?_
             . exact Kj
             . exact xN
           . have JH:decide (om<0)=false:=DY NE
             obtain ⟨M,rfl⟩:∃ M:Nat,om=M:=⟨om.toNat,aE⟩
             have GI:=DX (GI.out.trans (if_neg aE))
             obtain ⟨D,hD⟩:∃ D,D=X.size - N:=⟨_,rfl⟩
             have hDi:(X.size:Int) - (N:Int)=(D:Int):=by omega
             obtain ⟨K,hK⟩:∃ K,K=min M D:=⟨_,rfl⟩
             have hKi:min (M:Int) (D:Int)=(K:Int):=by omega
             obtain ⟨L,hL⟩:∃ L,L=N+K:=⟨_,rfl⟩
             have hNK:(N:Int)+(K:Int)=(L:Int):=by omega
             have hNL:N<=L:=by omega
             have hLX:L<=X.size:=by omega
             have GI:=DX (show cW ⟨ts,gs,ss,nx⟩ ok od N M=(⟨ts,gs,ss,nx⟩,eT (X.extract N L)) by rw [GI.out];unfold Vj;rw [hL,hK,hD];simp);clear NE NV WJ hK hD hL;go_wp2_with (refine aD rfl 47 (.tmp 4) (.tmp 70) rfl (w.heap.size+1) (bB (eT (X.extract N L))) LR 47 rfl rfl GK.out AX rfl (aL _) ?_)
             refine EI (v:=bW (eT (X.extract N L))) ?_ rfl ?_
             . exact EH rfl _ _ (w.heap.size+1) 47 (bB (eT (X.extract N L))) (0,0) _ rfl (GK.out.setRow _) EV rfl AX
             . exact vN
 . rw [hf,DY GA] at HA
   have GI:=DX (show cW ⟨ts,gs,ss,nx⟩ ok od on om=(⟨ts,gs,ss,nx⟩,aY 3) from if_neg GA);clear hs hf hl hI rT zT rG zG rS zS oT oG oS Q hb;generalize fZ ts od=z at *;clear GA;go_enter Tryz.func72,Tryz.ntmps72
   go_upto_region 1 with (fail)
   generalize (w.alloc ((KO ok oi on om GE od ot))).alloc (KR)=w1 at *
   obtain ⟨r0,r1,r2,r3⟩:=aI (HP.out.kept HK.out);have q0:w1.cell? ⟨w.heap.size,5,none⟩=some (.string od):=HB.out.cell 5;have l0:=aC r0;have l1:=aC r1;have l2:=aC r2;have l3:=aC r3;have l4:=aC q0;clear r0 r1 r2 r3 q0;have GX:=DX (fun u:bF w1=>HA.out u.1 (HK.out.trans u.2))
   refine aJ aW aW ?_
   repeat (go_big_quiet_step ((go_at_call 99;exact aK (GX.out _))))
   refine wpQuiet_nil ?_
   intro _ GD;obtain ⟨nq,FT⟩:=GD;subst FT;have FW:=DX (HK.out.trans nq.2);have GK:=DX (HR.out.kept nq.2);have GP:=DX (HB.out.kept nq.2);clear l0 l1 l2 l3 l4 GX HA HR HB;generalize nq.1=w2 at *;go_wp2_with fail
   refine (bU 3 _).mono ?_
   rintro e w9 ⟨rfl,GF⟩;have JQ:=DX (FW.out.trans GF);have JM:=DX (GK.out.kept GF);clear GF;go_wp2_with (refine aD rfl 47 (.tmp 4) (.tmp 19) rfl (w.heap.size+1) (bB (aY 3)) LR 47 rfl rfl JM.out AX rfl (aL _) ?_)
   refine EI (v:=bW (aY 3)) ?_ rfl ?_
   . exact yX
   . exact xN
end Go.Proofs.YtkfmladhicapeaaGreatDoor
