import Derived.Test.YtkfmladhicapeaaGreatDoorY30
set_option maxRecDepth 100000
set_option maxHeartbeats 2000000
namespace Go.Proofs.YtkfmladhicapeaaGreatDoor
open Go.RowKit Go.Shelf
attribute [local go_sem] Oper.semAt_some
theorem eX.inS {base p:Nat} {w w1:World} {ts:List Th} {gs:List Tg} {ss ss':List Se} {nx:Int} {aT aG aS:Option Addr} {cT cG cS:Nat} {row:Option Nat} (hb:aA w p (LS aT ts.length cT aG gs.length cG aS ss.length cS nx) 26)
 (oT:w.ownsRow base 62 3 (.slice aT ts.length cT) ts.length (ts.flatMap dW)) (oG:w.ownsRow base 68 2 (.slice aG gs.length cG) gs.length (gs.flatMap eN)) (g1:w.grownBy w1 row) (hr:dX base w row 65) (hl:ss'.length=ss.length)
 (ho:w1.ownsRow base 65 2 (.slice aS ss.length cS) ss.length (ss'.flatMap fJ)) (GY:base<=w.heap.size):eX base w1 p ⟨ts,gs,ss',nx⟩/\Fr base p w w1:=by
 refine ⟨⟨⟨aT,cT,aG,cG,aS,cS,?_,gB oT hr aF g1,gB oG hr aF g1,?_⟩⟩,Fr.of_grown g1 hr aF GY⟩
 . dsimp only;rw [hl];exact aM hb g1 (hr.ne hb aF)
 . dsimp only;rw [hl];exact ho
theorem eX.inG {base p:Nat} {w w1:World} {ts:List Th} {gs gs':List Tg} {ss:List Se} {nx:Int} {aT aG aS:Option Addr} {cT cG cS:Nat} {row:Option Nat} (hb:aA w p (LS aT ts.length cT aG gs.length cG aS ss.length cS nx) 26)
 (oT:w.ownsRow base 62 3 (.slice aT ts.length cT) ts.length (ts.flatMap dW)) (oS:w.ownsRow base 65 2 (.slice aS ss.length cS) ss.length (ss.flatMap fJ)) (g1:w.grownBy w1 row) (hr:dX base w row 68) (hl:gs'.length=gs.length)
 (ho:w1.ownsRow base 68 2 (.slice aG gs.length cG) gs.length (gs'.flatMap eN)) (GY:base<=w.heap.size):eX base w1 p ⟨ts,gs',ss,nx⟩/\Fr base p w w1:=by
 refine ⟨⟨⟨aT,cT,aG,cG,aS,cS,?_,gB oT hr aF g1,?_,gB oS hr aF g1⟩⟩,Fr.of_grown g1 hr aF GY⟩
 . dsimp only;rw [hl];exact aM hb g1 (hr.ne hb aF)
 . dsimp only;rw [hl];exact ho
theorem mN (t:ByteArray):∀ (l:List Se) (z:Nat),z<l.length->(l.set z ⟨(l.getD z bQ).i,t⟩).flatMap fJ=(l.flatMap fJ).set (z*2+1) (.string t)
 | [],z,h=>by simp at h
 | x :: r,0,_=>rfl
 | x :: r,z+1,h=>by
  have:=mN t r z (by simpa using h);rw [show (z+1)*2+1=(z*2+1)+2 by omega]
  simpa [List.flatMap_cons,fJ,List.getD] using this
theorem mM (t:ByteArray):∀ (l:List Tg) (z:Nat),z<l.length->(l.set z ⟨(l.getD z bL).n,t⟩).flatMap eN=(l.flatMap eN).set (z*2+1) (.string t)
 | [],z,h=>by simp at h
 | x :: r,0,_=>rfl
 | x :: r,z+1,h=>by
  have:=mM t r z (by simpa using h);rw [show (z+1)*2+1=(z*2+1)+2 by omega]
  simpa [List.flatMap_cons,eN,List.getD] using this
theorem Fy (base p:Nat) (hp:base<=p) (s:dN) (o:fV) (w:World) (Q:eX base w p s) (hs:dP s=true) (OB:o.t.size<=140737488351232) :
 Calls Tryz.prog 70 (PO p o.k o.id o.n o.m o.name o.d o.t) w (iD base p w (eW s o.id o.t)):=by
 obtain ⟨ts,gs,ss,nx⟩:=s;obtain ⟨ok,oi,on,om,GE,od,ot⟩:=o;dsimp only at *;have HQ:=DX Q;obtain ⟨aT,cT,aG,cG,aS,cS,hb,oT,oG,oS⟩:=Q.rows;dsimp only at *
 have GY:base<=w.heap.size:=by have:=hb.lt;omega
 have MG:p<w.heap.size:=hb.lt;have HP:=DX hb
 obtain ⟨XX,GR⟩:∃ XX,XX=(eW ⟨ts,gs,ss,nx⟩ oi ot):=⟨_,rfl⟩
 rw [<- GR];have HX:=DX GR;clear GR;obtain ⟨lT,rT,zT,lG,rG,zG,lS,rS,zS,n0,n1⟩:=bR hs;dsimp only at *;obtain ⟨_,_,hv,hI⟩:=gO oS rfl aE (fun x hx=>EF (zS x hx) aF);cases hv;obtain ⟨hf,hl⟩:=By rS oi;have HA:=DX (fun w' (k:aB w w')=>uC aT aG aS ts.length gs.length ss.length cT cG cS nx ss oi w' (hI.kept k) rS);have HB:=DX ((EY w (LO ok oi on om GE od ot) 35).kept ((EX _).alloc (KR)));have HR:=DX (FB w LR 47 ((KO ok oi on om GE od ot)));have HK:=DX (((EX w).alloc ((KO ok oi on om GE od ot))).alloc (KR))
 by_cases GA:fR ss oi<ss.length
 . rw [hf,hl GA,DZ GA] at HA
   obtain ⟨g,rfl⟩:=cA oS aE;have hco:=nP ss (fR ss oi) GA;have HC:=DX (fun w' (k:aB w w')=>((aH oS k).cellAt (fR ss oi*2+1) aE).trans hco.2);have HFZ:=DX (fun w' (k:aB w w')=>(aH oS k).frozenAt (fR ss oi*2+1));have JJ:=DX (show eW ⟨ts,gs,ss,nx⟩ oi ot=_ from if_pos GA);have OU:=DX (mN ((ss.getD (fR ss oi) bQ).t++ot) ss (fR ss oi) GA);have GO:=zS _ (bY bQ GA);have VR:=DX oT;have WW:=DX oG;have OK:=DX oS;clear hco;clear hs hf hl hI rT zT rG zG rS zS oT oG oS Q hb;generalize fR ss oi=z at *;go_enter Tryz.func70,Tryz.ntmps70
   go_upto_region 1 with (fail)
   generalize (w.alloc ((KO ok oi on om GE od ot))).alloc (KR)=w1 at *
   obtain ⟨r0,r1,r2,r3⟩:=aI (HP.out.kept HK.out);have q0:w1.cell? ⟨w.heap.size,1,none⟩=some (.int .i64 oi):=HB.out.cell 1;have l0:=aC r0;have l1:=aC r1;have l2:=aC r2;have l3:=aC r3;have l4:=aC q0;clear r0 r1 r2 r3 q0;have GX:=DX (fun u:bF w1=>HA.out u.1 (HK.out.trans u.2))
   refine aJ aW aW ?_
   repeat (go_big_quiet_step ((go_at_call 96;exact aK (GX.out _))))
   refine wpQuiet_nil ?_
   intro _ GD;obtain ⟨nq,FT⟩:=GD;subst FT;have FW:=DX (HK.out.trans nq.2);have GK:=DX (HR.out.kept nq.2);have GP:=DX (HB.out.kept nq.2);clear l0 l1 l2 l3 l4 GX HA HR HB;generalize nq.1=w2 at *;obtain ⟨r0,r1,r2,r3⟩:=aI (HP.out.kept FW.out);have c1:=HC.out w2 FW.out;have q1:w2.cell? ⟨w.heap.size,6,none⟩=some (.string ot):=GP.out.cell 6
   generalize (ss.getD z bQ).t=X at *
   obtain ⟨n,hn⟩:∃ n,n=X.size+ot.size:=⟨_,rfl⟩
   have hni:(X.size:Int)+(ot.size:Int)=(n:Int):=by omega
   rw [<- hn] at JJ;have HN:=DX hn;have hX:X.size<=2000:=GO;have l0:=aC r0;have l1:=aC r1;have l2:=aC r2;have l3:=aC r3;have l4:=aC c1;have l5:=aC q1;clear r0 r1 r2 r3 c1 q1 hn;go_wp2_with fail
   refine aJ aW aW ?_
   repeat (go_big_quiet_step (fail))
   refine wpQuiet_nil ?_
   intro _ GD;obtain ⟨nq,FT⟩:=GD;subst FT;have GC:=DX (FW.out.trans nq.2);have JG:=DX (GK.out.kept nq.2);have IU:=DX (GP.out.kept nq.2);clear l0 l1 l2 l3 l4 l5;generalize nq.1=w3 at *
   by_cases UD:n>2000
   . have GI:=DX (JJ.out.trans (if_pos UD))
     have hd:decide ((2000:Int)<(n:Int))=true:=DZ aE;clear UD JJ;go_wp2_with fail
     refine (bU 2 _).mono ?_
     rintro e w9 ⟨rfl,GF⟩;have JQ:=DX (GC.out.trans GF);have JM:=DX (JG.out.kept GF);clear GF;go_wp2_with (refine aD rfl 47 (.tmp 4) (.tmp 35) rfl (w.heap.size+1) (bB (aY 2)) LR 47 rfl rfl JM.out AX rfl (aL _) ?_)
     refine EI (v:=bW (aY 2)) ?_ rfl ?_
     . exact Oa
     . exact xN
   . have GI:=DX (JJ.out.trans (if_neg UD))
     have hd:decide ((2000:Int)<(n:Int))=false:=DY aE;clear UD JJ;obtain ⟨r0,r1,r2,r3⟩:=aI (HP.out.kept GC.out);have c1:=HC.out w3 GC.out;have f1:=HFZ.out w3 GC.out;have q1:w3.cell? ⟨w.heap.size,6,none⟩=some (.string ot):=IU.out.cell 6;go_wp2_with fail;go_region
     obtain ⟨h1,h2⟩:=(aH OK.out GC.out).stored (z*2+1) (.string (X++ot))
     rw [<- OU.out] at h1
     have XD:w3.grownBy (w3.setCell ⟨g,z*2+1,none⟩ (.string (X++ot))).drew (some g):=⟨h2.os,h2.tape,h2.output,h2.size,fun k hk GW=>h2.block k hk GW⟩
     obtain ⟨MB,KB⟩:=eX.inS (ss':=ss.set z ⟨(ss.getD z bQ).i,X++ot⟩) (HP.out.kept GC.out) (aH VR.out GC.out) (aH WW.out GC.out) XD (dX.of (aH OK.out GC.out)) List.length_set h1.drew (EF GY GC.out.size);have LZ:=DX MB;have RM:=DX ((FA GC.out GY).trans KB);have IW:=DX (KB.blk _ _ _ JG.out aE aF aF aF);clear r0 r1 r2 r3 c1 f1 q1 h1 h2 XD MB KB OU HC HFZ
     generalize (w3.setCell ⟨g,z*2+1,none⟩ (.string (X++ot))).drew=w4 at *
     go_wp2_with (refine aD rfl 47 (.tmp 4) (.tmp 50) rfl (w.heap.size+1) (bB (dY (n:Int))) LR 47 rfl rfl IW.out AX rfl (aL _) ?_)
     refine EI (v:=bW (dY (n:Int))) ?_ rfl ?_
     . exact EH rfl _ _ (w.heap.size+1) 47 (bB (dY (n:Int))) (0,0) _ rfl (IW.out.setRow _) EV rfl AX
     . exact Nz
 . rw [hf,DY GA] at HA
   have GI:=DX (show eW ⟨ts,gs,ss,nx⟩ oi ot=(⟨ts,gs,ss,nx⟩,aY 3) from if_neg GA);clear hs hf hl hI rT zT rG zG rS zS oT oG oS Q hb;generalize zF ss oi=z at *;clear GA;go_enter Tryz.func70,Tryz.ntmps70
   go_upto_region 1 with (fail)
   generalize (w.alloc ((KO ok oi on om GE od ot))).alloc (KR)=w1 at *
   obtain ⟨r0,r1,r2,r3⟩:=aI (HP.out.kept HK.out);have q0:w1.cell? ⟨w.heap.size,1,none⟩=some (.int .i64 oi):=HB.out.cell 1;have l0:=aC r0;have l1:=aC r1;have l2:=aC r2;have l3:=aC r3;have l4:=aC q0;clear r0 r1 r2 r3 q0;have GX:=DX (fun u:bF w1=>HA.out u.1 (HK.out.trans u.2))
   refine aJ aW aW ?_
   repeat (go_big_quiet_step ((go_at_call 96;exact aK (GX.out _))))
   refine wpQuiet_nil ?_
   intro _ GD;obtain ⟨nq,FT⟩:=GD;subst FT;have FW:=DX (HK.out.trans nq.2);have GK:=DX (HR.out.kept nq.2);have GP:=DX (HB.out.kept nq.2);clear l0 l1 l2 l3 l4 GX HA HR HB;generalize nq.1=w2 at *;go_wp2_with fail
   refine (bU 3 _).mono ?_
   rintro e w9 ⟨rfl,GF⟩;have JQ:=DX (FW.out.trans GF);have JM:=DX (GK.out.kept GF);clear GF;go_wp2_with (refine aD rfl 47 (.tmp 4) (.tmp 19) rfl (w.heap.size+1) (bB (aY 3)) LR 47 rfl rfl JM.out AX rfl (aL _) ?_)
   refine EI (v:=bW (aY 3)) ?_ rfl ?_
   . exact yX
   . exact xN
theorem Gz (base p:Nat) (hp:base<=p) (s:dN) (w:World) (Q:eX base w p s) (hs:dP s=true) :
 Calls Tryz.prog 69 #[.pointer (some ⟨p,0,none⟩)] w (iD base p w (eF s)):=by
 obtain ⟨i0,IY,GV,GJ,GO⟩:=kA Tryz.prog BE;obtain ⟨lT,rT,zT,lG,rG,zG,lS,rS,zS,n0,n1⟩:=bR hs;obtain ⟨ts,gs,ss,nx⟩:=s;dsimp only at *;have HQ:=DX Q;obtain ⟨aT,cT,aG,cG,aS,cS,hb,oT,oG,oS⟩:=Q.rows;dsimp only at *
 have GY:base<=w.heap.size:=by have:=hb.lt;omega
 have MG:p<w.heap.size:=hb.lt;have HP:=DX hb
 obtain ⟨XX,GR⟩:∃ XX,XX=eF ⟨ts,gs,ss,nx⟩:=⟨_,rfl⟩
 rw [<- GR];have HX:=DX GR;have HR:=DX (EY w LR 47);have HK:=DX ((EX w).alloc (KR));have OK:=DX oS;have HI:=DX (EC IY (EC GV (EC GJ GO)));clear GR hs rT zT rG zG rS zS oT oG oS Q hb IY GV GJ GO
 by_cases hfull:8<=ss.length
 . have GU:decide ((8:Int)<=(ss.length:Int))=true:=DZ aE
   have aBD:decide (8<=ss.length)=true:=DZ hfull
   have XE:ss.length>=8\/nx=1073741824:=.inl hfull
   have GI:=DX (show eF ⟨ts,gs,ss,nx⟩=(⟨ts,gs,ss,nx⟩,aY 2) from if_pos XE);clear XE hfull;exact Wb
 . have GU:decide ((8:Int)<=(ss.length:Int))=false:=DY aE
   have aBD:decide (8<=ss.length)=false:=DY hfull
   by_cases TF:nx=1073741824
   . have XE:ss.length>=8\/nx=1073741824:=.inr TF
     have GI:=DX (show eF ⟨ts,gs,ss,nx⟩=(⟨ts,gs,ss,nx⟩,aY 2) from if_pos XE)
     have JH:(nx == (1073741824:Int))=true:=by simpa using TF
     clear XE hfull TF;exact Wb
   . have JH:(nx == (1073741824:Int))=false:=by simpa using TF
     have GI:=DX (show eF ⟨ts,gs,ss,nx⟩=(⟨ts,gs,ss++[⟨nx,ByteArray.empty⟩],nx+1⟩,dY nx) from if_neg (show ¬ (ss.length>=8\/nx=1073741824) by omega))
     have FV:nx<1073741824:=by omega
     clear hfull TF;go_enter Tryz.func69,Tryz.ntmps69
     go_upto_region 1 with (fail)
     generalize w.alloc (KR)=w1 at *;obtain ⟨r0,r1,r2,r3⟩:=aI (HP.out.kept HK.out);go_wp2_with (at_builtin;refine wpList_append_own_at _ rfl _ _ 24 rfl base 65 i0 (.agg #[.int .i64 0,.string ByteArray.empty]) 2 24 EU HI.out.1 HI.out.2.1 HI.out.2.2.1 HI.out.2.2.2 rfl aF _ _ _ rfl ((aH OK.out HK.out).alloc _) ⟨w1.heap.size,0,none⟩ 1 1 [.int .i64 nx,.string ByteArray.empty] rfl rfl ?c1 ?c2 ?c3 ?c4 ?c5 ?_)
     case c1=>exact yB w1 ⟨nx,ByteArray.empty⟩ _
     case c2=>intro u hu;simp at hu;rcases hu with rfl | rfl <;> rfl
     case c3=>unfold maxLen;omega
     case c4=>omega
     case c5=>have:=HK.out.size;simp;omega
     intro v9 w9 FU IB _ _;obtain ⟨a9,c9,rfl⟩:=aP FU;have NP:=DX (HK.out.alloc (.cells #[.int .i64 nx,.string { data:=#[] }] 65));have HRa:=DX (HR.out.kept ((EX w1).alloc (.cells #[.int .i64 nx,.string { data:=#[] }] 65)))
     have hl:(ss++[(⟨nx,ByteArray.empty⟩:Se)]).length=ss.length+1:=by simp
     have hfl:(ss++[(⟨nx,ByteArray.empty⟩:Se)]).flatMap fJ=ss.flatMap fJ++[.int .i64 nx,.string ByteArray.empty]:=by simp [fJ]
     rw [<- hl,<- hfl] at FU;have MC:=dX.own (aH OK.out NP.out);have HP9:=DX (aM (HP.out.kept NP.out) IB (MC.ne (HP.out.kept NP.out) aF))
     obtain ⟨MB,KB⟩:=(HQ.out.kept NP.out).putS hp (ss++[⟨nx,ByteArray.empty⟩]) IB MC FU
     rw [hl] at MB KB;have LZ:=DX MB;have RM:=DX ((FA NP.out GY).trans KB);have IW:=DX (KB.blk _ _ _ HRa.out aE aF aF aF);clear r0 r1 r2 r3 FU IB MC MB KB hl hfl;obtain ⟨r0,r1,r2,r3⟩:=aI HP9.out;have f0:=HP9.out.free 2
     go_upto_region 5 with (fail)
     generalize w9.setCell ⟨p,2,none⟩ (.slice a9 (ss.length+1) c9)=w4 at *;clear r0 r1 r2 r3 f0;obtain ⟨_,_,_,_,_,_,IM,_⟩:=LZ.out.rows;dsimp only at IM;obtain ⟨r0,r1,r2,r3⟩:=aI IM;have f0:=IM.free 3;obtain ⟨UJ,QJ⟩:=LZ.out.putN hp (nx+1);have SC:=DX UJ;have OJ:=DX (RM.out.trans QJ);have KE:=DX (QJ.blk _ _ _ IW.out aE aF aF aF);clear UJ QJ IM
     go_upto_region 6 with (fail)
     generalize w4.setCell ⟨p,3,none⟩ (.int .i64 (nx+1))=w5 at *;clear r0 r1 r2 r3 f0;go_wp2_with (refine aD rfl 47 (.tmp 2) (.tmp 41) rfl (w.heap.size) (bB (dY nx)) LR 47 rfl rfl KE.out AX rfl (aL _) ?_)
     refine EI (v:=bW (dY nx)) ?_ rfl ?_
     . exact EH rfl _ _ (w.heap.size) 47 (bB (dY nx)) (0,0) _ rfl (KE.out.setRow _) EV rfl AX
     . rw [HX.out,GI.out];exact ⟨rfl,SC.out.setRow KE.out aF aF aF aF _,OJ.out.setRow (EA _) GY _⟩
theorem Nm (base c z vb:Nat) (a:Option Addr) (l:List Th) (t:Th) (w:World) (h:w.ownsRow base 62 3 (.slice a l.length c) l.length (l.flatMap dW)) (hz:z<=l.length) (hl:l.length<=1000000) (GY:base<=w.heap.size)
 (hv:aA w vb (dW t).toArray 62) (ZR:∀ g,(Value.slice a l.length c).ownBlock=some g->vb≠g) :
 Calls Tryz.prog 128 #[.slice a l.length c,.int .i64 z,.slice (some ⟨vb,0,none⟩) 1 1] w fun e w'=>∃ a' c' row,e=.returned (.slice a' (l.take z++[t]++l.drop z).length c') /\
  w'.ownsRow base 62 3 (.slice a' (l.take z++[t]++l.drop z).length c') (l.take z++[t]++l.drop z).length ((l.take z++[t]++l.drop z).flatMap dW)/\w.grownBy w' row/\dX base w row 62:=by
 have hn:(l.take z++[t]++l.drop z).length=l.length+1:=by simp;omega
 have PQ:∀ u∈dW t,u.oneCell'=true:=fun u hu=>lQ [t] u (by simpa using hu)
 rw [hn,<- Ad dW 3 mA]
 by_cases he:z=l.length
 . subst he
   refine (Ck base l.length c vb a (l.flatMap dW) (dW t) w h hl GY hv (mA t) PQ).mono ?_
   rintro e w' ⟨a',c',rfl,ho,hg⟩;refine ⟨a',c',_,rfl,?_,hg,dX.own h⟩;rw [EE (by rw [jS];exact EA _),List.drop_of_length_le (by rw [jS];exact EA _),List.append_nil];exact ho
 . obtain ⟨g,rfl⟩:=cA h aE
   by_cases hr:l.length+1<=c
   . refine (xY base g l.length c z vb (l.flatMap dW) (dW t) w h (lQ l) aE hl hr hv (mA t) PQ (ZR g rfl)).mono ?_
     rintro e w' ⟨rfl,ho,hg⟩;exact ⟨_,_,_,rfl,ho,hg,dX.of h⟩
   . refine (Ba base g l.length c z vb (l.flatMap dW) (dW t) w h (lQ l) aE hl aE GY hv (mA t) PQ).mono ?_
     exact Rj
theorem Mw (base c z vb:Nat) (a:Option Addr) (l:List Tg) (t:Tg) (w:World) (h:w.ownsRow base 68 2 (.slice a l.length c) l.length (l.flatMap eN)) (hz:z<=l.length) (hl:l.length<=1000000) (GY:base<=w.heap.size)
 (hv:aA w vb (eN t).toArray 68) (ZR:∀ g,(Value.slice a l.length c).ownBlock=some g->vb≠g) :
 Calls Tryz.prog 105 #[.slice a l.length c,.int .i64 z,.slice (some ⟨vb,0,none⟩) 1 1] w fun e w'=>∃ a' c' row,e=.returned (.slice a' (l.take z++[t]++l.drop z).length c') /\
  w'.ownsRow base 68 2 (.slice a' (l.take z++[t]++l.drop z).length c') (l.take z++[t]++l.drop z).length ((l.take z++[t]++l.drop z).flatMap eN)/\w.grownBy w' row/\dX base w row 68:=by
 have hn:(l.take z++[t]++l.drop z).length=l.length+1:=by simp;omega
 have PQ:∀ u∈eN t,u.oneCell'=true:=fun u hu=>lP [t] u (by simpa using hu)
 rw [hn,<- Ad eN 2 rE]
 by_cases he:z=l.length
 . subst he
   refine (Bw base l.length c vb a (l.flatMap eN) (eN t) w h hl GY hv (rE t) PQ).mono ?_
   rintro e w' ⟨a',c',rfl,ho,hg⟩;refine ⟨a',c',_,rfl,?_,hg,dX.own h⟩;rw [EE (by rw [pB];exact EA _),List.drop_of_length_le (by rw [pB];exact EA _),List.append_nil];exact ho
 . obtain ⟨g,rfl⟩:=cA h aE
   by_cases hr:l.length+1<=c
   . refine (yN base g l.length c z vb (l.flatMap eN) (eN t) w h (lP l) aE hl hr hv (rE t) PQ (ZR g rfl)).mono ?_
     rintro e w' ⟨rfl,ho,hg⟩;exact ⟨_,_,_,rfl,ho,hg,dX.of h⟩
   . refine (zB base g l.length c z vb (l.flatMap eN) (eN t) w h (lP l) aE hl aE GY hv (rE t) PQ).mono ?_
     exact Rj
theorem Ii (gs:List Tg) (d:ByteArray):rJ gs d<=gs.length:=by
 unfold rJ
 exact (List.takeWhile_prefix _).length_le
def tH (s:dN) (t:Th):dN × Int:=if cQ s.ts t.d<s.ts.length then (s,0) else if s.ts.length>=60 then (s,2) else ({ s with ts:=iR s.ts t },0)
def AddP (base p:Nat) (w:World) (x:dN × Int) (e:Ending) (w':World):Prop:=e=.returned (.int .i64 x.2)/\eX base w' p x.1/\Fr base p w w'
theorem nA (base p:Nat) (hp:base<=p) (s:dN) (t:Th) (w:World) (Q:eX base w p s) (hs:BF s) :
 Calls Tryz.prog 97 #[.pointer (some ⟨p,0,none⟩),.agg (LT t.d t.t t.m)] w (AddP base p w (tH s t)):=by
 obtain ⟨lT,rT,zT,lG,rG,zG,lS,rS,zS,n0,n1⟩:=hs;obtain ⟨ts,gs,ss,nx⟩:=s;obtain ⟨td,tt,tm⟩:=t;dsimp only at *;have HQ:=DX Q;obtain ⟨aT,cT,aG,cG,aS,cS,hb,oT,oG,oS⟩:=Q.rows;dsimp only at *
 have GY:base<=w.heap.size:=by have:=hb.lt;omega
 have MG:p<w.heap.size:=hb.lt;have HP:=DX hb
 obtain ⟨XX,GR⟩:∃ XX,XX=tH ⟨ts,gs,ss,nx⟩ ⟨td,tt,tm⟩:=⟨_,rfl⟩
 rw [<- GR];have HX:=DX GR;clear GR;obtain ⟨_,_,hv,hI⟩:=cI oT rfl aE (fun x hx=>by have:=zT x hx;omega);cases hv;obtain ⟨hf,hl⟩:=qT rT td;have HA:=DX (fun w' (k:aB w w')=>oX aT aG aS ts.length gs.length ss.length cT cG cS nx ts td w' (hI.kept k) rT);have HB:=DX (EY w (LT td tt tm) 62);have HK:=DX ((EX w).alloc ((KT td tt tm)));have HZ:=DX (De ts td);have VR:=DX oT
 by_cases GA:cQ ts td<ts.length
 . rw [hf,DZ GA] at HA
   have GI:=DX (show tH ⟨ts,gs,ss,nx⟩ ⟨td,tt,tm⟩=(⟨ts,gs,ss,nx⟩,0) from if_pos GA);clear hf hl hI rT zT rG zG rS zS oT oG oS Q hb;generalize fZ ts td=z at *;clear GA;go_enter Tryz.func97,Tryz.ntmps97
   go_upto_region 1 with (fail)
   generalize w.alloc ((KT td tt tm))=w1 at *;obtain ⟨r0,r1,r2,r3⟩:=aI (HP.out.kept HK.out);have q0:w1.cell? ⟨w.heap.size,0,none⟩=some (.string td):=HB.out.cell 0;have l0:=aC r0;have l1:=aC r1;have l2:=aC r2;have l3:=aC r3;have l4:=aC q0;clear r0 r1 r2 r3 q0;have GX:=DX (fun u:bF w1=>HA.out u.1 (HK.out.trans u.2))
   refine aJ aW aW ?_
   repeat (go_big_quiet_step ((go_at_call 99;exact aK (GX.out _))))
   refine wpQuiet_nil ?_
   intro _ GD;obtain ⟨nq,FT⟩:=GD;subst FT;have FW:=DX (HK.out.trans nq.2);have GP:=DX (HB.out.kept nq.2);clear l0 l1 l2 l3 l4 GX HA HB;generalize nq.1=w2 at *;exact Lh
 . rw [hf,DY GA] at HA
   by_cases hful:ts.length>=60
   . have hd:decide ((60:Int)<=(ts.length:Int))=true:=DZ aE
     have WF:decide (60<=ts.length)=true:=DZ hful;have GI:=DX ((show tH ⟨ts,gs,ss,nx⟩ ⟨td,tt,tm⟩=_ from if_neg GA).trans (if_pos hful));clear hf hl hI rT zT rG zG rS zS oT oG oS Q hb;clear hful GA;generalize fZ ts td=z at *;go_enter Tryz.func97,Tryz.ntmps97
     go_upto_region 1 with (fail)
     generalize w.alloc ((KT td tt tm))=w1 at *;obtain ⟨r0,r1,r2,r3⟩:=aI (HP.out.kept HK.out);have q0:w1.cell? ⟨w.heap.size,0,none⟩=some (.string td):=HB.out.cell 0;have l0:=aC r0;have l1:=aC r1;have l2:=aC r2;have l3:=aC r3;have l4:=aC q0;clear r0 r1 r2 r3 q0;have GX:=DX (fun u:bF w1=>HA.out u.1 (HK.out.trans u.2))
     refine aJ aW aW ?_
     repeat (go_big_quiet_step ((go_at_call 99;exact aK (GX.out _))))
     refine wpQuiet_nil ?_
     intro _ GD;obtain ⟨nq,FT⟩:=GD;subst FT;have FW:=DX (HK.out.trans nq.2);have GP:=DX (HB.out.kept nq.2);clear l0 l1 l2 l3 l4 GX HA HB;generalize nq.1=w2 at *;obtain ⟨r0,r1,r2,r3⟩:=aI (HP.out.kept FW.out);exact Lh
   . have hd:decide ((60:Int)<=(ts.length:Int))=false:=DY aE
     have WF:decide (60<=ts.length)=false:=DY hful;have GI:=DX ((show tH ⟨ts,gs,ss,nx⟩ ⟨td,tt,tm⟩=_ from if_neg GA).trans (if_neg hful));clear hf hl hI rT zT rG zG rS zS oT oG oS Q hb;clear hful GA;unfold iR at GI;dsimp only at GI;generalize fZ ts td=z at *;go_enter Tryz.func97,Tryz.ntmps97
     go_upto_region 1 with (fail)
     generalize w.alloc ((KT td tt tm))=w1 at *;obtain ⟨r0,r1,r2,r3⟩:=aI (HP.out.kept HK.out);have q0:w1.cell? ⟨w.heap.size,0,none⟩=some (.string td):=HB.out.cell 0;have l0:=aC r0;have l1:=aC r1;have l2:=aC r2;have l3:=aC r3;have l4:=aC q0;clear r0 r1 r2 r3 q0;have GX:=DX (fun u:bF w1=>HA.out u.1 (HK.out.trans u.2))
     refine aJ aW aW ?_
     repeat (go_big_quiet_step ((go_at_call 99;exact aK (GX.out _))))
     refine wpQuiet_nil ?_
     intro _ GD;obtain ⟨nq,FT⟩:=GD;subst FT;have FW:=DX (HK.out.trans nq.2);have GP:=DX (HB.out.kept nq.2);clear l0 l1 l2 l3 l4 GX HA HB;generalize nq.1=w2 at *;obtain ⟨r0,r1,r2,r3⟩:=aI (HP.out.kept FW.out);obtain ⟨b0,b1,b2⟩:=dI GP.out
     have f0:=(HP.out.kept FW.out).free 0
     have e0:=fun o=>((HP.out.kept FW.out).kept ((EX w2).alloc o)).cell 0
     simp only [List.getElem?_toArray,List.getElem?_cons_zero] at e0
     have g0:=fun o=>((HP.out.kept FW.out).kept ((EX w2).alloc o)).free 0
     have aBh:=DX (fun (w8:World) (k:aB w2 w8) (hv:aA w8 w2.heap.size (LT td tt tm) 62)=>Nm base cT z w2.heap.size aT ts ⟨td,tt,tm⟩ w8 (aH VR.out (FW.out.trans k)) HZ.out aE (EF GY (FW.out.trans k).size) hv (fun g hg=>by have h1:=(VR.out.lt g hg).2;have h2:=FW.out.size;omega));generalize ts.take z++[(⟨td,tt,tm⟩:Th)]++ts.drop z=NT at *;go_wp2_with fail;go_region_with (go_at_call 128;refine (aBh.out _ (((EX w2).alloc _).drew) ((EY w2 _ _).kept ((EX _).drew))).mono ?_;rintro e w4 ⟨a9,c9,row,rfl,FU,IB,MC⟩;have hp4:=aM ((HP.out.kept FW.out).kept (((EX w2).alloc ((KT td tt tm))).drew)) IB (MC.ne ((HP.out.kept FW.out).kept (((EX w2).alloc ((KT td tt tm))).drew)) aF);obtain ⟨p0,p1,p2,p3⟩:=aI hp4;have f4:=hp4.free 0)
     all_goals
      have NP:=DX (FW.out.trans (((EX w2).alloc ((KT td tt tm))).drew))
      obtain ⟨MB,KB⟩:=(HQ.out.kept NP.out).putT hp NT IB MC FU
      have LZ:=DX MB;have RM:=DX ((FA NP.out GY).trans KB);clear MB KB FU IB MC p0 p1 p2 p3 f4 hp4 aBh e0 g0 r0 r1 r2 r3 b0 b1 b2 f0;go_wp2;go_ret;rw [HX.out,GI.out];exact ⟨rfl,LZ.out,RM.out⟩
end Go.Proofs.YtkfmladhicapeaaGreatDoor
