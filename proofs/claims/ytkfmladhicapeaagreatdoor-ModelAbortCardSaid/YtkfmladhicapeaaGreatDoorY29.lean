import Derived.Test.YtkfmladhicapeaaGreatDoorY28
import Derived.Test.YtkfmladhicapeaaGreatDoorY18
set_option maxRecDepth 100000
set_option maxHeartbeats 8000000
namespace Go.Proofs.YtkfmladhicapeaaGreatDoor
open Go.RowKit Go.Shelf
attribute [local go_sem] Oper.semAt_some
def Bp (gs:List Tg) (k:Nat):ByteArray:=if k=0 then ByteArray.empty else (gs.getD (k - 1) bL).n
def tY (ss:List Se) (k:Nat):Int:=if k=0 then -1 else (ss.getD (k - 1) bQ).i
theorem Hu (aT aG aS:Option Addr) (cT cG cS:Nat) (ts:List Th) (gs:List Tg) (ss:List Se) (nx:Int) (w0:World) (hT:bO w0 aT ts.length ts) (hG:cJ w0 aG gs.length gs) (hr:gG (cY ts)=true) (UE:∀ x∈gs,x.n.size<=1000000) (hE:uR w0) :
 Calls Tryz.prog 60 #[.agg (LS aT ts.length cT aG gs.length cG aS ss.length cS nx)] w0 fun e w'=>e=.returned (.bool (Cc ts gs))/\aB w0 w':=by
 have JV:=DX hT;have NN:=DX hG;have HEN:=DX hE;have PN:=DX UE;have OE:=DX hr;have FV:=hT.le;have hlg:=hG.le;clear hT hG hE UE hr;have HB:=DX (EY w0 (LS aT ts.length cT aG gs.length cG aS ss.length cS nx) 26);have IL:=DX ((EX w0).alloc ((KS aT ts.length cT aG gs.length cG aS ss.length cS nx)));go_enter Tryz.func60,Tryz.ntmps60
 go_upto_region 1 with (fail)
 generalize w0.alloc ((KS aT ts.length cT aG gs.length cG aS ss.length cS nx))=w1 at *;have JK:=DX (fun w (k:aB w1 w)=>aI (HB.out.kept k));generalize w0.heap.size=p0 at *;obtain ⟨r0,r1,r2,r3⟩:=JK.out _ (EX _);clear HB
 by_cases hg40:gs.length<=40
 . have hdg:decide (40<(gs.length:Int))=false:=DY aE
   have HG40:=DX (DZ hg40);go_wp2_with fail;clear r0 r1 r2 r3;go_loopw [3,13] (fun lv kv wr=>∃ k:Nat,k<=gs.length/\kv=.int .i64 k/\lv=.string (Bp gs k)/\(gs.take k).all (rK ts)=true/\pS (kL gs) k=true/\aB w1 wr) (fun _ kv _=>gs.length - (intOf kv).toNat)
   case atStart=>exact ⟨0,aE,rfl,rfl,rfl,zI _,EX _⟩
   case round =>
    rename World=>wr
    obtain ⟨k,hk,rfl,rfl,GH,SK,IF⟩:=hrel;have IA:=DX IF;have IR:=DX GH;have NX:=DX SK;clear IF GH SK
    by_cases IE:k<gs.length
    . have GU:decide (k<gs.length)=true:=DZ IE
      have NY:=DX (kV (rK ts) gs bL k IE);have IJ:=DX (bY bL IE);have VZ:=DX (mT (kL gs) k);have HRF:=DX (fun (h0:0<k) h=>show gG (kL gs)=false from kY (l:=kL gs) (n:=(kL gs).length) (i:=k) (by unfold kL;rw [List.length_map];exact IE) h0 h);rw [jT,jT] at VZ HRF;have JU:=DX (show Bp gs (k+1)=(gs.getD k bL).n by unfold Bp;rw [if_neg aE,Nat.add_sub_cancel])
      obtain ⟨la,hla⟩:∃ la,la=Bp gs k:=⟨_,rfl⟩
      have HLA:=DX (show (k=0/\la=ByteArray.empty)\/(0<k/\la=(gs.getD (k - 1) bL).n) by
       rw [hla];unfold Bp
       by_cases e:k=0
       . rw [if_pos e];exact .inl ⟨e,rfl⟩
       . rw [if_neg e];exact .inr ⟨aE,rfl⟩)
      rw [<- hla];have IG:=NN.out.size k IE;have MA:=PN.out _ IJ.out;obtain ⟨bg,og,rfl,hcg⟩:=NN.out.at aE;obtain ⟨c0,c1⟩:=hcg k IE wr (IL.out.trans IA.out)
      generalize (gs.getD (k - 1) bL).n=pn at *
      generalize gs.getD k bL=x at *;obtain ⟨xn,xd⟩:=x;dsimp only at c0 c1 IG MA VZ HRF JU;clear hcg hla
      go_upto_region 7 with (fail)
      have WS:=DX (EY wr #[.string xn,.string xd] 68);have GC:=DX (IA.out.alloc (.cells #[.string xn,.string xd] 68));clear c0 c1;generalize wr.alloc (.cells #[.string xn,.string xd] 68)=w3 at *;obtain ⟨d0,d1⟩:=oV WS.out;have KQ:=DX (Ah xn w3 MA (HEN.out.kept (IL.out.trans GC.out)).m);unfold kJ at KQ
      cases SI:dV xn with
      | false =>
       rw [SI,if_neg aF] at KQ;have HO:=DX (show Cc ts gs=false from bC (bV (eQ IJ.out (bV SI))));clear SI;go_wp2_with fail
       refine KQ.out.mono ?_
       rintro e w4 ⟨rfl,IV⟩;have GQ:=DX (IL.out.trans (GC.out.trans IV));clear IV KQ d0 d1;exact Qe
      | true =>
       rw [SI,if_pos rfl] at KQ;have HNB:=DX SI;have ZA:=DX (Nk SI);clear SI;go_wp2_with fail
       refine KQ.out.mono ?_
       rintro e w4 ⟨rfl,IV⟩;have GQ:=DX (GC.out.trans IV);have HBZ:=DX (WS.out.kept IV);clear IV KQ d0 d1 WS;obtain ⟨d0,d1⟩:=oV HBZ.out;obtain ⟨r0,r1,r2,r3⟩:=JK.out _ GQ.out
       cases hq:cZ la xn with
       | false =>
        have ZO:=rU hq
        have HO:=DX (show Cc ts gs=false from by
         rcases HLA.out with ⟨_,e⟩ | ⟨h0,e⟩
         . rw [e,ZA.out] at hq;cases hq
         . rw [e] at hq;exact bC (bC (HRF.out h0 hq)))
        clear hq;go_wp2_with fail;go_ret;exact ⟨by rw [HO.out];rfl,IL.out.trans GQ.out⟩
       | true =>
        have ZO:=rU hq
        have HN:=DX (show pS (kL gs) (k+1)=true by
         rw [VZ.out,NX.out]
         rcases HLA.out with ⟨h0,_⟩ | ⟨_,e⟩
         . rw [DZ h0];rfl
         . rw [<- e,hq];simp)
        have ML:=DX (Dk aT (some ⟨bg,og,none⟩) aS ts.length gs.length ss.length cT cG cS nx ts xd true w4 (JV.out.kept (IL.out.trans GQ.out)) OE.out)
        obtain ⟨I,hI⟩:∃ I,I=iZ ts xd true:=⟨_,rfl⟩
        rw [<- hI] at ML;have HTO:=DX (show rK ts ⟨xn,xd⟩=I by unfold rK;rw [HNB.out,hI];rfl);clear hq hI;go_wp2_with fail
        refine ML.out.mono ?_
        rintro e w5 ⟨rfl,GZ⟩;have IQ:=DX (GQ.out.trans GZ);have OP:=DX (HBZ.out.kept GZ);clear GZ ML d0 d1 r0 r1 r2 r3
        cases I with
        | false =>
         have HO:=DX (show Cc ts gs=false from bC (bV (eQ IJ.out HTO.out)));go_wp2_with fail;go_ret;exact ⟨by rw [HO.out];rfl,IL.out.trans IQ.out⟩
        | true =>
         obtain ⟨d0,d1⟩:=oV OP.out;go_wp2_with fail;go_roundw
         case rel=>exact ⟨k+1,aE,by go_num,by rw [JU.out],by rw [NY.out,IR.out,HTO.out];rfl,HN.out,IQ.out⟩
         case measure=>simp [intOf];omega
    . obtain rfl:k=gs.length:=by omega
      have GU:decide (gs.length<gs.length)=false:=DY aE;rw [List.take_length] at IR
      have HO:=DX (show Cc ts gs=true by
       unfold Cc gG
       rw [HG40.out,IR.out,show (kL gs).length=gs.length by unfold kL;rw [List.length_map],NX.out];rfl)
      clear IR NX hk IE;go_wp2_with fail;exact Dz
 . have hdg:decide (40<(gs.length:Int))=true:=DZ aE
   have HO:=DX (show Cc ts gs=false from bV (DY hg40));exact Fn
theorem Hy (aT aG aS:Option Addr) (cT cG cS:Nat) (ts:List Th) (gs:List Tg) (ss:List Se) (nx:Int) (w0:World) (hS:cP w0 aS ss.length ss) :
 Calls Tryz.prog 61 #[.agg (LS aT ts.length cT aG gs.length cG aS ss.length cS nx)] w0 fun e w'=>e=.returned (.bool (yO ss nx))/\aB w0 w':=by
 have MN:=DX hS;have hls:=hS.le;clear hS;have HB:=DX (EY w0 (LS aT ts.length cT aG gs.length cG aS ss.length cS nx) 26);have IL:=DX ((EX w0).alloc ((KS aT ts.length cT aG gs.length cG aS ss.length cS nx)));go_enter Tryz.func61,Tryz.ntmps61
 go_upto_region 1 with (fail)
 generalize w0.alloc ((KS aT ts.length cT aG gs.length cG aS ss.length cS nx))=w1 at *;have JK:=DX (fun w (k:aB w1 w)=>aI (HB.out.kept k));generalize w0.heap.size=p0 at *;obtain ⟨r0,r1,r2,r3⟩:=JK.out _ (EX _);clear HB
 by_cases hs8:ss.length<=8
 . have hds:decide (8<(ss.length:Int))=false:=DY aE
   have HS8:=DX (DZ hs8)
   by_cases WJ:0<=nx
   . have hdn0:decide (nx<0)=false:=DY aE
     by_cases NV:nx<=1073741824
     . have hdn1:decide (1073741824<nx)=false:=DY aE
       have QV:=DX (show decide (0<=nx/\nx<=1073741824)=true from DZ ⟨WJ,NV⟩);go_wp2_with fail;clear r0 r1 r2 r3;go_loopw [3,23] (fun lv kv wr=>∃ k:Nat,k<=ss.length/\kv=.int .i64 k/\lv=.int .i64 (tY ss k)/\(ss.take k).all (nI nx)=true/\kF ss k=true/\-1<=tY ss k/\aB w1 wr) (fun _ kv _=>ss.length - (intOf kv).toNat)
       case atStart=>exact ⟨0,aE,rfl,rfl,rfl,rfl,by unfold tY;simp,EX _⟩
       case round =>
        rename World=>wr
        obtain ⟨k,hk,rfl,rfl,GH,SK,hl1,IF⟩:=hrel;have IA:=DX IF;have IR:=DX GH;have NX:=DX SK;obtain ⟨r0,r1,r2,r3⟩:=JK.out _ IF;clear IF GH SK
        by_cases IE:k<ss.length
        . have GU:decide (k<ss.length)=true:=DZ IE
          have NY:=DX (kV (nI nx) ss bQ k IE);have IJ:=DX (bY bQ IE);have VZ:=DX (vE ss k);have HRF:=DX (fun (h0:0<k) h=>uA (ss:=ss) (n:=ss.length) (i:=k) IE h0 h);have JU:=DX (show tY ss (k+1)=(ss.getD k bQ).i by unfold tY;rw [if_neg aE,Nat.add_sub_cancel])
          obtain ⟨la,hla⟩:∃ la,la=tY ss k:=⟨_,rfl⟩
          have HLA:=DX (show (k=0/\la = -1)\/(0<k/\la=(ss.getD (k - 1) bQ).i) by
           rw [hla];unfold tY
           by_cases e:k=0
           . rw [if_pos e];exact .inl ⟨e,rfl⟩
           . rw [if_neg e];exact .inr ⟨aE,rfl⟩)
          rw [<- hla] at hl1 ⊢;have IG:=MN.out.size k IE;obtain ⟨bs,os,rfl,JW⟩:=MN.out.at aE;obtain ⟨c0,c1⟩:=JW k IE wr (IL.out.trans IA.out)
          generalize (ss.getD (k - 1) bQ).i=pn at *
          generalize ss.getD k bQ=x at *;obtain ⟨xi,xt⟩:=x;dsimp only at c0 c1 IG VZ HRF JU;clear JW hla
          go_upto_region 7 with (fail)
          have WS:=DX (EY wr #[.int .i64 xi,.string xt] 65);have GC:=DX (IA.out.alloc (.cells #[.int .i64 xi,.string xt] 65));clear c0 c1 r0 r1 r2 r3;generalize wr.alloc (.cells #[.int .i64 xi,.string xt] 65)=w3 at *;obtain ⟨d0,d1⟩:=oV WS.out;obtain ⟨r0,r1,r2,r3⟩:=JK.out _ GC.out
          by_cases hq:la<xi
          . have hdq:decide (xi<=la)=false:=DY aE
            have HN:=DX (show kF ss (k+1)=true by
             rw [VZ.out,NX.out]
             rcases HLA.out with ⟨h0,_⟩ | ⟨_,e⟩
             . rw [DZ h0];rfl
             . rw [<- e,DZ hq];simp)
            have SL:0<=xi:=by omega
            by_cases hxn:xi<nx
            . have hdx:decide (nx<=xi)=false:=DY aE
              by_cases hxz:xt.size<=2000
              . have hdz:decide (2000<(xt.size:Int))=false:=DY aE
                have SV:=DX (show nI nx ⟨xi,xt⟩=true by unfold nI;rw [DZ (show 0<=xi/\xi<nx from ⟨SL,hxn⟩),DZ hxz];rfl);clear hq;go_wp2_with fail;go_roundw
                case rel=>exact ⟨k+1,aE,by go_num,by rw [JU.out],by rw [NY.out,IR.out,SV.out];rfl,HN.out,by rw [JU.out];omega,GC.out⟩
                case measure=>simp [intOf];omega
              . have hdz:decide (2000<(xt.size:Int))=true:=DZ aE
                have SV:=DX (show nI nx ⟨xi,xt⟩=false from bC (DY hxz));have HO:=DX (show yO ss nx=false from bC (bC (bV (eQ IJ.out SV.out))));clear hq;exact Ek
            . have hdx:decide (nx<=xi)=true:=DZ aE
              have SV:=DX (show nI nx ⟨xi,xt⟩=false from bV (DY (fun q=>hxn q.2)));have HO:=DX (show yO ss nx=false from bC (bC (bV (eQ IJ.out SV.out))));clear hq;exact Ek
          . have hdq:decide (xi<=la)=true:=DZ aE
            have HO:=DX (show yO ss nx=false by
             rcases HLA.out with ⟨_,e⟩ | ⟨h0,e⟩
             . have SV:nI nx ⟨xi,xt⟩=false:=bV (DY (fun q=>by have h9:0<=xi:=q.1;omega))
               exact bC (bC (bV (eQ IJ.out SV)))
             . exact bC (bC (bC (HRF.out h0 (by rw [<- e];exact hq)))))
            clear hq;exact Ek
        . obtain rfl:k=ss.length:=by omega
          have GU:decide (ss.length<ss.length)=false:=DY aE;rw [List.take_length] at IR
          have HO:=DX (show yO ss nx=true by
           unfold yO
           rw [HS8.out,QV.out,IR.out,NX.out];rfl)
          clear IR NX hk IE;go_wp2_with fail;exact Dz
     . have hdn1:decide (1073741824<nx)=true:=DZ aE
       have HO:=DX (show yO ss nx=false from bC (bV (DY (fun q=>NV q.2))));exact Fn
   . have hdn0:decide (nx<0)=true:=DZ aE
     have HO:=DX (show yO ss nx=false from bC (bV (DY (fun q=>WJ q.1))));exact Fn
 . have hds:decide (8<(ss.length:Int))=true:=DZ aE
   have HO:=DX (show yO ss nx=false from bV (DY hs8));exact Fn
theorem iQ (aT aG aS:Option Addr) (cT cG cS:Nat) (ts:List Th) (gs:List Tg) (ss:List Se) (nx:Int) (w0:World) (hT:bO w0 aT ts.length ts) (hG:cJ w0 aG gs.length gs) (hS:cP w0 aS ss.length ss) (UE:∀ x∈gs,x.n.size<=1000000) (hE:uR w0) :
 Calls Tryz.prog 43 #[.agg (LS aT ts.length cT aG gs.length cG aS ss.length cS nx)] w0 fun e w'=>e=.returned (.int .i64 (if dP ⟨ts,gs,ss,nx⟩=true then 0 else 1))/\aB w0 w':=by
 have JV:=DX hT;have NN:=DX hG;have MN:=DX hS;have HEN:=DX hE;have PN:=DX UE;have ST:=DX (show dP ⟨ts,gs,ss,nx⟩=(yR ts&&(Cc ts gs&&yO ss nx)) from rfl);have HTR:=DX (show yR ts=true->gG (cY ts)=true from fun h=>iY (by unfold yR at h;rw [Bool.and_eq_true] at h;exact h.1));have HMT:=DX (fun w (k:aB w0 w)=>Al aT aG aS cT cG cS ts gs ss nx w (JV.out.kept k) (HEN.out.kept k));have HMG:=DX (fun w (k:aB w0 w) h=>Hu aT aG aS cT cG cS ts gs ss nx w (JV.out.kept k) (NN.out.kept k) h PN.out (HEN.out.kept k));have HMS:=DX (fun w (k:aB w0 w)=>Hy aT aG aS cT cG cS ts gs ss nx w (MN.out.kept k))
 obtain ⟨R,hR⟩:∃ R:Int,R=if dP ⟨ts,gs,ss,nx⟩=true then 0 else 1:=⟨_,rfl⟩
 rw [<- hR];have HR:=DX hR;clear hT hG hS hE UE hR;generalize dP ⟨ts,gs,ss,nx⟩=SB at *;generalize yR ts=BT at *;generalize Cc ts gs=BG at *;generalize yO ss nx=BS at *;have HB:=DX (EY w0 (LS aT ts.length cT aG gs.length cG aS ss.length cS nx) 26);have IL:=DX ((EX w0).alloc ((KS aT ts.length cT aG gs.length cG aS ss.length cS nx)));go_enter Tryz.func43,Tryz.ntmps43
 go_upto_region 1 with (fail)
 generalize w0.alloc ((KS aT ts.length cT aG gs.length cG aS ss.length cS nx))=w1 at *;have JK:=DX (fun w (k:aB w1 w)=>aI (HB.out.kept k));generalize w0.heap.size=p0 at *;obtain ⟨r0,r1,r2,r3⟩:=JK.out _ (EX _);clear HB;go_wp2_with fail
 refine (HMT.out _ IL.out).mono ?_
 rintro e w2 ⟨rfl,FX⟩;have FW:=DX FX;clear r0 r1 r2 r3;obtain ⟨r0,r1,r2,r3⟩:=JK.out _ FX;clear FX
 cases BT with
 | false =>
  have HO:=DX (show R=1 by rw [HR.out,ST.out];rfl);exact Rd
 | true =>
  have OE:=DX (HTR.out rfl);clear HTR;go_wp2_with fail
  refine (HMG.out _ (IL.out.trans FW.out) OE.out).mono ?_
  rintro e w3 ⟨rfl,IK⟩;have GC:=DX (FW.out.trans IK);clear r0 r1 r2 r3;obtain ⟨r0,r1,r2,r3⟩:=JK.out _ GC.out;clear IK
  cases BG with
  | false =>
   have HO:=DX (show R=1 by rw [HR.out,ST.out];rfl);exact Ek
  | true =>
   go_wp2_with fail
   refine (HMS.out _ (IL.out.trans GC.out)).mono ?_
   rintro e w4 ⟨rfl,IV⟩;have GQ:=DX (IL.out.trans (GC.out.trans IV));clear r0 r1 r2 r3 IV
   cases BS with
   | false =>
    have HO:=DX (show R=1 by rw [HR.out,ST.out];rfl);exact Qe
   | true =>
    have HO:=DX (show R=0 by rw [HR.out,ST.out];rfl);exact Qe
def bB (r:rN):Array Value:=(LP r.n r.t r.e)
def bW (r:rN):Value:=.agg (bB r)
theorem AX:(Tryz.prog.info? 47).map (·.size)=some 3:=by kernel_rfl
theorem AY:(Tryz.prog.info? 26).map (·.size)=some 4:=by kernel_rfl
theorem aL (r:rN):(bB r).all (·.oneCell')=true:=by simp [bB,Value.oneCell']
theorem bU (n:Int) (w:World):Calls Tryz.prog 79 #[.int .i64 n] w fun e w'=>e=.returned (bW (aY n))/\aB w w':=by
 go_enter Tryz.func79,Tryz.ntmps79;go_wp2
 refine EI (v:=bW (aY n)) ?_ rfl ⟨rfl,(EX w).alloc _⟩
 exact EH rfl _ _ w.heap.size 47 (LP 0 ByteArray.empty n) (0,0) _ rfl (EY w (LP 0 ByteArray.empty n) 47) EV rfl AX
theorem Ww {gs:List Tg} (hr:gG (kL gs)=true) {i j:Nat} (hi:i<j) (hj:j<gs.length):cZ (gs.getD i bL).n (gs.getD j bL).n=true:=by
 have h:=nN hr j i hi (by unfold kL;rw [List.length_map];exact hj)
 rwa [jT,jT] at h
theorem yP {d:Int}:∀ (ts:List Se),fR ts d<ts.length->(ts.getD (fR ts d) bQ).i=d
 | [],h=>by simp at h
 | x :: r,h=>by
  unfold fR at h ⊢
  by_cases e:x.i=d
  . rw [if_pos e];simp [List.getD,e]
  . rw [if_neg e] at h ⊢
    have:=yP r (by simpa using h)
    simpa [List.getD] using this
theorem Cj {d:Int}:∀ (ts:List Se) (i:Nat),i<fR ts d->(ts.getD i bQ).i≠d
 | [],i,h=>by simp [fR] at h
 | x :: r,0,h=>by
  unfold fR at h
  by_cases e:x.i=d
  . rw [if_pos e] at h;omega
  . simpa [List.getD] using e
 | x :: r,i+1,h=>by
  unfold fR at h
  by_cases e:x.i=d
  . rw [if_pos e] at h;omega
  . rw [if_neg e] at h
    have:=Cj (d:=d) r i aE
    simpa [List.getD] using this
theorem By {ts:List Se} (hr:kF ts ts.length=true) (d:Int):Qw ts d=decide (fR ts d<ts.length)/\(fR ts d<ts.length->zF ts d=fR ts d):=by
 by_cases h:fR ts d<ts.length
 . have hd:=yP ts h
   have e:zF ts d=fR ts d:=Db ts _ aE (fun i hi=>by have:=sA hr _ i hi h;rwa [hd] at this) (fun _=>by rw [hd];exact DY (Int.lt_irrefl d));refine ⟨?_,fun _=>e⟩;unfold Qw;rw [e,DZ h,DZ ⟨h,hd⟩]
 . refine ⟨?_,fun q=>absurd q h⟩
   rw [DY h];unfold Qw;refine DY (fun q=>h ?_)
   rcases Nat.lt_or_ge (zF ts d) (fR ts d) with k | k
   . exact absurd q.2 (Cj ts _ k)
   . omega
theorem Mp:∀ (ts:List Tg) (d:ByteArray),gK ts d<=ts.length
 | [],_=>EA _
 | x :: r,d=>by
  have:=Mp r d;unfold gK
  split
  . exact Nat.zero_le _
  . simpa using this
theorem xJ {d:ByteArray}:∀ (ts:List Tg),gK ts d<ts.length->(ts.getD (gK ts d) bL).n=d
 | [],h=>by simp at h
 | x :: r,h=>by
  unfold gK at h ⊢
  by_cases e:x.n=d
  . rw [if_pos e];simp [List.getD,e]
  . rw [if_neg e] at h ⊢
    have:=xJ r (by simpa using h)
    simpa [List.getD] using this
theorem wW {d:ByteArray}:∀ (ts:List Tg) (i:Nat),i<gK ts d->(ts.getD i bL).n≠d
 | [],i,h=>by simp [gK] at h
 | x :: r,0,h=>by
  unfold gK at h
  by_cases e:x.n=d
  . rw [if_pos e] at h;omega
  . simpa [List.getD] using e
 | x :: r,i+1,h=>by
  unfold gK at h
  by_cases e:x.n=d
  . rw [if_pos e] at h;omega
  . rw [if_neg e] at h
    have:=wW (d:=d) r i aE
    simpa [List.getD] using this
theorem Me {ts:List Tg} (hr:gG (kL ts)=true) (d:ByteArray):Tb ts d=decide (gK ts d<ts.length)/\(gK ts d<ts.length->rJ ts d=gK ts d):=by
 by_cases h:gK ts d<ts.length
 . have hd:=xJ ts h
   have e:rJ ts d=gK ts d:=uM ts _ aE (fun i hi=>by have:=Ww hr hi h;rwa [hd] at this) (fun _=>by rw [hd];exact gH d);refine ⟨?_,fun _=>e⟩;unfold Tb;rw [e,DZ h,DZ ⟨h,hd⟩]
 . refine ⟨?_,fun q=>absurd q h⟩
   rw [DY h];unfold Tb;refine DY (fun q=>h ?_)
   rcases Nat.lt_or_ge (rJ ts d) (gK ts d) with k | k
   . exact absurd q.2 (wW ts _ k)
   . omega
theorem bI {A B:World} {base g k n:Nat} {C:Array Value} {e t:TypeId} {v:Value} {xs:List Value} (h:A.ownsRow base e k v n xs) (hg:aA A g C t) (ht:t≠e) (q:A.grownBy B (some g)):B.ownsRow base e k v n xs :=
 dF h q (fun j hj e2=>by
  obtain rfl:g=j:=EB e2
  rcases h.2 with ⟨rfl,h0⟩ | ⟨g',cap,cur,rfl,hb,hg',hn',hm,hc,ht'⟩
  . cases hj
  . have hg2:aA A g cur e:=by
     have eg:g'=g:=EB hj;rw [<- eg];exact hg'
    have e2:=Eq.trans (Eq.symm (show A.heap[g]?=_ from hg)) (show A.heap[g]?=_ from hg2);cases e2
    exact ht rfl)
theorem mZ {w:World} {base:Nat} {e:TypeId} {k g n c:Nat} {xs:List Value} (h:w.ownsRow base e k (.slice (some ⟨g,0,none⟩) n c) n xs):base<=g/\∃ cur,aA w g cur e:=by
 rcases h.2 with ⟨h',_⟩ | ⟨g',cap',cur,h',hb,hg,_⟩
 . simp at h'
 . simp only [Value.slice.injEq,Option.some.injEq,Addr.mk.injEq,and_true,true_and] at h'
   obtain ⟨rfl,rfl⟩:=h';exact ⟨hb,cur,hg⟩
theorem cA {w:World} {base:Nat} {e:TypeId} {k n c:Nat} {a:Option Addr} {xs:List Value} (h:w.ownsRow base e k (.slice a n c) n xs) (hn:0<n):∃ g,a=some ⟨g,0,none⟩:=by
 rcases h.2 with ⟨h',h0⟩ | ⟨g',cap',cur,h',hb,hg,_⟩
 . simp at h'
   omega
 . simp only [Value.slice.injEq] at h'
   exact ⟨g',h'.1⟩
def dX (base:Nat) (w:World) (row:Option Nat) (e:TypeId):Prop:=∀ g,row=some g->base<=g/\∃ cur,aA w g cur e
theorem dX.none {base:Nat} {w:World} {e:TypeId}:dX base w none e:=fun _ h=>by cases h
theorem dX.of {base:Nat} {w:World} {e:TypeId} {k g n c:Nat} {xs:List Value} (h:w.ownsRow base e k (.slice (some ⟨g,0,.none⟩) n c) n xs):dX base w (some g) e:=fun g' e2=>by cases e2;exact mZ h
theorem dX.own {base:Nat} {w:World} {e:TypeId} {k n c:Nat} {a:Option Addr} {xs:List Value} (h:w.ownsRow base e k (.slice a n c) n xs):dX base w (Value.slice a n c).ownBlock e:=fun g' e2=>by
 rcases h.2 with ⟨h',h0⟩ | ⟨g,cap',cur,h',hb,hg,_⟩
 . rw [h'] at e2;cases e2
 . rw [h'] at e2;cases e2;exact ⟨hb,cur,hg⟩
theorem dX.ne {base b:Nat} {w:World} {row:Option Nat} {e t:TypeId} {C:Array Value} (hr:dX base w row e) (hb:aA w b C t) (ht:t≠e):some b≠row:=fun h=>by
 obtain ⟨_,cur,hc⟩:=hr b h.symm;have e2:=Eq.trans (Eq.symm (show w.heap[b]?=_ from hb)) (show w.heap[b]?=_ from hc);cases e2;exact ht rfl
theorem gB {A B:World} {base k n:Nat} {row:Option Nat} {e t:TypeId} {v:Value} {xs:List Value} (h:A.ownsRow base e k v n xs) (hr:dX base A row t) (ht:t≠e) (q:A.grownBy B row):B.ownsRow base e k v n xs:=by
 cases row with
 | none=>exact dF h q (fun j _ e2=>by cases e2)
 | some g =>
  obtain ⟨_,cur,hc⟩:=hr g rfl;exact bI h hc ht q
theorem eK (w:World) (p i:Nat) (v:Value):w.grownBy (w.setCell ⟨p,i,none⟩ v) (some p):=⟨rfl,rfl,rfl,by simp,fun k _ GW=>Below.heap_setCell w ⟨p,i,none⟩ v k (fun e=>GW (by rw [e]))⟩
structure Fr (base p:Nat) (w w':World):Prop where
 low:Below base w w'
 blk:∀ b cs t,aA w b cs t->b≠p->t≠62->t≠68->t≠65->aA w' b cs t
theorem Fr.trans {base p:Nat} {a b c:World} (h:Fr base p a b) (k:Fr base p b c):Fr base p a c:=⟨Below.trans h.low k.low,fun g cs t hg hn h1 h2 h3=>k.blk g cs t (h.blk g cs t hg hn h1 h2 h3) hn h1 h2 h3⟩
theorem Fr.of_kept {base p:Nat} {a b:World} (k:aB a b) (hb:base<=a.heap.size):Fr base p a b:=⟨⟨k.os,k.tape,k.output,k.size,fun i hi=>k.block i (EG hi hb)⟩,fun _ _ _ hg _ _ _ _=>hg.kept k⟩
abbrev FA:=@Fr.of_kept
theorem Fr.of_grown {base p:Nat} {a b:World} {row:Option Nat} {e:TypeId} (g:a.grownBy b row) (hr:dX base a row e) (he:e=62\/e=68\/e=65) (hb:base<=a.heap.size:=by assumption):Fr base p a b :=
 ⟨⟨g.os,g.tape,g.output,g.size,fun i hi=>g.block i (EG hi hb) (fun h=>by have:=(hr i h.symm).1;omega)⟩,fun c cs t hc _ h1 h2 h3=>aM hc g (hr.ne hc (fun h=>by subst h;rcases he with h | h | h;exact h1 h;exact h2 h;exact h3 h))⟩
theorem Fr.of_set {base p:Nat} {a:World} (hp:base<=p) (i:Nat) (v:Value):Fr base p a (a.setCell ⟨p,i,none⟩ v) :=
 ⟨⟨rfl,rfl,rfl,by simp,fun k hk=>Below.heap_setCell a ⟨p,i,none⟩ v k (show k≠p by omega)⟩,fun _ _ _ hc hn _ _ _=>hc.setOther v hn⟩
theorem Fr.setRow {base p R:Nat} {w a:World} (h:Fr base p w a) (hR:w.heap.size<=R) (hb:base<=w.heap.size) (cs:Array Value):Fr base p w (a.setRow R cs) :=
 ⟨Below.trans h.low ⟨rfl,rfl,rfl,by simp [World.setRow],fun k hk=>setRow_other a R k cs aE⟩,fun g cs' t hg hn h1 h2 h3=>(h.blk g cs' t hg hn h1 h2 h3).other cs (by have:=hg.lt;omega)⟩
structure eX (base:Nat) (w:World) (p:Nat) (s:dN):Prop where
 rows:∃ aT cT aG cG aS cS,aA w p (LS aT s.ts.length cT aG s.gs.length cG aS s.ss.length cS s.nx) 26/\w.ownsRow base 62 3 (.slice aT s.ts.length cT) s.ts.length (s.ts.flatMap dW) /\
  w.ownsRow base 68 2 (.slice aG s.gs.length cG) s.gs.length (s.gs.flatMap eN)/\w.ownsRow base 65 2 (.slice aS s.ss.length cS) s.ss.length (s.ss.flatMap fJ)
theorem eX.kept {base p:Nat} {w w':World} {s:dN} (h:eX base w p s) (k:aB w w'):eX base w' p s:=by
 obtain ⟨aT,cT,aG,cG,aS,cS,hb,oT,oG,oS⟩:=h.rows;exact ⟨⟨aT,cT,aG,cG,aS,cS,hb.kept k,aH oT k,aH oG k,aH oS k⟩⟩
theorem eX.setRow {base p R:Nat} {w:World} {s:dN} (h:eX base w p s) {old:Array Value} {t:TypeId} (hR:aA w R old t) (h0:t≠26) (h1:t≠62) (h2:t≠68) (h3:t≠65) (cs:Array Value):eX base (w.setRow R cs) p s:=by
 obtain ⟨aT,cT,aG,cG,aS,cS,hb,oT,oG,oS⟩:=h.rows;have g:=dB w R cs;refine ⟨⟨aT,cT,aG,cG,aS,cS,aM hb g (fun e=>?_),bI oT hR h1 g,bI oG hR h2 g,bI oS hR h3 g⟩⟩;cases e;have e2:=Eq.trans (Eq.symm (show w.heap[p]?=_ from hb)) (show w.heap[p]?=_ from hR);cases e2;exact h0 rfl
theorem eX.putS {base p:Nat} {w w1:World} {s:dN} (Q:eX base w p s) (hp:base<=p) {aN:Option Addr} {cN:Nat} (ss':List Se) {row:Option Nat} (g1:w.grownBy w1 row) (hr:dX base w row 65) (ho:w1.ownsRow base 65 2 (.slice aN ss'.length cN) ss'.length (ss'.flatMap fJ)) :
 eX base (w1.setCell ⟨p,2,none⟩ (.slice aN ss'.length cN)) p { s with ss:=ss' }/\Fr base p w (w1.setCell ⟨p,2,none⟩ (.slice aN ss'.length cN)):=by
 obtain ⟨aT,cT,aG,cG,aS,cS,hb,oT,oG,oS⟩:=Q.rows;have QM:=aM hb g1 (hr.ne hb aF);have IC:=eK w1 p 2 (.slice aN ss'.length cN);have ownN:=bI ho QM aF IC;refine ⟨⟨⟨aT,cT,aG,cG,aN,cN,?_,bI (gB oT hr aF g1) QM aF IC,bI (gB oG hr aF g1) QM aF IC,ownN⟩⟩,(Fr.of_grown g1 hr aF (by have:=hb.lt;omega)).trans (Fr.of_set hp _ _)⟩;have:=QM.set (i:=2) (.slice aN ss'.length cN)
 simpa using this
theorem eX.putG {base p:Nat} {w w1:World} {s:dN} (Q:eX base w p s) (hp:base<=p) {aN:Option Addr} {cN:Nat} (gs':List Tg) {row:Option Nat} (g1:w.grownBy w1 row) (hr:dX base w row 68) (ho:w1.ownsRow base 68 2 (.slice aN gs'.length cN) gs'.length (gs'.flatMap eN)) :
 eX base (w1.setCell ⟨p,1,none⟩ (.slice aN gs'.length cN)) p { s with gs:=gs' }/\Fr base p w (w1.setCell ⟨p,1,none⟩ (.slice aN gs'.length cN)):=by
 obtain ⟨aT,cT,aG,cG,aS,cS,hb,oT,oG,oS⟩:=Q.rows;have QM:=aM hb g1 (hr.ne hb aF);have IC:=eK w1 p 1 (.slice aN gs'.length cN);have ownN:=bI ho QM aF IC;refine ⟨⟨⟨aT,cT,aN,cN,aS,cS,?_,bI (gB oT hr aF g1) QM aF IC,ownN,bI (gB oS hr aF g1) QM aF IC⟩⟩,(Fr.of_grown g1 hr aF (by have:=hb.lt;omega)).trans (Fr.of_set hp _ _)⟩;have:=QM.set (i:=1) (.slice aN gs'.length cN)
 simpa using this
theorem eX.putT {base p:Nat} {w w1:World} {s:dN} (Q:eX base w p s) (hp:base<=p) {aN:Option Addr} {cN:Nat} (ts':List Th) {row:Option Nat} (g1:w.grownBy w1 row) (hr:dX base w row 62) (ho:w1.ownsRow base 62 3 (.slice aN ts'.length cN) ts'.length (ts'.flatMap dW)) :
 eX base (w1.setCell ⟨p,0,none⟩ (.slice aN ts'.length cN)) p { s with ts:=ts' }/\Fr base p w (w1.setCell ⟨p,0,none⟩ (.slice aN ts'.length cN)):=by
 obtain ⟨aT,cT,aG,cG,aS,cS,hb,oT,oG,oS⟩:=Q.rows;have QM:=aM hb g1 (hr.ne hb aF);have IC:=eK w1 p 0 (.slice aN ts'.length cN);have ownN:=bI ho QM aF IC;refine ⟨⟨⟨aN,cN,aG,cG,aS,cS,?_,ownN,bI (gB oG hr aF g1) QM aF IC,bI (gB oS hr aF g1) QM aF IC⟩⟩,(Fr.of_grown g1 hr aF (by have:=hb.lt;omega)).trans (Fr.of_set hp _ _)⟩;have:=QM.set (i:=0) (.slice aN ts'.length cN)
 simpa using this
theorem eX.putN {base p:Nat} {w:World} {s:dN} (Q:eX base w p s) (hp:base<=p) (nx':Int):eX base (w.setCell ⟨p,3,none⟩ (.int .i64 nx')) p { s with nx:=nx' }/\Fr base p w (w.setCell ⟨p,3,none⟩ (.int .i64 nx')):=by
 obtain ⟨aT,cT,aG,cG,aS,cS,hb,oT,oG,oS⟩:=Q.rows;have IC:=eK w p 3 (.int .i64 nx');refine ⟨⟨⟨aT,cT,aG,cG,aS,cS,?_,bI oT hb aF IC,bI oG hb aF IC,bI oS hb aF IC⟩⟩,Fr.of_set hp _ _⟩;have:=hb.set (i:=3) (.int .i64 nx')
 simpa using this
def iD (base p:Nat) (w:World) (x:dN × rN) (e:Ending) (w':World):Prop:=e=.returned (bW x.2)/\eX base w' p x.1/\Fr base p w w'
end Go.Proofs.YtkfmladhicapeaaGreatDoor
