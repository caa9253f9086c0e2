import Derived.Test.YtkfmladhicapeaaGreatDoorY7
set_option maxRecDepth 100000
set_option maxHeartbeats 4000000
namespace Go.Proofs.YtkfmladhicapeaaGreatDoor
open Go.RowKit Go.Shelf
attribute [local go_sem] Oper.semAt_some
def fF (ts:List Th):Bool:=decide (ts.length<=60)&&(ts.all sF&&gG (cY ts))
def Bk (ts:List Th) (k:Nat):ByteArray:=if k=0 then ByteArray.empty else (ts.getD (k - 1) aX).d
theorem vW {x:ByteArray} (h:x.size=32):cZ ByteArray.empty x=true:=by
 unfold cZ;rw [ByteArray.toList_eq,ByteArray.toList_eq];obtain ⟨⟨l⟩⟩:=x
 cases l with
 | nil=>cases h
 | cons a r=>rfl
theorem Iq {x:Th} (h:sF x=true):x.d.size=32:=by
 unfold sF at h;exact Rb
theorem Bt {ts:List Th} {k:Nat} (hk:k<ts.length) (h:sF (ts.getD k aX)=false):fF ts=false:=by
 unfold fF;rw [uD ts sF k aX hk h,Bool.false_and,Bool.and_false]
theorem Ay {ts:List Th} {k:Nat} (hk:k<ts.length) (h0:0<k) (h:cZ (ts.getD (k - 1) aX).d (ts.getD k aX).d=false):fF ts=false:=by
 have:gG (cY ts)=false:=kY (i:=k) (by unfold cY;rw [List.length_map];exact hk) h0 (by rw [gA,gA];exact h);unfold fF;rw [this,Bool.and_false,Bool.and_false]
def Jl (ts:List Th) (k:Nat):Prop:=(ts.take k).all sF=true/\pS (cY ts) k=true
theorem Be {ts:List Th} {k:Nat} (hk:k<ts.length) (h:Jl ts k) (h1:sF (ts.getD k aX)=true) (h2:0<k->cZ (ts.getD (k - 1) aX).d (ts.getD k aX).d=true):Jl ts (k+1):=by
 refine ⟨by rw [tE ts sF k aX hk,h.1,h1];rfl,?_⟩;rw [mT,h.2,gA,gA]
 by_cases e:k=0
 . rw [DZ e];rfl
 . rw [h2 aE];simp
theorem Fa {ts:List Th} (h:Jl ts ts.length):fF ts=decide (ts.length<=60):=by
 unfold fF gG;have h1:=h.1;rw [EE (EA _)] at h1;have h2:=h.2;rw [h1,show (cY ts).length=ts.length by unfold cY;rw [List.length_map],h2]
 simp
theorem jL {ts:List Th} (h:fF ts=true):ts.length<=60:=by
 unfold fF at h;exact Rb
theorem iY {ts:List Th} (h:fF ts=true):gG (cY ts)=true:=by
 unfold fF at h;rw [Bool.and_eq_true,Bool.and_eq_true] at h;exact h.2.2
theorem Fe {ts:List Th} (h:fF ts=true):∀ x∈ts,sF x=true:=by
 unfold fF at h;rw [Bool.and_eq_true,Bool.and_eq_true] at h;exact List.all_eq_true.1 h.2.1
theorem nX (a:Option Addr) (l cap:Nat) (ts:List Th) (w:World) (h:bO w a l ts) :
 Calls Tryz.prog 86 #[.slice a l cap] w fun e w'=>e=.returned (.int .i64 (if fF ts=true then 0 else 1))/\aB w w':=by
 have OH:=h.le;have HS:=DX h;have HL:=DX h.len_eq;clear h
 obtain ⟨R,hR⟩:∃ R:Int,R=if fF ts=true then 0 else 1:=⟨_,rfl⟩
 rw [<- hR];have HR:=DX hR;clear hR
 by_cases h60:l<=60
 . have d60:decide (60<(l:Int))=false:=DY aE
   go_enter Tryz.func86,Tryz.ntmps86;go_wp2_with fail;go_loopw [3,11] (fun x i wr=>∃ k:Nat,k<=l/\i=.int .i64 k/\x=.string (Bk ts k)/\Hid (Jl ts k)/\aB w wr) (fun _ i _=>l - (intOf i).toNat)
   case atStart=>exact ⟨0,aE,rfl,rfl,DX ⟨rfl,rfl⟩,EX _⟩
   case round =>
    obtain ⟨k,hk,rfl,rfl,HZ,IF⟩:=hrel;have HK:=DX IF;clear IF
    by_cases FV:k<l
    . have GU:decide (k<l)=true:=DZ FV
      obtain ⟨b,off,rfl,hc⟩:=HS.out.at aE;obtain ⟨c0,c1,c2⟩:=hc k FV _ HK.out
      have hkt:k<ts.length:=by rw [HL.out];exact FV
      have NL:=DX (fun h=>Bt hkt h);have GP:=DX (fun h0 h=>Ay hkt h0 h);have QV:=DX (fun h1 h2=>Be hkt HZ.out h1 h2)
      obtain ⟨la,hla⟩:∃ la,la=Bk ts k:=⟨_,rfl⟩
      have JU:=DX (show Bk ts (k+1)=(ts.getD k aX).d by unfold Bk;rw [if_neg aE,Nat.add_sub_cancel])
      have HLA:=DX (show (k=0/\la=ByteArray.empty)\/(0<k/\la=(ts.getD (k - 1) aX).d) by
       rw [hla];unfold Bk
       by_cases e:k=0
       . rw [if_pos e];exact .inl ⟨e,rfl⟩
       . rw [if_neg e];exact .inr ⟨aE,rfl⟩)
      rw [<- hla]
      obtain ⟨x,hx⟩:∃ x,x=ts.getD k aX:=⟨_,rfl⟩
      rw [<- hx] at c0 c1 c2 NL GP QV JU;clear hc hx hla hkt
      go_upto_region 7 with (fail)
      have JK:=DX (EY wr (LT x.d x.t x.m) 62);have FW:=DX (HK.out.alloc ((KT x.d x.t x.m)));clear c0 c1 c2;generalize wr.alloc ((KT x.d x.t x.m))=w2 at *;obtain ⟨a0,a1,a2⟩:=dI JK.out;have htg:=Hl x w2
      obtain ⟨B,hB⟩:∃ B,B=sF x:=⟨_,rfl⟩
      rw [<- hB] at htg NL QV;have HTG:=DX htg;have RX:=DX hB;clear htg hB;go_wp2_with fail
      refine HTG.out.mono ?_
      rintro e w3 ⟨rfl,IK⟩;have GC:=DX (FW.out.trans IK);clear a0 a1 a2;obtain ⟨a0,a1,a2⟩:=rH JK.out IK;clear IK
      cases B with
      | false =>
       have HE:=DX (show R=1 by rw [HR.out,NL.out rfl];rfl);go_wp2;go_ret;exact ⟨tF HE.out,GC.out⟩
      | true =>
       cases hq:cZ la x.d with
       | true =>
        have ZO:=rU hq
        have HN:=DX (QV.out rfl (fun h0=>by
         rcases HLA.out with ⟨e,_⟩ | ⟨_,e⟩
         . omega
         . rw [<- e];exact hq))
        clear hq;go_wp2_with fail;go_roundw
        case rel=>exact ⟨k+1,aE,by go_num,by rw [JU.out],HN,GC.out⟩
        case measure=>simp [intOf];omega
       | false =>
        have ZO:=rU hq
        have HE:=DX (show R=1 by
         rw [HR.out,GP.out ?_ ?_]
         . rfl
         . rcases HLA.out with ⟨_,e⟩ | ⟨e,_⟩
           . rw [e,vW (Iq RX.out.symm)] at hq;cases hq
           . exact e
         . rcases HLA.out with ⟨_,e⟩ | ⟨_,e⟩
           . rw [e,vW (Iq RX.out.symm)] at hq;cases hq
           . rw [<- e];exact hq)
        clear hq;go_wp2;go_ret;exact ⟨tF HE.out,GC.out⟩
    . obtain rfl:l=k:=by omega
      have GU:decide (l<l)=false:=DY aE
      have HE:=DX (show R=0 by
       rw [HR.out,Fa (by rw [HL.out];exact HZ.out),HL.out,DZ h60];rfl)
      go_wp2;go_ret;exact ⟨tF HE.out,HK.out⟩
 . have d60:decide (60<(l:Int))=true:=DZ aE
   have HE:=DX (show R=1 by
    rw [HR.out,show fF ts=false by unfold fF;rw [HL.out,DY h60];rfl];rfl)
   go_enter Tryz.func86,Tryz.ntmps86;go_wp2;go_ret;exact ⟨tF HE.out,EX _⟩
def cQ:List Th->ByteArray->Nat
 | [],_=>0
 | x :: r,d=>if x.d=d then 0 else cQ r d+1
theorem Jj:∀ (ts:List Th) (d:ByteArray),cQ ts d<=ts.length
 | [],_=>EA _
 | x :: r,d=>by
  have:=Jj r d;unfold cQ
  split
  . omega
  . simp;exact this
theorem Cx {d:ByteArray}:∀ (ts:List Th) (k:Nat),k<=ts.length->(∀ i,i<k->(ts.getD i aX).d≠d)->(k<ts.length->(ts.getD k aX).d=d)->cQ ts d=k
 | [],k,hk,_,_=>by simp at hk;subst hk;rfl
 | x :: r,0,_,_,h=>by
  have:=h (Nat.succ_pos _)
  simp [List.getD] at this
  unfold cQ;rw [if_pos this]
 | x :: r,k+1,hk,h1,h2=>by
  have h0:=h1 0 (Nat.succ_pos _)
  simp [List.getD] at h0
  have:=Cx r k (by simpa using hk) (fun i hi=>by simpa [List.getD] using h1 (i+1) aE) (fun hk=>by simpa [List.getD] using h2 (by simpa using hk));unfold cQ;rw [if_neg h0,this]
theorem uE {d:ByteArray}:∀ (ts:List Th),cQ ts d<ts.length->(ts.getD (cQ ts d) aX).d=d
 | [],h=>by simp at h
 | x :: r,h=>by
  unfold cQ at h ⊢
  by_cases e:x.d=d
  . rw [if_pos e];simp [List.getD,e]
  . rw [if_neg e] at h ⊢
    have:=uE r (by simpa using h)
    simpa [List.getD] using this
theorem Cz {d:ByteArray}:∀ (ts:List Th) (i:Nat),i<cQ ts d->(ts.getD i aX).d≠d
 | [],i,h=>by simp [cQ] at h
 | x :: r,0,h=>by
  unfold cQ at h
  by_cases e:x.d=d
  . rw [if_pos e] at h;omega
  . simpa [List.getD] using e
 | x :: r,i+1,h=>by
  unfold cQ at h
  by_cases e:x.d=d
  . rw [if_pos e] at h;omega
  . rw [if_neg e] at h
    have:=Cz (d:=d) r i aE
    simpa [List.getD] using this
def kR (ts:List Th) (d:ByteArray):Int:=if cQ ts d<ts.length then (cQ ts d:Int) else -1
theorem gR (a:Option Addr) (l cap:Nat) (ts:List Th) (d:ByteArray) (w:World) (h:bO w a l ts) :
 Calls Tryz.prog 52 #[.slice a l cap,.string d] w fun e w'=>e=.returned (.int .i64 (kR ts d))/\aB w w':=by
 have OH:=h.le;have HS:=DX h;have HL:=DX h.len_eq;clear h
 obtain ⟨R,hR⟩:∃ R:Int,R=kR ts d:=⟨_,rfl⟩
 rw [<- hR];have HR:=DX hR;clear hR;go_enter Tryz.func52,Tryz.ntmps52;go_wp2_with fail;go_loopw [5] (fun i wr=>∃ k:Nat,k<=l/\i=.int .i64 k/\Hid (∀ q,q<k->(ts.getD q aX).d≠d)/\aB w wr) (fun i _=>l - (intOf i).toNat)
 case atStart=>exact Sg
 case round =>
  obtain ⟨k,hk,rfl,HZ,IF⟩:=hrel;have HK:=DX IF;clear IF
  by_cases FV:k<l
  . have GU:decide (k<l)=true:=DZ FV
    obtain ⟨b,off,rfl,hc⟩:=HS.out.at aE;obtain ⟨c0,c1,c2⟩:=hc k FV _ HK.out
    obtain ⟨t,ht⟩:∃ t,t=(ts.getD k aX).d:=⟨_,rfl⟩
    rw [<- ht] at c0;have HT:=DX ht;clear hc ht c1 c2
    by_cases he:t=d
    . have HE:=DX (show R=(k:Int) by
       have e:cQ ts d=k:=Cx ts k (by rw [HL.out];omega) HZ.out (fun _=>by rw [<- HT.out];exact he)
       rw [HR.out];unfold kR;rw [e,if_pos (by rw [HL.out];exact FV)])
      subst he;go_wp2_with fail;go_ret;exact ⟨tF HE.out,HK.out⟩
    . obtain ⟨g1,g2,g3⟩:=dM he
      have HN:=DX (show ∀ q,q<k+1->(ts.getD q aX).d≠d from fun q hq=>by
       by_cases e:q=k
       . rw [e,<- HT.out];exact he
       . exact HZ.out q aE)
      clear he;go_wp2_with fail;exact Mh
  . obtain rfl:l=k:=by omega
    have GU:decide (l<l)=false:=DY aE
    have HE:=DX (show R = -1 by
     have e:cQ ts d=l:=Cx ts l (by rw [HL.out];omega) HZ.out (fun h=>by rw [HL.out] at h;omega)
     rw [HR.out];unfold kR;rw [e,if_neg (by rw [HL.out];omega)])
    go_wp2;go_ret;exact ⟨tF HE.out,HK.out⟩
theorem Az (a:Option Addr) (l cap:Nat) (ts:List Th) (w:World) (h:bO w a l ts) :
 Calls Tryz.prog 48 #[.slice a l cap] w fun e w'=>e=.returned (.bool (fF ts))/\aB w w':=by
 have OH:=h.le;have HS:=DX h;have HL:=DX h.len_eq;clear h
 obtain ⟨R,hR⟩:∃ R:Bool,R=fF ts:=⟨_,rfl⟩
 rw [<- hR];have HR:=DX hR;clear hR;go_enter Tryz.func48,Tryz.ntmps48;go_wp2_with fail;go_loopw [3] (fun i wr=>∃ k:Nat,k<=l/\k<=61/\i=.int .i64 k/\Hid (Jl ts k)/\aB w wr) (fun i _=>l - (intOf i).toNat)
 case atStart=>exact ⟨0,aE,aE,rfl,DX ⟨rfl,rfl⟩,EX _⟩
 case round =>
  obtain ⟨k,hk,hk61,rfl,HZ,IF⟩:=hrel;have HK:=DX IF;clear IF
  by_cases IT:k<l/\k<=60
  . obtain ⟨FV,h60⟩:=IT
    have GU:decide (k<l)=true:=DZ FV;have JH:decide ((k:Int)<=60)=true:=DZ aE;obtain ⟨b,off,rfl,hc⟩:=HS.out.at aE;obtain ⟨c0,c1,c2⟩:=hc k FV _ HK.out
    have hkt:k<ts.length:=by rw [HL.out];exact FV
    have NL:=DX (fun h=>Bt hkt h);have GP:=DX (fun h0 h=>Ay hkt h0 h);have QV:=DX (fun h1 h2=>Be hkt HZ.out h1 h2)
    obtain ⟨x,hx⟩:∃ x,x=ts.getD k aX:=⟨_,rfl⟩
    rw [<- hx] at c0 c1 c2 NL GP QV;have HX:=DX hx;have HC:=DX hc;clear hc hx hkt;have HTF:=DX (show sF x=(decide (x.d.size=32)&&(decide (x.t.size<=2000)&&(!x.m||(bJ x.t).isSome))) from rfl)
    obtain ⟨ok,JR⟩:∃ ok,ok=(bJ x.t).isSome:=⟨_,rfl⟩
    have htk:=fun w=>jG x.t (pR (bJ x.t)) ok rfl JR w
    rw [<- JR] at HTF;generalize pR (bJ x.t)=mm at *;obtain ⟨mk,mbs,mus⟩:=mm;dsimp only at htk;have NY:=DX htk;clear htk JR
    by_cases h32:x.d.size=32
    . have VF:((x.d.size:Int) != 32)=false:=by simp [h32]
      by_cases h2k:x.t.size<=2000
      . have RI:decide (2000<(x.t.size:Int))=false:=DY aE
        have HTG:=DX (show sF x=(!x.m||ok) by rw [HTF.out,DZ h32,DZ h2k];rfl);clear h32 HTF
        by_cases UI:k=0\/cZ (ts.getD (k - 1) aX).d x.d=true
        . have HORD:=DX (show 0<k->cZ (ts.getD (k - 1) aX).d x.d=true from fun h=>UI.resolve_left aE)
          by_cases RT:k=0
          . subst RT
            clear UI;simp only [Nat.zero_mul,Nat.add_zero] at c0 c1 c2;go_wp2_with fail;go_quiet (fail);go_wp2_with fail;obtain ⟨c0,c1,c2⟩:=HC.out 0 FV _ (HK.out.drewN nq);rw [<- HX.out] at c0 c1 c2;simp only [Nat.zero_mul,Nat.add_zero] at c0 c1 c2
            refine (NY.out _).mono ?_
            rintro e w2 ⟨b1,e1,b2,e2,rfl,_,_,FX⟩;have FW:=DX (((HK.out.drewN nq).trans FX).alloc ((KM mk b1 mbs.length e1 b2 mus.length e2)));clear FX c0 c1 c2
            go_upto_region 7 with (fail)
            generalize w2.alloc ((KM mk b1 mbs.length e1 b2 mus.length e2))=w3 at *;obtain ⟨c0,c1,c2⟩:=HC.out 0 FV _ FW.out;rw [<- HX.out] at c0 c1 c2;simp only [Nat.zero_mul,Nat.add_zero] at c0 c1 c2
            by_cases RE:x.m=true/\ok=false
            . exact Ri
            . have HN:=DX (QV.out (by rw [HTG.out];cases hm:x.m <;> cases ok <;> simp_all) HORD.out)
              generalize hxm:x.m=xm at c2
              have QG:(xm=false)\/(xm=true/\ok=true):=by
               exact Qo
              clear RE hxm
              rcases QG with rfl | ⟨rfl,rfl⟩
              . exact Tk
              . exact Tk
          . have hq:=UI.resolve_left RT
            obtain ⟨m,hm⟩:∃ m,m=k - 1:=⟨_,rfl⟩
            rw [<- hm] at hq;obtain ⟨d0,_,_⟩:=HC.out m aE _ HK.out
            generalize (ts.getD m aX).d=y at d0 hq
            have ZO:=jV hq
            have hmi:(k:Int) - 1=(m:Int):=by omega
            have hwj:IntKind.i64.wrap (m:Int)=(m:Int):=IntWalk.i64_in _ aE;have NE:decide (0<k)=true:=DZ aE
            have LA:m<l:=by omega
            clear hm RT UI hq;go_wp2_with fail;go_quiet (fail);go_wp2_with fail;obtain ⟨c0,c1,c2⟩:=HC.out k FV _ (HK.out.drewN nq);rw [<- HX.out] at c0 c1 c2
            refine (NY.out _).mono ?_
            rintro e w2 ⟨b1,e1,b2,e2,rfl,_,_,FX⟩;have FW:=DX (((HK.out.drewN nq).trans FX).alloc ((KM mk b1 mbs.length e1 b2 mus.length e2)));clear FX c0 c1 c2
            go_upto_region 7 with (fail)
            generalize w2.alloc ((KM mk b1 mbs.length e1 b2 mus.length e2))=w3 at *;obtain ⟨c0,c1,c2⟩:=HC.out k FV _ FW.out;rw [<- HX.out] at c0 c1 c2
            by_cases RE:x.m=true/\ok=false
            . exact Ri
            . have HN:=DX (QV.out (by rw [HTG.out];cases hm:x.m <;> cases ok <;> simp_all) HORD.out)
              generalize hxm:x.m=xm at c2
              have QG:(xm=false)\/(xm=true/\ok=true):=by
               exact Qo
              clear RE hxm
              rcases QG with rfl | ⟨rfl,rfl⟩
              . exact Ql
              . exact Ql
        . obtain ⟨j,rfl⟩:∃ j,k=j+1:=⟨k - 1,aE⟩
          have hq:cZ (ts.getD j aX).d x.d=false:=by
           cases e:cZ (ts.getD j aX).d x.d with
           | false=>rfl
           | true=>exact absurd (.inr (by rw [Nat.add_sub_cancel];exact e)) UI
          have HE:=DX (show R=false by rw [HR.out];exact GP.out aE (by rw [Nat.add_sub_cancel];exact hq));obtain ⟨d0,_,_⟩:=HC.out j aE _ HK.out
          generalize (ts.getD j aX).d=y at d0 hq
          have ZO:=jV hq
          obtain ⟨m,hm⟩:∃ m,m=j+1:=⟨_,rfl⟩
          rw [<- hm] at c0 c1 c2 FV GU JH ⊢
          have hmi:(m:Int) - 1=(j:Int):=by omega
          have hwj:IntKind.i64.wrap (j:Int)=(j:Int):=IntWalk.i64_in _ aE;have NE:decide (0<m)=true:=DZ aE
          have YM:j<l:=by omega
          clear hm UI hq;exact Et
      . have RI:decide (2000<(x.t.size:Int))=true:=DZ aE
        have HE:=DX (show R=false by rw [HR.out];exact NL.out (by rw [HTF.out,DY h2k,Bool.false_and,Bool.and_false]));clear h32 HTF;exact Et
    . have VF:((x.d.size:Int) != 32)=true:=by simp;omega
      have HE:=DX (show R=false by rw [HR.out];exact NL.out (by rw [HTF.out,DY h32,Bool.false_and]));clear h32 HTF;exact Et
  . have HE:=DX (show R=decide (l<=60) by
     rw [HR.out]
     by_cases e:l<=60
     . obtain rfl:l=k:=by omega
       rw [Fa (by rw [HL.out];exact HZ.out),HL.out]
     . rw [DY e]
       unfold fF
       rw [HL.out,DY e];rfl)
    by_cases FV:k<l
    . have GU:decide (k<l)=true:=DZ FV
      have JH:decide ((k:Int)<=60)=false:=DY aE;have ZK:decide ((l:Int)<=60)=false:=DY aE;have ZY:=DX (show R=false by rw [HE.out,DY aE]);clear IT;go_wp2;go_ret;exact ⟨jR ZY.out,HK.out⟩
    . obtain rfl:l=k:=by omega
      have GU:decide (l<l)=false:=DY aE;clear IT
      by_cases h6:l<=60
      . have ZK:decide ((l:Int)<=60)=true:=DZ aE
        have ZY:=DX (show R=true by rw [HE.out,DZ h6]);go_wp2;go_ret;exact ⟨jR ZY.out,HK.out⟩
      . have ZK:decide ((l:Int)<=60)=false:=DY aE
        have ZY:=DX (show R=false by rw [HE.out,DY h6]);go_wp2;go_ret;exact ⟨jR ZY.out,HK.out⟩
theorem sX (x:Th) (w:World):Calls Tryz.prog 114 #[.agg (LT x.d x.t x.m)] w (qL w (sE x)):=by
 have HB:=DX (EY w (LT x.d x.t x.m) 62);have HK:=DX ((EX w).alloc ((KT x.d x.t x.m)));have HF:=DX (show sE x=if x.m=true then (pR (bJ x.t)).bs++(pR (bJ x.t)).us else [] from rfl)
 have htk:=fun w=>jG x.t (pR (bJ x.t)) (bJ x.t).isSome rfl rfl w
 have aBI:=wV (bJ x.t) x.t rfl;generalize sE x=R at *
 generalize (bJ x.t).isSome=ok at *
 generalize pR (bJ x.t)=mm at *;have HT:=DX htk;clear htk;obtain ⟨d,t,m⟩:=x;dsimp only at HF HT HB HK ⊢;go_enter Tryz.func114,Tryz.ntmps114
 go_upto_region 1 with (fail)
 generalize KK:w.alloc ((KT d t m))=w1 at *;clear KK;obtain ⟨a0,a1,a2⟩:=dI HB.out
 cases m with
 | false =>
  exact Td
 | true =>
  obtain rfl:R=mm.bs++mm.us:=HF.out;clear HF;obtain ⟨k,bs,us⟩:=mm;dsimp only at HT aBI ⊢;go_wp2_with fail
  refine (HT.out _).mono ?_
  rintro e w2 ⟨b1,g1,b2,g2,rfl,VF,RI,FX⟩
  have kx:=(EX w2).alloc ((KM k b1 bs.length g1 b2 us.length g2))
  have IU:=DX (VF.kept kx);have HU:=DX (RI.kept kx);have MZ:=DX (show ∀ s∈bs++us,s.size<=9223372036854775807 from fun s hs=>(List.mem_append.1 hs).elim (VF.sizes s) (RI.sizes s));have GC:=DX ((HK.out.trans FX).trans kx);have HM:=DX (EY w2 (LM k b1 bs.length g1 b2 us.length g2) 85);have HFW:=DX (show bs.length+us.length<=40 from aBI);obtain ⟨i0,PI,GV,GJ,GO⟩:=info_parts BD;have HI:=DX (EC PI (EC GV (EC GJ GO)));clear FX a0 a1 a2 VF RI PI GV GJ GO HB HK HT kx aBI
  go_upto_region 4 with (fail)
  obtain ⟨p3,hp3⟩:∃ p3,p3=w2.heap.size:=⟨_,rfl⟩
  generalize w2.alloc ((KM k b1 bs.length g1 b2 us.length g2))=w3 at *;rw [<- hp3] at HM ⊢;have OL:=DX (show ∀ w,aB w3 w->w.cell? ⟨p3,0,none⟩=some (.int .i64 k)/\w.cell? ⟨p3,1,none⟩=some (.slice b1 bs.length g1)/\w.cell? ⟨p3,2,none⟩=some (.slice b2 us.length g2) from fun w q=>rH HM.out q)
  have MK:=DX (show ∀ w,aB w3 w->Calls Tryz.prog 113 #[.slice b1 bs.length g1] w fun e w'=>∃ a' cap',e=.returned (.slice a' bs.length cap')/\w'.ownsRow w.heap.size 9 1 (.slice a' bs.length cap') bs.length (bs.map Value.string)/\aB w w' from
   fun w q=>lD b1 bs.length g1 bs w (IU.out.kept q) (by have:=HFW.out;omega))
  have NS:=DX (show ∀ w,aB w3 w->(us.map Value.string).length=us.length*1/\∀ ad,b2=some ad->∀ j u,(us.map Value.string)[j]?=some u->w.cell? (ad.add j)=some u from fun w q=>⟨by rw [Nat.mul_one];exact (kQ (HU.out.kept q)).1,(kQ (HU.out.kept q)).2.2.2⟩);have SQ:=DX (show b2=none->us.length=0 from (kQ HU.out).2.2.1);clear hp3;go_wp2_with fail
  refine Pj.Zg (fun az0 L az w=>∃ V:Nat->Value,az=Pj.Zb [(14,0),(15,1),(16,2),(17,3),(18,4),(19,5),(2,6)] V az0/\Pj.J w3 [Pj.Is (.pointer (some ⟨p3,1,none⟩)),Pj.Is (.slice b1 bs.length g1),(fun _ v=>∃ a c,v=.slice a bs.length c),Pj.Is (.pointer (some ⟨p3,2,none⟩)),Pj.Is (.slice b2 us.length g2),(fun _ v=>∃ a c,v=.slice a (bs.length+us.length) c),(fun _ _=>True)] L V w/\Pj.AP w3.heap.size 9 1 bs.length us.length (bs.map Value.string) (us.map Value.string) 2 5 L V w/\(L 6->L 5/\V 6=V 5)) nR nR ?eh0 ?ehs ?ehe
  case eh0 =>
   intro L hL;exact ⟨_,Pj.Zi _ (fun j=>([14,15,16,17,18,19,2]:List Nat).getD j 0) [0,1,2,3,4,5,6],Pj.J.none (n:=7) (EA _) hL ((EX _).drew),Pj.AP.start (hL 2 aF) (hL 5 aF),fun h=>absurd h (hL 6 aF)⟩
  case ehs =>
   rintro L L' az w iz opz Kq ⟨V,rfl,hJ,hI,VA⟩ ho FY FZ hL IH;have hP:Pj.Zh [Pj.Is (.pointer (some ⟨p3,1,none⟩)),Pj.Is (.slice b1 bs.length g1),(fun _ v=>∃ a c,v=.slice a bs.length c),Pj.Is (.pointer (some ⟨p3,2,none⟩)),Pj.Is (.slice b2 us.length g2),(fun _ v=>∃ a c,v=.slice a (bs.length+us.length) c),(fun _ _=>True)]:=⟨Pj.Is.flat _,Pj.Is.flat _,(fun _ _ _ h _=>h),Pj.Is.flat _,Pj.Is.flat _,(fun _ _ _ h _=>h),(fun _ _ _ _ _=>trivial),trivial⟩;have HP:=DX hP;clear hP
   match iz,ho with
   | 0,ho =>
    simp only [iU] at ho;have HJ:=DX hJ;clear hJ;have ID:=DX hI;clear hI;subst ho
    refine Pj.Za.free rfl ?_
    simp only [Pj.Zb,dO,Act.put];go_simp;exact IH _ _ ⟨Pj.Yz V 0 (.pointer (some ⟨p3,1,none⟩)),by simp only [Pj.Zb,dO,Act.put,Pj.Yz,Nat.reduceEqDiff,if_true,if_false],HJ.out.flat HP.out hL (HJ.out.kp.trans (EX _)) (EZ (EX _)) (rfl),ID.out.keep aF aF hL (EX _),fun h=>⟨(hL 5).2 (.inr (VA (((hL 6).1 h).resolve_left aF)).1),by rw [Pj.Yy _ _ aF,Pj.Yy _ _ aF];exact (VA (((hL 6).1 h).resolve_left aF)).2⟩⟩
   | 1,ho =>
    simp only [iU] at ho
    have e0:V 0=.pointer (some ⟨p3,1,none⟩):=hJ.h 0 (FZ 0 (by rw [<- ho];kernel_rfl))
    obtain ⟨d0,d1,d2⟩:=OL.out _ hJ.kp;have HJ:=DX hJ;clear hJ;have ID:=DX hI;clear hI;subst ho
    refine Pj.Za.free rfl ?_
    simp only [Pj.Zb,dO,Act.put,e0];go_simp;exact IH _ _ ⟨Pj.Yz V 1 (.slice b1 bs.length g1),by simp only [Pj.Zb,dO,Act.put,Pj.Yz,Nat.reduceEqDiff,if_true,if_false,e0],HJ.out.flat HP.out hL (HJ.out.kp.trans (EX _)) (EZ (EX _)) (rfl),ID.out.keep aF aF hL (EX _),fun h=>⟨(hL 5).2 (.inr (VA (((hL 6).1 h).resolve_left aF)).1),by rw [Pj.Yy _ _ aF,Pj.Yy _ _ aF];exact (VA (((hL 6).1 h).resolve_left aF)).2⟩⟩
   | 2,ho =>
    simp only [iU] at ho
    have e1:V 1=.slice b1 bs.length g1:=hJ.h 1 (FZ 1 (by rw [<- ho];kernel_rfl))
    have hcp:=MK.out w hJ.kp;have HJ:=DX hJ;clear hJ;have ID:=DX hI;clear hI;subst ho
    refine Pj.Za.free rfl ?_
    simp only [Pj.Zb,dO,Act.put,e1];go_simp
    refine hcp.mono ?_
    rintro e w' ⟨a5,c5,rfl,JF,GF⟩;have IP:=bA JF (EZ HJ.out.kp);exact IH _ _ ⟨Pj.Yz V 2 (.slice a5 bs.length c5),by simp only [Pj.Zb,dO,Act.put,Pj.Yz,Nat.reduceEqDiff,if_true,if_false,e1],HJ.out.flat HP.out hL (HJ.out.kp.trans (GF)) (EZ (GF)) (⟨_,_,rfl⟩),ID.out.copied FY aF hL IP,fun h=>⟨(hL 5).2 (.inr (VA (((hL 6).1 h).resolve_left aF)).1),by rw [Pj.Yy _ _ aF,Pj.Yy _ _ aF];exact (VA (((hL 6).1 h).resolve_left aF)).2⟩⟩
   | 3,ho =>
    simp only [iU] at ho;have HJ:=DX hJ;clear hJ;have ID:=DX hI;clear hI;subst ho
    refine Pj.Za.free rfl ?_
    simp only [Pj.Zb,dO,Act.put];go_simp;exact IH _ _ ⟨Pj.Yz V 3 (.pointer (some ⟨p3,2,none⟩)),by simp only [Pj.Zb,dO,Act.put,Pj.Yz,Nat.reduceEqDiff,if_true,if_false],HJ.out.flat HP.out hL (HJ.out.kp.trans (EX _)) (EZ (EX _)) (rfl),ID.out.keep aF aF hL (EX _),fun h=>⟨(hL 5).2 (.inr (VA (((hL 6).1 h).resolve_left aF)).1),by rw [Pj.Yy _ _ aF,Pj.Yy _ _ aF];exact (VA (((hL 6).1 h).resolve_left aF)).2⟩⟩
   | 4,ho =>
    simp only [iU] at ho
    have e3:V 3=.pointer (some ⟨p3,2,none⟩):=hJ.h 3 (FZ 3 (by rw [<- ho];kernel_rfl))
    obtain ⟨d0,d1,d2⟩:=OL.out _ hJ.kp;have HJ:=DX hJ;clear hJ;have ID:=DX hI;clear hI;subst ho
    refine Pj.Za.free rfl ?_
    simp only [Pj.Zb,dO,Act.put,e3];go_simp;exact IH _ _ ⟨Pj.Yz V 4 (.slice b2 us.length g2),by simp only [Pj.Zb,dO,Act.put,Pj.Yz,Nat.reduceEqDiff,if_true,if_false,e3],HJ.out.flat HP.out hL (HJ.out.kp.trans (EX _)) (EZ (EX _)) (rfl),ID.out.keep aF aF hL (EX _),fun h=>⟨(hL 5).2 (.inr (VA (((hL 6).1 h).resolve_left aF)).1),by rw [Pj.Yy _ _ aF,Pj.Yy _ _ aF];exact (VA (((hL 6).1 h).resolve_left aF)).2⟩⟩
   | 5,ho =>
    simp only [iU] at ho;have l2:=FZ 2 (by rw [<- ho];kernel_rfl);obtain ⟨a6,c6,e2⟩:=hJ.h 2 l2
    have e4:V 4=.slice b2 us.length g2:=hJ.h 4 (FZ 4 (by rw [<- ho];kernel_rfl))
    have FU:=hI.c1 l2 FY;rw [e2] at FU;have LX:=NS.out w hJ.kp;have HJ:=DX hJ;clear hJ;have ID:=DX hI;clear hI;subst ho
    refine Pj.Za.free rfl ?_
    simp only [Pj.Zb,dO,Act.put,e2,e4]
    refine Pj.Zm _ _ 72 rfl w3.heap.size 9 i0 (.string ByteArray.empty) 1 16 EP HI.out.1 HI.out.2.1 HI.out.2.2.1 HI.out.2.2.2 rfl aF (.slice a6 bs.length c6) bs.length (bs.map Value.string) rfl FU b2 us.length g2 (us.map Value.string) rfl SQ.out LX.1 LX.2 (fun u hu=>by obtain ⟨x,_,rfl⟩:=List.mem_map.1 hu;rfl) (by have:=HFW.out;omega) aF HJ.out.kp.size ?_
    intro v' w' LU GB;obtain ⟨a7,c7,rfl⟩:=aP LU;simp only [dO,Act.put];exact IH _ _ ⟨Pj.Yz V 5 (.slice a7 (bs.length+us.length) c7),by simp only [Pj.Zb,dO,Act.put,Pj.Yz,Nat.reduceEqDiff,if_true,if_false,e2,e4],HJ.out.flat HP.out hL (cD HJ.out.kp GB (fun q e=>(FU.lt q e).1) (EA _)) (GB.size) (⟨_,_,rfl⟩),Pj.AP.tail l2 hL LU,fun h=>absurd (VA (((hL 6).1 h).resolve_left aF)).1 FY⟩
   | 6,ho =>
    simp only [iU] at ho;have l5:=FZ 5 (by rw [<- ho];kernel_rfl);obtain ⟨a13,c13,e5⟩:=hJ.h 5 l5;have HJ:=DX hJ;clear hJ;have ID:=DX hI;clear hI;subst ho
    refine Pj.Za.free rfl ?_
    simp only [Pj.Zb,dO,Act.put,e5];go_simp;exact IH _ _ ⟨Pj.Yz V 6 (V 5),by simp only [Pj.Zb,dO,Act.put,Pj.Yz,Nat.reduceEqDiff,if_true,if_false,e5],HJ.out.flat HP.out hL (HJ.out.kp.trans (EX _)) (EZ (EX _)) (trivial),ID.out.keep aF aF hL (EX _),fun _=>⟨(hL 5).2 (.inr l5),by rw [Pj.Zc,Pj.Yy _ _ aF]⟩⟩
   | n+7,ho=>simp at ho
  case ehe =>
   rintro L az w ⟨V,rfl,hJ,hI,VA⟩ GH
   have e6:V 6=V 5:=(VA (GH 6 aF)).2
   obtain ⟨a13,c13,e5⟩:=hJ.h 5 (GH 5 aF);have hq9:=hI.q1 (GH 5 aF);rw [e5] at hq9;have XU:=DX hq9;clear hq9;have HKj:=DX hJ.kp;clear hJ GH hI VA;simp only [Pj.Zb,dO,Act.put,e6,e5];clear e6 e5;have JQ:=DX (GC.out.trans HKj.out);obtain ⟨a',c',e',_,GL⟩:=eC (by rw [<- List.map_append] at XU;exact XU.out) (by simp) MZ.out;cases e'
   have OH:bs.length+us.length=(bs++us).length:=List.length_append.symm
   rw [OH] at GL ⊢;have IN:=DX GL;clear OH GL HKj XU;go_wp2;go_ret;exact ⟨_,_,rfl,IN.out,JQ.out⟩
theorem Gk (a a':Option Addr) (l cap cap':Nat) (ts:List Th) (w:World) (h:bO w a l ts) (h':bO w a' l ts) :
 Calls Tryz.prog 53 #[.slice a l cap,.slice a' l cap'] w fun e w'=>e=.returned (.bool true)/\aB w w':=by
 have OH:=h.le;have HS:=DX h;have HS':=DX h';clear h h';go_enter Tryz.func53,Tryz.ntmps53;go_wp2_with fail;go_loopw [5] (fun i wr=>∃ k:Nat,k<=l/\i=.int .i64 k/\aB w wr) (fun i _=>l - (intOf i).toNat)
 case atStart=>exact ⟨0,aE,rfl,EX _⟩
 case round =>
  obtain ⟨k,hk,rfl,hK⟩:=hrel;have HK:=DX hK;clear hK
  by_cases FV:k<l
  . have GU:decide (k<l)=true:=DZ FV
    obtain ⟨b,off,rfl,hc⟩:=HS.out.at aE;obtain ⟨b',off',rfl,XC⟩:=HS'.out.at aE;obtain ⟨c0,c1,c2⟩:=hc k FV _ HK.out;obtain ⟨c0',c1',c2'⟩:=XC k FV _ HK.out;generalize ts.getD k aX=x at c0 c1 c2 c0' c1' c2';obtain ⟨xd,xt,xm⟩:=x;dsimp only at c0 c1 c2 c0' c1' c2';clear hc XC
    have VF:(xd.toList == xd.toList)=true:=by simp
    have RI:(xt.toList == xt.toList)=true:=by simp
    exact Je
  . exact Rq
def dW (x:Th):List Value:=[.string x.d,.string x.t,.bool x.m]
theorem BA:(Tryz.prog.info? 62).map (fun i=>(i.zero,i.size,i.bytes))=some (some (.agg (LT ByteArray.empty ByteArray.empty false)),3,40):=by kernel_rfl
theorem lW:∀ (ts:List Th) (i:Nat),i<ts.length->(ts.flatMap dW)[i*3]?=some (.string (ts.getD i aX).d)/\(ts.flatMap dW)[i*3+1]?=some (.string (ts.getD i aX).t)/\(ts.flatMap dW)[i*3+2]?=some (.bool (ts.getD i aX).m)
 | [],i,h=>by simp at h
 | x :: r,0,_=>⟨rfl,rfl,rfl⟩
 | x :: r,i+1,h=>by
  have:=lW r i (by simpa using h);rw [show (i+1)*3=i*3+3 by omega]
  simpa [List.flatMap_cons,dW,List.getD] using this
theorem jS (ts:List Th):(ts.flatMap dW).length=ts.length*3:=by
 induction ts with
 | nil=>rfl
 | cons x r ih=>rw [List.flatMap_cons,List.length_append,ih];simp [dW];omega
theorem cI {w:World} {base l:Nat} {v:Value} {ts:List Th} (ho:w.ownsRow base 62 3 v l (ts.flatMap dW)) (hl:ts.length=l) (hf:l<=3518437208883) (hs:∀ x∈ts,x.d.size<=140737488351232/\x.t.size<=140737488351232) :
 ∃ a cap,v=.slice a l cap/\bO w a l ts:=by
 rcases ho.2 with ⟨rfl,rfl⟩ | ⟨g,cap,cur,rfl,hb,hg,hn,hm,_⟩
 . exact Wi
 . refine ⟨_,cap,rfl,hl,hf,hs,g,0,fun _=>rfl,fun i hi=>?_⟩
   obtain ⟨h0,h1,h2⟩:=lW ts i aE;refine ⟨(ho.lt g rfl).2,?_,?_,?_⟩
   . exact Qh
   . exact Ro
   . rw [Nat.zero_add,ho.cellAt _ aE,h2]
theorem Ip (ts:List Th) (k:Nat) (h:k<ts.length):(ts.take (k+1)).flatMap dW=(ts.take k).flatMap dW++dW (ts.getD k aX):=by
 exact zV
theorem gD (P:Program) (h:(P.info? 62).map (fun i=>(i.zero,i.size,i.bytes))=some (some (.agg (LT ByteArray.empty ByteArray.empty false)),3,40)) :
 ∃ i0,P.info? 62=some i0/\i0.zero=some (.agg (LT ByteArray.empty ByteArray.empty false))/\i0.size=3/\i0.bytes=40:=by
 exact Qg
theorem Fj (w:World) (x:Th) (t:TypeId):∀ j u,(dW x)[j]?=some u->(w.alloc (.cells (LT x.d x.t x.m) t)).cell? ((⟨w.heap.size,0,none⟩:Addr).add j)=some u:=by
 intro j u hj;rw [show (⟨w.heap.size,0,none⟩:Addr).add j=⟨w.heap.size,j,none⟩ by unfold Addr.add;split <;> simp_all,jN]
 match j,hj with
 | 0,hj=>exact hj
 | 1,hj=>exact hj
 | 2,hj=>exact hj
 | j+3,hj=>simp [dW] at hj
theorem mQ (a:Option Addr) (l cap:Nat) (ts:List Th) (w:World) (h:bO w a l ts) :
 Calls Tryz.prog 39 #[.slice a l cap] w fun e w'=>∃ a' cap',e=.returned (.slice a' l cap')/\w'.ownsRow w.heap.size 62 3 (.slice a' l cap') l (ts.flatMap dW)/\aB w w':=by
 obtain ⟨i0,hi,GV,GJ,GO⟩:=gD Tryz.prog BA;have OH:=h.le;have HS:=DX h;have HL:=DX h.len_eq;have HI:=DX (EC hi (EC GV (EC GJ GO)));clear h hi GV GJ GO;go_enter Tryz.func39,Tryz.ntmps39;go_wp2_with fail;go_loopw [3,4] (fun v i wr=>∃ k:Nat,k<=l/\i=.int .i64 k/\wr.ownsRow w.heap.size 62 3 v k ((ts.take k).flatMap dW)/\aB w wr) (fun _ i _=>l - (intOf i).toNat)
 case atStart=>exact Rp
 case round =>
  rename Value=>v3
  obtain ⟨k,hk,rfl,ho,IF⟩:=hrel;have HK:=DX IF;have HO:=DX ho;clear IF
  by_cases FV:k<l
  . have GU:decide (k<l)=true:=DZ FV
    obtain ⟨av,cv,rfl⟩:=aP ho;obtain ⟨b,off,rfl,hc⟩:=HS.out.at aE;obtain ⟨c0,c1,c2⟩:=hc k FV _ HK.out;have IX:=DX (Ip ts k (by rw [HL.out];exact FV))
    obtain ⟨x,hx⟩:∃ x,x=ts.getD k aX:=⟨_,rfl⟩
    rw [<- hx] at c0 c1 c2 IX;have IG:w.heap.size<=wr.heap.size:=HK.out.size;clear hc hx ho;go_wp2_with (at_builtin;refine wpList_append_own_at _ rfl _ _ 22 rfl w.heap.size 62 i0 (.agg (LT ByteArray.empty ByteArray.empty false)) 3 40 ER HI.out.1 HI.out.2.1 HI.out.2.2.1 HI.out.2.2.2 rfl aF _ _ _ rfl (aH HO.out ((EX wr).alloc _)) ⟨wr.heap.size,0,none⟩ 1 1 (dW x) rfl rfl ?c1 ?c2 ?c3 ?c4 ?c5 ?_)
    case c1=>exact Fj wr x _
    case c2=>intro u hu;simp [dW] at hu;rcases hu with rfl | rfl | rfl <;> rfl
    case c3=>unfold maxLen;omega
    case c4=>omega
    case c5=>simp;omega
    exact Ut
  . obtain rfl:l=k:=by omega
    have GU:decide (l<l)=false:=DY aE;obtain ⟨av,cv,rfl⟩:=aP ho;have HE:=DX (show (ts.take l).flatMap dW=ts.flatMap dW by rw [EE (by rw [HL.out];omega)]);exact In
def uO (ts:List Th) (l:Nat):Nat->Int
 | 0=>l
 | k+1=>if uO ts l k<1048576 then uO ts l k+((ts.getD k aX).d.size:Int)+((ts.getD k aX).t.size:Int) else uO ts l k
theorem wH (ts:List Th) (l k:Nat) (h:¬ uO ts l k<1048576):∀ j,uO ts l (k+j)=uO ts l k
 | 0=>rfl
 | j+1=>by
  have ih:=wH ts l k h j
  show (if uO ts l (k+j)<1048576 then _ else uO ts l (k+j))=_
  rw [ih,if_neg h]
theorem Cf (ts:List Th) (l:Nat) (hl:l<=3518437208883) (h:∀ q,(ts.getD q aX).d.size<=140737488351232/\(ts.getD q aX).t.size<=140737488351232):∀ k,(l:Int)<=uO ts l k/\uO ts l k<=562949953421312
 | 0=>⟨Int.le_refl _,by show (l:Int)<=_;omega⟩
 | k+1=>by
  have ih:=Cf ts l hl h k;have hk:=h k
  show (l:Int)<=(if uO ts l k<1048576 then _ else uO ts l k)/\(if uO ts l k<1048576 then _ else uO ts l k)<=562949953421312
  split <;> omega
def Vk (ts:List Th):Int:=uO ts ts.length ts.length
theorem jE {ts:List Th} (h:∀ x∈ts,x.d.size<=140737488351232/\x.t.size<=140737488351232) (q:Nat):(ts.getD q aX).d.size<=140737488351232/\(ts.getD q aX).t.size<=140737488351232:=by
 by_cases hq:q<ts.length
 . exact h _ (by simp [List.getD,hq])
 . have:ts.getD q aX=aX:=by simp [List.getD,Nat.not_lt.1 hq]
   rw [this];decide
theorem bO.wt {W:World} {a:Option Addr} {l:Nat} {ts:List Th} (h:bO W a l ts):(l:Int)<=Vk ts/\Vk ts<=562949953421312:=by
 unfold Vk;rw [h.len_eq];exact Cf ts l h.le (jE h.sizes) l
theorem Ga (a:Option Addr) (l cap:Nat) (ts:List Th) (w:World) (h:bO w a l ts) :
 Calls Tryz.prog 57 #[.slice a l cap] w fun e w'=>e=.returned (.int .i64 (Vk ts))/\aB w w':=by
 have OH:=h.le;have HS:=DX h;have HB:=DX (Cf ts l h.le (jE h.sizes));have HE:=DX (show Vk ts=uO ts l l by unfold Vk;rw [h.len_eq]);have HZ:=DX (jE h.sizes);rw [HE.out];clear h HE;go_enter Tryz.func57,Tryz.ntmps57;go_wp2_with fail;go_loopw [3,4] (fun m i wr=>∃ k:Nat,k<=l/\i=.int .i64 k/\m=.int .i64 (uO ts l k)/\aB w wr) (fun _ i _=>l - (intOf i).toNat)
 case atStart=>exact ⟨0,aE,rfl,rfl,EX _⟩
 case round =>
  obtain ⟨k,hk,rfl,rfl,IF⟩:=hrel;have HK:=DX IF;clear IF
  by_cases FV:k<l
  . have GU:decide (k<l)=true:=DZ FV
    have IN:=DX (wH ts l k);have SD:=DX (show uO ts l (k+1)=if uO ts l k<1048576 then uO ts l k+((ts.getD k aX).d.size:Int)+((ts.getD k aX).t.size:Int) else uO ts l k from rfl);have JL:=HB.out k;have hzk:=HZ.out k;generalize uO ts l k=T at IN SD JL ⊢;obtain ⟨b,off,rfl,hc⟩:=HS.out.at aE;obtain ⟨c0,c1,c2⟩:=hc k FV _ HK.out;generalize ts.getD k aX=x at c0 c1 c2 SD hzk;clear hc
    by_cases hn:T<1048576
    . have JH:decide (T<1048576)=true:=DZ hn
      have KK:IntKind.i64.wrap (T+(x.d.size:Int))=T+(x.d.size:Int):=IntWalk.i64_in _ aE;have UO:IntKind.i64.wrap (T+(x.d.size:Int)+(x.t.size:Int))=T+(x.d.size:Int)+(x.t.size:Int):=IntWalk.i64_in _ aE;go_wp2_with fail;go_quiet (fail);clear KK UO;go_wp2_with fail;go_roundw
      case rel=>exact ⟨k+1,aE,by go_num,by rw [SD.out,if_pos hn],HK.out.drewN nq⟩
      case measure=>simp [intOf];omega
    . have JH:decide (T<1048576)=false:=DY hn
      go_wp2;go_ret;refine ⟨?_,HK.out⟩;have:=IN.out hn (l - k);rw [show k+(l - k)=l by omega] at this
      show Ending.returned (.int .i64 T)=_
      rw [this]
  . obtain rfl:l=k:=by omega
    have GU:decide (l<l)=false:=DY aE;go_wp2;go_ret;exact ⟨rfl,HK.out⟩
end Go.Proofs.YtkfmladhicapeaaGreatDoor
