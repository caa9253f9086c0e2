import Derived.Test.YtkfmladhicapeaaGreatDoorY23
set_option maxRecDepth 100000
set_option maxHeartbeats 2000000
namespace Go.Proofs.YtkfmladhicapeaaGreatDoor
open Go.RowKit Go.Shelf
attribute [local go_sem] Oper.semAt_some
theorem Ab (x:Th) (d:ByteArray) (w:World):Calls Tryz.prog 130 #[.agg (LT x.d x.t x.m),.string d] w fun e w'=>e=.returned (.int .i64 (oC x.d d))/\aB w w':=by
 have HB:=DX (EY w (LT x.d x.t x.m) 62);have HK:=DX ((EX w).alloc ((KT x.d x.t x.m)));go_enter Tryz.func130,Tryz.ntmps130;exact Li
theorem Ou (a:Option Addr) (l cap:Nat) (ts:List Th) (d:ByteArray) (w:World) (h:bO w a l ts) (hr:gG (cY ts)=true) :
 Calls Tryz.prog 129 #[.slice a l cap,.string d,.func (.func 130) #[] #[]] w fun e w'=>e=.returned (.tuple #[.int .i64 (fZ ts d),.bool (nH ts d)])/\aB w w':=by
 have OH:=h.le;have HS:=DX h;have HL:=DX h.len_eq
 have HR:=DX (show ∀ j i,i<j->j<l->cZ (ts.getD i aX).d (ts.getD j aX).d=true from fun j i WH hj=>by
  have:=nN (show pS (cY ts) (cY ts).length=true from hr) j i WH (by unfold cY;rw [List.length_map,h.len_eq];exact hj)
  rwa [gA,gA] at this)
 clear h hr
 obtain ⟨K,hK⟩:∃ K,K=fZ ts d:=⟨_,rfl⟩
 obtain ⟨F,hF⟩:∃ F,F=nH ts d:=⟨_,rfl⟩
 rw [<- hK,<- hF];have SA:=DX hK;have LC:=DX (show F=decide (fZ ts d<l/\(ts.getD (fZ ts d) aX).d=d) by rw [hF];unfold nH;rw [HL.out]);clear hK hF;go_enter Tryz.func129,Tryz.ntmps129;go_wp2_with fail;go_loopw [9,10] (fun x y wr=>∃ lo hi:Nat,x=.int .i64 lo/\y=.int .i64 hi/\lo<=hi/\hi<=l/\Hid ((∀ q,q<lo->cZ (ts.getD q aX).d d=true)/\(∀ q,hi<=q->q<l->cZ (ts.getD q aX).d d=false))/\aB w wr) (fun x y _=>(intOf y).toNat - (intOf x).toNat)
 case atStart=>exact Ps
 case round =>
  obtain ⟨lo,hi,rfl,rfl,hlh,hhl,HI,IF⟩:=hrel;have HK:=DX IF;clear IF
  by_cases FV:lo<hi
  . have GU:decide (lo<hi)=true:=DZ FV
    obtain ⟨b,off,rfl,hc⟩:=HS.out.at aE;obtain ⟨c0,c1,c2⟩:=hc ((lo+hi) / 2) aE _ HK.out
    obtain ⟨x,hx⟩:∃ x,x=ts.getD ((lo+hi) / 2) aX:=⟨_,rfl⟩
    rw [<- hx] at c0 c1 c2;have HX:=DX hx;clear hc hx;have PB:=xV x.d d;have MU:=xU x.d d;have QI:=Ab x d;exact Vt
  . obtain rfl:lo=hi:=by omega
    have GU:decide (lo<lo)=false:=DY aE
    have OS:=DX (show K=lo by
     rw [SA.out]
     exact uB ts lo (by rw [HL.out];exact hhl) HI.out.1 (fun q=>HI.out.2 lo (EA _) (by rw [<- HL.out];exact q)))
    by_cases QK:lo<l
    . have JH:decide (lo<l)=true:=DZ QK
      obtain ⟨b,off,rfl,hc⟩:=HS.out.at aE;obtain ⟨c0,c1,c2⟩:=hc lo QK _ HK.out
      obtain ⟨x,hx⟩:∃ x,x=ts.getD lo aX:=⟨_,rfl⟩
      rw [<- hx] at c0 c1 c2;have HX:=DX hx;clear hc hx;have hcz:=qI x.d d;have QI:=Ab x d;exact Wp
    . exact Oh
def Tb (ts:List Tg) (d:ByteArray):Bool:=decide (rJ ts d<ts.length/\(ts.getD (rJ ts d) bL).n=d)
theorem Am (x:Tg) (d:ByteArray) (w:World):Calls Tryz.prog 136 #[.agg #[.string x.n,.string x.d],.string d] w fun e w'=>e=.returned (.int .i64 (oC x.n d))/\aB w w':=by
 have HB:=DX (EY w #[.string x.n,.string x.d] 68);have HK:=DX ((EX w).alloc (.cells #[.string x.n,.string x.d] 68));go_enter Tryz.func136,Tryz.ntmps136
 go_upto_region 1 with (fail)
 generalize w.alloc (.cells #[.string x.n,.string x.d] 68)=w1 at *;obtain ⟨a0,a1⟩:=oV HB.out;go_wp2_with fail
 refine (zO x.n d _).mono ?_
 rintro e w' ⟨rfl,rfl⟩;go_wp2;go_ret;exact ⟨rfl,HK.out⟩
theorem uM {d:ByteArray}:∀ (ts:List Tg) (k:Nat),k<=ts.length->(∀ i,i<k->cZ (ts.getD i bL).n d=true)->(k<ts.length->cZ (ts.getD k bL).n d=false)->rJ ts d=k
 | [],k,hk,_,_=>by simp at hk;subst hk;rfl
 | x :: r,0,_,_,h=>by
  have:=h (Nat.succ_pos _)
  simp [List.getD] at this
  unfold rJ;rw [List.takeWhile_cons,this];rfl
 | x :: r,k+1,hk,h1,h2=>by
  have h0:=h1 0 (Nat.succ_pos _)
  simp [List.getD] at h0
  have:=uM r k (by simpa using hk) (fun i hi=>by simpa [List.getD] using h1 (i+1) aE) (fun hk=>by simpa [List.getD] using h2 (by simpa using hk));unfold rJ at this ⊢;rw [List.takeWhile_cons,h0]
  simp [this]
theorem Pp (a:Option Addr) (l cap:Nat) (ts:List Tg) (d:ByteArray) (w:World) (h:cJ w a l ts) (hr:gG (kL ts)=true) :
 Calls Tryz.prog 135 #[.slice a l cap,.string d,.func (.func 136) #[] #[]] w fun e w'=>e=.returned (.tuple #[.int .i64 (rJ ts d),.bool (Tb ts d)])/\aB w w':=by
 have OH:=h.le;have HS:=DX h;have HL:=DX h.len_eq
 have HR:=DX (show ∀ j i,i<j->j<l->cZ (ts.getD i bL).n (ts.getD j bL).n=true from fun j i WH hj=>by
  have:=nN (show pS (kL ts) (kL ts).length=true from hr) j i WH (by unfold kL;rw [List.length_map,h.len_eq];exact hj)
  rwa [jT,jT] at this)
 clear h hr
 obtain ⟨K,hK⟩:∃ K,K=rJ ts d:=⟨_,rfl⟩
 obtain ⟨F,hF⟩:∃ F,F=Tb ts d:=⟨_,rfl⟩
 rw [<- hK,<- hF];have SA:=DX hK;have LC:=DX (show F=decide (rJ ts d<l/\(ts.getD (rJ ts d) bL).n=d) by rw [hF];unfold Tb;rw [HL.out]);clear hK hF;go_enter Tryz.func135,Tryz.ntmps135;go_wp2_with fail;go_loopw [9,10] (fun x y wr=>∃ lo hi:Nat,x=.int .i64 lo/\y=.int .i64 hi/\lo<=hi/\hi<=l/\Hid ((∀ q,q<lo->cZ (ts.getD q bL).n d=true)/\(∀ q,hi<=q->q<l->cZ (ts.getD q bL).n d=false))/\aB w wr) (fun x y _=>(intOf y).toNat - (intOf x).toNat)
 case atStart=>exact Ps
 case round =>
  obtain ⟨lo,hi,rfl,rfl,hlh,hhl,HI,IF⟩:=hrel;have HK:=DX IF;clear IF
  by_cases FV:lo<hi
  . have GU:decide (lo<hi)=true:=DZ FV
    obtain ⟨b,off,rfl,hc⟩:=HS.out.at aE;obtain ⟨c0,c1⟩:=hc ((lo+hi) / 2) aE _ HK.out
    obtain ⟨x,hx⟩:∃ x,x=ts.getD ((lo+hi) / 2) bL:=⟨_,rfl⟩
    rw [<- hx] at c0 c1;have HX:=DX hx;clear hc hx;have PB:=xV x.n d;have MU:=xU x.n d;have QI:=Am x d
    obtain ⟨C,hC⟩:∃ C,C=oC x.n d:=⟨_,rfl⟩
    rw [<- hC] at PB MU QI;have HC:=DX QI;have HCL:=DX PB;clear hC QI PB
    by_cases hlx:C<0
    . have JH:decide (C<0)=true:=DZ hlx
      have QB:=DX (HCL.out.symm.trans JH);go_wp2_with fail
      refine (HC.out _).mono ?_
      rintro e w2 ⟨rfl,FX⟩;have FW:=DX (HK.out.trans FX);clear FX c0 c1;go_wp2_with fail;go_roundw
      case rel =>
       refine ⟨(lo+hi) / 2+1,hi,by go_num,rfl,aE,hhl,DX ⟨fun q hq=>?_,HI.out.2⟩,FW.out⟩
       by_cases e:q=(lo+hi) / 2
       . rw [e,<- HX.out];exact QB.out
       . exact eV (HR.out ((lo+hi) / 2) q aE aE) (by rw [<- HX.out];exact QB.out)
      case measure=>simp [intOf];omega
    . have JH:decide (C<0)=false:=DY hlx
      have QB:=DX (HCL.out.symm.trans JH);go_wp2_with fail
      refine (HC.out _).mono ?_
      rintro e w2 ⟨rfl,FX⟩;have FW:=DX (HK.out.trans FX);clear FX c0 c1;go_wp2_with fail;go_roundw
      case rel =>
       refine ⟨lo,(lo+hi) / 2,rfl,by go_num,aE,aE,DX ⟨HI.out.1,fun q h1 h2=>?_⟩,FW.out⟩
       cases hq:cZ (ts.getD q bL).n d with
       | false=>rfl
       | true =>
        have hxx:cZ x.n d=true:=by
         by_cases e:q=(lo+hi) / 2
         . rw [HX.out,<- e];exact hq
         . exact eV (by rw [HX.out];exact HR.out q ((lo+hi) / 2) aE h2) hq
        rw [QB.out] at hxx;cases hxx
      case measure=>simp [intOf];omega
  . obtain rfl:lo=hi:=by omega
    have GU:decide (lo<lo)=false:=DY aE
    have OS:=DX (show K=lo by
     rw [SA.out]
     exact uM ts lo (by rw [HL.out];exact hhl) HI.out.1 (fun q=>HI.out.2 lo (EA _) (by rw [<- HL.out];exact q)))
    by_cases QK:lo<l
    . have JH:decide (lo<l)=true:=DZ QK
      obtain ⟨b,off,rfl,hc⟩:=HS.out.at aE;obtain ⟨c0,c1⟩:=hc lo QK _ HK.out
      obtain ⟨x,hx⟩:∃ x,x=ts.getD lo bL:=⟨_,rfl⟩
      rw [<- hx] at c0 c1;have HX:=DX hx;clear hc hx;have hcz:=qI x.n d;have QI:=Am x d
      obtain ⟨C,hC⟩:∃ C,C=oC x.n d:=⟨_,rfl⟩
      exact Wr
    . exact Oh
def Ca (a b:Int):Bool:=decide (a<b)
theorem qN {a b c:Int} (h:Ca a b=true) (k:Ca b c=true):Ca a c=true:=DZ (Int.lt_trans (of_decide_eq_true h) (of_decide_eq_true k))
def oH (a b:Int):Int:=if a<b then -1 else if b<a then 1 else 0
theorem Mx (a b:Int):decide (oH a b<0)=Ca a b:=by
 unfold oH Ca
 by_cases h:a<b
 . rw [if_pos h,DZ h];rfl
 . rw [if_neg h,DY h]
   by_cases k:b<a
   . rw [if_pos k];rfl
   . rw [if_neg k];rfl
theorem Gp (a b:Int):oH a b=0↔a=b:=by
 unfold oH
 by_cases h:a<b
 . rw [if_pos h];constructor
   . intro e;cases e
   . intro e;omega
 . rw [if_neg h]
   by_cases k:b<a
   . rw [if_pos k];constructor
     . intro e;cases e
     . intro e;omega
   . rw [if_neg k];constructor
     . intro _;omega
     . intro _;rfl
theorem Nb (a b:Int):-1<=oH a b/\oH a b<=1:=by
 unfold oH
 split
 . decide
 . split <;> decide
theorem sA {l:List Se} {n:Nat} (h:kF l n=true):∀ j i,i<j->j<n->Ca (l.getD i bQ).i (l.getD j bQ).i=true
 | 0,i,hi,_=>by omega
 | j+1,i,hi,hj=>by
  have h1:=Fc h hj (Nat.succ_pos j);rw [Nat.add_sub_cancel] at h1
  by_cases e:i=j
  . subst e;exact DZ h1
  . exact qN (sA h j i aE aE) (DZ h1)
theorem Fq (n:Int) (w:World):Calls Tryz.prog 156 #[.int .i64 n] w fun e w'=>e=.returned (.bool false)/\w=w':=by
 go_enter Tryz.func156,Tryz.ntmps156
 have hb:((n:Int) != n)=false:=by simp
 go_wp2;go_ret;exact ⟨rfl,rfl⟩
theorem Jw (a b:Int) (w:World):Calls Tryz.prog 127 #[.int .i64 a,.int .i64 b] w fun e w'=>e=.returned (.int .i64 (oH a b))/\w=w':=by
 obtain ⟨C,hC⟩:∃ C,C=oH a b:=⟨_,rfl⟩
 rw [<- hC];have HC:=DX hC;clear hC
 by_cases h:a<b
 . have hd:decide (a<b)=true:=DZ h
   have HE:=DX (show C = -1 by rw [HC.out];unfold oH;rw [if_pos h]);clear h;exact Uj
 . have hd:decide (a<b)=false:=DY h
   by_cases h2:b<a
   . have JH:decide (b<a)=true:=DZ h2
     have HE:=DX (show C=1 by rw [HC.out];unfold oH;rw [if_neg h,if_pos h2]);clear h h2;exact Uj
   . have JH:decide (b<a)=false:=DY h2
     have HE:=DX (show C=0 by rw [HC.out];unfold oH;rw [if_neg h,if_neg h2]);clear h h2;exact Uj
def zF (ts:List Se) (d:Int):Nat:=(ts.takeWhile fun x=>Ca x.i d).length
def Qw (ts:List Se) (d:Int):Bool:=decide (zF ts d<ts.length/\(ts.getD (zF ts d) bQ).i=d)
theorem yV (x:Se) (d:Int) (w:World):Calls Tryz.prog 126 #[.agg #[.int .i64 x.i,.string x.t],.int .i64 d] w fun e w'=>e=.returned (.int .i64 (oH x.i d))/\aB w w':=by
 have HB:=DX (EY w #[.int .i64 x.i,.string x.t] 65);have HK:=DX ((EX w).alloc (.cells #[.int .i64 x.i,.string x.t] 65));go_enter Tryz.func126,Tryz.ntmps126
 go_upto_region 1 with (fail)
 generalize w.alloc (.cells #[.int .i64 x.i,.string x.t] 65)=w1 at *;obtain ⟨a0,a1⟩:=oV HB.out;go_wp2_with fail
 refine (Jw x.i d _).mono ?_
 rintro e w' ⟨rfl,rfl⟩;go_wp2;go_ret;exact ⟨rfl,HK.out⟩
theorem Db {d:Int}:∀ (ts:List Se) (k:Nat),k<=ts.length->(∀ i,i<k->Ca (ts.getD i bQ).i d=true)->(k<ts.length->Ca (ts.getD k bQ).i d=false)->zF ts d=k
 | [],k,hk,_,_=>by simp at hk;subst hk;rfl
 | x :: r,0,_,_,h=>by
  have:=h (Nat.succ_pos _)
  simp [List.getD] at this
  unfold zF;rw [List.takeWhile_cons,this];rfl
 | x :: r,k+1,hk,h1,h2=>by
  have h0:=h1 0 (Nat.succ_pos _)
  simp [List.getD] at h0
  have:=Db r k (by simpa using hk) (fun i hi=>by simpa [List.getD] using h1 (i+1) aE) (fun hk=>by simpa [List.getD] using h2 (by simpa using hk));unfold zF at this ⊢;rw [List.takeWhile_cons,h0]
  simp [this]
theorem Ov (a:Option Addr) (l cap:Nat) (ts:List Se) (d:Int) (w:World) (h:cP w a l ts) (hr:kF ts ts.length=true) :
 Calls Tryz.prog 125 #[.slice a l cap,.int .i64 d,.func (.func 126) #[] #[]] w fun e w'=>e=.returned (.tuple #[.int .i64 (zF ts d),.bool (Qw ts d)])/\aB w w':=by
 have OH:=h.le;have HS:=DX h;have HL:=DX h.len_eq
 have HR:=DX (show ∀ j i,i<j->j<l->Ca (ts.getD i bQ).i (ts.getD j bQ).i=true from fun j i WH hj=>by
  exact sA hr j i WH (by rw [h.len_eq];exact hj))
 clear h hr
 obtain ⟨K,hK⟩:∃ K,K=zF ts d:=⟨_,rfl⟩
 obtain ⟨F,hF⟩:∃ F,F=Qw ts d:=⟨_,rfl⟩
 rw [<- hK,<- hF];have SA:=DX hK;have LC:=DX (show F=decide (zF ts d<l/\(ts.getD (zF ts d) bQ).i=d) by rw [hF];unfold Qw;rw [HL.out]);clear hK hF;go_enter Tryz.func125,Tryz.ntmps125;go_wp2_with fail;go_loopw [9,10] (fun x y wr=>∃ lo hi:Nat,x=.int .i64 lo/\y=.int .i64 hi/\lo<=hi/\hi<=l/\Hid ((∀ q,q<lo->Ca (ts.getD q bQ).i d=true)/\(∀ q,hi<=q->q<l->Ca (ts.getD q bQ).i d=false))/\aB w wr) (fun x y _=>(intOf y).toNat - (intOf x).toNat)
 case atStart=>exact Ps
 case round =>
  obtain ⟨lo,hi,rfl,rfl,hlh,hhl,HI,IF⟩:=hrel;have HK:=DX IF;clear IF
  by_cases FV:lo<hi
  . have GU:decide (lo<hi)=true:=DZ FV
    obtain ⟨b,off,rfl,hc⟩:=HS.out.at aE;obtain ⟨c0,c1⟩:=hc ((lo+hi) / 2) aE _ HK.out
    obtain ⟨x,hx⟩:∃ x,x=ts.getD ((lo+hi) / 2) bQ:=⟨_,rfl⟩
    rw [<- hx] at c0 c1;have HX:=DX hx;clear hc hx;have PB:=Mx x.i d;have MU:=Nb x.i d;have QI:=yV x d
    obtain ⟨C,hC⟩:∃ C,C=oH x.i d:=⟨_,rfl⟩
    rw [<- hC] at PB MU QI;have HC:=DX QI;have HCL:=DX PB;clear hC QI PB
    by_cases hlx:C<0
    . have JH:decide (C<0)=true:=DZ hlx
      have QB:=DX (HCL.out.symm.trans JH);go_wp2_with fail
      refine (HC.out _).mono ?_
      rintro e w2 ⟨rfl,FX⟩;have FW:=DX (HK.out.trans FX);clear FX c0 c1;go_wp2_with fail;go_roundw
      case rel =>
       refine ⟨(lo+hi) / 2+1,hi,by go_num,rfl,aE,hhl,DX ⟨fun q hq=>?_,HI.out.2⟩,FW.out⟩
       by_cases e:q=(lo+hi) / 2
       . rw [e,<- HX.out];exact QB.out
       . exact qN (HR.out ((lo+hi) / 2) q aE aE) (by rw [<- HX.out];exact QB.out)
      case measure=>simp [intOf];omega
    . have JH:decide (C<0)=false:=DY hlx
      have QB:=DX (HCL.out.symm.trans JH);go_wp2_with fail
      refine (HC.out _).mono ?_
      rintro e w2 ⟨rfl,FX⟩;have FW:=DX (HK.out.trans FX);clear FX c0 c1;go_wp2_with fail;go_roundw
      case rel =>
       refine ⟨lo,(lo+hi) / 2,rfl,by go_num,aE,aE,DX ⟨HI.out.1,fun q h1 h2=>?_⟩,FW.out⟩
       cases hq:Ca (ts.getD q bQ).i d with
       | false=>rfl
       | true =>
        have hxx:Ca x.i d=true:=by
         by_cases e:q=(lo+hi) / 2
         . rw [HX.out,<- e];exact hq
         . exact qN (by rw [HX.out];exact HR.out q ((lo+hi) / 2) aE h2) hq
        rw [QB.out] at hxx;cases hxx
      case measure=>simp [intOf];omega
  . obtain rfl:lo=hi:=by omega
    have GU:decide (lo<lo)=false:=DY aE
    have OS:=DX (show K=lo by
     rw [SA.out]
     exact Db ts lo (by rw [HL.out];exact hhl) HI.out.1 (fun q=>HI.out.2 lo (EA _) (by rw [<- HL.out];exact q)))
    by_cases QK:lo<l
    . have JH:decide (lo<l)=true:=DZ QK
      obtain ⟨b,off,rfl,hc⟩:=HS.out.at aE;obtain ⟨c0,c1⟩:=hc lo QK _ HK.out
      obtain ⟨x,hx⟩:∃ x,x=ts.getD lo bQ:=⟨_,rfl⟩
      rw [<- hx] at c0 c1;have HX:=DX hx;clear hc hx;have hcz:=Gp x.i d;have QI:=yV x d
      obtain ⟨C,hC⟩:∃ C,C=oH x.i d:=⟨_,rfl⟩
      exact Wr
    . exact Oh
theorem oX (aT aG aS:Option Addr) (lT lG lS cT cG cS:Nat) (nx:Int) (ts:List Th) (d:ByteArray) (w:World) (h:bO w aT lT ts) (hr:gG (cY ts)=true) :
 Calls Tryz.prog 99 #[.agg (LS aT lT cT aG lG cG aS lS cS nx),.string d] w fun e w'=>e=.returned (.tuple #[.int .i64 (fZ ts d),.bool (nH ts d)])/\aB w w':=by
 have HC:=DX (fun w' (k:aB w w')=>Ou aT lT cT ts d w' (h.kept k) hr);generalize fZ ts d=K at *;generalize nH ts d=F at *;have HB:=DX (EY w (LS aT lT cT aG lG cG aS lS cS nx) 26);have HK:=DX ((EX w).alloc ((KS aT lT cT aG lG cG aS lS cS nx)));clear h;go_enter Tryz.func99,Tryz.ntmps99;exact Ud
theorem yY (aT aG aS:Option Addr) (lT lG lS cT cG cS:Nat) (nx:Int) (ts:List Tg) (d:ByteArray) (w:World) (h:cJ w aG lG ts) (hr:gG (kL ts)=true) :
 Calls Tryz.prog 104 #[.agg (LS aT lT cT aG lG cG aS lS cS nx),.string d] w fun e w'=>e=.returned (.tuple #[.int .i64 (rJ ts d),.bool (Tb ts d)])/\aB w w':=by
 have HC:=DX (fun w' (k:aB w w')=>Pp aG lG cG ts d w' (h.kept k) hr);generalize rJ ts d=K at *;generalize Tb ts d=F at *;have HB:=DX (EY w (LS aT lT cT aG lG cG aS lS cS nx) 26);have HK:=DX ((EX w).alloc ((KS aT lT cT aG lG cG aS lS cS nx)));clear h;go_enter Tryz.func104,Tryz.ntmps104;exact Ud
theorem uC (aT aG aS:Option Addr) (lT lG lS cT cG cS:Nat) (nx:Int) (ts:List Se) (d:Int) (w:World) (h:cP w aS lS ts) (hr:kF ts ts.length=true) :
 Calls Tryz.prog 96 #[.agg (LS aT lT cT aG lG cG aS lS cS nx),.int .i64 d] w fun e w'=>e=.returned (.tuple #[.int .i64 (zF ts d),.bool (Qw ts d)])/\aB w w':=by
 have HC:=DX (fun w' (k:aB w w')=>Ov aS lS cS ts d w' (h.kept k) hr);generalize zF ts d=K at *;generalize Qw ts d=F at *;have HB:=DX (EY w (LS aT lT cT aG lG cG aS lS cS nx) 26);have HK:=DX ((EX w).alloc ((KS aT lT cT aG lG cG aS lS cS nx)));clear h;go_enter Tryz.func96,Tryz.ntmps96;exact Ud
theorem Dk (aT aG aS:Option Addr) (lT lG lS cT cG cS:Nat) (nx:Int) (ts:List Th) (d:ByteArray) (j:Bool) (w:World) (h:bO w aT lT ts) (hr:gG (cY ts)=true) :
 Calls Tryz.prog 91 #[.agg (LS aT lT cT aG lG cG aS lS cS nx),.string d,.bool j] w fun e w'=>e=.returned (.bool (iZ ts d j))/\aB w w':=by
 obtain ⟨hf,hl⟩:=qT hr d;have HA:=DX (fun w' (k:aB w w')=>oX aT aG aS lT lG lS cT cG cS nx ts d w' (h.kept k) hr);have JV:=DX h;have HB:=DX (EY w (LS aT lT cT aG lG cG aS lS cS nx) 26);have HK:=DX ((EX w).alloc ((KS aT lT cT aG lG cG aS lS cS nx)));rw [hf] at HA
 by_cases GA:cQ ts d<ts.length
 . rw [hl GA,DZ GA] at HA
   have GM:=h.len_eq
   obtain ⟨M,hM⟩:∃ M,M=(ts.getD (cQ ts d) aX).m:=⟨_,rfl⟩
   have ML:=DX (show iZ ts d j=(M == j) by unfold iZ;rw [DZ GA,hM];rfl);obtain ⟨bt,ot,hta,JC⟩:=h.at aE;have YY:=DX (fun w' (k:aB w w')=>(JC (cQ ts d) aE w' k).2.2);have WY:=DX hta;rw [<- hM] at YY
   have OC:cQ ts d<lT:=by omega
   clear hM hf hl h JC hta GM;generalize cQ ts d=z at *;go_enter Tryz.func91,Tryz.ntmps91
   go_upto_region 1 with (fail)
   generalize w.alloc ((KS aT lT cT aG lG cG aS lS cS nx))=w1 at *;obtain ⟨r0,r1,r2,r3⟩:=aI HB.out;go_wp2_with fail
   refine (HA.out _ HK.out).mono ?_
   rintro e w2 ⟨rfl,FX⟩;have FW:=DX (HK.out.trans FX);clear r0 r1 r2 r3;obtain ⟨r0,r1,r2,r3⟩:=aI (HB.out.kept FX);clear FX HA;have c2:=YY.out w2 FW.out;rw [WY.out] at r0;have ZK:decide (z<lT)=true:=DZ OC;go_wp2_with fail;go_ret;exact ⟨by rw [ML.out];rfl,FW.out⟩
 . rw [DY GA] at HA
   have ML:=DX (show iZ ts d j=false by unfold iZ;rw [DY GA];rfl);generalize fZ ts d=z at *;clear hf hl h GA;go_enter Tryz.func91,Tryz.ntmps91
   go_upto_region 1 with (fail)
   generalize w.alloc ((KS aT lT cT aG lG cG aS lS cS nx))=w1 at *;obtain ⟨r0,r1,r2,r3⟩:=aI HB.out;go_wp2_with fail
   refine (HA.out _ HK.out).mono ?_
   rintro e w2 ⟨rfl,FX⟩;have FW:=DX (HK.out.trans FX);clear FX HA r0 r1 r2 r3;go_wp2_with fail;go_ret;exact ⟨by rw [ML.out];rfl,FW.out⟩
end Go.Proofs.YtkfmladhicapeaaGreatDoor
