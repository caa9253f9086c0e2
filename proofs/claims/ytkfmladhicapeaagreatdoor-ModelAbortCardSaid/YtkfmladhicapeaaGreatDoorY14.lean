import Derived.Test.YtkfmladhicapeaaGreatDoorY13
import Derived.Test.YtkfmladhicapeaaGreatDoorY8
set_option maxRecDepth 100000
set_option maxHeartbeats 4000000
namespace Go.Proofs.YtkfmladhicapeaaGreatDoor
open Go.RowKit Go.Shelf
theorem fL (c:UInt8) (n:Nat) (hn:n<256):(c == UInt8.ofNat n)=decide (c.toNat=n):=by
 rw [Bool.eq_iff_iff,beq_iff_eq,decide_eq_true_eq]
 constructor
 . intro h;rw [h,UInt8.toNat_ofNat'];omega
 . intro h;apply UInt8.toNat_inj.1;rw [h,UInt8.toNat_ofNat'];omega
theorem vJ (l:List UInt8) (h:(l.getD 0 0).toNat=46):fQ l=false:=by
 unfold fQ
 have h1:(l.getD 0 0 == 46)=true:=by
  have:=fL (l.getD 0 0) 46 aE;rw [DZ h] at this;exact this
 rw [h1]
 simp
theorem tD (l:List UInt8) (h:(l.getD 0 0).toNat=45):fQ l=false:=by
 unfold fQ
 have h1:(l.getD 0 0 == 45)=true:=by
  have:=fL (l.getD 0 0) 45 aE;rw [DZ h] at this;exact this
 rw [h1]
 simp
theorem vI (l:List UInt8) (h:l.all uP=false):fQ l=false:=by unfold fQ;rw [h];simp
theorem Co (l:List UInt8) (h0:l≠[]) (h1:¬ (l.getD 0 0).toNat=46) (h2:¬ (l.getD 0 0).toNat=45) (h3:l.all uP=true):fQ l=true:=by
 unfold fQ
 have a1:(l.getD 0 0 == 46)=false:=by
  have:=fL (l.getD 0 0) 46 aE;rw [DY h1] at this;exact this
 have a2:(l.getD 0 0 == 45)=false:=by
  have:=fL (l.getD 0 0) 45 aE;rw [DY h2] at this;exact this
 rw [a1,a2,h3,DZ h0];rfl
theorem qA (l:List UInt8) (p:UInt8->Bool) (k:Nat) (h:k<l.length):(l.take (k+1)).all p=((l.take k).all p&&p (l.getD k 0)):=tE l p k 0 h
theorem mP {c:UInt8} (h:lE c=true\/(65<=c.toNat/\c.toNat<=90)\/c.toNat=95\/c.toNat=46\/c.toNat=45):uP c=true:=by
 unfold uP
 rcases h with h | h
 . rw [h];rfl
 . rw [DZ h];simp
theorem Hs {c:UInt8} (h1:lE c=false) (h:¬ ((65<=c.toNat/\c.toNat<=90)\/c.toNat=95\/c.toNat=46\/c.toNat=45)):uP c=false:=by
 unfold uP;rw [h1,DY h];rfl
theorem tQ (u:ByteArray) (w:World) (hu:u.size<=9223372036854775807):Calls Tryz.prog 152 #[.string u] w fun e w'=>e=.returned (.bool (fQ u.data.toList))/\w=w':=by
 have LW:u.data.toList.length=u.size:=rfl;have JU:=DX LW
 by_cases h0:0<u.size
 . have GW:u.toList.isEmpty=false:=by
    exact Mn
   have MA:((u.size:Int) == 0)=false:=beq_eq_false_iff_ne.2 aE;have MT:=DX (dL u 0 h0);have YW:=DX (fun i (h:i<u.size)=>dL u i h);have ZA:=DX (show u.data.toList≠[] from fun e=>by rw [e] at LW;simp at LW;omega);clear LW
   by_cases h1:u[0].toNat=46
   . have d1:((u[0].toNat:Int) == 46)=true:=by first | exact DZ aE | exact beq_iff_eq.2 aE
     have HP:=DX (vJ u.data.toList (by rw [<- MT.out];assumption))
     (try clear h1)
     (try clear h2)
     exact Rt
   . have d1:((u[0].toNat:Int) == 46)=false:=by first | exact DY aE | exact beq_eq_false_iff_ne.2 aE
     by_cases h2:u[0].toNat=45
     . have d2:((u[0].toNat:Int) == 45)=true:=by first | exact DZ aE | exact beq_iff_eq.2 aE
       have HP:=DX (tD u.data.toList (by rw [<- MT.out];assumption))
       (try clear h1)
       (try clear h2)
       exact Rt
     . have d2:((u[0].toNat:Int) == 45)=false:=by first | exact DY aE | exact beq_eq_false_iff_ne.2 aE
       have HH1:=DX h1;have HH2:=DX h2;clear h1 h2;go_enter Tryz.func152,Tryz.ntmps152;go_wp2_with fail;go_loopw [18] (fun i wr=>∃ k:Nat,k<=u.size/\i=.int .i64 k/\(u.data.toList.take k).all uP=true/\w=wr) (fun i _=>u.size - (intOf i).toNat)
       case atStart=>exact Sx
       case round =>
        obtain ⟨k,hk,rfl,GH,rfl⟩:=hrel;have HA:=DX GH;clear GH
        by_cases FV:k<u.size
        . have GU:decide (k<u.size)=true:=DZ FV
          have IX:=DX (show (u.data.toList.take (k+1)).all uP=((u.data.toList.take k).all uP&&uP u[k]) by rw [qA _ _ _ (by rw [JU.out];exact FV),YW.out k FV]);have HF:=DX (fun (h:uP u[k]=false)=>uD u.data.toList uP k 0 (by rw [JU.out];exact FV) (by rw [<- YW.out k FV];exact h))
          cases hv:uP u[k] with
          | true =>
           have HV:=DX hv;go_wp2_with fail
           refine (nL _ _).mono ?_
           rintro e w' ⟨rfl,rfl⟩;go_wp2;go_roundw
           case rel=>exact ⟨k+1,aE,by go_num,by rw [IX.out,HA.out,HV.out];rfl,by trivial⟩
           case measure=>simp [intOf];omega
          | false =>
           have HV:=DX hv;go_wp2_with fail
           refine (nL _ _).mono ?_
           rintro e w' ⟨rfl,rfl⟩;go_wp2;go_ret;rw [vI _ (HF.out HV.out)];exact ⟨rfl,rfl⟩
        . exact zZ
 . have PV:u.data.toList=[]:=List.length_eq_zero_iff.1 aE
   have GW:u.toList.isEmpty=true:=by rw [<- dU,PV];rfl
   have MA:((u.size:Int) == 0)=true:=beq_iff_eq.2 aE
   have IG:u.size=0:=by omega
   rw [PV,show fQ []=false from rfl];clear PV JU LW h0 IG;go_enter Tryz.func152,Tryz.ntmps152;go_wp2;go_ret;exact ⟨rfl,rfl⟩
theorem qY (u:ByteArray) (w:World) (hu:u.size<=9223372036854775807):Calls Tryz.prog 68 #[.string u] w fun e w'=>e=.returned (.bool (fQ u.data.toList))/\w=w':=by
 have LW:u.data.toList.length=u.size:=rfl;have JU:=DX LW
 by_cases h0:0<u.size
 . have GW:u.toList.isEmpty=false:=by
    exact Mn
   have MA:((u.size:Int) == 0)=false:=beq_eq_false_iff_ne.2 aE;have MT:=DX (dL u 0 h0);have YW:=DX (fun i (h:i<u.size)=>dL u i h);have ZA:=DX (show u.data.toList≠[] from fun e=>by rw [e] at LW;simp at LW;omega);clear LW
   by_cases h1:u[0].toNat=46
   . have d1:((u[0].toNat:Int) == 46)=true:=by first | exact DZ aE | exact beq_iff_eq.2 aE
     have HP:=DX (vJ u.data.toList (by rw [<- MT.out];assumption))
     (try clear h1)
     (try clear h2)
     exact Sz
   . have d1:((u[0].toNat:Int) == 46)=false:=by first | exact DY aE | exact beq_eq_false_iff_ne.2 aE
     by_cases h2:u[0].toNat=45
     . have d2:((u[0].toNat:Int) == 45)=true:=by first | exact DZ aE | exact beq_iff_eq.2 aE
       have HP:=DX (tD u.data.toList (by rw [<- MT.out];assumption))
       (try clear h1)
       (try clear h2)
       exact Sz
     . have d2:((u[0].toNat:Int) == 45)=false:=by first | exact DY aE | exact beq_eq_false_iff_ne.2 aE
       have HH1:=DX h1;have HH2:=DX h2;clear h1 h2;go_enter Tryz.func68,Tryz.ntmps68;go_wp2_with fail;go_loopw [3] (fun i wr=>∃ k:Nat,k<=u.size/\i=.int .i64 k/\(u.data.toList.take k).all uP=true/\w=wr) (fun i _=>u.size - (intOf i).toNat)
       case atStart=>exact Sx
       case round =>
        obtain ⟨k,hk,rfl,GH,rfl⟩:=hrel;have HA:=DX GH;clear GH
        by_cases FV:k<u.size
        . have GU:decide (k<u.size)=true:=DZ FV
          have IX:=DX (show (u.data.toList.take (k+1)).all uP=((u.data.toList.take k).all uP&&uP u[k]) by rw [qA _ _ _ (by rw [JU.out];exact FV),YW.out k FV]);have HF:=DX (fun (h:uP u[k]=false)=>uD u.data.toList uP k 0 (by rw [JU.out];exact FV) (by rw [<- YW.out k FV];exact h))
          cases hp:lE u[k] with
          | true =>
           have HV:=DX (mP (c:=u[k]) (.inl hp));exact Xo
          | false =>
           by_cases h5:65<=u[k].toNat
           . have d5:(decide ((65:Int)<=(u[k].toNat:Int)))=true:=by first | exact DZ aE | exact beq_iff_eq.2 aE
             by_cases h6:u[k].toNat<=90
             . have d6:(decide ((u[k].toNat:Int)<=90))=true:=by first | exact DZ aE | exact beq_iff_eq.2 aE
               have HV:=DX (mP (c:=u[k]) (.inr aE))
               (try clear h5)
               (try clear h6)
               (try clear h7)
               (try clear h8)
               (try clear h9)
               exact Xo
             . have d6:(decide ((u[k].toNat:Int)<=90))=false:=by first | exact DY aE | exact beq_eq_false_iff_ne.2 aE
               exact MX7
           . have d5:(decide ((65:Int)<=(u[k].toNat:Int)))=false:=by first | exact DY aE | exact beq_eq_false_iff_ne.2 aE
             exact MX7
        . exact zZ
 . have PV:u.data.toList=[]:=List.length_eq_zero_iff.1 aE
   have GW:u.toList.isEmpty=true:=by rw [<- dU,PV];rfl
   have MA:((u.size:Int) == 0)=true:=beq_iff_eq.2 aE
   have IG:u.size=0:=by omega
   rw [PV,show fQ []=false from rfl];clear PV JU LW h0;go_enter Tryz.func68,Tryz.ntmps68;go_wp2;go_ret;exact ⟨rfl,rfl⟩
theorem Bb (u:ByteArray) (w:World) (hu:u.size<=9223372036854775807):Calls Tryz.prog 67 #[.string u] w fun e w'=>e=.returned (.bool (eM u.data.toList))/\w=w':=by
 have LW:u.data.toList.length=u.size:=rfl;have JU:=DX LW
 by_cases h0:0<u.size
 . have MA:((u.size:Int) == 0)=false:=beq_eq_false_iff_ne.2 aE
   obtain ⟨m,hm⟩:∃ m,m=u.size - 1:=⟨_,rfl⟩
   have hmu:m<u.size:=by omega
   have hmi:(u.size:Int) - 1=(m:Int):=by omega
   have MT:=DX (dL u 0 h0);have NL:=DX (show u[m]=u.data.toList.getD (u.data.toList.length - 1) 0 by rw [dL u m hmu,LW,hm]);have HMS:=DX hm;have YW:=DX (fun i (h:i<u.size)=>dL u i h);have ZA:=DX (show u.data.toList≠[] from fun e=>by rw [e] at LW;simp at LW;omega);clear LW hm
   cases PX:lE u[0] with
   | false =>
    have HP:=DX (pJ u.data.toList (by rw [<- MT.out];exact PX));go_enter Tryz.func67,Tryz.ntmps67;exact Tm
   | true =>
    cases QM:lE u[m] with
    | false =>
     have HP:=DX (pK u.data.toList (by rw [<- NL.out];exact QM));go_enter Tryz.func67,Tryz.ntmps67;go_wp2_with fail
     refine (dD _ _).mono ?_
     rintro e w' ⟨rfl,rfl⟩;exact Tm
    | true =>
     have HQ0:=DX (show lE (u.data.toList.getD 0 0)=true by rw [<- MT.out];exact PX);have HQ1:=DX (show lE (u.data.toList.getD (u.data.toList.length - 1) 0)=true by rw [<- NL.out];exact QM);go_enter Tryz.func67,Tryz.ntmps67;go_wp2_with fail
     refine (dD _ _).mono ?_
     rintro e w' ⟨rfl,rfl⟩;go_wp2_with fail
     refine (dD _ _).mono ?_
     rintro e w' ⟨rfl,rfl⟩;rw [QM];clear PX QM hmi MA;go_wp2_with fail;go_loopw [3] (fun i wr=>∃ i':Nat,i'<=u.size/\i=.int .i64 i'/\dH [] u.data.toList=dH [] (u.data.toList.drop i')/\w=wr) (fun i _=>u.size - (intOf i).toNat)
     case atStart=>exact ⟨0,aE,rfl,by rw [List.drop_zero],by trivial⟩
     case round =>
      obtain ⟨i,JN,rfl,YQ,rfl⟩:=hrel;have QC:=DX YQ;clear YQ
      by_cases FV:i<u.size
      . have GU:decide (i<u.size)=true:=DZ FV
        have hdr:=rR u.data.toList i (by rw [JU.out];exact FV);have hbi:=YW.out i FV
        cases hp:lE u[i] with
        | true =>
         have QV:=DX (show dH [] u.data.toList=dH [] (u.data.toList.drop (i+1)) by
          rw [QC.out,hdr,<- hbi,iI _ _ _ hp,wF,Bool.true_and])
         clear hdr hbi;go_wp2_with fail
         refine (dD _ _).mono ?_
         rintro e w' ⟨rfl,rfl⟩;go_wp2;go_roundw
         case rel=>exact ⟨i+1,aE,by go_num,QV.out,by trivial⟩
         case measure=>simp [intOf];omega
        | false =>
         have HPI:=DX (show lE (u.data.toList.getD i 0)=false by rw [<- hbi];exact hp);clear hdr hbi;go_wp2_with fail
         refine (dD _ _).mono ?_
         rintro e w' ⟨rfl,rfl⟩;rw [hp];clear hp;go_wp2_with fail;go_loopw [4] (fun k wr=>∃ k':Nat,i<=k'/\k'<=u.size/\k=.int .i64 k'/\(∀ j,i<=j->j<k'->lE (u.data.toList.getD j 0)=false)/\w=wr) (fun k _=>u.size - (intOf k).toNat)
         case atStart=>exact ⟨i,aE,aE,rfl,fun j h1 h2=>by omega,by trivial⟩
         case round =>
          obtain ⟨k,hik,hku,rfl,hsk,rfl⟩:=hrel;have SU:=DX hsk;clear hsk
          by_cases PC:k<u.size
          . have JH:decide (k<u.size)=true:=DZ PC
            cases hpk:lE u[k] with
            | false =>
             have HPK:=DX (show lE (u.data.toList.getD k 0)=false by rw [<- YW.out k PC];exact hpk);go_wp2_with fail
             refine (dD _ _).mono ?_
             rintro e w' ⟨rfl,rfl⟩;go_wp2;go_roundw
             case rel=>exact ⟨k+1,aE,aE,by go_num,fun j h1 h2=>by
              by_cases e:j=k
              . subst e;exact HPK.out
              . exact SU.out j h1 aE,by trivial⟩
             case measure=>simp [intOf];omega
            | true =>
             have hki:i<k:=by
              by_cases e:i=k
              . subst e;have:=HPI.out;rw [<- YW.out i FV,hpk] at this;cases this
              . omega
             have hrn:dH [] u.data.toList=(jW (mF u.data.toList i k)&&dH [] (u.data.toList.drop k)):=by
              have h1:=rR u.data.toList k (by rw [JU.out];exact PC)
              have h2:lE (u.data.toList.getD k 0)=true:=by rw [<- YW.out k PC];exact hpk
              rw [QC.out,Gr u.data.toList i k aE (by rw [JU.out];omega) SU.out,h1,iI _ _ _ h2,iI _ _ _ h2,wF,Bool.true_and]
             have ZD:=DX hrn
             obtain ⟨v,hv⟩:∃ v,u.extract i k=v:=⟨_,rfl⟩
             have NF:v.data.toList=mF u.data.toList i k:=by rw [<- hv];exact nT u i k
             have hvs:v.size<=u.size:=by rw [<- hv,ByteArray.size_extract];omega
             rw [<- NF] at ZD;clear hrn NF;go_wp2_with fail
             refine (dD _ _).mono ?_
             rintro e w' ⟨rfl,rfl⟩;have XR:=DX (show jW v.data.toList=(v.data.toList == [46]||v.data.toList == [95]||v.data.toList == [95,95]||v.data.toList.all (· == 45)) from rfl);rw [hpk];clear hpk
             by_cases e1:v.toList=[46]
             . have f1:(v.toList == [46])=true:=beq_iff_eq.2 e1
               have UT:=DX (show jW v.data.toList=true by rw [XR.out,dU,f1];rfl);exact Kk
             . have f1:(v.toList == [46])=false:=beq_eq_false_iff_ne.2 e1
               by_cases e2:v.toList=[95]
               . have f2:(v.toList == [95])=true:=beq_iff_eq.2 e2
                 have UT:=DX (show jW v.data.toList=true by rw [XR.out,dU,f1,f2];rfl);exact Kk
               . have f2:(v.toList == [95])=false:=beq_eq_false_iff_ne.2 e2
                 by_cases e3:v.toList=[95,95]
                 . have f3:(v.toList == [95,95])=true:=beq_iff_eq.2 e3
                   have UT:=DX (show jW v.data.toList=true by rw [XR.out,dU,f1,f2,f3];rfl);exact Kk
                 . have f3:(v.toList == [95,95])=false:=beq_eq_false_iff_ne.2 e3
                   have UT:=DX (show jW v.data.toList=v.data.toList.all (· == 45) by rw [XR.out,dU,f1,f2,f3];rfl);have RP:=DX (show v.data.toList.length=v.size from rfl);have HVI:=DX (fun j (h:j<v.size)=>dL v j h);go_wp2_with fail;clear e1 e2 e3 f1 f2 f3 hv;go_loopw [6,7] (fun o j wr=>∃ j':Nat,j'<=v.size/\j=.int .i64 j'/\o=.bool ((v.data.toList.take j').all (· == 45))/\w=wr) (fun _ j _=>v.size - (intOf j).toNat)
                   case atStart=>exact Sx
                   case round =>
                    obtain ⟨j,hj,rfl,rfl,rfl⟩:=hrel
                    by_cases YM:j<v.size
                    . have ZK:decide (j<v.size)=true:=DZ YM
                      have PL:=qA v.data.toList (· == 45) j (by rw [RP.out];exact YM);rw [<- HVI.out j YM] at PL;have hbq:(v[j] == (45:UInt8))=decide (v[j].toNat=45):=fL v[j] 45 aE;rw [hbq] at PL
                      generalize (v.data.toList.take j).all (· == 45)=A at PL ⊢
                      obtain ⟨B,hB⟩:∃ B,(v.data.toList.take (j+1)).all (· == 45)=B:=⟨_,rfl⟩
                      rw [hB] at PL;have HBE:=DX hB;clear hB;clear hbq
                      by_cases hx:v[j].toNat=45
                      . have g1:((v[j].toNat:Int) == 45)=true:=beq_iff_eq.2 aE
                        rw [DZ hx,Bool.and_true] at PL;have IX:=DX (HBE.out.trans PL);clear hx PL HBE
                        cases A with
                        | true =>
                         exact Od
                        | false =>
                         exact Od
                      . have g1:((v[j].toNat:Int) == 45)=false:=beq_eq_false_iff_ne.2 aE
                        rw [DY hx,Bool.and_false] at PL;have IX:=DX (HBE.out.trans PL);clear hx PL HBE
                        cases A with
                        | true =>
                         exact Od
                        | false =>
                         exact Od
                    . obtain rfl:j=v.size:=by omega
                      have ZK:decide (v.size<v.size)=false:=DY aE;rw [EE (by rw [RP.out];omega)];have HOK2:=UT;rw [<- HOK2.out]
                      cases JR:jW v.data.toList with
                      | true =>
                       go_wp2;go_roundw
                       case rel=>exact ⟨k,aE,rfl,by rw [ZD.out,JR,Bool.true_and],by trivial⟩
                       case measure=>simp [intOf];omega
                      | false =>
                       have HP:=DX (oW u.data.toList (by rw [ZD.out,JR];rfl));go_wp2;go_ret;rw [HP.out];exact ⟨rfl,rfl⟩
          . have JH:decide (k<u.size)=false:=DY PC
            exfalso
            have h1:=SU.out m (by have:=HMS.out;omega) aE;have h2:=HQ1.out;rw [<- NL.out,YW.out m hmu] at h2;rw [h2] at h1;cases h1
      . obtain rfl:i=u.size:=by omega
        have GU:decide (u.size<u.size)=false:=DY aE;have HP:=DX (sO u.data.toList ZA.out HQ0.out HQ1.out (by rw [QC.out,List.drop_of_length_le (by rw [JU.out];omega),uF]));go_wp2;go_ret;rw [HP.out];exact ⟨rfl,rfl⟩
 . have PV:u.data.toList=[]:=List.length_eq_zero_iff.1 aE
   have MA:((u.size:Int) == 0)=true:=beq_iff_eq.2 aE
   have IG:u.size=0:=by omega
   rw [PV,show eM []=false from rfl];clear PV JU LW h0;go_enter Tryz.func67,Tryz.ntmps67;go_wp2;go_ret;exact ⟨rfl,rfl⟩
end Go.Proofs.YtkfmladhicapeaaGreatDoor
namespace Go.Proofs.YtkfmladhicapeaaGreatDoor
open Go.RowKit Go.Shelf
attribute [local go_sem] Oper.semAt_some
def Ic (s:ByteArray) (k:Nat):ByteArray:=s.extract (cM s.data.toList k) (bH s.data.toList (cM s.data.toList k))
theorem sY (s:ByteArray) (k:Nat):(Ic s k).data.toList=eO s.data.toList k:=nT s _ _
theorem pO (s:ByteArray) (k:Nat):(Ic s k).size<=s.size:=by unfold Ic;rw [ByteArray.size_extract];omega
theorem Ak (s:ByteArray) (w:World) :
 Calls Tryz.prog 153 #[.string s] w fun e w'=>e=.returned (.func (.func 178) #[] #[.pointer (some ⟨w.heap.size,0,none⟩)])/\w'=w.alloc (.cells #[.string s] 9):=by
 go_enter Tryz.func153,Tryz.ntmps153;go_wp2;go_ret;exact ⟨rfl,rfl⟩
theorem rB (n:Nat) (hn:1<=n) (R:Nat->Prop) (s:ByteArray) (hs:s.size<=1000000) (pt:Nat) (w:World)
 (hRt:¬ R pt) (hpt:aA w pt #[.string s] 9) :
 SeqStopsK Fence.wide n Tryz.prog 178 #[.pointer (some ⟨pt,0,none⟩)]
  (fun k:{ k:Nat // k<fA s.data.toList }=>#[Value.string (Ic s k.1)]) (aV R)
  (fun xs=>lU xs=List.range (fA s.data.toList)) (fun pre=>∃ k,k<fA s.data.toList/\lU pre=List.range (k+1)) (fA s.data.toList) w:=fun l J Jx W hW hJ _ hY h0=>by
 have hT:=hpt.kept hW;have JU:=DX (show s.data.toList.length=s.size from rfl);have YW:=DX (fun i (h:i<s.size)=>dL s i h)
 refine callsIn_of_wp Tryz.func178 rfl trivial ?_ rfl
 simp only [Tryz.ntmps178,List.size_toArray,List.length_nil,List.length_cons,Nat.reduceAdd,Nat.reduceSub,Array.replicate_succ,Array.replicate_zero,List.push_toArray,List.append_toArray,List.nil_append,List.cons_append];have HJ:=DX h0;have HTT:=DX hT;clear hpt hW h0 hT;have WX:=DX (fun k=>iB s.data.toList k);have HCL:=DX (fun k=>show k<fA s.data.toList↔cM s.data.toList k<=s.size from lL s.data.toList k);have UU:=DX (fun low (h:low<=s.size)=>show low<=bH s.data.toList low/\bH s.data.toList low<=s.size from ⟨kO _ _,pZ s.data.toList low h⟩)
 have HSI:=DX (fun low j (h1:low<=j) (h2:j<bH s.data.toList low) (hj:j<s.size)=>show ¬ s[j].toNat=47 from fun e=>by
  have h3:=Dm s.data.toList low j h1 h2;have hq:(s[j] == (47:UInt8))=decide (s[j].toNat=47):=fL s[j] 47 aE;rw [<- dL s j hj,hq,DZ e] at h3
  cases h3)
 have HSA:=DX (fun low (h:low<=s.size) (h2:bH s.data.toList low<s.size)=>show (s[bH s.data.toList low]'h2).toNat=47 from by
  have h3:=Dn s.data.toList low h h2;have hq:((s[bH s.data.toList low]'h2) == (47:UInt8))=decide ((s[bH s.data.toList low]'h2).toNat=47):=fL _ 47 aE;rw [<- dL s _ h2,hq] at h3
  exact of_decide_eq_true h3)
 gi_wp2
 refine Cq ?_
 gi_wp2
 refine wpIn_label ?_
 have c1:=fC HTT.out;gi_wp2_with fail;gi_loopw [3] (fun i wr=>∃ k m:Nat,m=cM s.data.toList k/\k<=fA s.data.toList/\m<=s.size+1/\i=.int .i64 m/\aA wr pt #[.string s] 9/\∃ pre:List { k:Nat // k<fA s.data.toList },lU pre=List.range k/\J pre wr) (fun i _=>s.size+2 - (intOf i).toNat)
 case atStart=>exact ⟨0,0,rfl,aE,aE,rfl,HTT.out,[],rfl,HJ.out⟩
 case round =>
  obtain ⟨k,m,hm,hk,PJ,rfl,hT,pre,JZ,XA⟩:=hrel;have c1:=fC hT;have HT:=DX hT;have LY:=DX JZ
  have GM:pre.length=k:=by have:=congrArg List.length JZ;rw [fH] at this;simpa using this
  have TS:=DX GM;have PB:=HCL.out k;rw [<- hm] at PB
  have hpc:Ic s k=s.extract m (bH s.data.toList m):=by rw [hm];rfl
  have PZ:=WX.out k;rw [<- hm] at PZ;have HM:=DX hm;have SD:=DX PZ;have KQ:=DX PB;clear JZ GM hT hm PB PZ
  by_cases LA:m<=s.size
  . have GU:decide (m<=s.size)=true:=DZ LA
    have JE:k<fA s.data.toList:=KQ.out.2 LA;obtain ⟨hme,hes⟩:=UU.out m LA;have IJ:=DX (HSI.out m);have JA:=DX (HSA.out m LA);obtain ⟨f1,t1,a1,b1,MW,hR1⟩:=hY pre ⟨k,JE⟩ wr XA (by rw [TS.out];exact JE);simp only [hpc] at MW;clear hpc;generalize hE:bH s.data.toList m=E at *
    have IT:∀ (e:Ending) (W3:World),(e=.returned (.bool true)/\J (pre++[⟨k,JE⟩]) W3/\aV R wr W3\/e=.returned (.bool false)/\Jx (pre++[⟨k,JE⟩]) W3)->(e=.returned (.bool true)/\aA W3 pt #[.string s] 9/\J (pre++[⟨k,JE⟩]) W3)\/(e=.returned (.bool false)/\Jx (pre++[⟨k,JE⟩]) W3):=fun e W3 h=>by
     exact So
    have TQ:=DX IT;clear IT XA hE
    obtain ⟨wz,rfl⟩:∃ wz,wz=wr:=⟨_,rfl⟩
    gi_wp2_with fail
    refine tL ?_
    gi_wp2_with fail
    refine wpIn_label ?_
    gi_wp2_with fail;gi_loopw [4] (fun h wx=>∃ h':Nat,m<=h'/\h'<=E/\h=.int .i64 h'/\wz=wx) (fun h _=>s.size - (intOf h).toNat)
    case atStart=>exact ⟨m,aE,aE,rfl,by trivial⟩
    case round =>
     obtain ⟨h,hmh,hhE,rfl,rfl⟩:=hrel
     by_cases hhs:h<s.size
     . have JH:decide (h<s.size)=true:=DZ hhs
       by_cases hh:h<E
       . have hb:((s[h].toNat:Int) == 47)=false:=beq_eq_false_iff_ne.2 (by have:=IJ.out h hmh hh hhs;omega)
         gi_wp2;go_roundw
         case rel=>exact ⟨h+1,aE,aE,by go_num,by trivial⟩
         case measure=>simp [intOf];omega
       . obtain rfl:h=E:=by omega
         have hb:((s[h].toNat:Int) == 47)=true:=beq_iff_eq.2 (by have:=JA.out hhs;omega);exact Wd
     . obtain rfl:h=E:=by omega
       have JH:decide (h<s.size)=false:=DY hhs;exact Wd
  . have GU:decide (m<=s.size)=false:=DY LA
    have hke:k=fA s.data.toList:=by
     have:¬ k<fA s.data.toList:=fun h=>LA (KQ.out.1 h)
     omega
    have OS:=DX hke;clear hke hpc;gi_wp2;rw [Exit.noGoto_normal];go_end0;exact ⟨⟨_,rfl⟩,.inl ⟨pre,by rw [LY.out,OS.out],XA⟩⟩
end Go.Proofs.YtkfmladhicapeaaGreatDoor
namespace Go.Proofs.YtkfmladhicapeaaGreatDoor
open Go.RowKit Go.Shelf
def gW (l:List UInt8):Nat:=(l.takeWhile (fun c=>!(c == 58))).length
theorem yQ (l:List UInt8):gW l<=l.length:=(List.takeWhile_sublist _).length_le
theorem wC:∀ l:List UInt8,Lib.index l [58]=if gW l<l.length then (gW l:Int) else -1
 | []=>rfl
 | b :: l=>by
  have ih:=wC l
  have hb:([58]:List UInt8).isPrefixOf (b :: l)=(b == 58):=by
   simp [List.isPrefixOf]
   rw [Bool.eq_iff_iff]
   simp
   exact eq_comm
  rw [Lib.index,hb]
  by_cases h:b=58
  . subst h
    have hc:gW (58 :: l)=0:=rfl;rw [hc,if_pos uN,if_pos (by simp)];rfl
  . have h1:(b == 58)=false:=beq_eq_false_iff_ne.2 h
    have hc:gW (b :: l)=gW l+1:=by unfold gW;rw [List.takeWhile_cons,h1];rfl
    rw [h1,hc,if_neg Bool.false_ne_true,ih]
    by_cases hl:gW l<l.length
    . rw [if_pos hl,if_neg (by rw [beq_iff_eq];omega),if_pos (by rw [List.length_cons];omega)]
      rfl
    . rw [if_neg hl,if_pos uN,if_neg (by rw [List.length_cons];omega)]
def kU (s:ByteArray):Bool:=decide (gW s.data.toList<s.data.toList.length)
def aR (s:ByteArray):ByteArray:=s.extract 0 (gW s.data.toList)
def iO (s:ByteArray):ByteArray:=if kU s=true then s.extract (gW s.data.toList+1) s.size else ⟨#[]⟩
def oI:ByteArray:=⟨#[108,97,116,101,115,116]⟩
def gJ (s:ByteArray):ByteArray:=if kU s=true then iO s else oI
theorem Ny (s:ByteArray):(⟨(Lib.cut s.data.toList [58]).1.toArray⟩:ByteArray)=aR s/\(⟨(Lib.cut s.data.toList [58]).2.1.toArray⟩:ByteArray)=iO s/\(Lib.cut s.data.toList [58]).2.2=kU s:=by
 have hi:=wC s.data.toList;unfold Lib.cut iO kU aR;rw [hi]
 by_cases h:gW s.data.toList<s.data.toList.length
 . rw [if_pos h,if_pos aE,DZ h,if_pos rfl]
   refine ⟨?_,?_,rfl⟩
   . apply ByteArray.ext
     apply Array.toList_inj.1
     rw [nT];unfold mF
     simp
   . apply ByteArray.ext
     apply Array.toList_inj.1
     rw [nT];unfold mF
     show s.data.toList.drop (((gW s.data.toList:Int)).toNat+[(58:UInt8)].length)=_
     rw [show ((gW s.data.toList:Int)).toNat+[(58:UInt8)].length=gW s.data.toList+1 from rfl,EE (by rw [List.length_drop];show _<=s.data.toList.length - _;exact EA _)]
 . have h2:=yQ s.data.toList
   have h3:gW s.data.toList=s.data.toList.length:=by omega
   rw [if_neg h,if_neg aE,DY h,if_neg Bool.false_ne_true];refine ⟨?_,rfl,rfl⟩
   apply ByteArray.ext
   apply Array.toList_inj.1
   rw [nT,h3];exact Rk
theorem Lk (s:ByteArray) (m:Int) (w:World) (hs:s.size<4294967281) (hm:w.cell? ⟨2,0,none⟩=some (.int .i64 m)) :
 Calls Tryz.prog 151 #[.string s,.string ⟨#[58]⟩] w fun e w'=>e=.returned (.tuple (LT (aR s) (iO s) (kU s)))/\aB w w':=by
 have h:=CE s ⟨#[58]⟩ m w hs hm;obtain ⟨h1,h2,h3⟩:=Ny s;rw [show (⟨#[58]⟩:ByteArray).data.toList=[58] from rfl,h1,h2,h3] at h
 refine h.mono ?_
 rintro e w' ⟨h4,n,rfl⟩;exact ⟨h4,(EX _).drewN n⟩
theorem oE (s:ByteArray):(aR s).size<=s.size:=by unfold aR;rw [ByteArray.size_extract];omega
theorem qD (s:ByteArray):(iO s).size<=s.size:=by
 unfold iO
 split
 . rw [ByteArray.size_extract];omega
 . exact Nat.zero_le _
noncomputable def jP (s:ByteArray):Bool:=hQ (aR s).data.toList (fA (aR s).data.toList)
noncomputable def dV (s:ByteArray):Bool:=decide (s.size<=40)&&((!kU s||fQ (iO s).data.toList)&&jP s)
end Go.Proofs.YtkfmladhicapeaaGreatDoor
namespace Go.Proofs.YtkfmladhicapeaaGreatDoor
open Go.ChangeShapes Go.WideShapes Go.ChangeAt Go.RowKit Go.Joins Go.Deep
theorem DF:Tryz.prog.bytesOf 62=40:=by kernel_rfl
theorem CY:Tryz.prog.cellsOf 62=3:=by kernel_rfl
theorem Vf {H:Type} {enc:TypeId × Value->H} {W:World} {fuel:Nat} {v:Value} {y:DataW H × List MemPlace}
 (h0:DataW.trod enc Tryz.prog W 0 (fun _=>true) true fuel 22 [v]=some y) (hz:∀ n∈y.1.weights Tryz.prog 22,n<=reachBytes):∃ a len cap ts,v=.slice a len cap/\bO W a len ts:=by
 rcases iW ER Tryz.underlying62 aW CY h0 with ⟨JW,_⟩ | ⟨a,len,cap,m,D,Pl,JW,_,hl,hm,WI,hx,hf⟩
 . simp only [List.cons.injEq,and_true] at JW
   exact ⟨none,0,0,[],JW,⟨rfl,aE,(fun x hx=>by cases hx),0,0,fun h=>absurd h (EJ 0),fun i hi=>absurd hi (Nat.not_lt_zero i)⟩⟩
 . simp only [List.cons.injEq,and_true] at JW
   simp only [if_true] at WI;subst WI;unfold maxLen at hm
   by_cases hp:0<len
   . obtain ⟨b,off,spot⟩:=a
     have RJ:spot=none:=by
      exact Ph
     subst RJ
     obtain ⟨ts,hrl,hr⟩:=oM aX len (fun i r=>(r.d.size<=140737488351232/\r.t.size<=140737488351232)/\b<W.heap.size/\W.cell? ⟨b,off+i*3,none⟩=some (.string r.d)/\W.cell? ⟨b,off+i*3+1,none⟩=some (.string r.t)/\W.cell? ⟨b,off+i*3+2,none⟩=some (.bool r.m)) (fun i hi=>by
      obtain ⟨ys,n,hD,_,_,UC⟩:=hf i aE;obtain ⟨v0,y0,RQ,VJ,ht0⟩:=UC 0 _ rfl;obtain ⟨v1,y1,YK,MW,ht1⟩:=UC 1 _ rfl;obtain ⟨v2,y2,hc2,hy2,ht2⟩:=UC 2 _ rfl
      have hW:∀ (j:Nat) (t:TypeId) (d:DataW H),(ys.map (·.1))[j]?=some d->(∀ q∈d.weights Tryz.prog t,q∈DataW.weights Tryz.prog 62 (.agg (ys.map (·.1))))->∀ q∈d.weights Tryz.prog t,q<=reachBytes:=fun j t d _ JN q hq=>by
       refine hz q ?_
       rw [hx];simp only [DataW.weights,ER,List.mem_cons,List.mem_append];exact Pw
      have w0:=hW 0 9 y0.1 (by rw [List.getElem?_map,VJ];rfl) (fun q hq=>by
       simp only [DataW.weights,Tryz.underlying62]
       exact DataW.weights_mem_each (j:=0) (t:=9) (d:=y0.1) uN (by rw [List.getElem?_map,VJ];rfl) q hq)
      have w1:=hW 1 9 y1.1 (by rw [List.getElem?_map,MW];rfl) (fun q hq=>by
       simp only [DataW.weights,Tryz.underlying62]
       exact DataW.weights_mem_each (j:=1) (t:=9) (d:=y1.1) uN (by rw [List.getElem?_map,MW];rfl) q hq)
      obtain ⟨d,KU,rfl,_⟩:=DataW.trod_string EN ht0;obtain ⟨t,RV,rfl,_⟩:=DataW.trod_string EN ht1;obtain ⟨m,VG,rfl⟩:=DataW.trod_bool EL ht2;simp only [List.cons.injEq,and_true] at KU RV VG;subst KU;subst RV;subst VG;have s0:=w0 d.data.toList.length (by simp [DataW.weights]);have s1:=w1 t.data.toList.length (by simp [DataW.weights]);unfold reachBytes at s0 s1;rw [add_plain] at RQ YK hc2;simp only [List.size_toArray,List.length_cons,List.length_nil,Nat.reduceAdd,Nat.add_zero,<- Nat.add_assoc] at RQ YK hc2
      exact ⟨⟨d,t,m⟩,⟨s0,s1⟩,World.block_lt_of_cell? _ _ RQ,RQ,YK,hc2⟩)
     have ZH:len*40<=reachBytes:=by
      have:=jY ER (a:=some ⟨b,off,none⟩) (l:=len) (cap:=m) (by rw [<- JW];exact h0) hz;rw [DF] at this;exact this
     exact Ol
   . obtain rfl:len=0:=by omega
     exact ⟨_,0,m,[],JW,⟨rfl,aE,(fun x hx=>by cases hx),0,0,fun h=>absurd h (EJ 0),fun i hi=>absurd hi (Nat.not_lt_zero i)⟩⟩
structure Af (W:World) (a:Option Addr) (len:Nat) (tt:List (List Th)):Prop where
 len_eq:tt.length=len
 few:len<=5864062014805
 cells:∃ b off,(0<len->a=some ⟨b,off,none⟩)/\∀ i,i<len->b<W.heap.size/\∃ ax cx,W.cell? ⟨b,off+i,none⟩=some (.slice ax (tt.getD i []).length cx)/\bO W ax (tt.getD i []).length (tt.getD i [])
theorem Af.kept {W W':World} {a:Option Addr} {len:Nat} {tt:List (List Th)} (h:Af W a len tt) (k:aB W W'):Af W' a len tt:=by
 obtain ⟨b,off,ha,hc⟩:=h.cells;refine ⟨h.len_eq,h.few,b,off,ha,fun i hi=>?_⟩;obtain ⟨hb,ax,cx,h1,h2⟩:=hc i hi;exact ⟨EG hb k.size,ax,cx,k.cell hb h1,h2.kept k⟩
theorem Af.row {W:World} {a:Option Addr} {len:Nat} {tt:List (List Th)} (h:Af W a len tt) (hl:0<len):∃ b off,a=some ⟨b,off,none⟩/\∀ i,i<len->∃ ax cx,(∀ w,aB W w->w.cell? ⟨b,off+i,none⟩=some (.slice ax (tt.getD i []).length cx))/\bO W ax (tt.getD i []).length (tt.getD i []):=by
 obtain ⟨b,off,ha,hc⟩:=h.cells;refine ⟨b,off,ha hl,fun i hi=>?_⟩;obtain ⟨hb,ax,cx,h1,h2⟩:=hc i hi;exact ⟨ax,cx,fun w k=>k.cell hb h1,h2⟩
end Go.Proofs.YtkfmladhicapeaaGreatDoor
namespace Go.Proofs.YtkfmladhicapeaaGreatDoor
open Go.RowKit Go.Shelf
theorem fN {w a b:World} {row:Option Nat} (h:w.grownBy a row) (k:a.grownBy b row):w.grownBy b row :=
 ⟨k.os.trans h.os,k.tape.trans h.tape,k.output.trans h.output,EF h.size k.size,fun i hi GW=>(k.block i (EG hi h.size) GW).trans (h.block i hi GW)⟩
theorem bZ {base:Nat} {e:TypeId} {k g n cap:Nat}:∀ (vs:List Value) (o:Nat) (w:World) (xs:List Value),w.ownsRow base e k (.slice (some ⟨g,0,none⟩) n cap) n xs->o+vs.length<=xs.length ->
 (w.setCells g o vs).ownsRow base e k (.slice (some ⟨g,0,none⟩) n cap) n (xs.take o++vs++xs.drop (o+vs.length))/\w.grownBy (w.setCells g o vs) (some g)
 | [],o,w,xs,h,_=>by
  rw [World.setCells];simp only [List.append_nil,List.length_nil,Nat.add_zero,List.take_append_drop];exact ⟨h,⟨rfl,rfl,rfl,EA _,fun _ _ _=>rfl⟩⟩
 | v :: r,o,w,xs,h,hl=>by
  simp only [List.length_cons] at hl;obtain ⟨h1,g1⟩:=h.stored o v;obtain ⟨h2,g2⟩:=bZ r (o+1) _ _ h1 (by rw [List.length_set];omega);rw [World.setCells];refine ⟨?_,fN g1 g2⟩
  have e1:(xs.set o v).take (o+1)=xs.take o++[v]:=by
   rw [List.take_succ_eq_append_getElem (by rw [List.length_set];omega),List.take_set_of_le (EA o)]
   simp
  have e2:(xs.set o v).drop (o+1+r.length)=xs.drop (o+(r.length+1)):=by
   rw [List.drop_set_of_lt aE,show o+1+r.length=o+(r.length+1) by omega]
  rw [e1,e2] at h2
  simpa using h2
theorem nQ {w:World} {base:Nat} {e:TypeId} {k g n cap:Nat} {xs:List Value} (h:w.ownsRow base e k (.slice (some ⟨g,0,none⟩) n cap) n xs) {m:Nat} (hm:m<=n) :
 w.ownsRow base e k (.slice (some ⟨g,0,none⟩) m cap) m (xs.take (m*k)):=by
 have hmk:m*k<=n*k:=Nat.mul_le_mul_right _ hm;refine ⟨by rw [List.length_take,h.1];omega,?_⟩
 rcases h.2 with ⟨h',_⟩ | ⟨g',cap',cur,h',hb,hg,NJ,PS,JW,htake⟩
 . simp at h'
 . simp only [Value.slice.injEq,Option.some.injEq,Addr.mk.injEq,and_true,true_and] at h'
   obtain ⟨rfl,rfl⟩:=h'
   refine .inr ⟨g,cap,cur,rfl,hb,hg,aE,PS,JW,?_⟩
   rw [<- htake,List.take_take,Nat.min_eq_left hmk]
theorem iK {w:World} {base:Nat} {e:TypeId} {k g n cap:Nat} {xs:List Value} (h:w.ownsRow base e k (.slice (some ⟨g,0,none⟩) n cap) n xs):n<=cap/\cap<=maxLen/\base<=g:=by
 rcases h.2 with ⟨h',_⟩ | ⟨g',cap',cur,h',hb,hg,NJ,PS,JW,htake⟩
 . simp at h'
 . simp only [Value.slice.injEq,Option.some.injEq,Addr.mk.injEq,and_true,true_and] at h'
   obtain ⟨rfl,rfl⟩:=h';exact ⟨NJ,PS,hb⟩
theorem bK {w:World} {base:Nat} {e:TypeId} {k g n cap:Nat} {xs:List Value} (h:w.ownsRow base e k (.slice (some ⟨g,0,none⟩) n cap) n xs) (j:Nat) (hj:j<cap*k):(w.cell? ⟨g,j,none⟩).isSome=true/\w.frozen? ⟨g,j,none⟩=false:=by
 refine ⟨?_,h.frozenAt j⟩
 rcases h.2 with ⟨h',_⟩ | ⟨g',cap',cur,h',hb,hg,NJ,PS,JW,htake⟩
 . simp at h'
 . simp only [Value.slice.injEq,Option.some.injEq,Addr.mk.injEq,and_true,true_and] at h'
   obtain ⟨rfl,rfl⟩:=h';rw [cell_of_row w g j cur e (0,0) hg]
   simp [JW,hj]
theorem kK {P:Program} (w:World) (t e ty:TypeId) (z:Value) (zs:List Value) (ht:P.underlying t=some (.slice e)) (hv:∀ w,(zeroValue e).run P w=.ok z w) (hz:z.cells=zs.toArray) (h1:∀ u∈zs,u.oneCell'=true) (b o c:Nat)
 (hc:∀ j,j<zs.length->(w.cell? ⟨b,o+j,none⟩).isSome=true) (hf:∀ j,j<zs.length->w.frozen? ⟨b,o+j,none⟩=false) :
 (Builtin.clear_ #[t] ty #[.slice (some ⟨b,o,none⟩) 1 c]).run P w=.ok (.tuple #[]) (w.setCells b o zs):=by
 have hzc:(Builtin.zeroCells z.cells 1).toList=zs:=by
  rw [hz];unfold Builtin.zeroCells
  apply List.ext_getElem
  . simp
  . intro i h1 h2
    have:i<zs.length:=by simpa using h2
    simp [Nat.mod_eq_of_lt this,this]
 have GL:=run_storeCells_cells (P:=P) b o zs 0 w (by simpa using hc) (by simpa using hf) h1;simp only [Nat.add_zero] at GL
 simp [Builtin.clear_,run_underlying ht,hv,hzc,GL]
end Go.Proofs.YtkfmladhicapeaaGreatDoor
