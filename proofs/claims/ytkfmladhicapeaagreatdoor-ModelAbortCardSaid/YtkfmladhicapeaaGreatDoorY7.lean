import Derived.Test.YtkfmladhicapeaaGreatDoorY6
set_option maxRecDepth 100000
set_option maxHeartbeats 4000000
namespace Go.Proofs.YtkfmladhicapeaaGreatDoor
open Go.RowKit Go.Shelf
attribute [local go_sem] Oper.semAt_some
def Cp (w:World) (o:Option Mf) (e:Ending) (w':World):Prop :=
 (o=none->e=.returned (.tuple #[.agg (LM 0 none 0 0 none 0 0),.bool false])) /\
 (∀ m,o=some m->∃ ab cb au cu,e=.returned (.tuple #[.agg (LM m.k ab m.bs.length cb au m.us.length cu),.bool true])/\m.bs.length<=cb/\bD w' ab m.bs.length m.bs/\bD w' au m.us.length m.us)/\aB w w'
theorem Ih {a:ByteArray} (h:¬ a=xR):(a.toList != [77,65,78,70])=true/\(a.toList == [77,65,78,70])=false/\¬ a.toList=[77,65,78,70]:=by
 have h1:¬ a.toList=[77,65,78,70]:=fun e=>h (lV (e.trans (by decide +kernel)))
 exact ⟨by simpa using h1,by simpa using h1,h1⟩
theorem Em {a:ByteArray} (h:a=xR):(a.toList != [77,65,78,70])=false/\(a.toList == [77,65,78,70])=true/\a.toList=[77,65,78,70]:=by
 have h1:a.toList=[77,65,78,70]:=by rw [h];decide +kernel
 exact ⟨by simpa using h1,by simpa using h1,h1⟩
theorem Dc (s:ByteArray) (w:World) (h:¬ (7<=s.size/\s.extract 0 4=xR/\s.size=7+32*((fK s 5).toNat+(fK s 6).toNat))):Calls Tryz.prog 66 #[.string s] w (Cp w none):=by
 have QT:=DX ((EX w).alloc ((KM 0 none 0 0 none 0 0)));have HR:=DX (EY w (LM 0 none 0 0 none 0 0) 85);generalize KK:w.alloc ((KM 0 none 0 0 none 0 0))=w1 at *;have ZE:=DX KK;clear KK
 have IT:∀ (nq:Nat) (tmps:Array Value),tmps.getD 2 undef=.pointer (some ⟨w.heap.size,0,none⟩)->tmps.getD 3 undef=.bool false->True:=fun _ _ _ _=>trivial
 clear IT
 by_cases h7:7<=s.size
 . have GU:decide ((s.size:Int)<7)=false:=DY aE
   by_cases hx:s.extract 0 4=xR
   . obtain ⟨g1,g2,g3⟩:=Em hx
     have hn:¬ s.size=7+32*((fK s 5).toNat+(fK s 6).toNat):=fun e=>h ⟨h7,hx,e⟩
     have hi5:5<s.size:=by omega
     have hi6:6<s.size:=by omega
     have e5:=lI s 5 hi5;have e6:=lI s 6 hi6
     have ZI:(fK s 5).toNat<256:=UInt8.toNat_lt _
     have RD:(fK s 6).toNat<256:=UInt8.toNat_lt _
     have h5i:((s[5]).toNat:Int)=(((fK s 5).toNat:Nat):Int):=by rw [e5]
     have h6i:((s[6]).toNat:Int)=(((fK s 6).toNat:Nat):Int):=by rw [e6]
     clear e5 e6
     generalize (fK s 5).toNat=b5 at *
     generalize (fK s 6).toNat=b6 at *
     obtain ⟨n,NV⟩:∃ n,n=b5+b6:=⟨_,rfl⟩
     obtain ⟨m,TE⟩:∃ m,m=32*n:=⟨_,rfl⟩
     obtain ⟨q,WN⟩:∃ q,q=7+m:=⟨_,rfl⟩
     have s1:(b5:Int)+(b6:Int)=(n:Int):=by omega
     have s2:32*(n:Int)=(m:Int):=by omega
     have s3:7+(m:Int)=(q:Int):=by omega
     have s4:((s.size:Int) != (q:Int))=true:=by rw [bne_iff_ne];omega
     have w1':IntKind.i64.wrap (n:Int)=(n:Int):=IntWalk.i64_in _ aE;have w2':IntKind.i64.wrap (m:Int)=(m:Int):=IntWalk.i64_in _ aE;have w3':IntKind.i64.wrap (q:Int)=(q:Int):=IntWalk.i64_in _ aE;clear NV TE WN hn hx h;exact Va
   . obtain ⟨g1,g2,g3⟩:=Ih hx
     clear hx h;exact Va
 . have GU:decide ((s.size:Int)<7)=true:=DZ aE
   clear h;exact Va
theorem Un (s:ByteArray) (k:Nat):s.extract (7+32*k) (39+32*k)=gE (oL s) k:=by
 apply pT
 rw [vY,Bg,mW,List.drop_drop,List.drop_take]
 congr 1
 . omega
 . congr 1
   omega
theorem Cu (s:ByteArray) (wo:World) (h7:7<=s.size) (hx:s.extract 0 4=xR) (IG:s.size=7+32*((fK s 5).toNat+(fK s 6).toNat)) :
 Calls Tryz.prog 66 #[.string s] wo (Cp wo (if rY (eR s)=true then some (eR s) else none)):=by
 have XV:=DX (show eR s=⟨((fK s 4).toNat:Int),(mS (oL s)).take (fK s 5).toNat,(mS (oL s)).drop (fK s 5).toNat⟩ from rfl)
 have HDL:=DX (show mS (oL s)=(List.range ((fK s 5).toNat+(fK s 6).toNat)).map (gE (oL s)) by
  have e:mH (oL s)=(fK s 5).toNat+(fK s 6).toNat:=by unfold mH;rw [sV];omega
  unfold mS
  rw [e])
 have HDZ:=DX (show ∀ k,k<(fK s 5).toNat+(fK s 6).toNat->(gE (oL s) k).size=32 from fun k hk=>nF (by
  have e:mH (oL s)=(fK s 5).toNat+(fK s 6).toNat:=by unfold mH;rw [sV];omega
  omega))
 have HDX:=DX (Un s);generalize eR s=rm at XV ⊢;generalize oL s=t at XV HDL HDZ HDX
 obtain ⟨O,hO⟩:∃ O,O=(if rY rm=true then some rm else none):=⟨_,rfl⟩
 rw [<- hO];have HO0:=DX hO;clear hO
 have hi4:4<s.size:=by omega
 have e4:=lI s 4 hi4
 have h4i:((s[4]).toNat:Int)=(((fK s 4).toNat:Nat):Int):=by rw [e4]
 have IM:(fK s 4).toNat<256:=UInt8.toNat_lt _
 clear e4
 generalize (fK s 4).toNat=b4 at *
 have GU:decide ((s.size:Int)<7)=false:=DY aE;obtain ⟨g1,g2,g3⟩:=Em hx
 have hi5:5<s.size:=by omega
 have hi6:6<s.size:=by omega
 have e5:=lI s 5 hi5;have e6:=lI s 6 hi6
 have ZI:(fK s 5).toNat<256:=UInt8.toNat_lt _
 have RD:(fK s 6).toNat<256:=UInt8.toNat_lt _
 have h5i:((s[5]).toNat:Int)=(((fK s 5).toNat:Nat):Int):=by rw [e5]
 have h6i:((s[6]).toNat:Int)=(((fK s 6).toNat:Nat):Int):=by rw [e6]
 clear e5 e6 hx
 generalize (fK s 5).toNat=b5 at *
 generalize (fK s 6).toNat=b6 at *
 obtain ⟨n,NV⟩:∃ n,n=b5+b6:=⟨_,rfl⟩
 rw [<- NV] at HDL HDZ IG
 obtain ⟨m,TE⟩:∃ m,m=32*n:=⟨_,rfl⟩
 have s1:(b5:Int)+(b6:Int)=(n:Int):=by omega
 have s2:32*(n:Int)=(m:Int):=by omega
 have s3:7+(m:Int)=(s.size:Int):=by omega
 have s4:((s.size:Int) != (s.size:Int))=false:=by simp
 have w1':IntKind.i64.wrap (n:Int)=(n:Int):=IntWalk.i64_in _ aE;have w2':IntKind.i64.wrap (m:Int)=(m:Int):=IntWalk.i64_in _ aE;have w3':IntKind.i64.wrap (s.size:Int)=(s.size:Int):=IntWalk.i64_in _ aE
 have ZQ:s.size<=20000:=by omega
 have MZ:=DX IG;have HNB:=DX NV
 have hbn:b5<=n:=by omega
 have hnn:n<=510:=by omega
 obtain ⟨i0,hi,GV,GJ,GO⟩:=info_parts BD;have HI:=DX (EC hi (EC GV (EC GJ GO)));clear hi GV GJ GO NV TE IG
 obtain ⟨p,hp⟩:∃ p,p=wo.heap.size:=⟨_,rfl⟩
 have QT:=DX ((EX wo).alloc ((KM 0 none 0 0 none 0 0)));have HR:=DX (EY wo (LM 0 none 0 0 none 0 0) 85)
 have GJ:(wo.alloc ((KM 0 none 0 0 none 0 0))).heap.size=wo.heap.size+1:=by simp
 generalize KK:wo.alloc ((KM 0 none 0 0 none 0 0))=w1 at *;have ZE:=DX KK;clear KK;go_enter Tryz.func66,Tryz.ntmps66
 go_upto_region 1 with (fail)
 rw [ZE.out];go_quiet (fail);have JM:=DX (HR.out.kept ((EX w1).drewN nq));have JQ:=DX (QT.out.drewN nq)
 have hz9:(w1.drewN nq).heap.size=wo.heap.size+1:=GJ
 generalize w1.drewN nq=w9 at *;clear GJ HR QT ZE
 go_upto_region 4 with (fail)
 have HM0:=DX (EY w9 (LM b4 none 0 0 none 0 0) 85);have HR0:=DX (JM.out.kept ((EX w9).alloc ((KM b4 none 0 0 none 0 0))));have QT:=DX (JQ.out.alloc ((KM b4 none 0 0 none 0 0)));generalize w9.alloc ((KM b4 none 0 0 none 0 0))=wa at *;rw [hz9] at HM0;rw [<- hp] at HM0 HR0 ⊢;have hpo1:wo.heap.size<=p:=Nat.le_of_eq hp.symm;have hpo2:p<=wo.heap.size:=Nat.le_of_eq hp;clear hz9 hp JM JQ;go_wp2_with fail
 go_loopw [5] (fun i wr=>∃ k nb nu ab cb au cu,k<=n/\i=.int .i64 (k:Nat)/\Hid (nb=min k b5)/\Hid (nu=k - b5)/\aA wr (p+1) (LM b4 ab nb cb au nu cu) 85/\aA wr p (LM 0 none 0 0 none 0 0) 85 /\
  wr.ownsRow wo.heap.size 9 1 (.slice ab nb cb) nb (((List.range k).map fun i=>Value.string (gE t i)).take b5)/\wr.ownsRow wo.heap.size 9 1 (.slice au nu cu) nu (((List.range k).map fun i=>Value.string (gE t i)).drop b5) /\
  (∀ g,(Value.slice ab nb cb).ownBlock=some g->p+2<=g)/\(∀ g,(Value.slice au nu cu).ownBlock=some g->p+2<=g)/\(∀ g,(Value.slice ab nb cb).ownBlock=some g->(Value.slice au nu cu).ownBlock≠some g)/\aB wo wr) (fun i _=>n - (intOf i).toNat)
 case atStart=>exact ⟨0,0,0,none,0,none,0,aE,rfl,DX aE,DX aE,HM0.out,HR0.out,by simpa using World.ownsRow_nil _ _ _ _,by simpa using World.ownsRow_nil _ _ _ _,(fun g e=>by cases e),(fun g e=>by cases e),(fun g e=>by cases e),QT.out⟩
 case round =>
  obtain ⟨k,nb,nu,ab,cb,au,cu,hk,rfl,HNB2,HNU2,TG,PX,VD,VE,LF,YQ,hap,hB⟩:=hrel
  have hl1:nb<=510:=by have:=HNB2.out;omega
  have hl2:nu<=510:=by have:=HNU2.out;omega
  by_cases JE:k<n
  . have JH:decide (k<n)=true:=DZ JE
    have aBq:=DX TG;have aBo:=DX PX;have aBm:=DX VD;have aBn:=DX VE;have OE:=DX LF;have QC:=DX YQ;have ZT:=DX hap;have MT:=DX hB;clear TG PX VD VE LF YQ hap hB;go_wp2_with fail;go_quiet (fail)
    have kz:=(EX wr).drewN nq
    have OL:=DX (aBq.out.kept kz);have VX:=DX (aBo.out.kept kz);have HOB:=DX (aH aBm.out kz);have HOU:=DX (aH aBn.out kz);have HB:=DX (MT.out.trans kz);generalize wr.drewN nq=wz at *;clear kz aBq aBo aBm aBn MT
    obtain ⟨c,hc⟩:∃ c,c=32*k:=⟨_,rfl⟩
    obtain ⟨lo,QK⟩:∃ lo,lo=7+c:=⟨_,rfl⟩
    obtain ⟨hi,hhi⟩:∃ hi,hi=39+c:=⟨_,rfl⟩
    have t1:32*(k:Int)=(c:Int):=by omega
    have t2:7+(c:Int)=(lo:Int):=by omega
    have t3:39+(c:Int)=(hi:Int):=by omega
    have t4:lo<=hi:=by omega
    have t5:hi<=s.size:=by have:=MZ.out;omega
    have hxt:=HDX.out k;rw [show 7+32*k=lo by omega,show 39+32*k=hi by omega] at hxt;have htz:=HDZ.out k JE;have hwz:=HB.out.size
    obtain ⟨ti,hti⟩:∃ ti,ti=gE t k:=⟨_,rfl⟩
    rw [<- hti] at hxt htz;have HTI:=DX hti;clear hc QK hhi hti;have NV:=HNB2.out;have VB:=HNU2.out;have HN1:=DX NV;have TU:=DX VB;obtain ⟨c0,c1,c2⟩:=dI OL.out
    by_cases OA:k<b5
    . have hdk:decide (k<b5)=true:=DZ OA
      have aBG:decide ((k:Int)<(b5:Int))=true:=DZ aE;clear NV VB;go_wp2_with (at_builtin;refine wpList_append_own_at _ rfl _ _ 72 rfl wo.heap.size 9 i0 (.string ByteArray.empty) 1 16 EP HI.out.1 HI.out.2.1 HI.out.2.2.1 HI.out.2.2.2 rfl aF _ _ _ rfl (HOB.out.alloc _) ⟨wz.heap.size,0,none⟩ 1 1 [.string ti] rfl rfl ?c1 ?c2 ?c3 ?c4 ?c5 ?_)
      case c1 =>
       exact Oc
      case c2=>intro u hu;simp at hu;subst hu;rfl
      case c3=>unfold maxLen;omega
      case c4=>omega
      case c5=>simp;omega
      intro v' w9 GS GB _ GA;obtain ⟨a9,c9,rfl⟩:=aP GS
      have kx:=(EX wz).alloc (.cells #[.string ti] 9)
      have LV:=aM (OL.out.kept kx) GB (fun e=>by have h1:=OE.out _ e.symm;omega);have RH:=aM (VX.out.kept kx) GB (fun e=>by have h1:=OE.out _ e.symm;omega);have RG:=dF (aH HOU.out kx) GB (fun g e h=>ZT.out g h e)
      have UZ:∀ g,(Value.slice a9 (nb+1) c9).ownBlock=some g->p+2<=g:=fun g e=>by
       rcases GA with h | h
       . exact OE.out g (h ▸ e)
       . exact Iy
      have hpg:∀ g,(Value.slice a9 (nb+1) c9).ownBlock=some g->some (p+1)≠some g:=fun g e h=>by cases h;have:=UZ _ e;omega
      have IC:w9.grownBy (w9.setCell ⟨p+1,1,none⟩ (.slice a9 (nb+1) c9)) (some (p+1)):=⟨rfl,rfl,rfl,by simp,fun k _ GW=>Below.heap_setCell w9 ⟨p+1,1,none⟩ (.slice a9 (nb+1) c9) k (fun e=>GW (by rw [e]))⟩;have HE3:=DX (((cD (HB.out.trans (Below.mono kx (by have:=HB.out.size;omega))) GB (fun g e=>by have:=(HOB.out.lt g e).1;omega) (by have:=HB.out.size;first | omega | (simp;done) | (simp;omega)))).setCell (p:=⟨p+1,1,none⟩) (by show wo.heap.size<=p+1;omega) (.slice a9 (nb+1) c9));have HE4:=DX (dF GS IC hpg);have HE9:=DX (dF RG IC (fun g e h=>by cases h;have:=QC.out _ e;omega));have HE5:=DX (show aA (w9.setCell ⟨p+1,1,none⟩ (.slice a9 (nb+1) c9)) (p+1) (LM b4 a9 (nb+1) c9 au nu cu) 85 by have:=LV.set (i:=1) (.slice a9 (nb+1) c9);simpa using this);have ZZ:=DX (aM RH IC (by simp));have HE6:=DX UZ
      have XL:=DX (show ∀ g,(Value.slice a9 (nb+1) c9).ownBlock=some g->(Value.slice au nu cu).ownBlock≠some g from fun g e h=>by
       rcases GA with q | q
       . exact ZT.out g (q ▸ e) h
       . rw [q] at e
         cases e
         have h1:=(HOU.out.lt _ h).2
         have:=kx.size
         simp at this
         omega)
      have f0:=LV.free 1;obtain ⟨d0,d1,d2⟩:=dI LV;clear GS GB GA kx LV RH RG UZ hpg IC;go_wp2;go_roundw
      case rel =>
       refine ⟨k+1,nb+1,nu,a9,c9,au,cu,aE,by go_num,DX (by have:=HN1.out;omega),DX (by have:=TU.out;omega),HE5.out,ZZ.out,?_,?_,HE6.out,QC.out,XL.out,HE3.out⟩
       . rw [List.range_succ,List.map_append,show [k].map (fun i=>Value.string (gE t i))=[Value.string ti] by rw [HTI.out];rfl,(iX _ _ b5 (by simp;omega)).1]
         exact HE4.out
       . rw [List.range_succ,List.map_append,show [k].map (fun i=>Value.string (gE t i))=[Value.string ti] by rw [HTI.out];rfl,(iX _ _ b5 (by simp;omega)).2]
         exact HE9.out
      case measure=>simp [intOf];omega
    . have hdk:decide (k<b5)=false:=DY OA
      have aBG:decide ((k:Int)<(b5:Int))=false:=DY aE;clear NV VB;go_wp2_with (at_builtin;refine wpList_append_own_at _ rfl _ _ 72 rfl wo.heap.size 9 i0 (.string ByteArray.empty) 1 16 EP HI.out.1 HI.out.2.1 HI.out.2.2.1 HI.out.2.2.2 rfl aF _ _ _ rfl (HOU.out.alloc _) ⟨wz.heap.size,0,none⟩ 1 1 [.string ti] rfl rfl ?c1 ?c2 ?c3 ?c4 ?c5 ?_)
      case c1 =>
       exact Oc
      case c2=>intro u hu;simp at hu;subst hu;rfl
      case c3=>unfold maxLen;omega
      case c4=>omega
      case c5=>simp;omega
      intro v' w9 GS GB _ GA;obtain ⟨a9,c9,rfl⟩:=aP GS
      have kx:=(EX wz).alloc (.cells #[.string ti] 9)
      have LV:=aM (OL.out.kept kx) GB (fun e=>by have h1:=QC.out _ e.symm;omega);have RH:=aM (VX.out.kept kx) GB (fun e=>by have h1:=QC.out _ e.symm;omega);have RG:=dF (aH HOB.out kx) GB (fun g e h=>ZT.out g e h)
      have UZ:∀ g,(Value.slice a9 (nu+1) c9).ownBlock=some g->p+2<=g:=fun g e=>by
       rcases GA with h | h
       . exact QC.out g (h ▸ e)
       . exact Iy
      have hpg:∀ g,(Value.slice a9 (nu+1) c9).ownBlock=some g->some (p+1)≠some g:=fun g e h=>by cases h;have:=UZ _ e;omega
      have IC:w9.grownBy (w9.setCell ⟨p+1,2,none⟩ (.slice a9 (nu+1) c9)) (some (p+1)):=⟨rfl,rfl,rfl,by simp,fun k _ GW=>Below.heap_setCell w9 ⟨p+1,2,none⟩ (.slice a9 (nu+1) c9) k (fun e=>GW (by rw [e]))⟩;have HE3:=DX (((cD (HB.out.trans (Below.mono kx (by have:=HB.out.size;omega))) GB (fun g e=>by have:=(HOU.out.lt g e).1;omega) (by have:=HB.out.size;first | omega | (simp;done) | (simp;omega)))).setCell (p:=⟨p+1,2,none⟩) (by show wo.heap.size<=p+1;omega) (.slice a9 (nu+1) c9));have HE4:=DX (dF GS IC hpg);have HE9:=DX (dF RG IC (fun g e h=>by cases h;have:=OE.out _ e;omega));have HE5:=DX (show aA (w9.setCell ⟨p+1,2,none⟩ (.slice a9 (nu+1) c9)) (p+1) (LM b4 ab nb cb a9 (nu+1) c9) 85 by have:=LV.set (i:=2) (.slice a9 (nu+1) c9);simpa using this);have ZZ:=DX (aM RH IC (by simp));have HE6:=DX UZ
      have XL:=DX (show ∀ g,(Value.slice ab nb cb).ownBlock=some g->(Value.slice a9 (nu+1) c9).ownBlock≠some g from fun g h e=>by
       rcases GA with q | q
       . exact ZT.out g h (q ▸ e)
       . rw [q] at e
         cases e
         have h1:=(HOB.out.lt _ h).2
         have:=kx.size
         simp at this
         omega)
      have f0:=LV.free 2;obtain ⟨d0,d1,d2⟩:=dI LV;clear GS GB GA kx LV RH RG UZ hpg IC;go_wp2;go_roundw
      case rel =>
       refine ⟨k+1,nb,nu+1,ab,cb,a9,c9,aE,by go_num,DX (by have:=HN1.out;omega),DX (by have:=TU.out;omega),HE5.out,ZZ.out,?_,?_,OE.out,HE6.out,XL.out,HE3.out⟩
       . rw [List.range_succ,List.map_append,show [k].map (fun i=>Value.string (gE t i))=[Value.string ti] by rw [HTI.out];rfl,(iV _ _ b5 (by simp;omega)).1]
         exact HE9.out
       . rw [List.range_succ,List.map_append,show [k].map (fun i=>Value.string (gE t i))=[Value.string ti] by rw [HTI.out];rfl,(iV _ _ b5 (by simp;omega)).2]
         exact HE4.out
      case measure=>simp [intOf];omega
  . obtain rfl:k=n:=by omega
    have JH:decide (k<k)=false:=DY aE;have aBq:=DX TG;have aBo:=DX PX;have aBm:=DX VD;have aBn:=DX VE;have MT:=DX hB;clear TG PX VD VE LF YQ hap hB;go_wp2_with fail;go_quiet (fail)
    have kz:=(EX wr).drewN nq
    have OL:=DX (aBq.out.kept kz);have VX:=DX (aBo.out.kept kz);have VD:=aH aBm.out kz;have VE:=aH aBn.out kz;have HB:=DX (MT.out.trans kz);generalize wr.drewN nq=wz at *;clear kz aBq aBo aBm aBn MT
    have SH:(List.range k).map (fun i=>Value.string (gE t i))=(mS t).map Value.string:=by
     rw [HDL.out,List.map_map];rfl
    rw [SH,<- List.map_take] at VD;rw [SH,<- List.map_drop] at VE
    have IG:∀ z∈mS t,z.size<=9223372036854775807:=fun z hz=>by
     rw [HDL.out,List.mem_map] at hz;obtain ⟨q,hq,rfl⟩:=hz;rw [HDZ.out q (List.mem_range.1 hq)];decide
    have hll:(mS t).length=k:=by rw [HDL.out];simp
    have hl1':((mS t).take b5).length=nb:=by rw [List.length_take,hll,HNB2.out];omega
    have hl2':((mS t).drop b5).length=nu:=by rw [List.length_drop,hll,HNU2.out]
    obtain ⟨ab',cb',eb,MU,PY⟩:=eC VD hl1' (fun z hz=>IG z (List.mem_of_mem_take hz));cases eb;obtain ⟨au',cu',eu,hcu,PZ⟩:=eC VE hl2' (fun z hz=>IG z (List.mem_of_mem_drop hz));cases eu;have ZC:=DX XV.out;have HLB:=DX hl1';have HLU:=DX hl2';have ST:=DX PY;have SD:=DX PZ;have HCB:=DX MU;obtain ⟨c0,c1,c2⟩:=dI OL.out
    have hmy:=fun w h1 h2=>Le b4 ab nb cb au nu cu ((mS t).take b5) ((mS t).drop b5) w h1 h2 ⟨aE,aE⟩
    rw [<- XV.out] at hmy;have HMY:=DX hmy;clear VD VE SH IG hll hl1' hl2' PY PZ MU hcu hmy
    obtain ⟨B,hB9⟩:∃ B,B=rY rm:=⟨_,rfl⟩
    rw [<- hB9] at HMY HO0;clear hB9;go_wp2_with fail
    refine (HMY.out _ ST.out SD.out).mono ?_
    rintro e w6 ⟨rfl,JD⟩;have XI:=DX (HB.out.trans JD);have HP6:=DX (VX.out.kept JD);have HS6:=DX (ST.out.kept JD);have HU6:=DX (SD.out.kept JD);obtain ⟨d0,d1,d2⟩:=dI (OL.out.kept JD);clear JD c0 c1 c2
    cases B with
    | false =>
     have HO:=DX (show O=none by rw [HO0.out];rfl);go_wp2_with (refine aD rfl 85 (.tmp 2) (.tmp 73) rfl _ (LM 0 none 0 0 none 0 0) (LM 0 none 0 0 none 0 0) 85 rfl rfl HP6.out BB rfl (wR _ _ _ _ _ _ _) ?_)
     refine EI (v:=.tuple #[.agg (LM 0 none 0 0 none 0 0),.bool false]) (cB rfl _ _ p 85 (LM 0 none 0 0 none 0 0) _ rfl (HP6.out.setRow _) EQ rfl BB _ rfl) rfl ?_
     exact ⟨fun _=>rfl,(fun m e=>by rw [HO.out] at e;cases e),XI.out.setRow aE _⟩
    | true =>
     have HO:=DX (show O=some rm by rw [HO0.out];rfl);go_wp2_with (refine aD rfl 85 (.tmp 2) (.tmp 74) rfl _ (LM b4 ab nb cb au nu cu) (LM 0 none 0 0 none 0 0) 85 rfl rfl HP6.out BB rfl (wR _ _ _ _ _ _ _) ?_)
     refine EI (v:=.tuple #[.agg (LM b4 ab nb cb au nu cu),.bool true]) (cB rfl _ _ p 85 (LM b4 ab nb cb au nu cu) _ rfl (HP6.out.setRow _) EQ rfl BB _ rfl) rfl ?_
     have g8:=dB w6 p (LM b4 ab nb cb au nu cu);refine ⟨(fun e=>by rw [HO.out] at e;cases e),fun m e=>?_,XI.out.setRow aE _⟩;rw [HO.out] at e;cases e;rw [ZC.out];dsimp only;rw [HLB.out,HLU.out];exact ⟨ab,cb,au,cu,rfl,HCB.out,kW HS6.out HP6.out (yG _ _ _ _ _ _ _) g8,kW HU6.out HP6.out (yG _ _ _ _ _ _ _) g8⟩
theorem Cy (s:ByteArray) (w:World):Calls Tryz.prog 66 #[.string s] w (Cp w (bJ s)):=by
 rw [<- Hq]
 by_cases h:7<=s.size/\s.extract 0 4=xR/\s.size=7+32*((fK s 5).toNat+(fK s 6).toNat)
 . have e:wO s=if rY (eR s)=true then some (eR s) else none:=by
    unfold wO
    by_cases hm:rY (eR s)=true
    . rw [if_pos ⟨h.1,h.2.1,h.2.2,hm⟩,if_pos hm]
    . rw [if_neg (fun q=>hm q.2.2.2),if_neg hm]
   rw [e];exact Cu s w h.1 h.2.1 h.2.2
 . have e:wO s=none:=by unfold wO;rw [if_neg (fun q=>h ⟨q.1,q.2.1,q.2.2.1⟩)]
   rw [e];exact Dc s w h
def pR (o:Option Mf):Mf:=o.getD ⟨0,[],[]⟩
theorem oF (t:ByteArray) (m:Mf) (ok:Bool) (hm:m=pR (bJ t)) (JR:ok=(bJ t).isSome) (w:World) :
 Calls Tryz.prog 88 #[.string t] w fun e w'=>∃ a c a2 c2,e=.returned (.tuple #[.agg (LM m.k a m.bs.length c a2 m.us.length c2),.int .i64 (if ok=true then 0 else 7)])/\bD w' a m.bs.length m.bs/\bD w' a2 m.us.length m.us/\aB w w':=by
 refine (wP t w).mono ?_
 exact Fm
theorem jG (t:ByteArray) (m:Mf) (ok:Bool) (hm:m=pR (bJ t)) (JR:ok=(bJ t).isSome) (w:World) :
 Calls Tryz.prog 66 #[.string t] w fun e w'=>∃ a c a2 c2,e=.returned (.tuple #[.agg (LM m.k a m.bs.length c a2 m.us.length c2),.bool ok])/\bD w' a m.bs.length m.bs/\bD w' a2 m.us.length m.us/\aB w w':=by
 refine (Cy t w).mono ?_
 exact Fm
end Go.Proofs.YtkfmladhicapeaaGreatDoor
namespace Go.Proofs.YtkfmladhicapeaaGreatDoor
open Go.RowKit Go.Shelf
theorem uU {P:Program} {w:World} (base:Nat) (t ty e:TypeId) (i:TypeInfo) (size:Nat) (ht:P.underlying t=some (.slice e)) (hi:P.info? e=some i) (c:Nat)
 (v:Value) (n:Nat) (xs:List Value) (FU:w.ownsRow base e size v n xs):(Builtin.append_ #[t,t] ty #[v,.slice none 0 c]).run P w=.ok v w:=by
 exact Iw
def qB (w:World) (ax:Option Addr) (m:Nat) (news:List Value):Prop:=news.length=m/\(∀ u∈news,u.oneCell'=true)/\(ax=none->m=0)/\∀ ad,ax=some ad->∀ j u,news[j]?=some u->w.cell? (ad.add j)=some u
theorem rM {P:Program} {w:World} (base:Nat) (t ty e:TypeId) (i:TypeInfo) (z:Value) (bytes:Nat) (ht:P.underlying t=some (.slice e)) (hi:P.info? e=some i) (hz:i.zero=some z)
 (JT:i.size=1) (XB:i.bytes=bytes) (XH:z.cells.size=1) (v:Value) (n:Nat) (xs:List Value) (FU:w.ownsRow base e 1 v n xs)
 (ax:Option Addr) (m c:Nat) (news:List Value) (hU:qB w ax m news) (h63:n+m<=maxLen) (KZ:(n+m)*bytes<=140737488355328) (JI:base<=w.heap.size) :
 ∃ v' w',(Builtin.append_ #[t,t] ty #[v,.slice ax m c]).run P w=.ok v' w'/\w'.ownsRow base e 1 v' (n+m) (xs++news)/\w.grownBy w' v.ownBlock/\(v'.ownBlock=v.ownBlock\/v'.ownBlock=some w.heap.size):=by
 obtain ⟨hl,h1,hn,hc⟩:=hU
 cases ax with
 | none =>
  obtain rfl:=hn rfl;obtain rfl:news=[]:=List.length_eq_zero_iff.1 hl;exact ⟨v,w,uU base t ty e i 1 ht hi c v n xs FU,by rw [List.append_nil];exact FU,kC w _,.inl rfl⟩
 | some ad =>
  obtain ⟨v',w',hr,h2,h3,_,h5⟩:=run_append_own_at (P:=P) (w:=w) base t ty e i z 1 bytes ht hi hz JT XB XH aE v n xs FU ad m c news aE (hc ad rfl) h1 h63 KZ JI;exact ⟨v',w',hr,h2,h3,h5⟩
theorem dC {P:Program} {w:World} {ops:Array Oper} {rest:List Oper} {o:Oper} {a:Act} {Q:Exit->Act->World->Prop} (hgd:o.guard=none) (s x:Operand) (t:TypeId)
 (ho:o.op=.call { callee:=.builtin .append,args:=#[s,x],argTypes:=#[t,t] })
 (base:Nat) (e:TypeId) (i:TypeInfo) (z:Value) (bytes:Nat) (ht:P.underlying t=some (.slice e)) (hi:P.info? e=some i) (hz:i.zero=some z)
 (JT:i.size=1) (XB:i.bytes=bytes) (XH:z.cells.size=1) (v:Value) (n:Nat) (xs:List Value) (hs:a.eval s=v) (FU:w.ownsRow base e 1 v n xs)
 (ax:Option Addr) (m c:Nat) (news:List Value) (hx:a.eval x=.slice ax m c) (hU:qB w ax m news) (h63:n+m<=maxLen) (KZ:(n+m)*bytes<=140737488355328) (JI:base<=w.heap.size)
 (h:∀ v' w',w'.ownsRow base e 1 v' (n+m) (xs++news)->w.grownBy w' v.ownBlock->(v'.ownBlock=v.ownBlock\/v'.ownBlock=some w.heap.size)->wpList P ops Q rest (a.put o.dst v') w') :
 wpList P ops Q (o :: rest) a w:=by
 refine wpList_plain hgd fun K hK=>?_
 obtain ⟨v',w',aCb,h2,h3,h5⟩:=rM (P:=P) (w:=w) base t o.type e i z bytes ht hi hz JT XB XH v n xs FU ax m c news hU h63 KZ JI;exact Rf
theorem kQ {w:World} {a:Option Addr} {m:Nat} {us:List ByteArray} (h:bD w a m us):qB w a m (us.map Value.string):=by
 obtain ⟨b,off,ha,hc⟩:=h.cells;refine ⟨by rw [List.length_map,h.len_eq],fun u hu=>?_,fun e=>?_,fun ad e j u hj=>?_⟩
 . obtain ⟨s,_,rfl⟩:=List.mem_map.1 hu
   rfl
 . rcases Nat.eq_zero_or_pos m with h0 | h0
   . exact h0
   . rw [ha h0] at e;cases e
 . have RS:j<us.length:=by
    have:=(List.getElem?_eq_some_iff.1 hj).1
    simpa using this
   have hjm:j<m:=by rw [<- h.len_eq];exact RS
   rw [ha aE] at e;cases e;rw [show (⟨b,off,none⟩:Addr).add j=⟨b,off+j,none⟩ by unfold Addr.add;split <;> simp_all,(hc j hjm).2];rw [List.getElem?_map,List.getElem?_eq_getElem RS] at hj
   simp at hj
   rw [<- hj]
   simp [List.getD,RS]
theorem kP (w:World) (x:Value) (t:TypeId) (hx:x.oneCell'=true):qB (w.alloc (.cells #[x] t)) (some ⟨w.heap.size,0,none⟩) 1 [x] :=
 ⟨rfl,fun u hu=>by rw [List.mem_singleton] at hu;rw [hu];exact hx,(fun e=>by cases e),fun ad e=>by cases e;exact cell_one_new w x t⟩
end Go.Proofs.YtkfmladhicapeaaGreatDoor
namespace Go.Proofs.YtkfmladhicapeaaGreatDoor
open Go.RowKit Go.Shelf
attribute [local go_sem] Oper.semAt_some
theorem Aa (t:ByteArray) (w:World) :
 Calls Tryz.prog 88 #[.string t] w fun e w'=>∃ a c a2 c2,e=.returned (.tuple #[.agg #[.int .i64 (pR (bJ t)).k,.slice a (pR (bJ t)).bs.length c,.slice a2 (pR (bJ t)).us.length c2],.int .i64 (if (bJ t).isSome=true then 0 else 7)]) /\
  Ax w w' a c a2 (pR (bJ t))/\bD w' a (pR (bJ t)).bs.length (pR (bJ t)).bs/\bD w' a2 (pR (bJ t)).us.length (pR (bJ t)).us/\aB w w':=by
 refine (wP t w).mono ?_
 rintro e w' ⟨h1,h2,h3⟩
 cases ho:bJ t with
 | none=>exact ⟨none,0,none,0,h1 ho,⟨EA _,World.ownsRow_nil _ _ _ _,fun W2 _=>kX _ _⟩,kX _ _,kX _ _,h3⟩
 | some m =>
  obtain ⟨ab,cb,au,cu,e,hb,s1,s2⟩:=h2 m ho;exact ⟨ab,cb,au,cu,e,hb,s1,s2,h3⟩
def sF (x:Th):Bool:=decide (x.d.size=32)&&(decide (x.t.size<=2000)&&(!x.m||(bJ x.t).isSome))
theorem Hl (x:Th) (w:World):Calls Tryz.prog 115 #[.agg (LT x.d x.t x.m)] w fun e w'=>e=.returned (.bool (sF x))/\aB w w':=by
 have HB:=DX (EY w (LT x.d x.t x.m) 62);have HK:=DX ((EX w).alloc ((KT x.d x.t x.m)));have HF:=DX (show sF x=(decide (x.d.size=32)&&(decide (x.t.size<=2000)&&(!x.m||(bJ x.t).isSome))) from rfl);have HT:=DX (Aa x.t)
 obtain ⟨R,hR⟩:∃ R,R=sF x:=⟨_,rfl⟩
 obtain ⟨ok,JR⟩:∃ ok,ok=(bJ x.t).isSome:=⟨_,rfl⟩
 rw [<- hR,<- JR] at HF;rw [<- JR] at HT;rw [<- hR];clear hR JR;generalize pR (bJ x.t)=mm at *;obtain ⟨d,t,m⟩:=x;dsimp only at HF HT HB HK ⊢;go_enter Tryz.func115,Tryz.ntmps115
 go_upto_region 1 with (fail)
 generalize w.alloc ((KT d t m))=w1 at *;obtain ⟨a0,a1,a2⟩:=dI HB.out
 by_cases h1:d.size=32
 . have d1:((d.size:Int) != 32)=false:=by simp [h1]
   by_cases h2:t.size<=2000
   . have d2:decide (2000<(t.size:Int))=false:=DY aE
     cases m with
     | false =>
      have HE:=DX (show R=true by rw [HF.out,DZ h1,DZ h2];rfl);clear h1 HF;go_wp2;go_ret;exact ⟨jR HE.out,HK.out⟩
     | true =>
      have HE:=DX (show R=ok by rw [HF.out,DZ h1,DZ h2];rfl);clear h1 HF;go_wp2_with fail
      refine (HT.out _).mono ?_
      rintro e w2 ⟨b1,e1,b2,e2,rfl,_,_,_,FX⟩;have FW:=DX (HK.out.trans FX);clear FX a0 a1 a2
      cases ok with
      | false =>
       go_wp2;go_ret;exact ⟨jR HE.out,FW.out.alloc _⟩
      | true =>
       go_wp2;go_ret;exact ⟨jR HE.out,FW.out.alloc _⟩
   . have d2:decide (2000<(t.size:Int))=true:=DZ aE
     have HE:=DX (show R=false by rw [HF.out,DY h2,Bool.false_and,Bool.and_false]);clear h1 h2 HF;go_wp2;go_ret;exact ⟨jR HE.out,HK.out⟩
 . have d1:((d.size:Int) != 32)=true:=by simp;omega
   have HE:=DX (show R=false by rw [HF.out,DY h1];rfl);clear h1 HF;go_wp2;go_ret;exact ⟨jR HE.out,HK.out⟩
theorem wV (o:Option Mf) (t:ByteArray) (h:o=bJ t):(pR o).bs.length+(pR o).us.length<=40:=by
 cases o with
 | none=>decide
 | some m =>
  have:rY m=true:=by
   unfold bJ at h
   split at h
   . rename_i hh
     cases h;exact hh.2.2.1
   . cases h
  have:=(pF this).1
  show m.bs.length+m.us.length<=40
  omega
def qL (w:World) (ss:List ByteArray) (e:Ending) (w':World):Prop:=∃ a c,e=.returned (.slice a ss.length c)/\bD w' a ss.length ss/\aB w w'
def sE (x:Th):List ByteArray:=if x.m=true then (pR (bJ x.t)).bs++(pR (bJ x.t)).us else []
theorem vX (x:Th) (w:World):Calls Tryz.prog 133 #[.agg (LT x.d x.t x.m)] w (qL w (sE x)):=by
 have HB:=DX (EY w (LT x.d x.t x.m) 62);have HK:=DX ((EX w).alloc ((KT x.d x.t x.m)));have HF:=DX (show sE x=if x.m=true then (pR (bJ x.t)).bs++(pR (bJ x.t)).us else [] from rfl);have HT:=DX (Aa x.t);have aBI:=wV (bJ x.t) x.t rfl;generalize sE x=R at *;generalize pR (bJ x.t)=mm at *
 generalize (bJ x.t).isSome=ok at *
 generalize (if ok=true then (0:Int) else 7)=E at *;obtain ⟨d,t,m⟩:=x;dsimp only at HF HT HB HK ⊢;go_enter Tryz.func133,Tryz.ntmps133
 go_upto_region 1 with (fail)
 generalize KK:w.alloc ((KT d t m))=w1 at *;clear KK;obtain ⟨a0,a1,a2⟩:=dI HB.out
 cases m with
 | false =>
  exact Td
 | true =>
  obtain rfl:R=mm.bs++mm.us:=HF.out;clear HF;obtain ⟨k,bs,us⟩:=mm;dsimp only at HT ⊢;go_wp2_with fail
  refine (HT.out _).mono ?_
  rintro e w2 ⟨b1,e1,b2,e2,rfl,hbo,VF,RI,FX⟩;have FW:=DX (HK.out.trans FX);have IG:w.heap.size<=w1.heap.size:=HK.out.size;have hs12:w1.heap.size<=w2.heap.size:=FX.size;have HO:=DX (aH hbo.2.1 ((EX w2).alloc ((KM k b1 bs.length e1 b2 us.length e2))));have HU:=DX (RI.kept ((EX w2).alloc ((KM k b1 bs.length e1 b2 us.length e2))));have MZ:=DX (show ∀ s∈bs++us,s.size<=9223372036854775807 from fun s hs=>(List.mem_append.1 hs).elim (VF.sizes s) (RI.sizes s));have GC:=DX (FW.out.alloc ((KM k b1 bs.length e1 b2 us.length e2)));have HM:=DX (EY w2 (LM k b1 bs.length e1 b2 us.length e2) 85);obtain ⟨i0,PI,GV,GJ,GO⟩:=info_parts BD;have HI:=DX (EC PI (EC GV (EC GJ GO)));clear FX a0 a1 a2 hbo VF RI PI GV GJ GO HB HK HT
  go_upto_region 4 with (fail)
  have hs3:w1.heap.size<=(w2.alloc ((KM k b1 bs.length e1 b2 us.length e2))).heap.size:=by rw [World.size_alloc];omega
  generalize w2.alloc ((KM k b1 bs.length e1 b2 us.length e2))=w3 at *;obtain ⟨a0,a1,a2⟩:=dI HM.out;have HFW:=DX (show bs.length+us.length<=40 from aBI);go_wp2_with (at_builtin;refine dC rfl _ _ 72 rfl w1.heap.size 9 i0 (.string ByteArray.empty) 16 EP HI.out.1 HI.out.2.1 HI.out.2.2.1 HI.out.2.2.2 rfl _ _ _ rfl HO.out b2 us.length e2 (us.map Value.string) rfl (kQ HU.out) ?c1 ?c2 ?c3 ?_)
  case c1=>have:=HFW.out;unfold maxLen;omega
  case c2=>have:=HFW.out;omega
  case c3=>exact hs3
  intro v' w4 FU IB hblk;rw [<- List.map_append] at FU;obtain ⟨a',c',rfl,_,GL⟩:=eC FU (by simp) MZ.out;have GQ:=DX (fO GC.out IB (fun q e=>EF IG (HO.out.lt q e).1))
  have OH:bs.length+us.length=(bs++us).length:=List.length_append.symm
  rw [OH] at GL ⊢;clear OH;have IN:=DX GL;clear FU IB hblk GL;go_wp2;go_ret;exact ⟨a',c',rfl,IN.out,GQ.out⟩
end Go.Proofs.YtkfmladhicapeaaGreatDoor
