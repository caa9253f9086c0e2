import Derived.Test.YtkfmladhicapeaaGreatDoorY11
set_option maxRecDepth 100000
set_option maxHeartbeats 8000000
namespace Go.Proofs.YtkfmladhicapeaaGreatDoor
open Go.RowKit Go.Shelf
attribute [local go_sem] Oper.semAt_some
theorem cH.of_kept {A B:World} (h:aB A B):cH A B:=⟨h.size,fun k cs t fr _ _ hk=>by
 have FV:k<A.heap.size:=(Array.getElem?_eq_some_iff.1 hk).1
 exact (Below.block h k FV).trans hk⟩
theorem cH.of_row {w w':World} {base s n:Nat} {v:Value} {xs:List Value} (h:w.ownsRow base 9 s v n xs) (g:w.grownBy w' v.ownBlock):cH w w':=⟨g.size,fun k cs t fr h1 _ hk=>by
 have FV:k<w.heap.size:=(Array.getElem?_eq_some_iff.1 hk).1
 refine (g.block k FV (fun e=>?_)).trans hk
 obtain ⟨_,⟨rfl,_⟩ | ⟨q,cap,cur,rfl,_,hg,_⟩⟩:=h
 . cases e
 . cases e
   rw [hk] at hg;cases hg
   exact h1 rfl⟩
theorem cH.of_set {w:World} {b:Nat} {C:Array Value} (h:aA w b C 72) (i:Nat) (v:Value):cH w (w.setCell ⟨b,i,none⟩ v):=⟨by simp,fun k cs t fr _ h2 hk=>by
 have GW:k≠b:=fun e=>by
  subst e;have:=Eq.trans (Eq.symm hk) h;cases this;exact h2 rfl
 exact (Below.heap_setCell w ⟨b,i,none⟩ v k GW).trans hk⟩
theorem tS {B b:Nat} {C:Array Value} {t:TypeId} (ht:¬ Tw t):Uq B Tw (fun W=>aA W b C t):=fun A A' row h g hr=>by
 refine h.gr g (fun e=>?_);obtain ⟨_,o,ho,hT⟩:=hr b e.symm;rw [show A.heap[b]?=some (.cells C t (0,0)) from h] at ho;cases ho;exact ht (hT C t (0,0) rfl)
theorem Kw {B base s n:Nat} {e:TypeId} {v:Value} {xs:List Value} (ht:¬ Tw e):Uq B Tw (fun W=>W.ownsRow base e s v n xs):=fun A A' row h g hr =>
 h.kept g (by
  cases hv:v.ownBlock with
  | none=>exact .inl rfl
  | some k =>
   refine .inr fun e2=>?_
   have er:row=some k:=by first | exact e2 | exact e2.symm
   obtain ⟨_,⟨rfl,_⟩ | ⟨q,cap,cur,rfl,_,hg,_⟩⟩:=h
   . cases hv
   . cases hv
     obtain ⟨_,o,ho,hT⟩:=hr q er;rw [hg] at ho;cases ho
     exact ht (hT cur e (0,0) rfl))
theorem vQ (w:World) (b i:Nat) (v:Value):w.grownBy (w.setCell ⟨b,i,none⟩ v) (some b):=iE w b i v
theorem Ky {w:World} {base s n:Nat} {e:TypeId} {v:Value} {xs:List Value} (h:w.ownsRow base e s v n xs) (hn:0<n):∃ g cap,v=.slice (some ⟨g,0,none⟩) n cap:=by
 obtain ⟨_,⟨_,h0⟩ | ⟨g,cap,cur,hv,_⟩⟩:=h
 . omega
 . exact ⟨g,cap,hv⟩
theorem Ye:¬ Tw 9:=by unfold Tw;decide
theorem Xg:¬ Tw 72:=by unfold Tw;decide
theorem Yu:¬ Tw 22:=by unfold Tw;decide
theorem Gm {ts:List Th} (hr:gG (cY ts)=true) (rs:List ByteArray) :
 ((jZ (oZ ts) (dZ ts.length (kM ts rs))).map fun n=>(jF ts n).data.toList).mergeSort (fun x y=>decide (x<=y))=((List.range ts.length).filter (fX ts rs)).map fun n=>(jF ts n).data.toList:=by
 have JR:=yC ts
 have hrs:∀ r∈kM ts rs,r<(oZ ts).length:=fun r h=>by rw [kB];exact sH ts rs r h
 obtain ⟨hn,FV⟩:=Aw JR hrs;rw [kB] at hn FV
 have hperm:(jZ (oZ ts) (dZ ts.length (kM ts rs))).Perm ((List.range ts.length).filter (fX ts rs)):=by
  refine (List.perm_ext_iff_of_nodup hn (List.Pairwise.filter _ List.nodup_range)).2 (fun i=>?_)
  rw [List.mem_filter,List.mem_range];unfold fX;rw [decide_eq_true_iff];exact ⟨fun h=>⟨FV i h,h⟩,fun h=>h.2⟩
 refine List.Perm.eq_of_pairwise (le:=fun x y:List UInt8=>decide (x<=y)=true) (fun a b _ _ h1 h2=>List.le_antisymm (by simpa using h1) (by simpa using h2)) ?_ ?_ ((List.mergeSort_perm _ _).trans (hperm.map _))
 . exact List.pairwise_mergeSort (le:=fun (x y:List UInt8)=>decide (x<=y)) (fun a b c h1 h2=>by simp at h1 h2 ⊢;exact List.le_trans h1 h2) (fun a b=>by simp;exact List.le_total a b) _
 . rw [List.pairwise_map]
   have h1:((List.range ts.length).filter (fX ts rs)).Pairwise (fun i j=>i<j/\j<ts.length):=by
    have h0:(List.range ts.length).Pairwise (·<·):=List.pairwise_lt_range
    refine List.Pairwise.imp_of_mem (R:=fun i j=>i<j) (fun {a b} _ hb h=>⟨h,List.mem_range.1 (List.mem_filter.1 hb).1⟩) (h0.filter _)
   refine h1.imp (fun {i j} h=>?_);have h3:=wK hr h.1 h.2;rw [Lb] at h3;exact DZ (List.le_of_lt (of_decide_eq_true h3))
theorem Gl (ax:Option Addr) (l cap:Nat) (ar:Option Addr) (lr cr:Nat) (w:World) :
 Calls Tryz.prog 139 #[.slice ax l cap,.slice ar lr cr] w fun e w'=>e=.returned (.func (.func 162) #[] #[.pointer (some ⟨w.heap.size,0,none⟩),.pointer (some ⟨w.heap.size+1,0,none⟩)]) /\
  w'=(w.alloc (.cells #[.slice ax l cap] 22)).alloc (.cells #[.slice ar lr cr] 72):=by
 go_enter Tryz.func139,Tryz.ntmps139;go_wp2;go_ret;exact ⟨rfl,rfl⟩
def Vb (w:World) (ss:List ByteArray) (E:Int) (e:Ending) (w':World):Prop:=∃ g c,e=.returned (.tuple #[.slice (some ⟨g,0,none⟩) ss.length c,.int .i64 E])/\bD w' (some ⟨g,0,none⟩) ss.length ss/\aB w w'/\w.heap.size<=g/\∃ cs,aA w' g cs 9
theorem Gb (ax:Option Addr) (l cap:Nat) (ts:List Th) (ar:Option Addr) (lr cr:Nat) (rs:List ByteArray) (wo:World) (h:bO wo ax l ts) (hr:bD wo ar lr rs) (hlr:lr<=1000000) (hB:fF ts=true) :
 Calls Tryz.prog 107 #[.slice ax l cap,.slice ar lr cr] wo (Vb wo (eG ts rs) 0):=by
 have HS:=DX h;have OM:=DX hr;have HL:=DX h.len_eq;have MZ:=DX (show ∀ n,(jF ts n).size<=9223372036854775807 from fun n=>by have:=(jE h.sizes n).1;unfold jF;omega);have MT:=DX (EY wo #[.slice ax l cap] 22);have QT:=DX ((EX wo).alloc (.cells #[.slice ax l cap] 22))
 obtain ⟨pL,hpL⟩:∃ pL,pL=wo.heap.size:=⟨_,rfl⟩
 clear h hr;refine callsIn_wide.1 (callsIn_of_wp_marks (n:=8) Tryz.func107 rfl trivial ?_ rfl);simp only [Tryz.ntmps107,List.size_toArray,List.length_nil,List.length_cons,Nat.reduceAdd,Nat.reduceSub,Array.replicate_succ,Array.replicate_zero,List.push_toArray,List.append_toArray,List.nil_append,List.cons_append]
 refine wpIn_wide.2 ?_
 go_upto_region 1 with (fail)
 generalize wo.alloc (.cells #[.slice ax l cap] 22)=w1 at *;rw [<- hpL] at MT ⊢;have HPLE:=DX hpL;clear hpL;have a0:=fC MT.out;have WE:=nX ax l cap ts w1 (HS.out.kept QT.out);rw [if_pos hB] at WE;have KQ:=DX WE
 have h60:l<=60:=by rw [<- HL.out];exact jL hB
 have HTB:=DX hB;have NX:=DX (iY hB);clear hB WE;go_wp2_with fail
 refine KQ.out.mono ?_
 rintro e w2 ⟨rfl,FX⟩;have FW:=DX (QT.out.trans FX);have GP:=DX (MT.out.kept FX);clear FX a0 KQ QT MT
 go_upto_region 4 with (fail)
 obtain ⟨o1,ho1⟩:∃ o1,o1=(Obj.cells #[] 9):=⟨_,rfl⟩
 obtain ⟨o2,ZN⟩:∃ o2,o2=(Obj.cells #[Value.slice (some ⟨w2.heap.size,0,none⟩) 0 0] 72):=⟨_,rfl⟩
 have k12:aB w2 ((w2.alloc o1).alloc o2):=((EX w2).alloc o1).alloc o2
 have hd0:((w2.alloc o1).alloc o2).ownsRow wo.heap.size 9 1 (.slice (some ⟨w2.heap.size,0,none⟩) 0 0) 0 []:=by
  have h:=nG w2 9;rw [<- ho1] at h;exact aH (bA h FW.out.size) ((EX _).alloc o2)
 have PX:aA ((w2.alloc o1).alloc o2) (w2.heap.size+1) #[.slice (some ⟨w2.heap.size,0,none⟩) 0 0] 72:=by
  rw [ZN];exact FB w2 _ _ o1
 have HD3:=DX hd0;have TW:=DX PX;have IU:=DX (GP.out.kept k12);have GC:=DX (FW.out.trans k12)
 obtain ⟨pd,hpd⟩:∃ pd,pd=w2.heap.size+1:=⟨_,rfl⟩
 obtain ⟨db,hdb⟩:∃ db,db=w2.heap.size:=⟨_,rfl⟩
 rw [<- ho1,<- ZN]
 have hpdl:wo.heap.size<=pd:=by have:=FW.out.size;omega
 rw [<- hpd] at TW ⊢;rw [<- hdb] at TW HD3 ⊢;clear k12 hd0 PX ho1 ZN hpd hdb GP FW
 generalize (w2.alloc o1).alloc o2=w3 at *
 have a0:=fC IU.out;go_wp2_with fail
 refine (Gl ax l cap ar lr cr w3).mono ?_
 rintro e w4 ⟨rfl,WQ⟩
 have k34:aB w3 w4:=by rw [WQ];exact ((EX w3).alloc _).alloc _
 have HPL4:=DX (show aA w4 w3.heap.size #[.slice ax l cap] 22 by rw [WQ];exact (EY w3 _ _).kept ((EX _).alloc _));have HPR4:=DX (show aA w4 (w3.heap.size+1) #[.slice ar lr cr] 72 by rw [WQ];exact FB w3 _ _ _);have KY:=DX (IU.out.kept k34);have HD4:=DX (aH HD3.out k34);have KF:=DX (TW.out.kept k34);have GQ:=DX (GC.out.trans k34);clear k34 WQ a0 IU HD3 TW GC;obtain ⟨iA,PI,GV,GJ,GO⟩:=info_parts BD;have HIA:=DX (EC PI (EC GV (EC GJ GO)));clear PI GV GJ GO;go_wp2_with fail
 refine eS 8 ?_
 refine xW rfl aE (gf:=162) (lb:=#[.pointer (some ⟨w3.heap.size,0,none⟩),.pointer (some ⟨w3.heap.size+1,0,none⟩)]) rfl trivial (enters_of Tryz.func162 aW rfl)
  (zP 7 aE ax l cap ts ar lr cr rs w3.heap.size (w3.heap.size+1) w4 HPL4.out HPR4.out (HS.out.kept GQ.out) (OM.out.kept GQ.out) HTB.out hlr)
  cH.trans cH.putObj (Below.refl _ _) (fun _=>rfl)
  (fun pre W=>∃ g cd,aA W pd #[.slice (some ⟨g,0,none⟩) pre.length cd] 72/\W.ownsRow wo.heap.size 9 1 (.slice (some ⟨g,0,none⟩) pre.length cd) pre.length (pre.map fun i=>Value.string (jF ts i.1))/\aA W pL #[.slice ax l cap] 22/\aB wo W)
  ?hI ?h0 ?round ?done
 case hI =>
  rintro pre A A' row ⟨g,cd,h1,h2,h3,h4⟩ hg hr;exact ⟨g,cd,tS Xg A A' row h1 hg hr,Kw Ye A A' row h2 hg hr,tS Yu A A' row h3 hg hr,fO h4 hg (fun r e=>EF GQ.out.size (hr r e).1)⟩
 case h0=>exact ⟨db,0,KF.out,HD4.out,KY.out,GQ.out⟩
 case round =>
  rintro lq pre ⟨i,hi⟩ W K GM hK;have SA:=DX hK;clear hK;gi_wp2
  refine SA.out _ ?_
  clear SA;rintro WR ⟨g,cd,hp,ho,hl,hk⟩;have HPD:=DX hp;have HOD:=DX ho;have HPL:=DX hl;have XN:=DX hk;have OL:=DX (show (pre++[(⟨i,hi⟩:{ k:Nat // k<l })]).map (fun i=>Value.string (jF ts i.1))=pre.map (fun i=>Value.string (jF ts i.1))++[Value.string (jF ts i)] by simp);have HPN:=DX (show (pre++[(⟨i,hi⟩:{ k:Nat // k<l })]).length=pre.length+1 by simp)
  obtain ⟨ad,had⟩:∃ ad,ad=some (⟨g,0,none⟩:Addr):=⟨_,rfl⟩
  rw [<- had] at HPD HOD;obtain ⟨bx,ox,rfl,hcx⟩:=HS.out.at aE
  have hcy:=fun w k=>(hcx i hi w k).1
  rw [show (ts.getD i aX).d=jF ts i from rfl] at hcy;generalize pre++[(⟨i,hi⟩:{ k:Nat // k<l })]=pre2 at *;generalize pre.map (fun i=>Value.string (jF ts i.1))=xsd at *
  obtain ⟨nd,VC⟩:∃ nd,nd=pre.length:=⟨_,rfl⟩
  rw [<- VC] at HPD HOD HPN GM;have MN:=DX (MZ.out i)
  obtain ⟨s9,XG⟩:∃ s9,s9=jF ts i:=⟨_,rfl⟩
  rw [<- XG] at hcy OL;have HCX:=DX hcy;have OH:=hpdl
  have hn60:nd<=60:=by omega
  clear hp ho hl hk had hcx hcy VC XG;gi_wp2_with fail
  refine Pj.Zw nR (fun az0 L az w=>∃ V:Nat->Value,az=Pj.Zb [(16,0),(17,1),(18,2),(19,3),(20,4),(21,5),(22,6),(23,7)] V az0/\Pj.J wo [Pj.Is (.slice ad nd cd),Pj.Is (.slice (some ⟨bx,ox,none⟩) l cap),Pj.Is (.int .i64 i),Pj.Is (.pointer (some ⟨bx,ox+i*3,none⟩)),Pj.Is (.pointer (some ⟨bx,ox+i*3,none⟩)),Pj.Is (.string s9),(fun _ _=>True),(fun _ _=>True),(fun _ _=>True)] L V w/\Pj.AM wo.heap.size 9 (.slice ad nd cd) nd xsd (.string s9) 6 7 L V w/\Pj.AL pd 72 #[.slice ad nd cd] 0 7 8 L V w/\(KeepsOthers WR w/\cH WR w)/\aA w pL #[.slice (some ⟨bx,ox,none⟩) l cap] 22/\(L 7->L 0)) nR nR ?eh0 ?ehs ?ehe
  case eh0 =>
   intro L hL;exact ⟨_,Pj.Zi _ (fun j=>([16,17,18,19,20,21,22,23,0]:List Nat).getD j 0) [0,1,2,3,4,5,6,7],Pj.J.none (n:=9) (EA _) hL (XN.out.drew),Pj.AM.start (aH HOD.out (EX _).drew) (hL 7 aF) (hL 6 aF),Pj.AL.start (HPD.out.kept (EX _).drew) (hL 8 aF),⟨dR (EX _).drew,cH.of_kept (EX _).drew⟩,(HPL.out.kept (EX _).drew),fun h=>absurd h (hL 7 aF)⟩
  case ehs =>
   rintro L L' az w iz opz Kq ⟨V,rfl,hJ,QF,QE,hX,NB,MP⟩ ho FY FZ hL IH;have hP:Pj.Zh [Pj.Is (.slice ad nd cd),Pj.Is (.slice (some ⟨bx,ox,none⟩) l cap),Pj.Is (.int .i64 i),Pj.Is (.pointer (some ⟨bx,ox+i*3,none⟩)),Pj.Is (.pointer (some ⟨bx,ox+i*3,none⟩)),Pj.Is (.string s9),(fun _ _=>True),(fun _ _=>True),(fun _ _=>True)]:=⟨Pj.Is.flat _,Pj.Is.flat _,Pj.Is.flat _,Pj.Is.flat _,Pj.Is.flat _,Pj.Is.flat _,(fun _ _ _ _ _=>trivial),(fun _ _ _ _ _=>trivial),(fun _ _ _ _ _=>trivial),trivial⟩;have HP:=DX hP;clear hP
   match iz,ho with
   | 0,ho =>
    simp only [iU] at ho
    have hcu:=(QE.b0 (fun h=>FY (MP (QE.ord h)))).cell 0
    have HJ:=DX hJ;clear hJ;have WU:=DX QF;clear QF;have LC:=DX QE;clear QE;have LG:=DX hX;clear hX;have QA:=DX NB;clear NB;subst ho
    refine Pj.Za.free rfl ?_
    simp only [Pj.Zb,dO,Act.put];go_simp;exact IH _ _ ⟨Pj.Yz V 0 (.slice ad nd cd),by simp only [Pj.Zb,dO,Act.put,Pj.Yz,Nat.reduceEqDiff,if_true,if_false],HJ.out.flat HP.out hL (HJ.out.kp.trans (EX _)) (EZ (EX _)) (rfl),WU.out.same aF aF hL (EX _),LC.out.same aF FY hL (EX _),LG.out,QA.out.kept (EX _),fun h=>(hL 0).2 (((hL 7).1 h).elim (fun e=>absurd e aF) (fun q=>.inr (MP q)))⟩
   | 1,ho =>
    simp only [iU] at ho;have PB:=NB.cell 0;have HJ:=DX hJ;clear hJ;have WU:=DX QF;clear QF;have LC:=DX QE;clear QE;have LG:=DX hX;clear hX;have QA:=DX NB;clear NB;subst ho
    refine Pj.Za.free rfl ?_
    simp only [Pj.Zb,dO,Act.put];go_simp;exact IH _ _ ⟨Pj.Yz V 1 (.slice (some ⟨bx,ox,none⟩) l cap),by simp only [Pj.Zb,dO,Act.put,Pj.Yz,Nat.reduceEqDiff,if_true,if_false],HJ.out.flat HP.out hL (HJ.out.kp.trans (EX _)) (EZ (EX _)) (rfl),WU.out.same aF aF hL (EX _),LC.out.same aF FY hL (EX _),LG.out,QA.out.kept (EX _),fun h=>(hL 0).2 (((hL 7).1 h).elim (fun e=>absurd e aF) (fun q=>.inr (MP q)))⟩
   | 2,ho =>
    simp only [iU] at ho;have HJ:=DX hJ;clear hJ;have WU:=DX QF;clear QF;have LC:=DX QE;clear QE;have LG:=DX hX;clear hX;have QA:=DX NB;clear NB;subst ho
    refine Pj.Za.free rfl ?_
    simp only [Pj.Zb,dO,Act.put];go_simp;exact IH _ _ ⟨Pj.Yz V 2 (.int .i64 i),by simp only [Pj.Zb,dO,Act.put,Pj.Yz,Nat.reduceEqDiff,if_true,if_false],HJ.out.flat HP.out hL (HJ.out.kp.trans (EX _)) (EZ (EX _)) (rfl),WU.out.same aF aF hL (EX _),LC.out.same aF FY hL (EX _),LG.out,QA.out.kept (EX _),fun h=>(hL 0).2 (((hL 7).1 h).elim (fun e=>absurd e aF) (fun q=>.inr (MP q)))⟩
   | 3,ho =>
    simp only [iU] at ho
    have e1:V 1=.slice (some ⟨bx,ox,none⟩) l cap:=hJ.h 1 (FZ 1 (by rw [<- ho];kernel_rfl))
    have e2:V 2=.int .i64 i:=hJ.h 2 (FZ 2 (by rw [<- ho];kernel_rfl))
    have HJ:=DX hJ;clear hJ;have WU:=DX QF;clear QF;have LC:=DX QE;clear QE;have LG:=DX hX;clear hX;have QA:=DX NB;clear NB;subst ho
    refine Pj.Za.free rfl ?_
    simp only [Pj.Zb,dO,Act.put,e1,e2];go_simp;exact IH _ _ ⟨Pj.Yz V 3 (.pointer (some ⟨bx,ox+i*3,none⟩)),by simp only [Pj.Zb,dO,Act.put,Pj.Yz,Nat.reduceEqDiff,if_true,if_false,e1,e2],HJ.out.flat HP.out hL (HJ.out.kp.trans (EX _)) (EZ (EX _)) (rfl),WU.out.same aF aF hL (EX _),LC.out.same aF FY hL (EX _),LG.out,QA.out.kept (EX _),fun h=>(hL 0).2 (((hL 7).1 h).elim (fun e=>absurd e aF) (fun q=>.inr (MP q)))⟩
   | 4,ho =>
    simp only [iU] at ho
    have e3:V 3=.pointer (some ⟨bx,ox+i*3,none⟩):=hJ.h 3 (FZ 3 (by rw [<- ho];kernel_rfl))
    have HJ:=DX hJ;clear hJ;have WU:=DX QF;clear QF;have LC:=DX QE;clear QE;have LG:=DX hX;clear hX;have QA:=DX NB;clear NB;subst ho
    refine Pj.Za.free rfl ?_
    simp only [Pj.Zb,dO,Act.put,e3];go_simp;exact IH _ _ ⟨Pj.Yz V 4 (.pointer (some ⟨bx,ox+i*3,none⟩)),by simp only [Pj.Zb,dO,Act.put,Pj.Yz,Nat.reduceEqDiff,if_true,if_false,e3],HJ.out.flat HP.out hL (HJ.out.kp.trans (EX _)) (EZ (EX _)) (rfl),WU.out.same aF aF hL (EX _),LC.out.same aF FY hL (EX _),LG.out,QA.out.kept (EX _),fun h=>(hL 0).2 (((hL 7).1 h).elim (fun e=>absurd e aF) (fun q=>.inr (MP q)))⟩
   | 5,ho =>
    simp only [iU] at ho
    have e4:V 4=.pointer (some ⟨bx,ox+i*3,none⟩):=hJ.h 4 (FZ 4 (by rw [<- ho];kernel_rfl))
    obtain RQ:=HCX.out _ hJ.kp;have HJ:=DX hJ;clear hJ;have WU:=DX QF;clear QF;have LC:=DX QE;clear QE;have LG:=DX hX;clear hX;have QA:=DX NB;clear NB;subst ho
    refine Pj.Za.free rfl ?_
    simp only [Pj.Zb,dO,Act.put,e4];go_simp;exact IH _ _ ⟨Pj.Yz V 5 (.string s9),by simp only [Pj.Zb,dO,Act.put,Pj.Yz,Nat.reduceEqDiff,if_true,if_false,e4],HJ.out.flat HP.out hL (HJ.out.kp.trans (EX _)) (EZ (EX _)) (rfl),WU.out.same aF aF hL (EX _),LC.out.same aF FY hL (EX _),LG.out,QA.out.kept (EX _),fun h=>(hL 0).2 (((hL 7).1 h).elim (fun e=>absurd e aF) (fun q=>.inr (MP q)))⟩
   | 6,ho =>
    simp only [iU] at ho
    have e5:V 5=.string s9:=hJ.h 5 (FZ 5 (by rw [<- ho];kernel_rfl))
    have HJ:=DX hJ;clear hJ;have WU:=DX QF;clear QF;have LC:=DX QE;clear QE;have LG:=DX hX;clear hX;have QA:=DX NB;clear NB;subst ho
    refine Pj.Za.free rfl ?_
    simp only [Pj.Zb,dO,Act.put,e5];go_simp;exact IH _ _ ⟨Pj.Yz V 6 (.slice (some ⟨w.heap.size,0,none⟩) 1 1),by simp only [Pj.Zb,dO,Act.put,Pj.Yz,Nat.reduceEqDiff,if_true,if_false,e5],HJ.out.flat HP.out hL (HJ.out.kp.trans ((EX _).alloc _)) (EZ ((EX _).alloc _)) (trivial),WU.out.made aF hL,LC.out.same aF FY hL ((EX _).alloc _),⟨LG.out.1.trans (dR ((EX _).alloc _)),LG.out.2.trans (cH.of_kept ((EX _).alloc _))⟩,QA.out.kept ((EX _).alloc _),fun h=>(hL 0).2 (((hL 7).1 h).elim (fun e=>absurd e aF) (fun q=>.inr (MP q)))⟩
   | 7,ho =>
    simp only [iU] at ho
    have e0:V 0=.slice ad nd cd:=hJ.h 0 (FZ 0 (by rw [<- ho];kernel_rfl))
    have l6:=FZ 6 (by rw [<- ho];kernel_rfl);obtain ⟨g,e6,hgb⟩:=QF.c l6 FY;have FU:=QF.a0 FY;have l0:=FZ 0 (by rw [<- ho];kernel_rfl);have HJ:=DX hJ;clear hJ;have WU:=DX QF;clear QF;have LC:=DX QE;clear QE;have LG:=DX hX;clear hX;have QA:=DX NB;clear NB;subst ho
    refine Pj.Za.free rfl ?_
    simp only [Pj.Zb,dO,Act.put,e0,e6]
    refine Pj.AU _ _ 72 rfl wo.heap.size 9 iA (.string ByteArray.empty) 16 EP HIA.out.1 HIA.out.2.1 HIA.out.2.2.1 HIA.out.2.2.2 rfl (.slice ad nd cd) nd xsd rfl FU g (.string s9) rfl hgb rfl aE aF (HJ.out.kp.size) ?_
    intro v' w' LU GB;simp only [dO,Act.put];exact IH _ _ ⟨Pj.Yz V 7 (v'),by simp only [Pj.Zb,dO,Act.put,Pj.Yz,Nat.reduceEqDiff,if_true,if_false,e0,e6],HJ.out.flat HP.out hL (cD HJ.out.kp GB (fun q e=>(FU.lt q e).1) (EA _)) (GB.size) (trivial),Pj.AM.app LU hL,LC.out.other aF FY hL GB (Pj.Zs FU aF),⟨LG.out.1.trans (oD FU GB),LG.out.2.trans (cH.of_row FU GB)⟩,aM QA.out GB (Pj.Zs FU aF _ _ QA.out),fun _=>(hL 0).2 (.inr l0)⟩
   | 8,ho =>
    simp only [iU] at ho;have l7:=FZ 7 (by rw [<- ho];kernel_rfl);obtain ⟨sx,sc,e7⟩:=aP (QF.a1 l7);have hbF:=QE.b0 FY;have hcF:w.cell? ⟨pd,0,none⟩=some (.slice ad nd cd):=hbF.cell 0;have hfF:=hbF.free 0;have HJ:=DX hJ;clear hJ;have WU:=DX QF;clear QF;have LC:=DX QE;clear QE;have LG:=DX hX;clear hX;have QA:=DX NB;clear NB;subst ho
    refine Pj.Za.free rfl ?_
    simp only [Pj.Zb,dO,Act.put,e7];go_simp;exact IH _ _ ⟨Pj.Yz V 8 (undef),by simp only [Pj.Zb,dO,Act.put,Pj.Yz,Nat.reduceEqDiff,if_false,e7],HJ.out.flat HP.out hL (HJ.out.kp.setCell (OH) _) (by simp) (trivial),WU.out.other aF aF hL (vQ _ _ _ _) (Pj.Zd hbF aF),LC.out.stored FY l7 hL e7,⟨LG.out.1.trans (KeepsOthers.setCell _ _ _),LG.out.2.trans (cH.of_set hbF _ _)⟩,aM QA.out (vQ _ _ _ _) (Pj.Zd hbF aF _ _ QA.out),fun h=>(hL 0).2 (((hL 7).1 h).elim (fun e=>absurd e aF) (fun q=>.inr (MP q)))⟩
   | n+9,ho=>simp at ho
  case ehe =>
   rintro L az w ⟨V,rfl,hJ,QF,QE,hX,NB,MP⟩ GH;have hBF:=QE.b1 (GH 8 aF);have hOA:=QF.a1 (GH 7 aF);have QA:=DX NB;have HXE:=DX hX;have HKj:=DX hJ.kp;clear hJ GH QF QE hX NB MP;simp only [Pj.Zb,dO,Act.put];generalize V 7=vA at *;have LB:=DX hBF;clear hBF;have HOA:=DX hOA;clear hOA;obtain ⟨g2,c2,rfl⟩:=Ky HOA.out aE;have HKN:=DX HKj.out;gi_wp2;refine ⟨HXE.out.1,HXE.out.2,g2,c2,?_,?_,QA.out,HKN.out⟩
   . rw [HPN.out]
     have:=LB.out
     simpa using this
   . rw [HPN.out,OL.out];exact HOA.out
 case done =>
  rintro D xs W hD hS ⟨g,cd,hp,ho,hl,hk⟩ aBF
  obtain ⟨L,hL⟩:∃ L,L=(lU xs).map fun n=>(jF ts n).data.toList:=⟨_,rfl⟩
  have IZ:xs.length=L.length:=by rw [hL,List.length_map,fH]
  have SH:(xs.map fun i=>Value.string (jF ts i.1))=L.map encStr:=by
   rw [hL,List.map_map];unfold lU;rw [List.map_map];rfl
  have hM:L.mergeSort (fun x y=>decide (x<=y))=((List.range l).filter (fX ts rs)).map fun n=>(jF ts n).data.toList:=by
   have h:=Gm NX.out rs;rw [HL.out] at h;rw [hL,show lU xs=jZ (oZ ts) (dZ l (kM ts rs)) from hS];exact h
  obtain ⟨M,hMM⟩:∃ M,M=L.mergeSort (fun x y=>decide (x<=y)):=⟨_,rfl⟩
  have hMl:M.length=L.length:=by rw [hMM,List.length_mergeSort]
  have HFM:=DX (show M.map encStr=(eG ts rs).map Value.string by
   rw [hMM,hM];unfold eG;rw [HL.out,List.map_map,List.map_map]
   rfl)
  have NG:=DX (show (eG ts rs).length=L.length by
   rw [<- hMl,hMM,hM];unfold eG
   rw [HL.out,List.length_map,List.length_map])
  have HFZ:=DX (show ∀ s∈eG ts rs,s.size<=9223372036854775807 from fun s hs=>by
   unfold eG at hs;obtain ⟨n,_,rfl⟩:=List.mem_map.1 hs
   exact MZ.out n)
  have hLl:L.length<=60:=by
   rw [<- hMl,hMM,hM,List.length_map];have:=List.length_filter_le (fX ts rs) (List.range l);rw [List.length_range] at this;omega
  rw [IZ,SH] at ho;rw [IZ] at hp;obtain ⟨LW,⟨e0,_⟩ | ⟨g',c',cur,e1,hbg,UA,hn,hm,IG,htk⟩⟩:=ho
  . cases e0
  cases e1;have YL:g<W.heap.size:=aA.lt (show aA W g cur 9 from UA);have HHO:=DX (holds_of_block (ss:=L) UA (by simpa using htk));have SV:=DX (fun n os=>ownsRow_sorted (n:=n) (os:=os) (ss:=L) (ts:=M) hMl hbg UA hn hm aE);have HPW:=DX hp;have MH:=DX hk;have HDW:=DX aBF;have HMM:=DX hMM;have hgd:some pd≠some g:=Pj.Zd (show aA W g cur 9 from UA) aF pd _ hp
  have hgD:some D≠some g:=fun e=>by
   cases e;rw [UA] at aBF;cases aBF
  have hDl:D<W.heap.size:=(Array.getElem?_eq_some_iff.1 aBF).1
  have ZU:=DX hbg;have a0:=fC hp;generalize eG ts rs=FF at *;clear hL IZ SH hM hMM hMl LW UA hn hm IG htk hp hl hk aBF hS hbg;go_wp2_with fail
  refine (BP g 0 cd L _ HHO.out YL aE).mono ?_
  rintro e w6 ⟨rfl,n6,os6,VI⟩;rw [<- HMM.out] at VI;have MQ:=SV.out n6 os6
  have hg6:W.grownBy w6 (some g):=by rw [VI];exact grownBy_sorted _
  rw [<- VI] at MQ;clear VI SV;have NO:=DX (fO MH.out hg6 (fun r e=>by cases e;exact ZU.out));have HP6:=DX (HPW.out.gr hg6 hgd);have HD6:=DX ((hg6.block D hDl hgD).trans HDW.out);rw [HFM.out] at MQ;obtain ⟨a6,c6,e6,_,GL⟩:=eC MQ NG.out HFZ.out;cases e6;have IN:=DX GL
  have HBK:=DX (show ∃ cs,aA w6 g cs 9 from by
   rcases MQ.2 with ⟨e,_⟩ | ⟨q,cap,cur,e,_,hq,_⟩
   . cases e
   . cases e;exact ⟨_,hq⟩)
  have a6:=fC HP6.out;clear MQ hg6 GL a0;go_wp2;refine ⟨by simp,.inl ⟨_,_,rfl,run_takeDeferred HD6.out,?_⟩⟩;have k2:aB wo (w6.putObj D (.deferred none)):=Below.grown NO.out (cK w6 D (.deferred none)) (by have:=NO.out.size;simp;omega) (fun k e=>by cases e;have:=GQ.out.size;omega);refine ⟨.tuple #[.slice (some ⟨g,0,none⟩) L.length cd,.int .i64 0],?_,g,cd,by rw [NG.out],by rw [NG.out];exact tX IN.out HD6.out rfl,k2,ZU.out,?_⟩
  rotate_left
  . obtain ⟨cs,hb⟩:=HBK.out
    exact ⟨cs,((cK w6 D (.deferred none)).block g (aA.lt hb) (fun e=>hgD e.symm)).trans hb⟩
  simp [results,Tryz.f107,go_sem]
theorem xP (a:Option Addr) (l cap:Nat) (ss:List ByteArray) (x:ByteArray) (w:World) (h:bD w a l ss) :
 Calls Tryz.prog 132 #[.slice a l cap,.string x] w fun e w'=>e=.returned (.bool (iS x ss))/\w=w':=by
 have OH:=h.le
 by_cases h0:l=0
 . subst h0
   obtain rfl:ss=[]:=List.length_eq_zero_iff.1 h.len_eq
   exact (BI a cap x w).mono fun _ _ q=>⟨q.1,q.2.symm⟩
 . obtain ⟨b,off,rfl,hc⟩:=h.at aE
   have hb:Lib.containsS ss x=iS x ss:=by rw [Bool.eq_iff_iff,Lib.containsS_iff,lB]
   refine (BM b off l cap ss x w (by rw [h.len_eq];exact EA _) OH (fun j hj=>hc j (by rw [<- h.len_eq];exact hj) w (EX _))).mono fun _ _ q=>⟨?_,q.2.symm⟩
   rw [q.1,EE (by rw [h.len_eq];exact EA _),hb]
def qM (d:ByteArray) (x:Th):Bool:=iS d (sE x)
def fS (ts:List Th) (d:ByteArray):List ByteArray:=(ts.filter (qM d)).map (·.d)
theorem Fl (ts:List Th) (d:ByteArray) (k:Nat) (h:k<ts.length):(ts.take (k+1)).filter (qM d)=(ts.take k).filter (qM d)++(if qM d (ts.getD k aX)=true then [ts.getD k aX] else []):=by
 rw [List.take_succ_eq_append_getElem h,List.filter_append]
 have:ts.getD k aX=ts[k]:=by simp [List.getD,h]
 rw [this]
 congr 1
 cases hh:qM d ts[k] <;> simp [hh]
theorem Cd (ax:Option Addr) (l cap:Nat) (ts:List Th) (d:ByteArray) (wo:World) (h:bO wo ax l ts) (hB:fF ts=true) :
 Calls Tryz.prog 112 #[.slice ax l cap,.string d] wo (qL wo (fS ts d)):=by
 have HS:=DX h;have HL:=DX h.len_eq
 have h60:l<=60:=by rw [<- h.len_eq];exact jL hB
 have MZ:=DX (show ∀ s∈fS ts d,s.size<=9223372036854775807 from fun s hs=>by
  unfold fS at hs;obtain ⟨x,hx,rfl⟩:=List.mem_map.1 hs
  have:=(h.sizes x (List.mem_filter.1 hx).1).1
  omega)
 have HU:=DX (show fS ts d=(ts.filter (qM d)).map (·.d) from rfl);obtain ⟨i0,PI,GV,GJ,GO⟩:=info_parts BD;have HI:=DX (EC PI (EC GV (EC GJ GO)));generalize fS ts d=UL at *;clear PI GV GJ GO h hB;go_enter Tryz.func112,Tryz.ntmps112;go_wp2_with fail;go_loopw [5,6] (fun xv iv wr=>∃ k:Nat,k<=l/\iv=.int .i64 k/\wr.ownsRow wo.heap.size 9 1 xv ((ts.take k).filter (qM d)).length (((ts.take k).filter (qM d)).map fun x=>Value.string x.d)/\aB wo wr) (fun _ iv _=>l - (intOf iv).toNat)
 case atStart=>exact Rp
 case round =>
  rename Value=>xv
  obtain ⟨k,hk,rfl,PW,hkx⟩:=hrel;have HK:=DX hkx;have HO:=DX PW;clear hkx
  by_cases FV:k<l
  . have GU:decide (k<l)=true:=DZ FV
    obtain ⟨b,off,rfl,hc⟩:=HS.out.at aE;obtain ⟨c0,c1,c2⟩:=hc k FV _ HK.out;have HC:=DX (hc k FV);have IX:=DX (Fl ts d k (by rw [HL.out];exact FV))
    have hfl:((ts.take k).filter (qM d)).length<=60:=by have:=List.length_filter_le (qM d) (ts.take k);rw [List.length_take] at this;omega
    obtain ⟨x,hx⟩:∃ x,x=ts.getD k aX:=⟨_,rfl⟩
    rw [<- hx] at c0 c1 c2 IX HC;clear hc hx;obtain ⟨av,cv,rfl⟩:=aP PW
    generalize (ts.take k).filter (qM d)=FK at *
    clear PW;have HNA:=DX (sX x);have HUB:=DX (show qM d x=iS d (sE x) from rfl);generalize qM d x=ub at *;generalize sE x=ns at *;go_wp2_with fail
    refine (HNA.out _).mono ?_
    rintro e w4 ⟨an,cn,rfl,GL,IV⟩;have GQ:=DX (HK.out.trans IV);have PG:=DX (aH HO.out IV);have HH:=DX (Fh an ns.length cn ns d w4 GL);rw [<- HUB.out] at HH;clear GL IV c0 c1 c2;go_wp2_with fail
    refine HH.out.mono ?_
    rintro e w5 ⟨rfl,GZ⟩;have IQ:=DX (GQ.out.trans GZ);have US:=DX (aH PG.out GZ);clear GZ HH HNA;obtain ⟨c0,c1,c2⟩:=HC.out _ IQ.out;clear HC;exact Vz
  . obtain rfl:l=k:=by omega
    have GU:decide (l<l)=false:=DY aE;have NY:=DX (show ts.take l=ts from EE (by rw [HL.out];exact EA _));rw [NY.out] at PW
    have hm:((ts.filter (qM d)).map fun x=>Value.string x.d)=UL.map Value.string:=by rw [HU.out,List.map_map];rfl
    have hl:UL.length=(ts.filter (qM d)).length:=by rw [HU.out,List.length_map]
    rw [hm] at PW;obtain ⟨a',c',rfl,_,GL⟩:=eC PW hl MZ.out;rw [<- hl] at GL ⊢;have IN:=DX GL;clear PW hm hl GL NY HU HO;go_wp2_with fail;go_ret;exact ⟨a',c',rfl,IN.out,HK.out⟩
theorem Do (ax:Option Addr) (l cap:Nat) (ts:List Th) (d:ByteArray) (wo:World) (h:bO wo ax l ts) (hB:fF ts=true) :
 Calls Tryz.prog 100 #[.slice ax l cap,.string d] wo (Vl wo (fS ts d) 0):=by
 have HS:=DX h;have HL:=DX h.len_eq
 have h60:l<=60:=by rw [<- h.len_eq];exact jL hB
 have MZ:=DX (show ∀ s∈fS ts d,s.size<=9223372036854775807 from fun s hs=>by
  unfold fS at hs;obtain ⟨x,hx,rfl⟩:=List.mem_map.1 hs
  have:=(h.sizes x (List.mem_filter.1 hx).1).1
  omega)
 have HU:=DX (show fS ts d=(ts.filter (qM d)).map (·.d) from rfl);obtain ⟨i0,PI,GV,GJ,GO⟩:=info_parts BD;have HI:=DX (EC PI (EC GV (EC GJ GO)));have WE:=nX ax l cap ts wo h;rw [if_pos hB] at WE;have KQ:=DX WE;clear WE;generalize fS ts d=UL at *;clear PI GV GJ GO h hB;go_enter Tryz.func100,Tryz.ntmps100;go_wp2_with fail
 refine KQ.out.mono ?_
 rintro e w1 ⟨rfl,MF⟩;have IL:=DX MF;clear MF KQ
 go_upto_region 4 with (fail)
 have HD2:=DX (bA (nG w1 9) IL.out.size);have FW:=DX (IL.out.alloc (.cells #[] 9));generalize w1.alloc (.cells #[] 9)=w2 at *;go_wp2_with fail;go_loopw [6,15] (fun xv iv wr=>∃ k:Nat,k<=l/\iv=.int .i64 k/\wr.ownsRow wo.heap.size 9 1 xv ((ts.take k).filter (qM d)).length (((ts.take k).filter (qM d)).map fun x=>Value.string x.d)/\aB wo wr) (fun _ iv _=>l - (intOf iv).toNat)
 case atStart=>exact ⟨0,aE,rfl,HD2.out,FW.out⟩
 case round =>
  rename Value=>xv
  obtain ⟨k,hk,rfl,PW,hkx⟩:=hrel;have HK:=DX hkx;have HO:=DX PW;clear hkx
  by_cases FV:k<l
  . have GU:decide (k<l)=true:=DZ FV
    obtain ⟨b,off,rfl,hc⟩:=HS.out.at aE;obtain ⟨c0,c1,c2⟩:=hc k FV _ HK.out;have HC:=DX (hc k FV);have IX:=DX (Fl ts d k (by rw [HL.out];exact FV))
    have hfl:((ts.take k).filter (qM d)).length<=60:=by have:=List.length_filter_le (qM d) (ts.take k);rw [List.length_take] at this;omega
    obtain ⟨x,hx⟩:∃ x,x=ts.getD k aX:=⟨_,rfl⟩
    rw [<- hx] at c0 c1 c2 IX HC;clear hc hx;obtain ⟨av,cv,rfl⟩:=aP PW
    generalize (ts.take k).filter (qM d)=FK at *
    clear PW;have HUB:=DX (show qM d x=iS d (sE x) from rfl)
    go_upto_region 7 with (fail)
    have JK:=DX (EY wr (LT x.d x.t x.m) 62)
    have kx:=(EX wr).alloc ((KT x.d x.t x.m))
    have GC:=DX (HK.out.trans kx);have WV:=DX (aH HO.out kx);clear c0 c1 c2 kx HC
    obtain ⟨px,hpx⟩:∃ px,px=wr.heap.size:=⟨_,rfl⟩
    generalize wr.alloc ((KT x.d x.t x.m))=w3 at *;rw [<- hpx] at JK ⊢;clear hpx;obtain ⟨a0,a1,a2⟩:=dI JK.out;have HNA:=DX (vX x w3);generalize qM d x=ub at *;generalize sE x=ns at *;go_wp2_with fail
    refine HNA.out.mono ?_
    rintro e w5 ⟨an,cn,rfl,GL,IV⟩;have IQ:=DX (GC.out.trans IV);have US:=DX (aH WV.out IV);have VK:=DX (JK.out.kept IV);have HH:=DX (xP an ns.length cn ns d w5 GL);rw [<- HUB.out] at HH;clear GL IV a0 a1 a2;obtain ⟨c0,c1,c2⟩:=dI VK.out;go_wp2_with fail
    refine HH.out.mono ?_
    rintro e w' ⟨rfl,rfl⟩;clear HH HNA;exact Vz
  . obtain rfl:l=k:=by omega
    have GU:decide (l<l)=false:=DY aE;have NY:=DX (show ts.take l=ts from EE (by rw [HL.out];exact EA _));rw [NY.out] at PW
    have hm:((ts.filter (qM d)).map fun x=>Value.string x.d)=UL.map Value.string:=by rw [HU.out,List.map_map];rfl
    have hl:UL.length=(ts.filter (qM d)).length:=by rw [HU.out,List.length_map]
    rw [hm] at PW;obtain ⟨a',c',rfl,_,GL⟩:=eC PW hl MZ.out;rw [<- hl] at GL ⊢;have IN:=DX GL;clear PW hm hl GL NY HU HO;go_wp2_with fail;go_ret2;exact ⟨a',c',rfl,IN.out,HK.out⟩
end Go.Proofs.YtkfmladhicapeaaGreatDoor
namespace Go.Proofs.YtkfmladhicapeaaGreatDoor
open Go.RowKit Go.Shelf
theorem qK {ts:List Th} {rs:List ByteArray} {d:ByteArray}:d∈eG ts rs↔∃ i,i<ts.length/\Ci (oZ ts) (kM ts rs) i/\jF ts i=d:=by
 unfold eG;rw [List.mem_map]
 constructor
 . rintro ⟨i,hi,rfl⟩
   rw [List.mem_filter,List.mem_range] at hi;exact ⟨i,hi.1,(tK ts rs i).1 hi.2,rfl⟩
 . rintro ⟨i,hi,hr,rfl⟩
   exact ⟨i,by rw [List.mem_filter,List.mem_range];exact ⟨hi,(tK ts rs i).2 hr⟩,rfl⟩
theorem Ci.mono {ll:List (List Nat)} {rs qs:List Nat} (h:∀ r∈rs,Ci ll qs r) {i:Nat} (hr:Ci ll rs i):Ci ll qs i:=by
 induction hr with
 | root hr=>exact h _ hr
 | step _ hm ih=>exact .step ih hm
theorem yI {ts:List Th} (hr:gG (cY ts)=true) {i:Nat} (hi:i<ts.length):nH ts (jF ts i)=true/\fZ ts (jF ts i)=i:=by
 have e:fZ ts (jF ts i)=i:=uB ts i aE (fun j hj=>wK hr hj hi) (fun _=>gH _);refine ⟨?_,e⟩;unfold nH;rw [e];exact DZ ⟨hi,rfl⟩
theorem Sj {ts:List Th} {d:ByteArray} (h:nH ts d=true):fZ ts d<ts.length/\jF ts (fZ ts d)=d:=by
 unfold nH at h;exact of_decide_eq_true h
theorem Ty {ts:List Th} (hr:gG (cY ts)=true) {i:Nat} (hi:i<ts.length):kR ts (jF ts i)=(i:Int):=by
 obtain ⟨h1,h2⟩:=qT hr (jF ts i);obtain ⟨h3,h4⟩:=yI hr hi;have h5:cQ ts (jF ts i)<ts.length:=of_decide_eq_true (by rw [<- h1];exact h3);unfold kR;rw [if_pos h5,<- h2 h5,h4]
theorem Cb {ts:List Th} (hB:fF ts=true) {rs:List ByteArray} {i:Nat} (hi:i<ts.length) (hd:jF ts i∈eG ts rs) {x:ByteArray} (hx:x∈sE (ts.getD i aX)) (h0:¬ kR ts x<0):x∈eG ts rs:=by
 have SK:=iY hB;obtain ⟨j,hj,hr,e⟩:=qK.1 hd;obtain rfl:=Nx SK hj hi e
 have hf:nH ts x=true:=by
  obtain ⟨h1,_⟩:=qT SK x;rw [h1];have:=Pu ts x;rw [DY h0] at this
  simpa using this.symm
 refine qK.2 ⟨fZ ts x,(Sj hf).1,.step hr ?_,(Sj hf).2⟩;rw [tA ts j hi];exact sB.2 ⟨x,hx,hf,rfl⟩
theorem Pg {L:List ByteArray} (hp:L.Pairwise (fun x y=>cZ x y=true)) (k:Nat) (hk:k+1<L.length):cZ (L.getD k ByteArray.empty) (L.getD (k+1) ByteArray.empty)=true:=by
 have:=List.pairwise_iff_getElem.1 hp k (k+1) aE hk aE
 simpa [List.getD,show k<L.length by omega,hk] using this
theorem Gw {ts:List Th} (hB:fF ts=true) (rs:List ByteArray) (k:Nat) (hk:k+1<(eG ts rs).length):cZ ((eG ts rs).getD k ByteArray.empty) ((eG ts rs).getD (k+1) ByteArray.empty)=true:=by
 have SK:=iY hB
 have hp:(((List.range ts.length).filter (fX ts rs)).map (jF ts)).Pairwise (fun x y=>cZ x y=true):=by
  rw [List.pairwise_map]
  have h1:((List.range ts.length).filter (fX ts rs)).Pairwise (·<·):=List.Pairwise.filter _ List.pairwise_lt_range
  refine List.Pairwise.imp_of_mem ?_ h1
  intro a b _ hb hab;rw [List.mem_filter,List.mem_range] at hb;exact wK SK hab hb.1
 exact Pg (L:=eG ts rs) hp k hk
end Go.Proofs.YtkfmladhicapeaaGreatDoor
