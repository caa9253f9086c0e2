import Derived.Test.YtkfmladhicapeaaGreatDoorY26
set_option maxRecDepth 100000
set_option maxHeartbeats 2000000
namespace Go.Proofs.YtkfmladhicapeaaGreatDoor
open Go.RowKit Go.Shelf
attribute [local go_sem] Oper.semAt_some
theorem As (l:List UInt8) (s:ByteArray):(dA l++s).data.toList=(l++s.data.toList).drop (64*Bl.ahead l.length):=by
 rw [ByteArray.data_append,Array.toList_append]
 show l.drop _++_=_
 rw [List.drop_append_of_le_length (by unfold Bl.ahead;omega)]
theorem Ap (l:List UInt8) (s:ByteArray):64*Bl.ahead l.length+(dA l++s).size=(l++s.data.toList).length:=by
 have h:=congrArg List.length (As l s);rw [Array.length_toList,List.length_drop] at h
 have h2:(dA l++s).data.size=(dA l++s).size:=rfl
 rw [h2] at h
 have h3:64*Bl.ahead l.length<=l.length:=by unfold Bl.ahead;omega
 rw [List.length_append] at h ⊢;omega
theorem Fk (l:List UInt8) (s:ByteArray) (x:Nat):(yS (dA l++s) x).data.toList=Bl.cut (l++s.data.toList) (64*Bl.ahead l.length+x*64) (64*Bl.ahead l.length+min (x*64+64) (dA l++s).size):=by
 rw [Id,As,Mc]
theorem Jr (l:List UInt8) (s:ByteArray) (x:Nat) (hx:x+1=nB (dA l++s).size):yS (dA l++s) x=dA (l++s.data.toList):=by
 have h:=Fk l s x;have hz:=Ap l s
 have hm:min (x*64+64) (dA l++s).size=(dA l++s).size:=by unfold nB at hx;omega
 rw [hm,hz] at h
 have ha:64*Bl.ahead l.length+x*64=64*Bl.ahead (l++s.data.toList).length:=by
  rw [<- hz];unfold nB at hx;unfold Bl.ahead;omega
 unfold Bl.cut at h;rw [List.take_length,ha] at h
 apply ByteArray.ext
 apply Array.ext'
 rw [h];rfl
theorem Jg (l:List UInt8) (s:ByteArray) (x:Nat) (hx:x+1<nB (dA l++s).size) :
 Bl.block (Bl.sums (l++s.data.toList) (Bl.ahead l.length+x)) (yS (dA l++s) x).data.toList (64*Bl.ahead l.length+min (x*64+64) (dA l++s).size) false=Bl.sums (l++s.data.toList) (Bl.ahead l.length+(x+1)):=by
 have hm:min (x*64+64) (dA l++s).size=x*64+64:=by unfold nB at hx;omega
 rw [Fk,hm,show 64*Bl.ahead l.length+x*64=64*(Bl.ahead l.length+x) by omega,show 64*Bl.ahead l.length+(x*64+64)=64*(Bl.ahead l.length+x)+64 by omega];rfl
theorem Kx (l:List UInt8) (s:ByteArray) (hx:nB (dA l++s).size≠0):Bl.sums (l++s.data.toList) (Bl.ahead l.length+(nB (dA l++s).size - 1))=gL (l++s.data.toList):=by
 unfold gL;rw [<- Ap]
 congr 1
 unfold nB at hx ⊢;unfold Bl.ahead;omega
theorem uK (l:List UInt8) (s:ByteArray):Bl.sums (l++s.data.toList) (Bl.ahead l.length)=gL l:=rA _ _ _ (by unfold Bl.ahead;omega)
theorem Ig {w:World} {b:Nat} {C:Array Value} {t:TypeId} (h:aA w b C t):∀ j x,C.toList[j]?=some x->w.cell? ((⟨b,0,none⟩:Addr).add j)=some x:=by
 intro j x hj;rw [jQ,Nat.zero_add,h.cell,<- Array.getElem?_toList];exact hj
theorem Rl {v:List Nat} (h:Bl.W 8 v):∃ q0 q1 q2 q3 q4 q5 q6 q7,v=[q0,q1,q2,q3,q4,q5,q6,q7]:=by
 obtain ⟨h1,_⟩:=h
 match v,h1 with
 | [a,b,c,d,e,f,g,i],_=>exact ⟨_,_,_,_,_,_,_,_,rfl⟩
theorem pG {w a b:World} {hb:Nat} {row:Option Nat} (h:w.grownBy a (some hb)) (g:a.grownBy b row) (hr:∀ k,row=some k->w.heap.size<=k\/k=hb):w.grownBy b (some hb) :=
 ⟨g.os.trans h.os,g.tape.trans h.tape,g.output.trans h.output,EF h.size g.size,fun k hk GW=>(g.block k (EG hk h.size) (fun e=>by
  rcases hr k e.symm with q | q
  . omega
  . exact GW (by rw [q]))).trans (h.block k hk GW)⟩
theorem uJ {l:List Nat} {x n:Nat} (h:l++[x]=List.range (n+1)):l=List.range n/\x=n:=by
 rw [List.range_succ] at h;have q:=List.append_inj' h rfl;exact ⟨q.1,by simpa using q.2⟩
def WrI (wo:World) (hb p ps:Nat) (all:ByteArray) (ah:Nat) (C:Array Value) (S:Nat->List Nat) (N:Nat) (pre:List Nat) (W:World):Prop :=
 (aA W p #[.pointer (some ⟨hb,0,none⟩)] 168/\aA W (p+1) #[.string all] 9/\aA W (p+2) #[.int .i64 (ah:Int)] 3/\aA W hb C 132)/\wo.grownBy W (some hb) /\
 (∃ v,Bl.W 8 v/\aA W ps (cw v) 102/\(pre=List.range pre.length->v=S pre.length))/\(∀ y∈pre,y+1≠N)
def WrX (wo:World) (hb p ps:Nat) (all:ByteArray) (ah:Nat) (C:Array Value) (S:Nat->List Nat) (N:Nat) (pre:List Nat) (W:World):Prop :=
 (aA W p #[.pointer (some ⟨hb,0,none⟩)] 168/\aA W (p+1) #[.string all] 9/\aA W (p+2) #[.int .i64 (ah:Int)] 3/\aA W hb C 132)/\wo.grownBy W (some hb) /\
 (∃ v,Bl.W 8 v/\aA W ps (cw v) 102/\(pre=List.range (pre.length - 1+1)->v=S (pre.length - 1)))/\(∃ y,pre.getLast?=some y/\y+1=N)
theorem WrI.own {wo:World} {hb p ps:Nat} {all:ByteArray} {ah:Nat} {C:Array Value} {S:Nat->List Nat} {N:Nat} {α:Type} {b:Nat} (hb':wo.heap.size<=b) (g:List α->List Nat):OwnFrom b (fun pre W=>WrI wo hb p ps all ah C S N (g pre) W):=by
 exact Yi
theorem WrX.own {wo:World} {hb p ps:Nat} {all:ByteArray} {ah:Nat} {C:Array Value} {S:Nat->List Nat} {N:Nat} {α:Type} {b:Nat} (hb':wo.heap.size<=b) (g:List α->List Nat):OwnFrom b (fun pre W=>WrX wo hb p ps all ah C S N (g pre) W):=by
 exact Yi
theorem Gg (l:List UInt8) (s:ByteArray) (hb:Nat) (w:World) (hH:qE w hb l) (hl:l.length+s.size<=281474976710656) (hB:fD w) (hO:fW w) (h1:hb≠0) (h2:hb≠1) :
 Calls Tryz.prog 116 #[.pointer (some ⟨hb,0,none⟩),.string s] w fun e w'=>e=.returned (.tuple #[])/\qE w' hb (l++s.data.toList)/\w.grownBy w' (some hb):=by
 obtain ⟨a,ha⟩:∃ a,a=Bl.ahead l.length:=⟨_,rfl⟩
 obtain ⟨r,hr⟩:∃ r,r=dA l:=⟨_,rfl⟩
 obtain ⟨v,hv⟩:∃ v,v=eU (gL l):=⟨_,rfl⟩
 obtain ⟨n,hn⟩:∃ n,n=l.length:=⟨_,rfl⟩
 have UN:Bl.W 8 v:=by rw [hv];exact sL (gC l)
 have hH2:aA w hb (bP v r n) 132:=by rw [hv,hr,hn];exact hH
 have hrs:r.size+64*a=n:=by
  rw [hr,ha,hn]
  show (List.drop _ _).toArray.size+_=_
  rw [List.size_toArray,List.length_drop];unfold Bl.ahead;omega
 have HH:=DX hH2;have HV:=DX hv;have HR:=DX hr;have HA:=DX ha;have HN:=DX hn;have ZU:=DX hB;have XR:=DX hO;have HW:=DX UN;have HL:=DX hl;have GY:hb<w.heap.size:=hH2.lt
 have hn48:n+s.size<=281474976710656:=by rw [hn];exact hl
 clear hH hH2 hv hr ha hn hB hO UN hl
 obtain ⟨all,GH⟩:∃ all,all=r++s:=⟨_,rfl⟩
 have HAL:=DX GH
 have has:all.size=r.size+s.size:=by rw [GH,ByteArray.size_append]
 have hadd:∀ u:World,(Op.stringOp .add r s).run Tryz.prog u=.ok (.string all) u:=fun u=>by
  rw [GH];exact run_string_add_sum _ _ _ aE
 clear GH;refine callsIn_wide.1 (callsIn_of_wp_marks (n:=8) Tryz.func116 rfl trivial ?_ rfl);simp only [Tryz.ntmps116,List.size_toArray,List.length_nil,List.length_cons,Nat.reduceAdd,Nat.reduceSub,Array.replicate_succ,Array.replicate_zero,List.push_toArray,List.append_toArray,List.nil_append,List.cons_append]
 refine wpIn_wide.2 ?_
 go_upto_region 1 with (fail)
 obtain ⟨p,hp⟩:∃ p,p=w.heap.size:=⟨_,rfl⟩
 have VX:=DX (EY w #[.pointer (some ⟨hb,0,none⟩)] 168);have IL:=DX ((EX w).alloc (.cells #[.pointer (some ⟨hb,0,none⟩)] 168));have ZG:=DX (show p+1=(w.alloc (.cells #[.pointer (some ⟨hb,0,none⟩)] 168)).heap.size by rw [hp];simp);have HH1:=DX (HH.out.kept IL.out);rw [<- hp] at VX GY ⊢;have HP:=DX hp;clear hp HH;generalize w.alloc (.cells #[.pointer (some ⟨hb,0,none⟩)] 168)=w1 at *;have c0:=fC VX.out;have c8:=HH1.out.cell 8;rw [mV HW.out] at c8;go_step3
 go_upto_region 2 with (fail)
 have HT2:=DX (EY w1 #[.string all] 9);have HP2:=DX (VX.out.kept ((EX _).alloc (.cells #[.string all] 9)));have HH2:=DX (HH1.out.kept ((EX _).alloc (.cells #[.string all] 9)));have FW:=DX (IL.out.alloc (.cells #[.string all] 9));have HZ2:=DX (show p+2=(w1.alloc (.cells #[.string all] 9)).heap.size by have:=ZG.out;simp;omega);rw [<- ZG.out] at HT2 ⊢;clear VX HH1 IL ZG hadd c0 c8;generalize w1.alloc (.cells #[.string all] 9)=w2 at *;have c0:=fC HP2.out;have c8:=HH2.out.cell 8;rw [mV HW.out] at c8;have c9:=HH2.out.cell 9;rw [oR HW.out] at c9
 obtain ⟨ah,hah⟩:∃ ah,ah=64*a:=⟨_,rfl⟩
 have e1:(n:Int) - (r.size:Int)=(ah:Int):=by omega
 have HAH:=DX hah;clear hah
 have k2z:aB w2 (w2.alloc (.cells #[.int .i64 0] 3)):=(EX w2).alloc _
 have d0:=fC (HP2.out.kept k2z)
 have d8:=(HH2.out.kept k2z).cell 8
 rw [mV HW.out] at d8
 have d9:=(HH2.out.kept k2z).cell 9
 rw [oR HW.out] at d9;clear k2z;go_wp2_with fail;go_region
 have k3:aB w2 (w2.alloc (.cells #[.int .i64 (ah:Int)] 3)).drew:=((EX w2).alloc _).drew
 have TL:=DX (show aA (w2.alloc (.cells #[.int .i64 (ah:Int)] 3)).drew w2.heap.size #[.int .i64 (ah:Int)] 3 from EY w2 #[.int .i64 (ah:Int)] 3);have TW:=DX (HP2.out.kept k3);have HT3:=DX (HT2.out.kept k3);have HH3:=DX (HH2.out.kept k3);have GC:=DX (FW.out.trans k3);have HZ3:=DX (show p+3=(w2.alloc (.cells #[.int .i64 (ah:Int)] 3)).drew.heap.size by have:=HZ2.out;simp;omega);rw [<- HZ2.out] at TL ⊢;clear HP2 HT2 HH2 FW HZ2 k3 c0 c8 c9 e1 d0 d8 d9
 generalize (w2.alloc (.cells #[.int .i64 (ah:Int)] 3)).drew=w3 at *
 have c0:=fC TW.out;go_wp2_with (refine dE rfl 102 (.tmp 27) rfl ⟨hb,0,none⟩ rfl (cw v) _ (Hm HW.out HH3.out) ES rfl (by rw [eL HW.out];exact AZ) ?_)
 refine (qH v HW.out w3 (ZU.out.kept GC.out)).mono ?_
 rintro e w4 ⟨rfl,IV⟩
 have KU:eU v=gL l:=by rw [HV.out];exact qZ (gC l)
 rw [KU]
 go_upto_region 4 with (first
  | (with_reducible refine aZ rfl 102 rfl z8 BK ?_)
  | (refine aD rfl 102 (.tmp 6) (.tmp 29) rfl w4.heap.size (cw (gL l)) z8 102 rfl rfl (EY _ _ _) (by rw [eL (gC l)];exact AZ) (by rw [eL (gC l)];exact xK) (iT _) ?_))
 obtain ⟨w5,MD⟩:∃ w5,w5=(w4.alloc (.cells z8 102)).setRow w4.heap.size (cw (gL l)):=⟨_,rfl⟩
 rw [<- MD]
 have k35:aB w3 w5:=by rw [MD];exact (IV.alloc _).setRow IV.size _
 have UK:aA w5 w4.heap.size (cw (gL l)) 102:=by rw [MD];exact (EY w4 _ _).setRow _
 have hz5:w5.heap.size=w4.heap.size+1:=by rw [MD];simp [World.setRow]
 obtain ⟨ps,YO⟩:∃ ps,ps=w4.heap.size:=⟨_,rfl⟩
 have hpp:p+3<=ps:=by rw [YO,HZ3.out];exact IV.size
 rw [<- YO] at UK hz5 ⊢;have XS:=DX (TW.out.kept k35);have HT5:=DX (HT3.out.kept k35);have ZS:=DX (TL.out.kept k35);have HH5:=DX (HH3.out.kept k35);have IQ:=DX (GC.out.trans k35);have HS5:=DX UK;have HZ5:=DX hz5;clear MD k35 UK hz5 YO IV TW HT3 TL HH3 GC HZ3 c0 KU;have c0:=fC HT5.out;simp only [dO,Act.put]
 refine eS 8 ?_
 refine wpIn_label ?_
 go_wp2_with fail
 refine (Cl _ _).mono ?_
 rintro e9 w7 ⟨rfl,RW⟩
 have KD:aB w5 w7:=by rw [RW];exact (EX _).alloc _
 have RC:=DX (show aA w7 (ps+1) #[.string all] 9 by rw [RW,<- HZ5.out];exact EY _ _ _);have HZ7:=DX (show ps+2=w7.heap.size by have:=HZ5.out;rw [RW];simp;omega);rw [HZ5.out];have HP7:=DX (XS.out.kept KD);have HT7:=DX (HT5.out.kept KD);have HA7:=DX (ZS.out.kept KD);have HH7:=DX (HH5.out.kept KD);have SP:=DX (IQ.out.trans KD);have HS7:=DX (HS5.out.kept KD);clear KD RW XS HT5 ZS HH5 IQ HS5 HZ5 c0;go_wp2_with fail
 refine eS 8 ?_
 have MC:¬ (ps+1=ps):=by omega
 have HAS:=DX has
 have hab:all.size<=281474976710656:=by omega
 clear has;refine eI rfl aE (gf:=169) (lb:=#[.pointer (some ⟨ps+1,0,none⟩)]) rfl trivial (enters_of Tryz.func169 aW rfl)
  (xI 7 aE (fun g=>g=ps) all aE (ps+1) w7 MC RC.out) (aV.refl _) aV.trans aV.putObj (Below.refl _ _) (fun _=>rfl)
  (fun pre W=>WrI w hb p ps all ah (bP v r n) (fun k=>Bl.sums (l++s.data.toList) (a+k)) (nB all.size) (lU pre) W)
  (fun c pre W=>c=.exit 0/\WrX w hb p ps all ah (bP v (dA (l++s.data.toList)) n) (fun k=>Bl.sums (l++s.data.toList) (a+k)) (nB all.size) (lU pre) W)
  (WrI.own (by rw [<- HZ7.out];have:=HP.out;omega) lU) (fun c=>OwnFrom.and (Own.from (fun s A B row hs hg hr=>hs) _) (WrX.own (by rw [<- HZ7.out];have:=HP.out;omega) lU)) ?h0 ?round ?done ?stop
 case h0=>exact ⟨⟨HP7.out,HT7.out,HA7.out,HH7.out⟩,bN SP.out _,⟨_,gC l,HS7.out,fun _=>by show gL l=_;rw [HA.out,<- uK l s];rfl⟩,fun y hy=>by cases hy⟩
 case round =>
  rintro l9 ⟨ii,hi⟩ W K hK;have HK:=DX hK;clear hK
  obtain ⟨hi9,hhi⟩:∃ hi9,min (ii*64+64) all.size=hi9:=⟨_,rfl⟩
  obtain ⟨bb,KW⟩:∃ bb,yS all ii=bb:=⟨_,rfl⟩
  have hbz:bb.size<=64:=by rw [<- KW];exact Mj _ _
  simp only [hhi,KW];have HHI:=DX hhi;have RX:=DX KW;have QK:ii*64<all.size:=Sh.1 hi
  have hhz:hi9<=all.size:=by omega
  clear KW;gi_wp2
  refine HK.out _ ?_
  clear HK;rintro l9 pre W ⟨⟨hP,hT,hA,hH⟩,hG,⟨v9,PD,hS,hq⟩,hny⟩ GM;have HP9:=DX hP;have HT9:=DX hT;have HA9:=DX hA;have HH9:=DX hH;have HG9:=DX hG;have UV:=DX PD;have HS9:=DX hS;have XU:=DX hq;have HNY:=DX hny;have c0:=fC hP;have c1:=fC hT;have c2:=fC hA;clear hP hT hA hH hG PD hS hq hny
  by_cases q1:ii+1=nB all.size
  . as_aux_lemma =>
     have GU:hi9=all.size:=by unfold nB at q1;omega
     have QA:=DX (show bb=dA (l++s.data.toList) by rw [<- RX.out,HAL.out,HR.out];exact Jr l s ii (by rw [<- HR.out,<- HAL.out];exact q1));have HII:=DX q1;clear hhi q1;obtain rfl:=GU;have d0:=aC c0;have d8:=HH9.out.cell 8;rw [mV HW.out] at d8;have d8:=aC d8
     have df:∀ u:bF W,u.1.frozen? ⟨hb,8,none⟩=false:=fun u=>(HH9.out.kept u.2).free 8
     gi_wp2_with fail
     refine gU 5 aW aW aW ?_
     simp only [List.take_succ_cons,List.take_zero,List.drop_succ_cons,List.drop_zero]
     repeat (gi_big_quiet_step ((gi_at_call 146;exact (CallsIn.inRound l9 (callsIn_wide.2 (aK (qC bb _ aE)))).mono fun e w' h=>h)))
     refine wpQuietIn_nil ?_
     intro _ GD;obtain ⟨nq,FT⟩:=GD;subst FT;have k9:=nq.2
     obtain ⟨w9,hw9⟩:∃ w9,w9=nq.1:=⟨_,rfl⟩
     have e8:=d8 nq;have ef:=df nq;rw [<- hw9] at k9 e8 ef ⊢;clear hw9 d0 d8 df c0 c1 c2;gi_wp2;refine ⟨(dR k9).trans (KeepsOthers.setCell _ _ _),rfl,⟨(HP9.out.kept k9).setOther _ aE,(HT9.out.kept k9).setOther _ aE,(HA9.out.kept k9).setOther _ aE,?_⟩,bE HG9.out (bE (bN k9 _) (iE _ _ _ _)),⟨v9,UV.out,(HS9.out.kept k9).setOther _ aE,?_⟩,ii,?_,HII.out⟩
     . have q:=(HH9.out.kept k9).set (i:=8) (.string bb)
       rw [Bu HW.out,QA.out] at q;rw [<- QA.out] at q ⊢;exact q
     . intro he
       rw [dJ,List.length_append] at he ⊢;obtain ⟨g1,g2⟩:=uJ he;rw [XU.out (by simpa using g1)];rfl
     . rw [dJ];simp
  . as_aux_lemma =>
     have GU:((hi9:Int) == (all.size:Int))=false:=by rw [beq_eq_false_iff_ne];unfold nB at q1 hi;omega
     obtain ⟨u,hu⟩:∃ u,u=ah+hi9:=⟨_,rfl⟩
     have e1:(ah:Int)+(hi9:Int)=(u:Int):=by omega
     have hub:u<9223372036854775808:=by have:=HAH.out;omega
     have HU:=DX hu;have HII:=DX q1;clear hhi hu q1;gi_wp2_with (refine oP rfl 102 (.tmp 6) rfl ⟨ps,0,none⟩ rfl (cw v9) _ (Ig HS9.out) ES rfl (by rw [eL UV.out];exact AZ) ?_);have hbeg:=ZU.out.gr HG9.out h1;have UI:=XR.out.gr HG9.out h2;have HTN:=DX (Aq v9 bb u false UV.out hbz hub W hbeg UI)
     obtain ⟨v',hv'⟩:∃ v',v'=Bl.block v9 bb.data.toList u false:=⟨_,rfl⟩
     have HV':=DX hv';have HVO:=DX (show Bl.W 8 v' by rw [hv'];exact Bl.block_ok UV.out _ _ _);rw [<- hv'] at HTN;clear hv' hbeg UI c0 c1 c2 GU e1;refine ((CallsIn.inRound l9 (callsIn_wide.2 HTN.out)).mono ?_);rintro e w9 ⟨rfl,k9⟩;gi_wp2_with (refine oJ rfl 102 (.tmp 6) (.tmp 48) rfl ps (cw v') (cw v9) 102 rfl rfl (HS9.out.kept k9) (by rw [eL HVO.out];exact AZ) (by rw [eL HVO.out,eL UV.out]) (iT _) ?_);refine ⟨(dR k9).trans (KeepsOthers.of_grownBy (dB _ _ _) (fun j o e ho=>?_)),(aV.of_kept k9).trans (wZ (dB _ _ _) (fun k e=>by cases e;rfl)),⟨(HP9.out.kept k9).other _ aE,(HT9.out.kept k9).other _ aE,(HA9.out.kept k9).other _ aE,(HH9.out.kept k9).other _ aE⟩,?_,⟨v',HVO.out,(HS9.out.kept k9).setRow _,?_⟩,?_⟩
     . cases e
       have hx:w9.heap[ps]?=some _:=HS9.out.kept k9
       rw [hx] at ho;cases ho;rfl
     . have kk:=k9
       have hwp:=HP.out;have gg:=HG9.out;refine ⟨((dB w9 ps (cw v')).os.trans k9.os).trans gg.os,((dB w9 ps (cw v')).tape.trans k9.tape).trans gg.tape,((dB w9 ps (cw v')).output.trans k9.output).trans gg.output,EF gg.size (EF k9.size (dB w9 ps (cw v')).size),fun k hk GW=>?_⟩;rw [(dB w9 ps (cw v')).block k (EG hk (EF gg.size k9.size)) (fun e=>by cases e;omega),Below.block k9 k (EG hk gg.size)];exact gg.block k hk GW
     . intro he
       rw [dJ,List.length_append] at he ⊢;obtain ⟨g1,g2⟩:=uJ he;have PD:=XU.out (by simpa using g1);rw [<- g2] at PD;have TF:=Jg l s ii (by rw [<- HR.out,<- HAL.out];have:=HII.out;omega);rw [<- HR.out,<- HAL.out,<- HA.out,RX.out,HHI.out,<- HAH.out,<- HU.out] at TF;rw [HV'.out,PD]
       show Bl.block (Bl.sums _ (a+ii)) _ _ _=Bl.sums _ (a+((lU pre).length+1))
       rw [<- g2];exact TF
     . intro y hy
       rw [dJ] at hy
       rcases List.mem_append.1 hy with h | h
       . exact HNY.out y h
       . obtain rfl:=List.mem_singleton.1 h
         exact HII.out
 case done =>
  as_aux_lemma =>
   rintro D xs W hD TJ ⟨⟨hP,_,_,hH⟩,hG,⟨v9,PD,hS,hq⟩,hny⟩ hK
   have hN:nB all.size=0:=by
    rcases Nat.eq_zero_or_pos (nB all.size) with q | q
    . exact q
    . exact absurd (show nB all.size - 1+1=nB all.size by omega) (hny (nB all.size - 1) (by rw [TJ];exact List.mem_range.2 aE))
   have hz:s.size=0:=by have:=HAS.out;unfold nB at hN;omega
   have ZQ:s.data.toList=[]:=List.eq_nil_of_length_eq_zero (by rw [Array.length_toList];exact hz)
   obtain ⟨L,hL⟩:∃ L,L=l++s.data.toList:=⟨_,rfl⟩
   have hLl:L=l:=by rw [hL,ZQ,List.append_nil]
   have hvL:v9=gL L:=by
    rw [hq (by rw [TJ,hN];rfl),TJ,hN]
    show Bl.sums (l++s.data.toList) (a+0)=_
    rw [hLl,Nat.add_zero,HA.out];exact uK l s
   rw [hvL] at hS
   obtain ⟨rX,hrX⟩:∃ rX,rX=r:=⟨_,rfl⟩
   rw [<- hrX] at hH;have HRX:=DX (show rX=dA L by rw [hrX,HR.out,hLl]);have HLL:=DX hL;clear hL hLl hvL hq hny TJ hN hz ZQ PD hrX;exact MX4
 case stop =>
  as_aux_lemma =>
   rintro D c pre W hD ⟨k,hk,JZ⟩ ⟨rfl,⟨hP,_,_,hH⟩,hG,⟨v9,PD,hS,hq⟩,⟨y,hy,hyN⟩⟩ hK
   obtain ⟨L,hL⟩:∃ L,L=l++s.data.toList:=⟨_,rfl⟩
   have hky:y=k:=by rw [JZ,List.range_succ] at hy;simpa using hy.symm
   have hvL:v9=gL L:=by
    rw [hq (by rw [JZ,List.length_range];rfl),JZ,List.length_range]
    show Bl.sums (l++s.data.toList) (a+k)=_
    have q:=Kx l s (by rw [<- HR.out,<- HAL.out];omega);rw [<- HR.out,<- HAL.out,<- HA.out,show nB all.size - 1=k by omega] at q;rw [hL];exact q
   rw [hvL] at hS
   obtain ⟨rX,hrX⟩:∃ rX,rX=dA (l++s.data.toList):=⟨_,rfl⟩
   rw [<- hrX] at hH;have HRX:=DX (show rX=dA L by rw [hrX,hL]);have HLL:=DX hL;clear hL hvL hq hy hyN hky JZ hk PD hrX;gi_wp2;exact MX4
theorem Hc (H:List Nat) (k:Nat) (hk:k<8):(Bl.bytes H).take (4*k+4)=(Bl.bytes H).take (4*k)++[Bl.byteOf H (4*k),Bl.byteOf H (4*k+1),Bl.byteOf H (4*k+2),Bl.byteOf H (4*k+3)]:=by
 have h:∀ k,k<8->(List.range 32).take (4*k+4)=(List.range 32).take (4*k)++[4*k,4*k+1,4*k+2,4*k+3]:=by decide
 unfold Bl.bytes;rw [<- List.map_take,<- List.map_take,h k hk,List.map_append];rfl
theorem rW (H:List Nat) (k j:Nat) (hj:j<4):((H.getD k 0:Nat):Int) / 2 ^ (8*j) % 256=((Bl.byteOf H (4*k+j)).toNat:Int):=by
 have h:=Ei H (4*k+j);rw [show (4*k+j) / 4=k by omega,show (4*k+j) % 4=j by omega] at h;exact h
theorem Hb (l:List UInt8):(dA l).size<=64:=by
 show (l.drop _).toArray.size<=64
 rw [List.size_toArray,List.length_drop];unfold Bl.ahead;omega
theorem Du (w:World) (x0 x1 x2 x3:Value) (t:TypeId):∀ j u,[x0,x1,x2,x3][j]?=some u->(w.alloc (.cells #[x0,x1,x2,x3] t)).cell? ((⟨w.heap.size,0,none⟩:Addr).add j)=some u:=by
 intro j u hj;rw [jQ,Nat.zero_add,jN]
 match j,hj with
 | 0,hj=>simpa using hj
 | 1,hj=>simpa using hj
 | 2,hj=>simpa using hj
 | 3,hj=>simpa using hj
 | n+4,hj=>simp at hj
theorem Nh (l:List UInt8) (hb:Nat) (w:World) (hH:qE w hb l) (hl:l.length<=281474976710656) (hB:fD w) (hO:fW w) :
 Calls Tryz.prog 117 #[.pointer (some ⟨hb,0,none⟩)] w fun e w'=>e=.returned (.string (dg l))/\aB w w':=by
 obtain ⟨i0,hi,GV,GJ,GO⟩:=info_parts CJ;have HI:=DX (EC hi (EC GV (EC GJ GO)));clear hi GV GJ GO
 obtain ⟨n,hn⟩:∃ n,n=l.length:=⟨_,rfl⟩
 obtain ⟨r,hr⟩:∃ r,r=dA l:=⟨_,rfl⟩
 obtain ⟨v,hv⟩:∃ v,v=eU (gL l):=⟨_,rfl⟩
 have UN:Bl.W 8 v:=by rw [hv];exact sL (gC l)
 have hrz:r.size<=64:=by rw [hr];exact Hb l
 have hH2:aA w hb (bP v r n) 132:=by rw [hv,hr,hn];exact hH
 have SI:n<9223372036854775808:=by omega
 obtain ⟨H,hHH⟩:∃ H,H=Bl.block (gL l) r.data.toList n true:=⟨_,rfl⟩
 have HDG:=DX (show dg l=⟨(Bl.bytes H).toArray⟩ by rw [hHH,hr,hn];rfl);have HHO:=DX (show Bl.W 8 H by rw [hHH];exact Bl.block_ok (gC l) _ _ _);obtain ⟨q0,q1,q2,q3,q4,q5,q6,q7,hq8⟩:=Rl UN;have IL:=DX ((EX w).alloc (.cells #[] 5));have HH1:=DX (hH2.kept IL.out);have WT:=DX (EY w #[] 5);go_enter Tryz.func117,Tryz.ntmps117
 go_upto_region 2 with (fail)
 generalize w.alloc (.cells #[] 5)=w1 at *
 obtain ⟨pe,hpe⟩:∃ pe,pe=w.heap.size:=⟨_,rfl⟩
 rw [<- hpe] at WT ⊢
 have hbe:∀ u:bF w1,Calls Tryz.prog 144 #[.agg #[.int .u32 (q0:Nat),.int .u32 (q1:Nat),.int .u32 (q2:Nat),.int .u32 (q3:Nat),.int .u32 (q4:Nat),.int .u32 (q5:Nat),.int .u32 (q6:Nat),.int .u32 (q7:Nat)]] u.1 fun e w'=>e=.returned (.agg (cw (gL l)))/\aB u.1 w':=fun u=>by
  have q:=qH v UN u.1 ((hB.kept IL.out).kept u.2);rw [show eU v=gL l by rw [hv];exact qZ (gC l)] at q;rw [hq8] at q;exact q
 have htu:∀ u:bF w1,Calls Tryz.prog 147 #[.agg (cw (gL l)),.string r,.int .i64 n,.bool true] u.1 fun e w'=>e=.returned (.agg (cw H))/\aB u.1 w':=fun u=>by
  rw [hHH];exact Aq (gL l) r n true (gC l) hrz SI u.1 ((hB.kept IL.out).kept u.2) ((hO.kept IL.out).kept u.2)
 have HBE:=DX hbe;have HTU:=DX htu;have g8:=HH1.out.cell 8;rw [mV UN] at g8;have g9:=HH1.out.cell 9;rw [oR UN] at g9
 have gg:∀ i,i<8->w1.cell? ⟨hb,i,none⟩=(cw v)[i]?:=fun i hi=>by rw [HH1.out.cell,tP UN r n i hi]
 rw [hq8] at gg;have g0:w1.cell? ⟨hb,0,none⟩=some (.int .u32 (q0:Nat)):=gg 0 aE;have g1:w1.cell? ⟨hb,1,none⟩=some (.int .u32 (q1:Nat)):=gg 1 aE;have g2:w1.cell? ⟨hb,2,none⟩=some (.int .u32 (q2:Nat)):=gg 2 aE;have g3:w1.cell? ⟨hb,3,none⟩=some (.int .u32 (q3:Nat)):=gg 3 aE;have g4:w1.cell? ⟨hb,4,none⟩=some (.int .u32 (q4:Nat)):=gg 4 aE;have g5:w1.cell? ⟨hb,5,none⟩=some (.int .u32 (q5:Nat)):=gg 5 aE;have g6:w1.cell? ⟨hb,6,none⟩=some (.int .u32 (q6:Nat)):=gg 6 aE;have g7:w1.cell? ⟨hb,7,none⟩=some (.int .u32 (q7:Nat)):=gg 7 aE;have d0:=aC g0;have d1:=aC g1;have d2:=aC g2;have d3:=aC g3;have d4:=aC g4;have d5:=aC g5;have d6:=aC g6;have d7:=aC g7;have d8:=aC g8;have d9:=aC g9;have HHB:=DX hHH;clear g0 g1 g2 g3 g4 g5 g6 g7 g8 g9 gg hbe htu hq8 hv hr hn hH2 hH hHH UN hrz
 refine aJ aW aW ?_
 repeat (go_big_quiet_step (first | (go_at_call 144;exact aK (HBE.out _)) | (go_at_call 147;exact aK (HTU.out _))))
 refine wpQuiet_nil ?_
 intro _ GD;obtain ⟨nq,FT⟩:=GD;subst FT
 obtain ⟨w2,UO⟩:∃ w2,w2=nq.1:=⟨_,rfl⟩
 have k2:=nq.2;rw [<- UO] at k2 ⊢;have FW:=DX (IL.out.trans k2);have UR:=DX (show w2.ownsRow w.heap.size 5 1 (.slice (some ⟨pe,0,none⟩) 0 0) 0 (bv ((Bl.bytes H).take 0)) from ⟨rfl,.inr ⟨pe,0,#[],rfl,Nat.le_of_eq hpe.symm,WT.out.kept k2,EA _,by unfold maxLen;omega,rfl,rfl⟩⟩);clear UO k2 d0 d1 d2 d3 d4 d5 d6 d7 d8 d9 HBE HTU WT IL HH1 hpe HHB;go_wp2_with fail;go_loopw [3,21] (fun v i wx=>∃ k m:Nat,Hid (m=4*k)/\k<=8/\m<=32/\i=.int .i64 k/\wx.ownsRow w.heap.size 5 1 v m (bv ((Bl.bytes H).take m))/\aB w wx) (fun _ i _=>8 - (intOf i).toNat)
 case atStart=>exact ⟨0,0,DX rfl,aE,aE,rfl,UR.out,FW.out⟩
 case round =>
  obtain ⟨k,m,hm,hk,hm32,rfl,FU,hkw⟩:=hrel;have KV:=DX FU;have MH:=DX hkw;clear FU hkw
  by_cases FV:k<8
  . as_aux_lemma =>
     have hix:=Di HHO.out k FV
     have e0:((H.getD k 0:Nat):Int) % 256=((Bl.byteOf H m).toNat:Int):=by
      have q:=rW H k 0 aE;rw [hm.out]
      simpa using q
     have e1:((H.getD k 0:Nat):Int) / 256 % 256=((Bl.byteOf H (m+1)).toNat:Int):=by
      have q:=rW H k 1 aE;rw [hm.out];exact q
     have e2:((H.getD k 0:Nat):Int) / 65536 % 256=((Bl.byteOf H (m+2)).toNat:Int):=by
      have q:=rW H k 2 aE;rw [hm.out];exact q
     have IZ:=HHO.out.at k
     have e3:((H.getD k 0:Nat):Int) / 16777216=((Bl.byteOf H (m+3)).toNat:Int):=by
      have q:=rW H k 3 aE;rw [hm.out,<- q]
      show _=((H.getD k 0:Nat):Int) / 16777216 % 256
      omega
     have HT4:=DX (show (Bl.bytes H).take (m+4)=(Bl.bytes H).take m++[Bl.byteOf H m,Bl.byteOf H (m+1),Bl.byteOf H (m+2),Bl.byteOf H (m+3)] by rw [hm.out];exact Hc H k FV);generalize Bl.byteOf H m=b0 at *;generalize Bl.byteOf H (m+1)=b1 at *;generalize Bl.byteOf H (m+2)=b2 at *;generalize Bl.byteOf H (m+3)=b3 at *;generalize H.getD k 0=x at *;have HM:=DX (show m+4=4*(k+1) by have:=hm.out;omega);clear hm;go_wp2_with (at_builtin;refine wpList_append_own_at _ rfl _ _ 107 rfl w.heap.size 5 i0 (.int .u8 0) 1 1 EO HI.out.1 HI.out.2.1 HI.out.2.2.1 HI.out.2.2.2 rfl aF _ _ _ rfl (KV.out.alloc _) ⟨wr.heap.size,0,none⟩ 4 4 [.int .u8 (b0.toNat:Int),.int .u8 (b1.toNat:Int),.int .u8 (b2.toNat:Int),.int .u8 (b3.toNat:Int)] rfl rfl (Du _ _ _ _ _ _) (by intro u hu;simp at hu;rcases hu with rfl | rfl | rfl | rfl <;> rfl) (by unfold maxLen;omega) aE (by have:=MH.out.size;simp;omega) ?_);intro v' w9 GS GB _ _;have XQ:=DX GS;have JQ:=DX (show aB w w9 from cD (MH.out.alloc _) GB (fun g e=>(KV.out.lt g e).1) (EA _));clear GS GB;go_wp2;go_roundw
     case rel=>exact ⟨k+1,m+4,HM,aE,by have:=HM.out;omega,by go_num,by rw [HT4.out,pV];exact XQ.out,JQ.out⟩
     case measure=>simp [intOf];omega
  . obtain rfl:k=8:=by omega
    obtain rfl:m=32:=by have:=hm.out;omega
    have hcv:=sU KV.out (by simp [Bl.bytes]);rw [show (Bl.bytes H).take 32=Bl.bytes H from EE (by simp [Bl.bytes]),<- HDG.out] at hcv;obtain ⟨a9,c9,PD⟩:=aP KV.out;subst PD
    obtain ⟨D,hD⟩:∃ D,D=dg l:=⟨_,rfl⟩
    have HD:=DX hD;rw [<- hD] at hcv;clear hD;go_wp2;go_ret;exact ⟨by rw [<- HD.out];rfl,MH.out⟩
def mU:Array Value:=bP (List.replicate 8 0) ⟨#[]⟩ 0
theorem CL:Tryz.prog.built 132 []=some mU:=by kernel_rfl
theorem CR:(Tryz.prog.info? 132).map (·.zero)=some (some (.agg mU)):=by kernel_rfl
theorem CQ:(Tryz.prog.info? 132).map (·.size)=some mU.size:=by kernel_rfl
theorem Hn:mU.all (·.oneCell')=true:=by kernel_rfl
theorem Ma:eU (gL [])=List.replicate 8 0:=by decide +kernel
theorem Ju {w:World} {b:Nat} (h:aA w b mU 132):qE w b []:=by
 unfold qE;rw [Ma];exact h
theorem fD.lt {w:World} (h:fD w):0<w.heap.size:=jC (h 0 aE)
theorem fW.lt {w:World} (h:fW w):1<w.heap.size:=jC (h 0 aE)
theorem Cg (s:ByteArray) (hs:s.size<=281474976710656) (w:World) (hB:fD w) (hO:fW w) :
 Calls Tryz.prog 87 #[.string s] w fun e w'=>e=.returned (.string (dg s.data.toList))/\aB w w':=by
 have PA:=hB.lt;have QG:=hO.lt;go_enter Tryz.func87,Tryz.ntmps87
 go_upto_region 2 with (first
  | (with_reducible refine gP rfl 132 rfl mU CL ?_)
  | (with_reducible refine aZ rfl 132 rfl mU CR ?_)
  | (refine aD rfl 132 (.tmp 3) (.tmp 4) rfl w.heap.size mU mU 132 rfl rfl (EY _ _ _) CQ rfl Hn ?_))
 obtain ⟨w1,KK⟩:∃ w1,w1=(w.alloc (.cells mU 132)).setRow w.heap.size mU:=⟨_,rfl⟩
 rw [<- KK]
 have MF:aB w w1:=by rw [KK];exact ((EX w).alloc _).setRow (EA _) _
 have hh1:qE w1 w.heap.size []:=by rw [KK];exact Ju ((EY w _ _).setRow _)
 obtain ⟨hb,hhb⟩:∃ hb,hb=w.heap.size:=⟨_,rfl⟩
 rw [<- hhb] at hh1 PA QG ⊢;have HHB:=DX hhb;have IL:=DX MF;have HW:=DX (Gg [] s hb w1 hh1 (by simpa using hs) (hB.kept MF) (hO.kept MF) aE aE);have NL:=DX (hB.kept MF);have HO1:=DX (hO.kept MF)
 have NV:hb≠0:=by omega
 have VB:hb≠1:=by omega
 clear KK MF hh1 hhb hB hO;simp only [dO,Act.put];go_wp2_with fail
 refine HW.out.mono ?_
 rintro e w2 ⟨rfl,hh2,hg2⟩;rw [List.nil_append] at hh2;have HS:=DX (Nh s.data.toList hb w2 hh2 (by simpa using hs) (NL.out.gr hg2 NV) (HO1.out.gr hg2 VB));have FW:=DX (IL.out.gr hg2 (fun k e=>by cases e;exact Nat.le_of_eq HHB.out.symm));clear hh2 hg2 HW NL HO1;go_wp2_with fail
 refine HS.out.mono ?_
 rintro e w3 ⟨rfl,IK⟩;have GC:=DX (FW.out.trans IK);clear IK HS
 obtain ⟨D,hD⟩:∃ D,D=dg s.data.toList:=⟨_,rfl⟩
 rw [<- hD];go_wp2;go_ret;exact ⟨rfl,GC.out⟩
theorem nC (s:ByteArray) (hs:s.size<=9223372036854775807) (w:World) :
 Calls Tryz.prog 46 #[.string s] w fun e w'=>e=.returned (.string (dg s.data.toList))/\aB w w':=by
 go_enter Tryz.func46,Tryz.ntmps46;go_wp2_with fail
 refine (zH s hs _).mono ?_
 rintro e w' ⟨rfl,hk⟩;have HK:=DX hk;clear hk
 obtain ⟨D,hD⟩:∃ D,D=dg s.data.toList:=⟨_,rfl⟩
 rw [<- hD];go_wp2;go_ret;exact ⟨rfl,HK.out⟩
end Go.Proofs.YtkfmladhicapeaaGreatDoor
