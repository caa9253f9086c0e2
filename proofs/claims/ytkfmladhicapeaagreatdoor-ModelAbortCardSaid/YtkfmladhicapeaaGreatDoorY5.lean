import Derived.Test.YtkfmladhicapeaaGreatDoorY4
set_option maxRecDepth 100000
set_option maxHeartbeats 4000000
namespace Go.Proofs.YtkfmladhicapeaaGreatDoor
open Go.RowKit Go.Shelf
attribute [local go_sem] Oper.semAt_some
theorem BD:(Tryz.prog.info? 9).map (fun i=>(i.zero,i.size,i.bytes))=some (some (.string ByteArray.empty),1,16):=by kernel_rfl
theorem iX {α:Type} (l:List α) (x:α) (b:Nat) (h:l.length<b):(l++[x]).take b=l.take b++[x]/\(l++[x]).drop b=l.drop b:=by
 constructor
 . rw [EE (by simp;omega),EE aE]
 . rw [List.drop_eq_nil_of_le (by simp;omega),List.drop_eq_nil_of_le aE]
theorem iV {α:Type} (l:List α) (x:α) (b:Nat) (h:b<=l.length):(l++[x]).take b=l.take b/\(l++[x]).drop b=l.drop b++[x]:=by
 constructor
 . rw [List.take_append_of_le_length h]
 . rw [List.drop_append_of_le_length h]
theorem dF {A B:World} {base:Nat} {e:TypeId} {s n:Nat} {v:Value} {xs:List Value} {row:Option Nat} (h:A.ownsRow base e s v n xs) (g:A.grownBy B row) (hr:∀ k,v.ownBlock=some k->row≠some k):B.ownsRow base e s v n xs :=
 h.kept g (by
  cases hv:v.ownBlock with
  | none=>exact .inl rfl
  | some k=>exact .inr fun e=>hr k hv e.symm)
theorem kW {W W':World} {g l:Nat} {C:Array Value} {t:TypeId} {a:Option Addr} {ss:List ByteArray} (h:bD W a l ss) (hg:aA W g C t) (hn:∀ (i:Nat) (x:ByteArray),C[i]?≠some (Value.string x)) (k:W.grownBy W' (some g)):bD W' a l ss:=by
 obtain ⟨b,off,ha,hc⟩:=h.cells;refine ⟨h.len_eq,h.le,h.sizes,b,off,ha,fun i hi=>?_⟩;obtain ⟨h1,h2⟩:=hc i hi;refine ⟨EG h1 k.size,?_⟩
 have GW:b≠g:=fun e=>by
  subst e;rw [hg.cell] at h2;exact hn _ _ h2
 have:=k.block b h1 (fun e=>GW (by cases e;rfl));unfold World.cell? at h2 ⊢;rw [this];exact h2
theorem yG (k:Int) (a b:Option Addr) (l m c d:Nat):∀ (i:Nat) (s:ByteArray),((LM k a l c b m d):Array Value)[i]?≠some (Value.string s):=fun i s e=>by
 match i,e with
 | 0,e=>simp at e
 | 1,e=>simp at e
 | 2,e=>simp at e
 | i+3,e=>simp at e
theorem Hd (s:ByteArray) (wo:World) (h7:7<=s.size) (h8:s.size<=647):Calls Tryz.prog 88 #[.string s] wo (Bv wo (bJ s)):=by
 have HT:=DX (show bJ s=if rY (eR s)=true/\Pc (eR s)=s then some (eR s) else none by unfold bJ;simp only [h7,h8,true_and]);have XV:=DX (show eR s=⟨((fK s 4).toNat:Int),(mS (oL s)).take (fK s 5).toNat,(mS (oL s)).drop (fK s 5).toNat⟩ from rfl);generalize bJ s=O at HT ⊢;generalize eR s=rm at HT XV
 have hi4:4<s.size:=by omega
 have hi5:5<s.size:=by omega
 have e4:=lI s 4 hi4;have e5:=lI s 5 hi5
 have IM:(fK s 4).toNat<256:=UInt8.toNat_lt _
 have ZI:(fK s 5).toNat<256:=UInt8.toNat_lt _
 have GU:decide (s.size<7)=false:=DY aE;have JH:decide (647<s.size)=false:=DY aE;have hxt:s.extract 7 s.size=oL s:=rfl
 have RK:(oL s).size<=640:=by unfold oL;rw [ByteArray.size_extract];omega
 generalize oL s=t at hxt RK XV
 have h4i:((s[4]).toNat:Int)=(((fK s 4).toNat:Nat):Int):=by rw [e4]
 have h5i:((s[5]).toNat:Int)=(((fK s 5).toNat:Nat):Int):=by rw [e5]
 clear e4 e5
 generalize (fK s 4).toNat=b4 at *
 generalize (fK s 5).toNat=b5 at *
 obtain ⟨i0,hi,GV,GJ,GO⟩:=info_parts BD;have HI:=DX (EC hi (EC GV (EC GJ GO)));clear hi GV GJ GO;refine callsIn_wide.1 (callsIn_of_wp_marks (n:=8) Tryz.func88 rfl trivial ?_ rfl);simp only [Tryz.ntmps88,List.size_toArray,List.length_nil,List.length_cons,Nat.reduceAdd,Nat.reduceSub,Array.replicate_succ,Array.replicate_zero,List.push_toArray,List.append_toArray,List.nil_append,List.cons_append]
 refine wpIn_wide.2 ?_
 go_upto_region 5 with (fail)
 obtain ⟨p,hp⟩:∃ p,p=wo.heap.size:=⟨_,rfl⟩
 have hr0:=((EY wo (LM 0 none 0 0 none 0 0) 85).kept ((EX _).alloc ((KM b4 none 0 0 none 0 0)))).kept ((EX _).alloc (.cells #[.int .i64 b5] 3))
 have NE:=(FB wo (LM b4 none 0 0 none 0 0) 85 ((KM 0 none 0 0 none 0 0))).kept ((EX _).alloc (.cells #[.int .i64 b5] 3))
 have WJ:=aA.new2 wo #[.int .i64 b5] 3 ((KM 0 none 0 0 none 0 0)) ((KM b4 none 0 0 none 0 0))
 have k0:=(((EX wo).alloc ((KM 0 none 0 0 none 0 0))).alloc ((KM b4 none 0 0 none 0 0))).alloc (.cells #[.int .i64 b5] 3)
 generalize hwa:(((wo.alloc ((KM 0 none 0 0 none 0 0))).alloc ((KM b4 none 0 0 none 0 0))).alloc (.cells #[.int .i64 b5] 3))=wa at *
 have hza:wa.heap.size=wo.heap.size+3:=by rw [<- hwa];simp
 clear hwa;rw [<- hp] at hr0 NE WJ hza ⊢;have HR0:=DX hr0;have HM0:=DX NE;have HN0:=DX WJ;have QT:=DX k0;have HP:=DX hp;clear hr0 NE WJ k0 hp;go_wp2_with fail
 refine (xO t _).mono ?_
 rintro e w5 ⟨rfl,MD⟩
 have GZ:aB wa w5:=by rw [MD];exact (EX _).alloc _
 have HX:=DX (show aA w5 wa.heap.size #[.string t] 9 by rw [MD];exact EY _ _ _);have KE:=DX (HR0.out.kept GZ);have HM5:=DX (HM0.out.kept GZ);have HN5:=DX (HN0.out.kept GZ);have HKZ:=DX (QT.out.trans GZ)
 have hx5:p+3<w5.heap.size:=by rw [MD];simp;omega
 rw [hza] at HX ⊢;clear GZ MD HR0 HM0 HN0 QT hza;go_wp2_with fail
 refine eS 8 ?_
 obtain ⟨R,hR⟩:∃ R:Nat->Prop,R=fun g=>p+4<=g:=⟨_,rfl⟩
 have HRZ:=DX (show ¬ R p by rw [hR];exact fun h=>by omega);have HRL:=DX (show ¬ R (p+1) by rw [hR];exact fun h=>by omega);have HRN2:=DX (show ¬ R (p+2) by rw [hR];exact fun h=>by omega);have ZD:=DX (show ∀ g,p+4<=g->R g by rw [hR];exact fun g h=>h);have HRX:=DX (show ∀ g,R g->p+4<=g by rw [hR];exact fun g h=>h)
 have MC:¬ (R (p+3)\/p+3=p+1):=by rw [hR];exact fun h=>by omega
 have HPW:=DX (show wo.heap.size=p from HP.out.symm);clear hR;refine eI rfl aE (gf:=148) (lb:=#[.pointer (some ⟨p+3,0,none⟩)]) rfl trivial (enters_of Tryz.func148 aW rfl)
  (tG 7 aE (fun g=>R g\/g=p+1) t aE (p+3) w5 MC HX.out) (aV.refl _) aV.trans aV.putObj (Below.refl _ _) (fun _=>rfl)
  (fun pre W=>(∃ vb vu,aA W (p+1) #[.int .i64 b4,vb,vu] 85/\aA W p (LM 0 none 0 0 none 0 0) 85/\aA W (p+2) #[.int .i64 b5] 3 /\
   W.ownsRow wo.heap.size 9 1 vb (min pre.length b5) ((pre.map fun i=>Value.string (gE t i.1)).take b5)/\W.ownsRow wo.heap.size 9 1 vu (pre.length - b5) ((pre.map fun i=>Value.string (gE t i.1)).drop b5) /\
   (∀ g,vb.ownBlock=some g->R g)/\(∀ g,vu.ownBlock=some g->R g)/\(∀ g,vb.ownBlock=some g->vu.ownBlock≠some g))/\(p+4<=W.heap.size/\Below wo.heap.size wo W))
  (fun _ _ _=>False)
  ?hI (fun _ _ _ _ _ hs _ _=>hs) ?h0 ?round ?done ?stop
 case hI =>
  refine OwnFrom.and (Own.from (fun s A B row hs hg hr=>?_) _) (OwnFrom.and (Own.from (fun s A B row hs hg hr=>EF hs hg.size) _) (ownFrom_below (EA _) (by have:=HPW.out;omega)));obtain ⟨vb,vu,h1,h2,h3,h4,h5,h6⟩:=hs;exact ⟨vb,vu,cF h1 hg hr,cF h2 hg hr,cF h3 hg hr,rZ h4 hg hr,rZ h5 hg hr,h6⟩
 case h0=>exact ⟨⟨_,_,HM5.out,KE.out,HN5.out,by simpa using World.ownsRow_nil _ _ _ _,by simpa using World.ownsRow_nil _ _ _ _,(fun g e=>by cases e),(fun g e=>by cases e),(fun g e=>by cases e)⟩,aE,HKZ.out⟩
 case round =>
  rintro l ⟨i,hi⟩ W K hK;have HK:=DX hK;clear hK;gi_wp2
  refine HK.out _ ?_
  clear HK;rintro l pre W ⟨⟨vb,vu,TG,PX,hpn,VD,VE,LF,YQ,hap⟩,TI,hB⟩ GM;have HB:=DX hB;have OL:=DX TG;have VX:=DX PX;have HPN:=DX hpn;have HOB:=DX VD;have HOU:=DX VE;have OE:=DX LF;have QC:=DX YQ;have ZT:=DX hap;have HPR:=DX (show (pre++[(⟨i,hi⟩:{ k:Nat // k<mH t })]).map (fun i=>Value.string (gE t i.1))=pre.map (fun i=>Value.string (gE t i.1))++[Value.string (gE t i)] by simp)
  have hn:pre.length<1000:=by
   have:mH t<=20:=by unfold mH;omega
   omega
  have HPSL:=DX (show (pre.map fun i=>Value.string (gE t i.1)).length=pre.length by simp);have hpo1:wo.heap.size<=p:=Nat.le_of_eq HPW.out;have hpo2:p<=wo.heap.size:=Nat.le_of_eq HPW.out.symm;obtain ⟨ab,cb,rfl⟩:=aP VD;obtain ⟨au,cu,rfl⟩:=aP VE;clear TG PX hpn VD VE LF YQ hap hB;generalize pre.map (fun i=>Value.string (gE t i.1))=ps at *;generalize gE t i=ti at *
  obtain ⟨k,hk⟩:∃ k,k=pre.length:=⟨_,rfl⟩
  obtain ⟨nb,SI⟩:∃ nb,nb=min pre.length b5:=⟨_,rfl⟩
  obtain ⟨nu,hnu⟩:∃ nu,nu=pre.length - b5:=⟨_,rfl⟩
  rw [<- SI] at OL HOB OE ZT;rw [<- hnu] at OL HOU QC ZT;rw [<- hk] at SI hnu hn;have HKL:=DX hk.symm;have HNB:=DX SI;have HNU:=DX hnu;have hwl:=HB.out.size
  have hbn:nb<=1000:=by omega
  have hun:nu<=1000:=by omega
  obtain ⟨c0,c1,c2⟩:=dI OL.out;have c3:=fC HPN.out
  by_cases OA:k<b5
  . have hdk:decide (nb<b5)=true:=DZ aE
    clear hk SI hnu GM;gi_wp2_with (gi_at_builtin;refine wpListIn_append_own_at _ rfl _ _ 72 rfl wo.heap.size 9 i0 (.string ByteArray.empty) 1 16 EP HI.out.1 HI.out.2.1 HI.out.2.2.1 HI.out.2.2.2 rfl aF _ _ _ rfl (HOB.out.alloc _) ⟨W.heap.size,0,none⟩ 1 1 [.string ti] rfl rfl ?c1 ?c2 ?c3 ?c4 ?c5 ?_)
    case c1 =>
     exact Oc
    case c2=>intro u hu;simp at hu;subst hu;rfl
    case c3=>unfold maxLen;omega
    case c4=>omega
    case c5=>simp;omega
    intro v' w9 GS GB _ GA;obtain ⟨a9,c9,PD⟩:=aP GS
    have kx:=(EX W).alloc (.cells #[.string ti] 9)
    have WM:=aH HOB.out kx;have LV:=aM (OL.out.kept kx) GB (fun e=>HRL.out (OE.out _ e.symm));have RH:=aM (VX.out.kept kx) GB (fun e=>HRZ.out (OE.out _ e.symm));have aBX:=aM (HPN.out.kept kx) GB (fun e=>HRN2.out (OE.out _ e.symm));have RG:=dF (aH HOU.out kx) GB (fun g e h=>ZT.out g h e)
    have UZ:∀ g,v'.ownBlock=some g->R g:=fun g e=>by
     rcases GA with h | h
     . exact OE.out g (h ▸ e)
     . rw [h] at e
       cases e;exact ZD.out _ (by have:=kx.size;omega)
    have hpg:∀ g,v'.ownBlock=some g->some (p+1)≠some g:=fun g e h=>HRL.out (by cases h;exact UZ _ e)
    have IC:w9.grownBy (w9.setCell ⟨p+1,1,none⟩ v') (some (p+1)):=⟨rfl,rfl,rfl,by simp,fun k _ GW=>Below.heap_setCell w9 ⟨p+1,1,none⟩ v' k (fun e=>GW (by rw [e]))⟩;have WT:=DX ((((dR kx).trans (oD WM GB))).trans (KeepsOthers.setCell w9 ⟨p+1,1,none⟩ v'));have ZY:=DX (((aV.of_kept kx).trans (wZ GB (fun j e=>Or.inl (OE.out j e)))).trans (aV.setCell (R:=fun j=>R j\/j=p+1) (b:=p+1) (i:=1) w9 v' (.inr rfl)));have HE3:=DX (((cD (HB.out.trans (Below.mono kx aE)) GB (fun g e=>by have:=(HOB.out.lt g e).1;omega))).setCell (p:=⟨p+1,1,none⟩) (by show wo.heap.size<=p+1;omega) v');have HE4:=DX (dF GS IC hpg);have HE9:=DX (dF RG IC (fun g e h=>HRL.out (by cases h;exact QC.out _ e)));have HE5:=DX (show aA (w9.setCell ⟨p+1,1,none⟩ v') (p+1) #[.int .i64 b4,v',.slice au nu cu] 85 by have:=LV.set (i:=1) v';simpa using this);have ZZ:=DX (aM RH IC (by simp));have HE8:=DX (aM aBX IC (by simp));have HE6:=DX UZ
    have XL:=DX (show ∀ g,(v':Value).ownBlock=some g->(Value.slice au nu cu).ownBlock≠some g from fun g e h=>by
    rcases GA with q | q
    . exact ZT.out g (q ▸ e) h
    . rw [q] at e
      cases e
      have:=(HOU.out.lt _ h).2
      have:=kx.size
      simp at this
      omega)
    have f0:=LV.free 1;obtain ⟨d0,d1,d2⟩:=dI LV
    have XG:W.heap.size<=(w9.setCell ⟨p+1,1,none⟩ v').heap.size:=by have:=kx.size;have:=GB.size;simp only [World.size_setCell];omega
    subst PD;clear GS GB GA kx WM LV RH aBX RG UZ hpg IC;gi_wp2;refine ⟨WT.out,ZY.out,⟨⟨_,_,HE5.out,ZZ.out,HE8.out,?_,?_,HE6.out,QC.out,XL.out⟩,aE,HE3.out⟩⟩
    . rw [HPR.out,(iX ps _ b5 (by rw [HPSL.out,HKL.out];exact OA)).1,List.length_append,show min (pre.length+[(⟨i,hi⟩:{ k:Nat // k<mH t })].length) b5=nb+1 by have:=HKL.out;have:=HNB.out;simp;omega]
      exact HE4.out
    . rw [HPR.out,(iX ps _ b5 (by rw [HPSL.out,HKL.out];exact OA)).2,List.length_append,show pre.length+[(⟨i,hi⟩:{ k:Nat // k<mH t })].length - b5=nu by have:=HKL.out;have:=HNU.out;simp;omega]
      exact HE9.out
  . have hdk:decide (nb<b5)=false:=DY aE
    clear hk SI hnu GM;gi_wp2_with (gi_at_builtin;refine wpListIn_append_own_at _ rfl _ _ 72 rfl wo.heap.size 9 i0 (.string ByteArray.empty) 1 16 EP HI.out.1 HI.out.2.1 HI.out.2.2.1 HI.out.2.2.2 rfl aF _ _ _ rfl (HOU.out.alloc _) ⟨W.heap.size,0,none⟩ 1 1 [.string ti] rfl rfl ?c1 ?c2 ?c3 ?c4 ?c5 ?_)
    case c1 =>
     exact Oc
    case c2=>intro u hu;simp at hu;subst hu;rfl
    case c3=>unfold maxLen;omega
    case c4=>omega
    case c5=>simp;omega
    intro v' w9 GS GB _ GA;obtain ⟨a9,c9,PD⟩:=aP GS
    have kx:=(EX W).alloc (.cells #[.string ti] 9)
    have WM:=aH HOU.out kx;have LV:=aM (OL.out.kept kx) GB (fun e=>HRL.out (QC.out _ e.symm));have RH:=aM (VX.out.kept kx) GB (fun e=>HRZ.out (QC.out _ e.symm));have aBX:=aM (HPN.out.kept kx) GB (fun e=>HRN2.out (QC.out _ e.symm));have RG:=dF (aH HOB.out kx) GB (fun g e h=>ZT.out g e h)
    have UZ:∀ g,v'.ownBlock=some g->R g:=fun g e=>by
     rcases GA with h | h
     . exact QC.out g (h ▸ e)
     . rw [h] at e
       cases e;exact ZD.out _ (by have:=kx.size;omega)
    have hpg:∀ g,v'.ownBlock=some g->some (p+1)≠some g:=fun g e h=>HRL.out (by cases h;exact UZ _ e)
    have IC:w9.grownBy (w9.setCell ⟨p+1,2,none⟩ v') (some (p+1)):=⟨rfl,rfl,rfl,by simp,fun k _ GW=>Below.heap_setCell w9 ⟨p+1,2,none⟩ v' k (fun e=>GW (by rw [e]))⟩;have WT:=DX ((((dR kx).trans (oD WM GB))).trans (KeepsOthers.setCell w9 ⟨p+1,2,none⟩ v'));have ZY:=DX (((aV.of_kept kx).trans (wZ GB (fun j e=>Or.inl (QC.out j e)))).trans (aV.setCell (R:=fun j=>R j\/j=p+1) (b:=p+1) (i:=2) w9 v' (.inr rfl)));have HE3:=DX (((cD (HB.out.trans (Below.mono kx aE)) GB (fun g e=>by have:=(HOU.out.lt g e).1;omega))).setCell (p:=⟨p+1,2,none⟩) (by show wo.heap.size<=p+1;omega) v');have HE4:=DX (dF GS IC hpg);have HE9:=DX (dF RG IC (fun g e h=>HRL.out (by cases h;exact OE.out _ e)));have HE5:=DX (show aA (w9.setCell ⟨p+1,2,none⟩ v') (p+1) #[.int .i64 b4,.slice ab nb cb,v'] 85 by have:=LV.set (i:=2) v';simpa using this);have ZZ:=DX (aM RH IC (by simp));have HE8:=DX (aM aBX IC (by simp));have HE6:=DX UZ
    have XL:=DX (show ∀ g,(Value.slice ab nb cb).ownBlock=some g->(v':Value).ownBlock≠some g from fun g h e=>by
    rcases GA with q | q
    . exact ZT.out g h (q ▸ e)
    . rw [q] at e
      cases e
      have:=(HOB.out.lt _ h).2
      have:=kx.size
      simp at this
      omega)
    have f0:=LV.free 2;obtain ⟨d0,d1,d2⟩:=dI LV
    have XG:W.heap.size<=(w9.setCell ⟨p+1,2,none⟩ v').heap.size:=by have:=kx.size;have:=GB.size;simp only [World.size_setCell];omega
    subst PD;clear GS GB GA kx WM LV RH aBX RG UZ hpg IC;gi_wp2;refine ⟨WT.out,ZY.out,⟨⟨_,_,HE5.out,ZZ.out,HE8.out,?_,?_,OE.out,HE6.out,XL.out⟩,aE,HE3.out⟩⟩
    . rw [HPR.out,(iV ps _ b5 (by rw [HPSL.out,HKL.out];omega)).1,List.length_append,show min (pre.length+[(⟨i,hi⟩:{ k:Nat // k<mH t })].length) b5=nb by have:=HKL.out;have:=HNB.out;simp;omega]
      exact HE9.out
    . rw [HPR.out,(iV ps _ b5 (by rw [HPSL.out,HKL.out];omega)).2,List.length_append,show pre.length+[(⟨i,hi⟩:{ k:Nat // k<mH t })].length - b5=nu+1 by have:=HKL.out;have:=HNU.out;simp;omega]
      exact HE4.out
 case done =>
  rintro D ys W hD TJ ⟨⟨vb,vu,TG,PX,hpn,VD,VE,LF,YQ,hap⟩,TI,hB⟩ hK
  have GM:ys.length=mH t:=by have:=congrArg List.length TJ;rw [fH] at this;simpa using this
  have SH:ys.map (fun i=>Value.string (gE t i.1))=(mS t).map Value.string:=by
   unfold mS;rw [<- TJ];unfold lU;rw [List.map_map,List.map_map];rfl
  rw [GM,SH,<- List.map_take] at VD;rw [GM,SH,<- List.map_drop] at VE
  have IG:∀ z∈mS t,z.size<=9223372036854775807:=fun z hz=>by
   unfold mS at hz;rw [List.mem_map] at hz;obtain ⟨q,hq,rfl⟩:=hz;rw [nF (List.mem_range.1 hq)];decide
  have hl1:((mS t).take b5).length=min (mH t) b5:=by rw [List.length_take,hZ];omega
  have hl2:((mS t).drop b5).length=mH t - b5:=by rw [List.length_drop,hZ]
  obtain ⟨ab,cb,rfl,MU,PY⟩:=eC VD hl1 (fun z hz=>IG z (List.mem_of_mem_take hz));obtain ⟨au,cu,rfl,hcu,PZ⟩:=eC VE hl2 (fun z hz=>IG z (List.mem_of_mem_drop hz))
  have VC:mH t<=20:=by unfold mH;omega
  have HCB:=DX MU;rw [<- hl1] at PY TG HCB VD;rw [<- hl2] at PZ TG VE;have hrb':=LF;have hru':=YQ;have hap':=hap;rw [<- hl1] at hrb' hap';rw [<- hl2] at hru' hap';have OE:=DX hrb';have QC:=DX hru';have ZT:=DX hap';have HOB:=DX VD;have HOU:=DX VE;clear hrb' hru' hap';have HRL2:=DX (show ((mS t).take b5).length<=1000000/\((mS t).drop b5).length<=1000000 by rw [hl1,hl2];omega);clear VD VE GM SH TJ IG hl1 hl2 LF YQ hap MU hcu
  generalize (mS t).take b5=bs at *
  generalize (mS t).drop b5=us at *
  have HSB0:=DX PY;have MY:=DX PZ;have HB:=DX hB;have OL:=DX TG;have VX:=DX PX;have VP:=DX hK
  have hDW:D<W.heap.size:=(Array.getElem?_eq_some_iff.1 hK).1
  obtain ⟨c0,c1,c2⟩:=dI TG;have hbl:=PY.le;have hul:=PZ.le;clear PY PZ hB TG PX hpn hK
  cases hmf:rY rm with
  | false =>
   have HO:=DX (show O=none by rw [HT.out,if_neg (by rw [hmf];simp)])
   have aBR:rY ⟨(b4:Int),bs,us⟩=false:=by rw [<- XV.out];exact hmf
   clear hmf;go_wp2_with fail
   refine (Ch b4 ab bs.length cb au us.length cu bs us _ HSB0.out MY.out ?hl aBR).mono ?_
   case hl=>have h:=HRL2.out;exact ⟨aE,aE⟩
   rintro e w6 ⟨rfl,JD⟩;have NO:=DX (aB.trans HB.out JD);have NR:=DX (VX.out.kept JD);have HD6:=DX ((Below.block JD D hDW).trans VP.out);clear JD c0 c1 c2 aBR;exact Vy
  | true =>
   have aBR:rY ⟨(b4:Int),bs,us⟩=true:=by rw [<- XV.out];exact hmf
   obtain ⟨T9,hT9⟩:∃ T9,T9=Pc rm:=⟨_,rfl⟩
   have HT9:=DX hT9;go_wp2_with fail
   refine (zA b4 ab bs.length cb au us.length cu bs us _ HSB0.out MY.out aBR).mono ?_
   rw [show Pc ⟨(b4:Int),bs,us⟩=T9 by rw [hT9,<- XV.out]];rintro e w6 ⟨rfl,JD⟩;have NO:=DX (aB.trans HB.out JD);have NR:=DX (VX.out.kept JD);have HM6:=DX (OL.out.kept JD);have HD6:=DX ((Below.block JD D hDW).trans VP.out);have HSB6:=DX (HSB0.out.kept JD);have HSU6:=DX (MY.out.kept JD);have HOB6:=DX (aH HOB.out JD);have HOU6:=DX (aH HOU.out JD);have HMF:=DX hmf
   have hD6:D<w6.heap.size:=by have:=JD.size;omega
   clear JD c0 c1 c2 aBR hmf hT9
   by_cases XG:T9=s
   . have HO:=DX (show O=some rm by rw [HT.out,if_pos ⟨HMF.out,by rw [<- HT9.out,XG]⟩])
     subst XG;obtain ⟨c0,c1,c2⟩:=dI HM6.out;go_wp2_with (refine aD rfl 85 (.tmp 2) (.tmp 59) rfl _ (LM b4 ab bs.length cb au us.length cu) (LM 0 none 0 0 none 0 0) 85 rfl rfl NR.out BB rfl (wR _ _ _ _ _ _ _) ?_);have ST:=DX (NR.out.setRow (LM b4 ab bs.length cb au us.length cu));have g8:=dB w6 p (LM b4 ab bs.length cb au us.length cu);have SU:=DX (FC NO.out (g:=p) (by have:=HPW.out;omega) (LM b4 ab bs.length cb au us.length cu));have HSD:=DX ((setRow_other w6 p D (LM b4 ab bs.length cb au us.length cu) aE).trans HD6.out);have HSB8:=DX (kW HSB6.out NR.out (yG _ _ _ _ _ _ _) g8);have HSU8:=DX (kW HSU6.out NR.out (yG _ _ _ _ _ _ _) g8);have HOB8:=DX (pH HOB6.out g8 (fun e=>HRZ.out (OE.out p e.symm)));have HOU8:=DX (pH HOU6.out g8 (fun e=>HRZ.out (QC.out p e.symm)));clear HOB6 HOU6;generalize w6.setRow p (LM b4 ab bs.length cb au us.length cu)=w8 at *;refine ⟨by simp,.inl ⟨_,_,rfl,run_takeDeferred HSD.out,?_⟩⟩;refine ⟨_,cB rfl _ _ p 85 (LM b4 ab bs.length cb au us.length cu) _ rfl (aM ST.out (cK w8 D (.deferred none)) (by simp;omega)) EQ rfl BB _ rfl,?_⟩;refine ⟨(fun e=>by rw [HO.out] at e;cases e),fun m e=>?_,?_⟩
     . rw [HO.out] at e
       cases e;rw [XV.out]
       exact ⟨ab,cb,au,cu,rfl,⟨HCB.out,rZ HOB8.out (cK w8 D (.deferred none)) (fun k e=>by cases e;exact ⟨_,HSD.out,rfl⟩),fun W2 g2=>by
        obtain ⟨a',c',e',_,h'⟩:=eC (dF (rZ HOU8.out (cK w8 D (.deferred none)) (fun k e=>by cases e;exact ⟨_,HSD.out,rfl⟩)) g2 (fun k hk e=>ZT.out k e hk)) rfl MY.out.sizes;cases e'
        exact h'⟩,tX HSB8.out HSD.out rfl,tX HSU8.out HSD.out rfl⟩
     . exact Below.grown SU.out (cK w8 D (.deferred none)) (by have:=SU.out.size;simp;omega) (fun k e=>by cases e;have:=HPW.out;omega)
   . have HO:=DX (show O=none by rw [HT.out,if_neg (fun h=>XG (by rw [HT9.out];exact h.2))])
     have GW:¬ T9.toList=s.toList:=fun e=>XG (lV e)
     have hne2:(T9.toList != s.toList)=true:=by simpa using GW
     have hne3:(T9.toList == s.toList)=false:=by simpa using GW
     clear XG;exact Vy
 case stop=>rintro _ _ _ _ _ _ h;exact h.elim
theorem wP (s:ByteArray) (w:World):Calls Tryz.prog 88 #[.string s] w (Bv w (bJ s)):=by
 by_cases h:s.size<7\/647<s.size
 . have e:bJ s=none:=by unfold bJ;rw [if_neg aE]
   rw [e];exact Hz s w h
 . exact Hd s w aE aE
def pD (w0 w:World) (a:Option Addr) (l cap:Nat) (ss:List ByteArray):Prop:=l<=cap/\bD w a l ss/\(0<l->∃ g cs,a=some ⟨g,0,none⟩/\w0.heap.size<=g/\aA w g cs 9)
theorem pD.kept {w0 w w':World} {a:Option Addr} {l cap:Nat} {ss:List ByteArray} (h:pD w0 w a l cap ss) (k:aB w w'):pD w0 w' a l cap ss :=
 ⟨h.1,h.2.1.kept k,fun q=>by obtain ⟨g,cs,e,h1,h2⟩:=h.2.2 q;exact ⟨g,cs,e,h1,h2.kept k⟩⟩
end Go.Proofs.YtkfmladhicapeaaGreatDoor
namespace Go.Proofs.YtkfmladhicapeaaGreatDoor
open Go.RowKit Go.Shelf
theorem Lb (x y:ByteArray):cZ x y=decide (x.data.toList<y.data.toList):=by
 unfold cZ;rw [bytesLess_eq,ByteArray.toList_eq,ByteArray.toList_eq]
end Go.Proofs.YtkfmladhicapeaaGreatDoor
namespace Go.Proofs.YtkfmladhicapeaaGreatDoor.Pj
open Go.RowKit Go.Shelf
def AV (p:World->Value->Prop):Prop:=∀ w w' v,p w v->w.heap.size<=w'.heap.size->p w' v
theorem Is.flat (x:Value):AV (Is x):=fun _ _ _ h _=>h
def Zh:List (World->Value->Prop)->Prop
 | []=>True
 | p :: l=>AV p/\Zh l
theorem Zh.at:∀ {l:List (World->Value->Prop)},Zh l->∀ j,AV (of l j)
 | [],_,j=>fun _ _ _ _ _=>by simp [of]
 | p :: l,h,0=>h.1
 | p :: l,h,j+1=>fun w w' v hv hk=>by
  have:=Zh.at h.2 j w w' v (by simpa [of] using hv) hk
  simpa [of] using this
def Ptr (W:World):World->Value->Prop:=fun w v=>∃ b,v=.pointer (some ⟨b,0,none⟩)/\W.heap.size<=b/\b<w.heap.size
theorem Ptr.flat (W:World):AV (Ptr W):=fun _ _ _ ⟨b,e,h1,h2⟩ k=>⟨b,e,h1,EG h2 k⟩
structure JS (W:World) (l:List (World->Value->Prop)) (ia is:Nat) (Z X:Array Value) (t:TypeId) (L:Nat->Prop) (V:Nat->Value) (w:World):Prop where
 kp:aB W w
 h:∀ j,L j->of l j w (V j)
 ord:L is->L ia
 z:L ia->¬ L is->∃ b,V ia=.pointer (some ⟨b,0,none⟩)/\W.heap.size<=b/\aA w b Z t
 x:L is->∃ b,V ia=.pointer (some ⟨b,0,none⟩)/\W.heap.size<=b/\aA w b X t
section
variable {W w w':World} {l:List (World->Value->Prop)} {ia is:Nat} {Z X:Array Value} {t:TypeId} {L L':Nat->Prop} {V:Nat->Value}
theorem JS.start {n:Nat} (hn:l.length<=n) (hia:ia<n) (his:is<n) (hL:∀ j,j<n->¬ L j) (k:aB W w):JS W l ia is Z X t L V w :=
 ⟨k,fun j hj=>by
  by_cases h:j<n
  . exact absurd hj (hL j h)
  . have:of l j=fun _ _=>True:=by
     exact Qq
    rw [this]
    trivial,fun h=>absurd h (hL is his),fun h=>absurd h (hL ia hia),fun h=>absurd h (hL is his)⟩
theorem JS.more {i:Nat} (h:JS W l ia is Z X t L V w) (hP:Zh l) (hia:i≠ia) (his:i≠is) (hL:∀ j,L' j↔(j=i\/L j)) (hk:aB w w') {x:Value} (hx:of l i w' x):JS W l ia is Z X t L' (Yz V i x) w':=by
 have e1:L' ia↔L ia:=⟨fun q=>((hL ia).1 q).resolve_left (fun e=>hia e.symm),fun q=>(hL ia).2 (.inr q)⟩;have e2:L' is↔L is:=⟨fun q=>((hL is).1 q).resolve_left (fun e=>his e.symm),fun q=>(hL is).2 (.inr q)⟩;have ev:Yz V i x ia=V ia:=Yy _ _ (fun e=>hia e.symm);refine ⟨h.kp.trans hk,fun j hj=>?_,fun q=>e1.2 (h.ord (e2.1 q)),fun q r=>?_,fun q=>?_⟩
 . by_cases e:j=i
   . subst e;rw [Zc];exact hx
   . rw [Yy _ _ e];exact hP.at j w w' _ (h.h j (((hL j).1 hj).resolve_left e)) hk.size
 . obtain ⟨b,e,h1,h2⟩:=h.z (e1.1 q) (fun s=>r (e2.2 s))
   exact ⟨b,ev.trans e,h1,h2.kept hk⟩
 . obtain ⟨b,e,h1,h2⟩:=h.x (e2.1 q)
   exact ⟨b,ev.trans e,h1,h2.kept hk⟩
theorem JS.made (h:JS W l ia is Z X t L V w) (hP:Zh l) (GW:ia≠is) (ho:¬ L ia) (hL:∀ j,L' j↔(j=ia\/L j)) (hx:of l ia=Ptr W):JS W l ia is Z X t L' (Yz V ia (.pointer (some ⟨w.heap.size,0,none⟩))) (w.alloc (.cells Z t)):=by
 have hk:aB w (w.alloc (.cells Z t)):=(EX w).alloc _
 have hns:¬ L is:=fun q=>ho (h.ord q)
 have hns':¬ L' is:=fun q=>hns (((hL is).1 q).resolve_left (fun e=>GW e.symm))
 refine ⟨h.kp.trans hk,fun j hj=>?_,fun q=>absurd q hns',fun _ _=>⟨_,Zc _ _ _,h.kp.size,EY w Z t⟩,fun q=>absurd q hns'⟩
 by_cases e:j=ia
 . subst e;rw [Zc,hx];exact ⟨_,rfl,h.kp.size,by simp⟩
 . rw [Yy _ _ e];exact hP.at j w _ _ (h.h j (((hL j).1 hj).resolve_left e)) hk.size
theorem JS.stored {b:Nat} (h:JS W l ia is Z X t L V w) (hP:Zh l) (GW:ia≠is) (hl:L ia) (hL:∀ j,L' j↔(j=is\/L j)) (hb:V ia=.pointer (some ⟨b,0,none⟩)) (hw:W.heap.size<=b) (hz:aA w b Z t) (hs:of l is=fun _ _=>True):JS W l ia is Z X t L' (Yz V is undef) (w.setRow b X):=by
 have ev:Yz V is undef ia=V ia:=Yy _ _ GW;refine ⟨h.kp.setRow hw X,fun j hj=>?_,fun _=>(hL ia).2 (.inr hl),fun _ r=>absurd ((hL is).2 (.inl rfl)) r,fun _=>⟨b,ev.trans hb,hw,hz.setRow X⟩⟩
 by_cases e:j=is
 . subst e;rw [hs];trivial
 . rw [Yy _ _ e];exact hP.at j w _ _ (h.h j (((hL j).1 hj).resolve_left e)) (by simp [World.setRow])
end
theorem Zf {P:Program} {op:Oper} {a:Act} {w:World} {K:Act->World->Prop} {Q:Exit->Act->World->Prop} (ty:TypeId) (x y:Operand) (ho:op.op=.store ty x y)
 (g:Nat) (cells old:Array Value) (t:TypeId) (hx:a.eval x=.pointer (some ⟨g,0,none⟩)) (hy:a.eval y=.agg cells) (hg:aA w g old t) (hi:(P.info? ty).map (·.size)=some cells.size) (IG:old.size=cells.size) (h1:cells.all (·.oneCell')=true)
 (h:K (a.put op.dst undef) (w.setRow g cells)):Oper.wp P op a w K Q:=by
 unfold Oper.wp execOp;simp only [ho,hx,hy,Instr.storeAt,Instr.sureAddr,Sem.run_bind,Sem.run_pure,Result.andThen_ok,run_storeVar_row w g t ty old cells hg hi IG h1];exact h
theorem Zu {P:Program} {op:Oper} {a:Act} {w:World} {K:Act->World->Prop} {Q:Exit->Act->World->Prop} (ty:TypeId) (ho:op.op=.alloc ty)
 (z:Array Value) (hz:(P.info? ty).map (·.zero)=some (some (.agg z)))
 (h:K (a.put op.dst (.pointer (some ⟨w.heap.size,0,none⟩))) (w.alloc (.cells z ty))):Oper.wp P op a w K Q:=by
 unfold Oper.wp execOp
 have hr:(Instr.alloc ty true (.tuple #[])).run P w=.ok (.pointer (some ⟨w.heap.size,0,none⟩)) (w.alloc (.cells z ty)):=by
  simp [Instr.alloc,yZ hz,Result.andThen,Value.cells,go_sem]
 simp only [ho,hr,Sem.run_bind,Sem.run_pure,Result.andThen_ok];exact h
structure AM (base:Nat) (t:TypeId) (va:Value) (na:Nat) (xs:List Value) (ua:Value) (ba aa:Nat) (L:Nat->Prop) (V:Nat->Value) (w:World):Prop where
 a0:¬ L aa->w.ownsRow base t 1 va na xs
 a1:L aa->w.ownsRow base t 1 (V aa) (na+1) (xs++[ua])
 c:L ba->¬ L aa->∃ g,V ba=.slice (some ⟨g,0,none⟩) 1 1/\aA w g #[ua] t
section
variable {base:Nat} {t:TypeId} {va:Value} {na:Nat} {xs:List Value} {ua:Value} {ba aa:Nat} {L L':Nat->Prop} {V:Nat->Value} {w w':World}
theorem AM.start (h:w.ownsRow base t 1 va na xs) (ha:¬ L aa) (hb:¬ L ba):AM base t va na xs ua ba aa L V w:=⟨fun _=>h,fun q=>absurd q ha,fun q=>absurd q hb⟩
theorem AM.same {i:Nat} (h:AM base t va na xs ua ba aa L V w) (h1:i≠ba) (h2:i≠aa) (hL:∀ j,L' j↔(j=i\/L j)) (hk:aB w w') {x:Value}:AM base t va na xs ua ba aa L' (Yz V i x) w':=by
 have e1:L' ba↔L ba:=⟨fun q=>((hL ba).1 q).resolve_left (fun e=>h1 e.symm),fun q=>(hL ba).2 (.inr q)⟩;have e2:L' aa↔L aa:=⟨fun q=>((hL aa).1 q).resolve_left (fun e=>h2 e.symm),fun q=>(hL aa).2 (.inr q)⟩;refine ⟨fun q=>aH (h.a0 (fun r=>q (e2.2 r))) hk,fun q=>?_,fun q r=>?_⟩
 . rw [Yy _ _ (fun e=>h2 e.symm)];exact aH (h.a1 (e2.1 q)) hk
 . obtain ⟨g,e,hb⟩:=h.c (e1.1 q) (fun s=>r (e2.2 s))
   exact ⟨g,(Yy _ _ (fun e=>h1 e.symm)).trans e,hb.kept hk⟩
theorem AM.made (h:AM base t va na xs ua ba aa L V w) (GW:ba≠aa) (hL:∀ j,L' j↔(j=ba\/L j)):AM base t va na xs ua ba aa L' (Yz V ba (.slice (some ⟨w.heap.size,0,none⟩) 1 1)) (w.alloc (.cells #[ua] t)):=by
 have e2:L' aa↔L aa:=⟨fun q=>((hL aa).1 q).resolve_left (fun e=>GW e.symm),fun q=>(hL aa).2 (.inr q)⟩
 have hk:aB w (w.alloc (.cells #[ua] t)):=(EX w).alloc _
 refine ⟨fun q=>aH (h.a0 (fun r=>q (e2.2 r))) hk,fun q=>?_,fun _ _=>⟨_,Zc _ _ _,EY _ _ _⟩⟩;rw [Yy _ _ (fun e=>GW e.symm)];exact aH (h.a1 (e2.1 q)) hk
theorem AM.app {v':Value} (h:w'.ownsRow base t 1 v' (na+1) (xs++[ua])) (hL:∀ j,L' j↔(j=aa\/L j)):AM base t va na xs ua ba aa L' (Yz V aa v') w' :=
 ⟨fun q=>absurd ((hL aa).2 (.inl rfl)) q,fun _=>by rw [Zc];exact h,fun _ q=>absurd ((hL aa).2 (.inl rfl)) q⟩
theorem AH {A B:World} {n:Nat} {v:Value} {ys:List Value} {row:Option Nat} (h:A.ownsRow base t 1 v n ys) (g:A.grownBy B row) (hr:∀ q C,aA A q C t->some q≠row):B.ownsRow base t 1 v n ys:=by
 obtain ⟨h1,h2 | ⟨q,cap,cur,hv,hb,hg,h3⟩⟩:=h
 . exact ⟨h1,.inl h2⟩
 . exact ⟨h1,.inr ⟨q,cap,cur,hv,hb,aM (show aA A q cur t from hg) g (hr q cur hg),h3⟩⟩
theorem AM.other {i:Nat} {row:Option Nat} (h:AM base t va na xs ua ba aa L V w) (h1:i≠ba) (h2:i≠aa) (hL:∀ j,L' j↔(j=i\/L j)) (hg:w.grownBy w' row) (hr:∀ q C,aA w q C t->some q≠row) {x:Value}:AM base t va na xs ua ba aa L' (Yz V i x) w':=by
 have e1:L' ba↔L ba:=⟨fun q=>((hL ba).1 q).resolve_left (fun e=>h1 e.symm),fun q=>(hL ba).2 (.inr q)⟩;have e2:L' aa↔L aa:=⟨fun q=>((hL aa).1 q).resolve_left (fun e=>h2 e.symm),fun q=>(hL aa).2 (.inr q)⟩;refine ⟨fun q=>AH (h.a0 (fun r=>q (e2.2 r))) hg hr,fun q=>?_,fun q r=>?_⟩
 . rw [Yy _ _ (fun e=>h2 e.symm)];exact AH (h.a1 (e2.1 q)) hg hr
 . obtain ⟨g,e,hb⟩:=h.c (e1.1 q) (fun s=>r (e2.2 s))
   exact ⟨g,(Yy _ _ (fun e=>h1 e.symm)).trans e,aM hb hg (hr g _ hb)⟩
structure AL (pb:Nat) (T:TypeId) (C:Array Value) (c src so:Nat) (L:Nat->Prop) (V:Nat->Value) (w:World):Prop where
 ord:L so->L src
 b0:¬ L so->aA w pb C T
 b1:L so->aA w pb (C.setIfInBounds c (V src)) T
section
variable {pb:Nat} {T:TypeId} {C:Array Value} {c src so:Nat}
theorem AL.start (h:aA w pb C T) (hs:¬ L so):AL pb T C c src so L V w:=⟨fun q=>absurd q hs,fun _=>h,fun q=>absurd q hs⟩
theorem AL.keep {i:Nat} (h:AL pb T C c src so L V w) (h1:i≠so) (ho:¬ L i) (hL:∀ j,L' j↔(j=i\/L j)) (hw:∀ D,aA w pb D T->aA w' pb D T) {x:Value}:AL pb T C c src so L' (Yz V i x) w':=by
 have e1:L' so↔L so:=⟨fun q=>((hL so).1 q).resolve_left (fun e=>h1 e.symm),fun q=>(hL so).2 (.inr q)⟩;refine ⟨fun q=>(hL src).2 (.inr (h.ord (e1.1 q))),fun q=>hw _ (h.b0 (fun r=>q (e1.2 r))),fun q=>?_⟩;have hs:=h.ord (e1.1 q)
 have GW:src≠i:=fun e=>ho (by rw [<- e];exact hs)
 rw [Yy _ _ GW];exact hw _ (h.b1 (e1.1 q))
theorem AL.same {i:Nat} (h:AL pb T C c src so L V w) (h1:i≠so) (ho:¬ L i) (hL:∀ j,L' j↔(j=i\/L j)) (hk:aB w w') {x:Value}:AL pb T C c src so L' (Yz V i x) w':=h.keep h1 ho hL (fun _ hb=>hb.kept hk)
theorem AL.other {i:Nat} {row:Option Nat} (h:AL pb T C c src so L V w) (h1:i≠so) (ho:¬ L i) (hL:∀ j,L' j↔(j=i\/L j)) (hg:w.grownBy w' row) (hr:∀ q C,aA w q C T->some q≠row) {x:Value}:AL pb T C c src so L' (Yz V i x) w' :=
 h.keep h1 ho hL (fun D hb=>aM hb hg (hr pb D hb))
theorem AL.stored (h:AL pb T C c src so L V w) (ho:¬ L so) (hs:L src) (hL:∀ j,L' j↔(j=so\/L j)) {x y:Value} (hy:V src=y):AL pb T C c src so L' (Yz V so x) (w.setCell ⟨pb,c,none⟩ y):=by
 subst hy;refine ⟨fun _=>(hL src).2 (.inr hs),fun q=>absurd ((hL so).2 (.inl rfl)) q,fun _=>?_⟩
 have GW:src≠so:=fun e=>ho (by rw [<- e];exact hs)
 rw [Yy _ _ GW]
 exact (h.b0 ho).set _
end
theorem Zd {s t:TypeId} {b:Nat} {C:Array Value} (h:aA w b C s) (GW:t≠s):∀ q D,aA w q D t->some q≠some b:=by
 intro q D hq e;cases e;have h2:=Eq.trans (Eq.symm hq) h;cases h2;exact GW rfl
theorem J.flat {W:World} {l:List (World->Value->Prop)} {i:Nat} (h:J W l L V w) (hP:Zh l) (hL:∀ j,L' j↔(j=i\/L j)) (hk:aB W w') (hs:w.heap.size<=w'.heap.size) {x:Value} (hx:of l i w' x):J W l L' (Yz V i x) w' :=
 ⟨hk,fun j hj=>by
  by_cases e:j=i
  . subst e;rw [Zc];exact hx
  . rw [Yy _ _ e];exact hP.at j w w' _ (h.h j (((hL j).1 hj).resolve_left e)) hs⟩
end
theorem Zs {w:World} {base n:Nat} {s t:TypeId} {v:Value} {ys:List Value} (h:w.ownsRow base s 1 v n ys) (GW:t≠s):∀ q C,aA w q C t->some q≠v.ownBlock:=by
 intro q C hq e;obtain ⟨_,h2 | ⟨g,cap,cur,hv,hb,hg,_⟩⟩:=h
 . rw [h2.1] at e
   cases e
 . rw [hv] at e
   cases e;have h2:=Eq.trans (Eq.symm hq) hg;cases h2;exact GW rfl
theorem AU {P:Program} {o:Oper} {a:Act} {w:World} {K:Act->World->Prop} {Q:Exit->Act->World->Prop} (s x:Operand) (t:TypeId)
 (ho:o.op=.call { callee:=.builtin .append,args:=#[s,x],argTypes:=#[t,t] })
 (base:Nat) (e:TypeId) (i:TypeInfo) (z:Value) (bytes:Nat) (ht:P.underlying t=some (.slice e)) (hi:P.info? e=some i) (hz:i.zero=some z)
 (JT:i.size=1) (XB:i.bytes=bytes) (XH:z.cells.size=1)
 (v:Value) (n:Nat) (xs:List Value) (hs:a.eval s=v) (FU:w.ownsRow base e 1 v n xs)
 (g:Nat) (u:Value) (hx:a.eval x=.slice (some ⟨g,0,none⟩) 1 1) (hg:aA w g #[u] e) (h1:u.oneCell'=true)
 (hn:n+1<=1000000) (hb:bytes<=1000) (JI:base<=w.heap.size)
 (h:∀ v' w',w'.ownsRow base e 1 v' (n+1) (xs++[u])->w.grownBy w' v.ownBlock->K (a.put o.dst v') w'):Oper.wp P o a w K Q:=by
 obtain ⟨v',w',hr,h2,h3,h4,h5⟩:=run_append_own_at (P:=P) w base t o.type e i z 1 bytes ht hi hz JT XB XH aE v n xs FU ⟨g,0,none⟩ 1 1 [u] rfl (fun j y hj=>by
  match j,hj with
  | 0,hj=>simp at hj;subst hj;simpa [Addr.add] using hg.cell 0) (fun y hy=>by simp at hy;subst hy;exact h1) (by unfold maxLen;omega) (EF (Nat.mul_le_mul hn hb) aF) JI
 exact Ug
end Go.Proofs.YtkfmladhicapeaaGreatDoor.Pj
