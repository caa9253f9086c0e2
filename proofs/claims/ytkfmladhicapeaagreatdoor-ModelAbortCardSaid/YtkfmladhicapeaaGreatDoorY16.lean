import Derived.Test.YtkfmladhicapeaaGreatDoorY15
set_option maxRecDepth 100000
set_option maxHeartbeats 8000000
namespace Go.Proofs.YtkfmladhicapeaaGreatDoor
open Go.RowKit Go.Shelf
attribute [local go_sem] Oper.semAt_some
theorem cE.own {wo:World} {p:Nat} {a b:ByteArray} {c:Bool} {n:Nat} (hb:wo.heap.size<=n) {β:Type}:OwnFrom n (fun (_:β) W=>cE wo p a b c W):=fun _ _ _ _ hs hg hr =>
 ⟨cF hs.x hg (fun k e=>(hr k e).2),cF hs.y hg (fun k e=>(hr k e).2),cF hs.z hg (fun k e=>(hr k e).2),hs.k.grown hg hs.k.size (fun k e=>EF hb (hr k e).1),hs.p⟩
theorem cE.put {wo W:World} {p D:Nat} {a b:ByteArray} {c:Bool} (h:cE wo p a b c W) (hD:wo.heap.size<=D) (hK:W.heap[D]?=some (.deferred (some []))):cE wo p a b c (W.putObj D (.deferred none)) :=
 ⟨cF h.x (cK W D _) (fun k e=>by cases e;exact ⟨_,hK,rfl⟩),cF h.y (cK W D _) (fun k e=>by cases e;exact ⟨_,hK,rfl⟩),cF h.z (cK W D _) (fun k e=>by cases e;exact ⟨_,hK,rfl⟩),h.k.grown (cK W D _) h.k.size (fun k e=>by cases e;exact hD),h.p⟩
theorem oY {W:World} {D b:Nat} {o:Obj} {v:Value} (h:W.heap[D]?=some o) (GW:D≠b):(W.setCell ⟨b,0,none⟩ v).heap[D]?=some o:=(Below.heap_setCell W ⟨b,0,none⟩ v D GW).trans h
theorem tJ (l:List UInt8) (k:Nat):hQ l k=(List.range k).all (fun i=>eM (eO l i)):=rfl
theorem vV (s:ByteArray) (m:Int) (wo:World) (hs:s.size<=40) (hm:wo.cell? ⟨2,0,none⟩=some (.int .i64 m)) (hg:2<wo.heap.size) (hv:kU s=true->fQ (iO s).data.toList=true) :
 Calls Tryz.prog 121 #[.string s] wo fun e w'=>e=.returned (qP s)/\aB wo w':=by
 have HNB:=DX (show dV s=jP s by
  unfold dV;rw [DZ hs]
  cases hh:kU s with
  | false=>rfl
  | true=>rw [hv hh];rfl)
 have XT:=DX (show (aR s).size<=40 from EF (oE s) hs);have OE:=DX (fun h=>pY s h);have HRG:=DX (fun h=>sQ s h);have HCN:=DX (yD (aR s).data.toList);have HG:=DX (fun w (k:aB wo w)=>show w.cell? ⟨2,0,none⟩=some (.int .i64 m) from k.cell hg hm);have RP:=DX (fun w=>tQ (iO s) w (by have:=qD s;omega));have HC1:=DX (cE.new wo);clear hm hg;refine callsIn_wide.1 (callsIn_of_wp_marks (n:=8) Tryz.func121 rfl trivial ?_ rfl);simp only [Tryz.ntmps121,List.size_toArray,List.length_nil,List.length_cons,Nat.reduceAdd,Nat.reduceSub,Array.replicate_succ,Array.replicate_zero,List.push_toArray,List.append_toArray,List.nil_append,List.cons_append]
 refine wpIn_wide.2 ?_
 go_upto_region 1 with (fail)
 generalize ((wo.alloc (.cells #[.string ⟨#[]⟩] 9)).alloc (.cells #[.string ⟨#[]⟩] 9)).alloc (.cells #[.bool false] 4)=w1 at *
 have aBU:wo.heap.size+1+1=wo.heap.size+2:=rfl;rw [aBU];clear aBU;generalize hp:wo.heap.size=p at HC1 ⊢;clear hp;go_wp2_with fail
 refine (Lk s m _ aE (HG.out _ HC1.out.k)).mono ?_
 rintro e w2 ⟨rfl,FX⟩;have YY:=DX (HC1.out.kept FX);clear FX;obtain ⟨⟨c0,c1,c2⟩,f0,f1,f2⟩:=YY.out.cells
 go_upto_region 2 with (fail)
 have TP:=DX ((YY.out.setX (aR s)).setY (iO s));clear c0 c1 c2 f0 f1 f2
 generalize (w2.setCell ⟨p,0,none⟩ (.string (aR s))).setCell ⟨p+1,0,none⟩ (.string (iO s))=w3 at *
 have GU:decide ((40:Int)<s.size)=false:=DY aE
 cases hh:kU s with
 | true =>
  have HV:=DX (hv hh);have HVO:=DX (show gJ s=iO s by unfold gJ;rw [if_pos hh]);clear hv;obtain ⟨⟨c0,c1,c2⟩,f0,f1,f2⟩:=TP.out.cells;go_wp2_with fail
  refine (RP.out _).mono ?_
  rintro e w4 ⟨rfl,rfl⟩;rw [HV.out];go_wp2_with fail
  refine (Ak _ _).mono ?_
  rintro e w5 ⟨rfl,MD⟩
  have GZ:aB w3 w5:=by rw [MD];exact (EX _).alloc _
  have HX:=DX (show aA w5 w3.heap.size #[.string (aR s)] 9 by rw [MD];exact EY _ _ _);have HC5:=DX (TP.out.kept GZ)
  have hx5:w3.heap.size<w5.heap.size:=by rw [MD];simp
  have UP:p+2<w3.heap.size:=TP.out.z.lt;have hwp:=TP.out.p;clear GZ MD c0 c1 c2 f0 f1 f2 GU;generalize w3.heap.size=x at *;go_wp2_with fail
  refine eS 8 ?_
  obtain ⟨R,hR⟩:∃ R:Nat->Prop,R=fun g=>wo.heap.size<=g/\g≠x:=⟨_,rfl⟩
  have hrx:¬ R x:=by rw [hR];exact fun h=>h.2 rfl
  have HRP:=DX (show R p/\R (p+1)/\R (p+2) by rw [hR];exact ⟨⟨aE,aE⟩,⟨aE,aE⟩,⟨aE,aE⟩⟩);clear hR;refine eI rfl aE (gf:=178) (lb:=#[.pointer (some ⟨x,0,none⟩)]) rfl trivial (enters_of Tryz.func178 aW rfl)
   (rB 7 aE R (aR s) (by have:=XT.out;omega) x w5 hrx HX.out) (aV.refl _) aV.trans aV.putObj (Below.refl _ _) (fun _=>rfl)
   (fun pre W=>(lU pre).all (fun i=>eM (eO (aR s).data.toList i))=true/\cE wo p (aR s) (iO s) false W)
   (fun c pre W=>(c=.ret/\∃ i,pre.getLast?=some i/\eM (eO (aR s).data.toList i.1)=false)/\cE wo p ⟨#[]⟩ ⟨#[]⟩ false W)
   (OwnFrom.and (Own.from (fun s A B row hs hg hr=>hs) _) (cE.own aE)) (fun c=>OwnFrom.and (Own.from (fun s A B row hs hg hr=>hs) _) (cE.own aE)) ?h0 ?round ?done ?stop
  case h0=>exact ⟨rfl,HC5.out⟩
  case round =>
   exact Xx
  case done =>
   rintro D ys W hD TJ ⟨GH,PR⟩ hK
   have hgp:jP s=true:=by unfold jP;rw [tJ,<- TJ];exact GH
   have HRV:=DX (HRG.out (by rw [HNB.out];exact hgp));rw [HVO.out] at HRV;have HC:=DX PR;have VP:=DX hK
   have hDx:x<D:=by omega
   clear hgp GH PR hK TJ;obtain ⟨⟨c0,c1,c2⟩,f0,f1,f2⟩:=HC.out.cells;have HCR:=HC;have HDR:=VP;clear c0 c1 c2 f0 f1 f2;go_wp2_with fail
   refine Pj.Zg (fun a0 L a w=>∃ (V:Nat->Value) (c:Bool),a=Pj.Zb [(32,0),(33,1)] V a0/\(L 0->V 0=.string (aR s))/\(L 1->V 1=.string (iO s))/\(L 4->c=true)/\cE wo p (aR s) (iO s) c w/\w.heap[D]?=some (.deferred (some []))) nR nR ?eh0 ?ehs ?ehe
   case eh0 =>
    exact Qr
   case ehs =>
    rintro L L' a w i op K ⟨V,c,rfl,WB,WC,QH,hC,UX⟩ ho FY FZ hL hK
    match i,ho with
    | 0,ho =>
     exact Yp
    | 1,ho =>
     simp only [iU] at ho;subst ho;obtain ⟨⟨c0,c1,c2⟩,f0,f1,f2⟩:=hC.cells;have HCx:=DX hC;have HVx:=DX WB;have XJ:=DX QH;clear hC WB WC QH
     refine Pj.Za.free rfl ?_
     simp only [Pj.Zb,dO,Act.put];go_simp;exact hK _ _ ⟨Pj.Yz V 1 (.string (iO s)),c,by simp only [Pj.Zb,dO,Act.put,Pj.Yz,Nat.reduceEqDiff,if_true,if_false],fun h=>(Pj.Yy _ _ aF).trans (HVx.out (((hL 0).1 h).resolve_left aF)),fun _=>Pj.Zc _ _ _,fun h=>XJ.out (((hL 4).1 h).resolve_left aF),HCx.out,UX⟩
    | 2,ho =>
     exact Wu
    | 3,ho =>
     simp only [iU] at ho;have e1:V 1=_:=WC (FZ 1 (by rw [<- ho];kernel_rfl));subst ho;obtain ⟨⟨c0,c1,c2⟩,f0,f1,f2⟩:=hC.cells;have HCx:=DX (hC.setY (iO s));exact Xw
    | 4,ho =>
     exact Xh
    | n+5,ho=>simp at ho
   case ehe =>
    rintro L a w ⟨V,c,rfl,WB,WC,QH,hC,UX⟩ GH;obtain rfl:=QH (GH 4 aF);have HCE:=DX (hC.put aE UX);have HDE:=DX UX;clear hC UX WB WC QH GH;go_wp2;refine ⟨by simp,.inl ⟨_,_,rfl,run_takeDeferred HDE.out,?_⟩⟩;obtain ⟨⟨c0,c1,c2⟩,f0,f1,f2⟩:=HCE.out.cells;refine ⟨.tuple (LT (aR s) (iO s) true),?_,by rw [HRV.out],HCE.out.k⟩
    simp [results,Tryz.f121,go_sem,c0,c1,c2,Pj.Zb,Act.put]
  case stop =>
   exact Vo
 | false =>
  have HVO:=DX (show gJ s=oI by unfold gJ;rw [if_neg (by rw [hh];exact Bool.false_ne_true)]);clear hv;obtain ⟨⟨c0,c1,c2⟩,f0,f1,f2⟩:=TP.out.cells;go_wp2_with fail
  refine (Ak _ _).mono ?_
  rintro e w5 ⟨rfl,MD⟩
  have GZ:aB w3 w5:=by rw [MD];exact (EX _).alloc _
  have HX:=DX (show aA w5 w3.heap.size #[.string (aR s)] 9 by rw [MD];exact EY _ _ _);have HC5:=DX (TP.out.kept GZ)
  have hx5:w3.heap.size<w5.heap.size:=by rw [MD];simp
  have UP:p+2<w3.heap.size:=TP.out.z.lt;have hwp:=TP.out.p;clear GZ MD c0 c1 c2 f0 f1 f2 GU;generalize w3.heap.size=x at *;go_wp2_with fail
  refine eS 8 ?_
  obtain ⟨R,hR⟩:∃ R:Nat->Prop,R=fun g=>wo.heap.size<=g/\g≠x:=⟨_,rfl⟩
  have hrx:¬ R x:=by rw [hR];exact fun h=>h.2 rfl
  have HRP:=DX (show R p/\R (p+1)/\R (p+2) by rw [hR];exact ⟨⟨aE,aE⟩,⟨aE,aE⟩,⟨aE,aE⟩⟩);clear hR;refine eI rfl aE (gf:=178) (lb:=#[.pointer (some ⟨x,0,none⟩)]) rfl trivial (enters_of Tryz.func178 aW rfl)
   (rB 7 aE R (aR s) (by have:=XT.out;omega) x w5 hrx HX.out) (aV.refl _) aV.trans aV.putObj (Below.refl _ _) (fun _=>rfl)
   (fun pre W=>(lU pre).all (fun i=>eM (eO (aR s).data.toList i))=true/\cE wo p (aR s) (iO s) false W)
   (fun c pre W=>(c=.ret/\∃ i,pre.getLast?=some i/\eM (eO (aR s).data.toList i.1)=false)/\cE wo p ⟨#[]⟩ ⟨#[]⟩ false W)
   (OwnFrom.and (Own.from (fun s A B row hs hg hr=>hs) _) (cE.own aE)) (fun c=>OwnFrom.and (Own.from (fun s A B row hs hg hr=>hs) _) (cE.own aE)) ?h0 ?round ?done ?stop
  case h0=>exact ⟨rfl,HC5.out⟩
  case round =>
   exact Xx
  case done =>
   rintro D ys W hD TJ ⟨GH,PR⟩ hK
   have hgp:jP s=true:=by unfold jP;rw [tJ,<- TJ];exact GH
   have HRV:=DX (HRG.out (by rw [HNB.out];exact hgp));rw [HVO.out] at HRV;have HC:=DX PR;have VP:=DX hK
   have hDx:x<D:=by omega
   clear hgp GH PR hK TJ;obtain ⟨⟨c0,c1,c2⟩,f0,f1,f2⟩:=HC.out.cells
   go_upto_region 10 with (fail)
   have HCR:=DX (HC.out.setY oI);have HDR:=DX (oY (v:=.string oI) (b:=p+1) VP.out aE);clear c0 c1 c2 f0 f1 f2
   refine Pj.Zg (fun a0 L a w=>∃ (V:Nat->Value) (c:Bool),a=Pj.Zb [(32,0),(33,1)] V a0/\(L 0->V 0=.string (aR s))/\(L 1->V 1=.string (oI))/\(L 4->c=true)/\cE wo p (aR s) (oI) c w/\w.heap[D]?=some (.deferred (some []))) nR nR ?eh0 ?ehs ?ehe
   case eh0 =>
    exact Qr
   case ehs =>
    rintro L L' a w i op K ⟨V,c,rfl,WB,WC,QH,hC,UX⟩ ho FY FZ hL hK
    match i,ho with
    | 0,ho =>
     exact Yp
    | 1,ho =>
     simp only [iU] at ho;subst ho;obtain ⟨⟨c0,c1,c2⟩,f0,f1,f2⟩:=hC.cells;have HCx:=DX hC;have HVx:=DX WB;have XJ:=DX QH;clear hC WB WC QH
     refine Pj.Za.free rfl ?_
     simp only [Pj.Zb,dO,Act.put];go_simp;exact hK _ _ ⟨Pj.Yz V 1 (.string (oI)),c,by simp only [Pj.Zb,dO,Act.put,Pj.Yz,Nat.reduceEqDiff,if_true,if_false],fun h=>(Pj.Yy _ _ aF).trans (HVx.out (((hL 0).1 h).resolve_left aF)),fun _=>Pj.Zc _ _ _,fun h=>XJ.out (((hL 4).1 h).resolve_left aF),HCx.out,UX⟩
    | 2,ho =>
     exact Wu
    | 3,ho =>
     simp only [iU] at ho;have e1:V 1=_:=WC (FZ 1 (by rw [<- ho];kernel_rfl));subst ho;obtain ⟨⟨c0,c1,c2⟩,f0,f1,f2⟩:=hC.cells;have HCx:=DX (hC.setY (oI));exact Xw
    | 4,ho =>
     exact Xh
    | n+5,ho=>simp at ho
   case ehe =>
    rintro L a w ⟨V,c,rfl,WB,WC,QH,hC,UX⟩ GH;obtain rfl:=QH (GH 4 aF);have HCE:=DX (hC.put aE UX);have HDE:=DX UX;clear hC UX WB WC QH GH;go_wp2;refine ⟨by simp,.inl ⟨_,_,rfl,run_takeDeferred HDE.out,?_⟩⟩;obtain ⟨⟨c0,c1,c2⟩,f0,f1,f2⟩:=HCE.out.cells;refine ⟨.tuple (LT (aR s) (oI) true),?_,by rw [HRV.out],HCE.out.k⟩
    simp [results,Tryz.f121,go_sem,c0,c1,c2,Pj.Zb,Act.put]
  case stop =>
   exact Vo
theorem Pr (s:ByteArray) (m:Int) (wo:World) (hs:s.size<=1000000) (hm:wo.cell? ⟨2,0,none⟩=some (.int .i64 m)) (hg:2<wo.heap.size) :
 Calls Tryz.prog 121 #[.string s] wo fun e w'=>e=.returned (qP s)/\aB wo w':=by
 by_cases ZH:s.size<=40
 . cases hv:fQ (iO s).data.toList with
   | true=>exact vV s m wo ZH hm hg (fun _=>hv)
   | false =>
    cases hh:kU s with
    | false=>exact vV s m wo ZH hm hg (fun h=>by rw [hh] at h;cases h)
    | true=>exact tT s m wo hs hm hg (by unfold dV;rw [hh,hv];simp) (.inr ⟨hh,hv⟩)
 . exact tT s m wo hs hm hg (by unfold dV;rw [DY ZH];rfl) (.inl aE)
end Go.Proofs.YtkfmladhicapeaaGreatDoor
namespace Go.Proofs.YtkfmladhicapeaaGreatDoor
open Go.RowKit Go.Shelf
theorem CN:(Tryz.prog.info? 9).map (fun i=>(i.zero,i.size,i.bytes))=some (some (.string ByteArray.empty),1,16):=by kernel_rfl
noncomputable def uT (P:ByteArray):List ByteArray:=(List.range (fA P.data.toList)).map (Ic P)
theorem iM (P:ByteArray):(uT P).length=fA P.data.toList:=by simp [uT]
theorem wG (P:ByteArray) (k:Nat) (h:k<fA P.data.toList):((uT P).take (k+1)).map Value.string=((uT P).take k).map Value.string++[Value.string (Ic P k)]:=by
 rw [List.take_succ_eq_append_getElem (by rw [iM];exact h),List.map_append]
 simp [uT]
theorem wS (P:ByteArray):∀ x∈uT P,x.size<=P.size:=fun x hx=>by
 unfold uT at hx;rw [List.mem_map] at hx;obtain ⟨i,_,rfl⟩:=hx;exact pO _ _
theorem Gy (s:ByteArray):dV s=(decide (s.size<=40)&&(fQ (gJ s).data.toList&&jP s)):=by
 unfold dV gJ
 cases hh:kU s with
 | true=>rfl
 | false=>rw [if_neg Bool.false_ne_true,show fQ oI.data.toList=true from by decide];rfl
theorem Gq (s:ByteArray) (h:kU s=false):aR s=s:=by
 unfold kU at h;have h1:=yQ s.data.toList
 have h2:gW s.data.toList=s.data.toList.length:=by have:=of_decide_eq_false h;omega
 unfold aR;rw [h2]
 apply ByteArray.ext
 apply Array.toList_inj.1
 rw [nT];exact Rk
def pW (ok:Bool) (P V:ByteArray) (e:Ending) (w':World):Prop :=
 (ok=true/\∃ a cap,e=.returned (.tuple #[.slice a (fA P.data.toList) cap,.string V,.bool true])/\fA P.data.toList<=cap/\bD w' a (fA P.data.toList) (uT P)) \/
 (ok=false/\e=.returned (.tuple #[.slice none 0 0,.string ⟨#[]⟩,.bool false]))
def vP (s:ByteArray) (e:Ending) (w':World):Prop:=pW (dV s) (aR s) (gJ s) e w'
theorem Vd (s:ByteArray) (i:Nat) (h:i<gW s.data.toList) (hs:i<s.size):¬ s[i].toNat=58:=fun e=>by
 have h1:=lX (fun c=>!(c == 58)) s.data.toList i h;have hq:(s[i] == (58:UInt8))=decide (s[i].toNat=58):=fL s[i] 58 aE;rw [<- dL s i hs,hq,DZ e] at h1;cases h1
theorem Uk (s:ByteArray) (h:gW s.data.toList<s.size):(s[gW s.data.toList]'h).toNat=58:=by
 have h1:=kI (fun c=>!(c == 58)) s.data.toList h;have hq:((s[gW s.data.toList]'h) == (58:UInt8))=decide ((s[gW s.data.toList]'h).toNat=58):=fL _ 58 aE;have h2:=dL s _ h;unfold gW at h2 hq h ⊢;rw [<- h2,hq] at h1
 simpa using h1
theorem yT (s:ByteArray) (w:World) (hs:s.size<=1000000):Calls Tryz.prog 51 #[.string s] w fun e w'=>vP s e w'/\aB w w':=by
 have HNV:=DX (Gy s)
 by_cases ZH:s.size<=40
 . have GU:decide ((40:Int)<s.size)=false:=DY aE
   have HNW:=DX (show dV s=(fQ (gJ s).data.toList&&jP s) by rw [HNV.out,DZ ZH];rfl);have XT:=DX (show (aR s).size<=40 from EF (oE s) ZH)
   have HVS:=DX (show (gJ s).size<=40 from by
    unfold gJ
    split
    . exact EF (qD s) ZH
    . decide)
   have HCI:=DX (Vd s);have HCA:=DX (Uk s);have PB:gW s.data.toList<=s.size:=yQ s.data.toList;have HHB:=DX (show kU s=decide (gW s.data.toList<s.size) from rfl);have ZB:=DX (show aR s=s.extract 0 (gW s.data.toList) from rfl);have HRV:=DX (show kU s=true->gJ s=s.extract (gW s.data.toList+1) s.size from fun h=>by unfold gJ iO;rw [if_pos h,if_pos h]);have RP:=DX (show kU s=false->gJ s=oI from fun h=>by unfold gJ;rw [if_neg (by rw [h];exact Bool.false_ne_true)]);have HPA:=DX (Gq s);generalize hcn:gW s.data.toList=cn at *;clear hcn;obtain ⟨i0,hi,GV,GJ,GO⟩:=info_parts CN;have HI:=DX (EC hi (EC GV (EC GJ GO)));clear hi GV GJ GO;go_enter Tryz.func51,Tryz.ntmps51;go_wp2_with fail;go_loopw [5,6,7] (fun v h i wr=>∃ i':Nat,i'<=cn/\i=.int .i64 i'/\v=.string oI/\h=.string s/\w=wr) (fun _ _ i _=>s.size - (intOf i).toNat)
   case atStart=>exact ⟨0,aE,rfl,rfl,rfl,by trivial⟩
   case round =>
    obtain ⟨i,JN,rfl,rfl,rfl,rfl⟩:=hrel
    by_cases FV:i<s.size
    . have JH:decide (i<s.size)=true:=DZ FV
      by_cases hic:i<cn
      . have hb:((s[i].toNat:Int) == 58)=false:=beq_eq_false_iff_ne.2 (by have:=HCI.out i hic FV;omega)
        go_wp2;go_roundw
        case rel=>exact ⟨i+1,aE,by go_num,rfl,rfl,by trivial⟩
        case measure=>simp [intOf];omega
      . obtain rfl:i=cn:=by omega
        have hb:((s[i].toNat:Int) == 58)=true:=beq_iff_eq.2 (by have:=HCA.out FV;omega)
        have hhb:kU s=true:=by rw [HHB.out];exact DZ FV
        have hpe:=ZB.out;have hve:=HRV.out hhb
        have PI:(i:Int)+1=((i+1:Nat):Int):=by omega
        obtain ⟨j,hj⟩:∃ j,j=i+1:=⟨_,rfl⟩
        rw [<- hj] at PI hve
        have hjs:j<=s.size:=by omega
        have hpe':=hpe.symm;have hve':=hve.symm;have HJ:=DX hj;have HNR:=DX (fun e w' (h:pW (dV s) (aR s) (gJ s) e w')=>show vP s e w' from h);have HGD:=DX (show jP s=hQ (aR s).data.toList (fA (aR s).data.toList) from rfl);clear hj hpe hve hhb JN;go_wp2_with fail;go_quiet (fail);clear hpe' hve' PI hb
        have kq:aB w (w.drewN nq):=(EX _).drewN nq
        have HKq:=DX kq;clear kq;generalize w.drewN nq=wq at *;have HN1:=DX (yD (aR s).data.toList);have XO:=DX (show (aR s).data.toList.length=(aR s).size from rfl);go_wp2_with fail;go_loopw [8,9,10] (fun l f i wr=>∃ k i':Nat,f=.int .i64 (cM (aR s).data.toList k:Nat)/\i=.int .i64 i'/\((k<fA (aR s).data.toList/\cM (aR s).data.toList k<=i'/\i'<=bH (aR s).data.toList (cM (aR s).data.toList k))\/(k=fA (aR s).data.toList/\i'=(aR s).size+1))/\hQ (aR s).data.toList k=true/\wr.ownsRow wq.heap.size 9 1 l k (((uT (aR s)).take k).map Value.string)/\aB wq wr) (fun _ _ i _=>(aR s).size+2 - (intOf i).toNat)
        case atStart=>exact Qt
        case round =>
         obtain ⟨k,i,rfl,rfl,hki,UD,FU,IF⟩:=hrel;have HGT:=DX UD;have HO:=DX FU;have HKr:=DX IF;clear UD FU IF;have YO:=XT.out
         rcases hki with ⟨JE,hpi,hie⟩ | ⟨rfl,rfl⟩
         . have KJ:=(lL (aR s).data.toList k).1 JE
           have hes:=pZ (aR s).data.toList _ KJ
           rw [XO.out] at KJ hes
           have hk40:k<=41:=by have:=HN1.out;rw [XO.out] at this;omega
           have HKN:=DX JE
           have IJ:=DX (fun j (h1:cM (aR s).data.toList k<=j) (h2:j<bH (aR s).data.toList (cM (aR s).data.toList k)) (hj:j<(aR s).size)=>show ¬ (aR s)[j].toNat=47 from fun e=>by
            have h3:=Dm (aR s).data.toList _ j h1 h2
            have hq:((aR s)[j] == (47:UInt8))=decide ((aR s)[j].toNat=47):=fL (aR s)[j] 47 aE;rw [<- dL (aR s) j hj,hq,DZ e] at h3
            cases h3)
           have JA:=DX (fun (h2:bH (aR s).data.toList (cM (aR s).data.toList k)<(aR s).size)=>show ((aR s)[bH (aR s).data.toList (cM (aR s).data.toList k)]'h2).toNat=47 from by
            have h3:=Dn (aR s).data.toList _ (by rw [XO.out];exact KJ) h2
            have hq:(((aR s)[bH (aR s).data.toList (cM (aR s).data.toList k)]'h2) == (47:UInt8))=decide (((aR s)[bH (aR s).data.toList (cM (aR s).data.toList k)]'h2).toNat=47):=fL _ 47 aE;rw [<- dL (aR s) _ h2,hq] at h3
            exact of_decide_eq_true h3)
           have OT:=DX (show Ic (aR s) k=(aR s).extract (cM (aR s).data.toList k) (bH (aR s).data.toList (cM (aR s).data.toList k)) from rfl);have QX:=DX (fun w=>Bb (Ic (aR s) k) w (by have:=pO (aR s) k;omega));have MY:=DX (iB (aR s).data.toList k)
           have QW:=DX (show (k+1<fA (aR s).data.toList/\cM (aR s).data.toList (k+1)<=bH (aR s).data.toList (cM (aR s).data.toList k)+1/\bH (aR s).data.toList (cM (aR s).data.toList k)+1<=bH (aR s).data.toList (cM (aR s).data.toList (k+1)))\/(k+1=fA (aR s).data.toList/\bH (aR s).data.toList (cM (aR s).data.toList k)+1=(aR s).size+1) from by
            have h1:=lL (aR s).data.toList (k+1)
            rw [iB,XO.out] at h1
            have h2:=kO (aR s).data.toList (bH (aR s).data.toList (cM (aR s).data.toList k)+1)
            rw [iB]
            by_cases h:bH (aR s).data.toList (cM (aR s).data.toList k)+1<=(aR s).size
            . exact .inl ⟨h1.2 h,EA _,h2⟩
            . refine .inr ⟨?_,aE⟩
              have:¬ k+1<fA (aR s).data.toList:=fun e=>h (h1.1 e)
              omega)
           rw [sY] at QX;have HPF:=DX (show ∀ f,cM (aR s).data.toList k=f->cM (aR s).data.toList k=f from fun _ h=>h)
           obtain ⟨f,hf⟩:∃ f,cM (aR s).data.toList k=f:=⟨_,rfl⟩
           have UQ:=DX hf;rw [hf] at IJ JA OT MY QW hpi hie hes KJ ⊢
           obtain ⟨E,hE⟩:∃ E,bH (aR s).data.toList f=E:=⟨_,rfl⟩
           have HEE:=DX hE;rw [hE] at IJ OT MY QW hie hes;have HAT2:=DX (show ∀ (h2:E<(aR s).size),((aR s)[E]'h2).toNat=47 from by subst hE;exact JA.out);rw [OT.out] at QX;clear hf hE JA JE HPF;have ZK:decide (i<=(aR s).size)=true:=DZ aE
           by_cases hiE:i<E
           . have hil:i<(aR s).size:=by omega
             have hb:=IJ.out i hpi hiE hil;have PA:(((aR s)[i].toNat:Int) == 47)=false:=beq_eq_false_iff_ne.2 aE;have GW:((i:Int) == ((aR s).size:Int))=false:=beq_eq_false_iff_ne.2 aE;exact Sk
           . obtain rfl:i=E:=by omega
             have HPT:=QX;have HPC:=OT;have SD:=MY;have QV:=QW
             by_cases hiS:i=(aR s).size
             . have GW:((i:Int) == ((aR s).size:Int))=true:=beq_iff_eq.2 aE
               clear hiS QX OT MY QW;exact Yx
             . have hil:i<(aR s).size:=by omega
               have hb:=HAT2.out hil;have PA:(((aR s)[i].toNat:Int) == 47)=true:=beq_iff_eq.2 aE;have GW:((i:Int) == ((aR s).size:Int))=false:=beq_eq_false_iff_ne.2 aE;clear hb hiS QX OT MY QW;exact Yx
         . obtain ⟨z,hz⟩:∃ z,z=(aR s).size+1:=⟨_,rfl⟩
           rw [<- hz];have ZK:decide (z<=(aR s).size)=false:=DY aE;have HGP:=DX (show jP s=true by rw [HGD.out];exact HGT.out);have FU:=HO.out;rw [EE (by rw [iM];exact EA _)] at FU;obtain ⟨a',cap',rfl,PB,GL⟩:=eC FU (iM (aR s)) (fun x hx=>by have:=wS (aR s) x hx;omega);have IN:=DX GL;have HVR:=DX (fun w=>qY (gJ s) w (by have:=HVS.out;omega));clear FU GL hz;go_wp2_with fail
           refine (HVR.out _).mono ?_
           rintro e w' ⟨rfl,rfl⟩
           cases ZR:fQ (gJ s).data.toList with
           | false =>
            have HB:=DX (show dV s=false by rw [HNW.out,ZR];rfl);exact Xp
           | true =>
            exact Rv
    . obtain rfl:i=s.size:=by omega
      have JH:decide (s.size<s.size)=false:=DY aE
      have hhb:kU s=false:=by rw [HHB.out];exact DY aE
      have hpe:=HPA.out hhb;have hve:=RP.out hhb;have HNR:=DX (fun e w' (h:pW (dV s) s oI e w')=>show vP s e w' from by unfold vP;rw [hpe,hve];exact h);have HGD:=DX (show jP s=hQ s.data.toList (fA s.data.toList) from by unfold jP;rw [hpe]);rw [hpe] at XT;rw [hve] at HNW HVS;clear hpe hve hhb;have HKq:=DX (EX w)
      obtain ⟨wq,rfl⟩:∃ wq,wq=w:=⟨_,rfl⟩
      have HN1:=DX (yD s.data.toList);have XO:=DX (show s.data.toList.length=s.size from rfl);go_wp2_with fail;go_loopw [8,9,10] (fun l f i wr=>∃ k i':Nat,f=.int .i64 (cM s.data.toList k:Nat)/\i=.int .i64 i'/\((k<fA s.data.toList/\cM s.data.toList k<=i'/\i'<=bH s.data.toList (cM s.data.toList k))\/(k=fA s.data.toList/\i'=s.size+1))/\hQ s.data.toList k=true/\wr.ownsRow wq.heap.size 9 1 l k (((uT s).take k).map Value.string)/\aB wq wr) (fun _ _ i _=>s.size+2 - (intOf i).toNat)
      case atStart=>exact Qt
      case round =>
       obtain ⟨k,i,rfl,rfl,hki,UD,FU,IF⟩:=hrel;have HGT:=DX UD;have HO:=DX FU;have HKr:=DX IF;clear UD FU IF;have YO:=XT.out
       rcases hki with ⟨JE,hpi,hie⟩ | ⟨rfl,rfl⟩
       . have KJ:=(lL s.data.toList k).1 JE
         have hes:=pZ s.data.toList _ KJ;rw [XO.out] at KJ hes
         have hk40:k<=41:=by have:=HN1.out;rw [XO.out] at this;omega
         have HKN:=DX JE
         have IJ:=DX (fun j (h1:cM s.data.toList k<=j) (h2:j<bH s.data.toList (cM s.data.toList k)) (hj:j<s.size)=>show ¬ s[j].toNat=47 from fun e=>by
          have h3:=Dm s.data.toList _ j h1 h2;have hq:(s[j] == (47:UInt8))=decide (s[j].toNat=47):=fL s[j] 47 aE;rw [<- dL s j hj,hq,DZ e] at h3
          cases h3)
         have JA:=DX (fun (h2:bH s.data.toList (cM s.data.toList k)<s.size)=>show (s[bH s.data.toList (cM s.data.toList k)]'h2).toNat=47 from by
          have h3:=Dn s.data.toList _ (by rw [XO.out];exact KJ) h2;have hq:((s[bH s.data.toList (cM s.data.toList k)]'h2) == (47:UInt8))=decide ((s[bH s.data.toList (cM s.data.toList k)]'h2).toNat=47):=fL _ 47 aE;rw [<- dL s _ h2,hq] at h3
          exact of_decide_eq_true h3)
         have OT:=DX (show Ic s k=s.extract (cM s.data.toList k) (bH s.data.toList (cM s.data.toList k)) from rfl);have QX:=DX (fun w=>Bb (Ic s k) w (by have:=pO s k;omega));have MY:=DX (iB s.data.toList k)
         have QW:=DX (show (k+1<fA s.data.toList/\cM s.data.toList (k+1)<=bH s.data.toList (cM s.data.toList k)+1/\bH s.data.toList (cM s.data.toList k)+1<=bH s.data.toList (cM s.data.toList (k+1)))\/(k+1=fA s.data.toList/\bH s.data.toList (cM s.data.toList k)+1=s.size+1) from by
          have h1:=lL s.data.toList (k+1);rw [iB,XO.out] at h1;have h2:=kO s.data.toList (bH s.data.toList (cM s.data.toList k)+1);rw [iB]
          by_cases h:bH s.data.toList (cM s.data.toList k)+1<=s.size
          . exact .inl ⟨h1.2 h,EA _,h2⟩
          . refine .inr ⟨?_,aE⟩
            have:¬ k+1<fA s.data.toList:=fun e=>h (h1.1 e)
            omega)
         rw [sY] at QX;have HPF:=DX (show ∀ f,cM s.data.toList k=f->cM s.data.toList k=f from fun _ h=>h)
         obtain ⟨f,hf⟩:∃ f,cM s.data.toList k=f:=⟨_,rfl⟩
         have UQ:=DX hf;rw [hf] at IJ JA OT MY QW hpi hie hes KJ ⊢
         obtain ⟨E,hE⟩:∃ E,bH s.data.toList f=E:=⟨_,rfl⟩
         have HEE:=DX hE;rw [hE] at IJ OT MY QW hie hes;have HAT2:=DX (show ∀ (h2:E<s.size),(s[E]'h2).toNat=47 from by subst hE;exact JA.out);rw [OT.out] at QX;clear hf hE JA JE HPF;have ZK:decide (i<=s.size)=true:=DZ aE
         by_cases hiE:i<E
         . have hil:i<s.size:=by omega
           have hb:=IJ.out i hpi hiE hil;have PA:((s[i].toNat:Int) == 47)=false:=beq_eq_false_iff_ne.2 aE;have GW:((i:Int) == (s.size:Int))=false:=beq_eq_false_iff_ne.2 aE;exact Sk
         . obtain rfl:i=E:=by omega
           have HPT:=QX;have HPC:=OT;have SD:=MY;have QV:=QW
           by_cases hiS:i=s.size
           . have GW:((i:Int) == (s.size:Int))=true:=beq_iff_eq.2 aE
             clear hiS QX OT MY QW;exact Xb
           . have hil:i<s.size:=by omega
             have hb:=HAT2.out hil;have PA:((s[i].toNat:Int) == 47)=true:=beq_iff_eq.2 aE;have GW:((i:Int) == (s.size:Int))=false:=beq_eq_false_iff_ne.2 aE;clear hb hiS QX OT MY QW;exact Xb
       . obtain ⟨z,hz⟩:∃ z,z=s.size+1:=⟨_,rfl⟩
         rw [<- hz];have ZK:decide (z<=s.size)=false:=DY aE;have HGP:=DX (show jP s=true by rw [HGD.out];exact HGT.out);have FU:=HO.out;rw [EE (by rw [iM];exact EA _)] at FU;obtain ⟨a',cap',rfl,PB,GL⟩:=eC FU (iM s) (fun x hx=>by have:=wS s x hx;omega);have IN:=DX GL;have HVR:=DX (fun w=>qY oI w (by have:=HVS.out;omega));clear FU GL hz;go_wp2_with fail
         refine (HVR.out _).mono ?_
         rintro e w' ⟨rfl,rfl⟩
         cases ZR:fQ oI.data.toList with
         | false =>
          have HB:=DX (show dV s=false by rw [HNW.out,ZR];rfl);exact Xp
         | true =>
          exact Rv
 . have GU:decide ((40:Int)<s.size)=true:=DZ aE
   have hb:dV s=false:=by rw [HNV.out,DY ZH];rfl
   have HB:=DX hb;clear hb HNV;go_enter Tryz.func51,Tryz.ntmps51;go_wp2;go_ret3;exact ⟨show pW _ _ _ _ _ from .inr ⟨HB.out,rfl⟩,EX _⟩
def Dj (W:World):Prop:=2<W.heap.size/\∃ m,W.cell? ⟨2,0,none⟩=some (.int .i64 m)
theorem Dj.kept {W W':World} (h:Dj W) (k:aB W W'):Dj W':=⟨EG h.1 k.size,by obtain ⟨m,hm⟩:=h.2;exact ⟨m,k.cell h.1 hm⟩⟩
theorem Ja (s:ByteArray) (w:World) (hs:s.size<=1000000) (hm:Dj w):Calls Tryz.prog 121 #[.string s] w fun e w'=>e=.returned (qP s)/\aB w w':=by
 obtain ⟨m,h⟩:=hm.2;exact Pr s m w hs h hm.1
noncomputable def kJ (s:ByteArray):Int:=if dV s=true then 0 else 7
theorem Ah (s:ByteArray) (w:World) (hs:s.size<=1000000) (hm:Dj w):Calls Tryz.prog 90 #[.string s] w fun e w'=>e=.returned (.int .i64 (kJ s))/\aB w w':=by
 have HR:=DX (Ja s w hs hm);clear hm
 cases h:dV s with
 | true =>
  rw [sQ s h] at HR;rw [show kJ s=0 by unfold kJ;rw [if_pos h]];exact Sf
 | false =>
  rw [pY s h] at HR;rw [show kJ s=7 by unfold kJ;rw [h];rfl];exact Sf
end Go.Proofs.YtkfmladhicapeaaGreatDoor
