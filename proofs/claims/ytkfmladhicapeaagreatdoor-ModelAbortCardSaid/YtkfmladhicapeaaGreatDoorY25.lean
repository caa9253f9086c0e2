import Derived.Test.YtkfmladhicapeaaGreatDoorY24
set_option maxRecDepth 100000
set_option maxHeartbeats 8000000
namespace Go.Proofs.YtkfmladhicapeaaGreatDoor
open Go.RowKit Go.Shelf
attribute [local go_sem] Oper.semAt_some
theorem zJ {R:Nat->Prop} {W W':World} {b i:Nat} {v:Value} (h:W.cell? ⟨b,i,none⟩=some v) (k:aV R W W') (hr:¬ R b):W'.cell? ⟨b,i,none⟩=some v:=by
 cases e:W.heap[b]? with
 | none=>simp [World.cell?,e] at h
 | some o =>
  cases o with
  | cells cs t fr =>
   have:=k.block b cs t fr hr e;simp only [World.cell?,this]
   simpa [World.cell?,e] using h
  | _=>simp [World.cell?,e] at h
def Ib (bs us:List ByteArray) (k:Nat):ByteArray:=if k<bs.length then bs.getD k ByteArray.empty else us.getD (k - bs.length) ByteArray.empty
theorem Gh (k0:Int) (ab au:Option Addr) (lb cb lu cu:Nat) (w:World) :
 Calls Tryz.prog 120 #[.agg (LM k0 ab lb cb au lu cu)] w fun e w'=>e=.returned (.func (.func 150) #[] #[.pointer (some ⟨w.heap.size,0,none⟩)])/\w'=w.alloc ((KM k0 ab lb cb au lu cu)):=by
 go_enter Tryz.func120,Tryz.ntmps120;go_wp2;go_ret;exact ⟨rfl,rfl⟩
theorem zN (n:Nat) (hn:1<=n) (R:Nat->Prop) (k0:Int) (ab au:Option Addr) (cb cu:Nat) (bs us:List ByteArray) (pt:Nat) (w:World)
 (hB:∀ W,aV R w W->W.cell? ⟨pt,0,none⟩=some (.int .i64 k0)/\W.cell? ⟨pt,1,none⟩=some (.slice ab bs.length cb)/\W.cell? ⟨pt,2,none⟩=some (.slice au us.length cu))
 (hbs:∀ i,i<bs.length->∃ b o,ab=some ⟨b,o,none⟩/\∀ W,aV R w W->W.cell? ⟨b,o+i,none⟩=some (.string (bs.getD i ByteArray.empty)))
 (hus:∀ i,i<us.length->∃ b o,au=some ⟨b,o,none⟩/\∀ W,aV R w W->W.cell? ⟨b,o+i,none⟩=some (.string (us.getD i ByteArray.empty))) (hl:bs.length<=1000000/\us.length<=1000000) :
 SeqStopsK Fence.wide n Tryz.prog 150 #[.pointer (some ⟨pt,0,none⟩)]
  (fun k:{ k:Nat // k<bs.length+us.length }=>#[Value.string (Ib bs us k.1),.bool (decide (bs.length<=k.1))]) (aV R)
  (fun xs=>lU xs=List.range (bs.length+us.length)) (fun pre=>∃ k,k<bs.length+us.length/\lU pre=List.range (k+1)) (bs.length+us.length) w:=fun l J Jx W hW hJ _ hY h0=>by
 obtain ⟨hl1,hl2⟩:=hl;have HB:=DX hB;have Hbs:=DX hbs;have Hus:=DX hus;have HW:=DX hW;have HY:=DX hY;have HJ0:=DX h0;obtain ⟨c0,c1,c2⟩:=hB W (aV.of_kept hW)
 refine callsIn_of_wp Tryz.func150 rfl trivial ?_ rfl
 simp only [Tryz.ntmps150,List.size_toArray,List.length_nil,List.length_cons,Nat.reduceAdd,Nat.reduceSub,Array.replicate_succ,Array.replicate_zero,List.push_toArray,List.append_toArray,List.nil_append,List.cons_append]
 refine wpIn_wide.2 ?_
 clear hB hbs hus hW hY h0 hJ;go_wp2_with fail
 refine eS n ?_
 gi_loopw [10] (fun i wr=>∃ k:Nat,k<=bs.length/\i=.int .i64 k/\aV R w wr/\∃ pre:List { k:Nat // k<bs.length+us.length },lU pre=List.range (k)/\J pre wr) (fun i _=>bs.length - (intOf i).toNat)
 case atStart=>exact ⟨0,aE,rfl,aV.of_kept HW.out,[],rfl,HJ0.out⟩
 case round =>
  rename World=>wr
  obtain ⟨k,hk,rfl,MU,pre,JZ,XA⟩:=hrel;have HCB:=DX MU;have LY:=DX JZ;have HJK:=DX XA
  have GM:pre.length=k:=by have:=congrArg List.length JZ;rw [fH] at this;simpa using this
  have TS:=DX GM;clear MU JZ XA GM
  by_cases PC:k<bs.length
  . have GU:decide (k<bs.length)=true:=DZ PC
    have JE:k<bs.length+us.length:=by omega
    obtain ⟨bx,ox,rfl,hcx⟩:=Hbs.out k PC;have cx:=hcx wr HCB.out
    obtain ⟨d,hd⟩:∃ d,d=bs.getD k ByteArray.empty:=⟨_,rfl⟩
    rw [<- hd] at cx;have HND:=DX (show Ib bs us (k)=d by rw [hd];unfold Ib;rw [if_pos PC]);obtain ⟨f1,t1,a1,b1,MW,hR1⟩:=HY.out pre ⟨k,JE⟩ wr HJK.out (by rw [TS.out];exact JE);have NG:=DX (show decide (bs.length<=k)=false by simp;omega);simp only [HND.out,NG.out] at MW
    have IT:∀ (e:Ending) (W3:World),(e=.returned (.bool true)/\J (pre++[⟨k,JE⟩]) W3/\aV R wr W3\/e=.returned (.bool false)/\Jx (pre++[⟨k,JE⟩]) W3)->(e=.returned (.bool true)/\aV R w W3/\J (pre++[⟨k,JE⟩]) W3)\/(e=.returned (.bool false)/\Jx (pre++[⟨k,JE⟩]) W3):=fun e W3 h=>by
     exact Mt
    have TQ:=DX IT;clear IT hcx hd;gi_wp2_with fail
    refine hR1.mono ?_
    rintro e W3 h3
    rcases TQ.out _ _ h3 with ⟨rfl,PR,TB⟩ | ⟨rfl,UP⟩
    . have TP:=DX PR
      have HJ3:=DX TB;clear h3 PR TB;gi_wp2;go_roundw
      case rel=>exact ⟨k+1,aE,by go_num,TP.out,pre++[⟨k,JE⟩],by rw [dJ,LY.out,List.range_succ],HJ3.out⟩
      case measure=>simp [intOf];omega
    . have TZ:=DX UP
      clear h3 UP;gi_wp2
      refine EI (results_none rfl _ _ _) rfl ?_
      exact ⟨⟨_,rfl⟩,.inr ⟨pre++[⟨k,JE⟩],⟨k,JE,by rw [dJ,LY.out,List.range_succ]⟩,TZ.out⟩⟩
  . obtain rfl:k=bs.length:=by omega
    have GU:decide (bs.length<bs.length)=false:=DY aE;obtain ⟨c0,c1,c2⟩:=HB.out wr HCB.out;have hsl2:au=au:=rfl;gi_wp2_with fail;go_wp2_with fail
    refine eS n ?_
    gi_loopw [22] (fun i wr=>∃ k:Nat,k<=us.length/\i=.int .i64 k/\aV R w wr/\∃ pre:List { k:Nat // k<bs.length+us.length },lU pre=List.range (bs.length+k)/\J pre wr) (fun i _=>us.length - (intOf i).toNat)
    case atStart=>exact ⟨0,aE,rfl,HCB.out,pre,by rw [LY.out];rfl,HJK.out⟩
    case round =>
     rename World=>wr
     obtain ⟨k,hk,rfl,MU,pre,JZ,XA⟩:=hrel;have HCB:=DX MU;have LY:=DX JZ;have HJK:=DX XA
     have GM:pre.length=bs.length+k:=by have:=congrArg List.length JZ;rw [fH] at this;simpa using this
     have TS:=DX GM;clear MU JZ XA GM
     by_cases PC:k<us.length
     . have GU:decide (k<us.length)=true:=DZ PC
       have JE:bs.length+k<bs.length+us.length:=by omega
       obtain ⟨bx,ox,rfl,hcx⟩:=Hus.out k PC;have cx:=hcx wr HCB.out
       obtain ⟨d,hd⟩:∃ d,d=us.getD k ByteArray.empty:=⟨_,rfl⟩
       rw [<- hd] at cx;have HND:=DX (show Ib bs us (bs.length+k)=d by rw [hd];unfold Ib;rw [if_neg aE,Nat.add_sub_cancel_left]);obtain ⟨f1,t1,a1,b1,MW,hR1⟩:=HY.out pre ⟨bs.length+k,JE⟩ wr HJK.out (by rw [TS.out];exact JE);have NG:=DX (show decide (bs.length<=bs.length+k)=true by simp;skip);simp only [HND.out,NG.out] at MW
       have IT:∀ (e:Ending) (W3:World),(e=.returned (.bool true)/\J (pre++[⟨bs.length+k,JE⟩]) W3/\aV R wr W3\/e=.returned (.bool false)/\Jx (pre++[⟨bs.length+k,JE⟩]) W3)->(e=.returned (.bool true)/\aV R w W3/\J (pre++[⟨bs.length+k,JE⟩]) W3)\/(e=.returned (.bool false)/\Jx (pre++[⟨bs.length+k,JE⟩]) W3):=fun e W3 h=>by
        exact Mt
       have TQ:=DX IT;clear IT hcx hd;gi_wp2_with fail
       refine hR1.mono ?_
       rintro e W3 h3
       rcases TQ.out _ _ h3 with ⟨rfl,PR,TB⟩ | ⟨rfl,UP⟩
       . have TP:=DX PR
         have HJ3:=DX TB;clear h3 PR TB;gi_wp2;go_roundw
         case rel=>exact ⟨k+1,aE,by go_num,TP.out,pre++[⟨bs.length+k,JE⟩],by rw [dJ,LY.out,<- Nat.add_assoc,List.range_succ],HJ3.out⟩
         case measure=>simp [intOf];omega
       . have TZ:=DX UP
         clear h3 UP;gi_wp2
         refine EI (results_none rfl _ _ _) rfl ?_
         exact ⟨⟨_,rfl⟩,.inr ⟨pre++[⟨bs.length+k,JE⟩],⟨bs.length+k,JE,by rw [dJ,LY.out,List.range_succ]⟩,TZ.out⟩⟩
     . obtain rfl:k=us.length:=by omega
       have GU:decide (us.length<us.length)=false:=DY aE;have HJE:=DX HJK.out;have HPE:=DX LY.out;gi_wp2;go_end0;exact ⟨⟨_,rfl⟩,.inl ⟨pre,HPE.out,HJE.out⟩⟩
def Rr (p:Nat) (C D:Array Value) (wo:World) (b:Bool) (W:World):Prop:=aA W p C 26/\aA W (p+1) D 85/\aA W (p+2) #[.bool b] 4/\aB wo W
theorem Rr.own {p:Nat} {C D:Array Value} {wo:World} {b:Bool} {n:Nat} (hb:wo.heap.size<=n) {β:Type}:OwnFrom n (fun (_:β) W=>Rr p C D wo b W):=fun _ _ _ _ hs hg hr =>
 ⟨cF hs.1 hg (fun k e=>(hr k e).2),cF hs.2.1 hg (fun k e=>(hr k e).2),cF hs.2.2.1 hg (fun k e=>(hr k e).2),hs.2.2.2.grown hg hs.2.2.2.size (fun k e=>EF hb (hr k e).1)⟩
def Ey (ts:List Th) (bs us:List ByteArray) (k:Nat):Bool:=iZ ts (Ib bs us k) (decide (bs.length<=k))
theorem Pn (ts:List Th) (bs us:List ByteArray):(List.range (bs.length+us.length)).all (Ey ts bs us)=(bs.all (fun d=>iZ ts d false)&&us.all (fun d=>iZ ts d true)):=by
 rw [List.range_add,List.all_append]
 congr 1
 . rw [Bool.eq_iff_iff,List.all_eq_true,List.all_eq_true]
   constructor
   . intro h d hd
     obtain ⟨i,hi,rfl⟩:=List.mem_iff_getElem.1 hd;have:=h i (List.mem_range.2 hi);unfold Ey Ib at this;rw [if_pos hi,DY aE] at this
     simpa [List.getD,hi] using this
   . intro h i hi
     have hi:=List.mem_range.1 hi;unfold Ey Ib;rw [if_pos hi,DY aE];exact h _ (by simp [List.getD,hi])
 . rw [Bool.eq_iff_iff,List.all_eq_true,List.all_eq_true]
   constructor
   . intro h d hd
     obtain ⟨i,hi,rfl⟩:=List.mem_iff_getElem.1 hd;have:=h (bs.length+i) (List.mem_map.2 ⟨i,List.mem_range.2 hi,rfl⟩);unfold Ey Ib at this;rw [if_neg aE,DZ aE,Nat.add_sub_cancel_left] at this
     simpa [List.getD,hi] using this
   . intro h j hj
     obtain ⟨i,hi,rfl⟩:=List.mem_map.1 hj;have hi:=List.mem_range.1 hi;unfold Ey Ib;rw [if_neg aE,DZ aE,Nat.add_sub_cancel_left];exact h _ (by simp [List.getD,hi])
theorem wD (aT aG aS ab au:Option Addr) (lT lG lS cT cG cS cb cu:Nat) (nx k0:Int) (ts:List Th) (bs us:List ByteArray) (w:World) (hT:bO w aT lT ts) (hr:gG (cY ts)=true) (hb:bD w ab bs.length bs) (hu:bD w au us.length us) (hl:bs.length<=1000000/\us.length<=1000000) :
 Calls Tryz.prog 89 #[.agg (LS aT lT cT aG lG cG aS lS cS nx),.agg (LM k0 ab bs.length cb au us.length cu)] w fun e w'=>e=.returned (.bool (bs.all (fun d=>iZ ts d false)&&us.all (fun d=>iZ ts d true)))/\aB w w':=by
 rw [<- Pn];have JV:=DX hT;have NX:=DX hr;have RL:=DX hb;have TX:=DX hu;have JU:=DX hl;clear hT hr hb hu;refine callsIn_wide.1 (callsIn_of_wp_marks (n:=8) Tryz.func89 rfl trivial ?_ rfl);simp only [Tryz.ntmps89,List.size_toArray,List.length_nil,List.length_cons,Nat.reduceAdd,Nat.reduceSub,Array.replicate_succ,Array.replicate_zero,List.push_toArray,List.append_toArray,List.nil_append,List.cons_append]
 refine wpIn_wide.2 ?_
 go_upto_region 1 with (fail)
 obtain ⟨p,hp⟩:∃ p,p=w.heap.size:=⟨_,rfl⟩
 have HA:=DX ((EY w (LS aT lT cT aG lG cG aS lS cS nx) 26).kept ((EX _).alloc ((KM k0 ab bs.length cb au us.length cu))));have HB:=DX (FB w (LM k0 ab bs.length cb au us.length cu) 85 ((KS aT lT cT aG lG cG aS lS cS nx)));have HK:=DX (((EX w).alloc ((KS aT lT cT aG lG cG aS lS cS nx))).alloc ((KM k0 ab bs.length cb au us.length cu)));have HZ:=DX (show ((w.alloc ((KS aT lT cT aG lG cG aS lS cS nx))).alloc ((KM k0 ab bs.length cb au us.length cu))).heap.size=p+2 by rw [hp];simp)
 generalize (w.alloc ((KS aT lT cT aG lG cG aS lS cS nx))).alloc ((KM k0 ab bs.length cb au us.length cu))=w1 at *
 rw [<- hp] at HA HB ⊢;have HP:=DX hp;clear hp;go_step3;go_wp2_with fail
 have kx:=(EX w1).alloc (.cells #[.bool true] 4)
 have HX:=DX (show aA (w1.alloc (.cells #[.bool true] 4)) (p+2) #[.bool true] 4 by rw [<- HZ.out];exact EY _ _ _);have TK:=DX (HA.out.kept kx);have GP:=DX (HB.out.kept kx);have FW:=DX (HK.out.trans kx);have HZ2:=DX (show (w1.alloc (.cells #[.bool true] 4)).heap.size=p+3 by have:=HZ.out;simp;omega);rw [HZ.out];clear kx HA HB HK HZ;generalize w1.alloc (.cells #[.bool true] 4)=w2 at *
 refine wp_label ?_
 obtain ⟨r0,r1,r2⟩:=dI GP.out;go_wp2_with fail
 refine (Gh k0 ab au bs.length cb us.length cu _).mono ?_
 rintro e w3 ⟨rfl,PM⟩
 have IK:aB w2 w3:=by rw [PM];exact (EX _).alloc _
 have HY:=DX (show aA w3 (p+3) (LM k0 ab bs.length cb au us.length cu) 85 by
  have h:=EY w2 (LM k0 ab bs.length cb au us.length cu) 85;rw [HZ2.out] at h
  rw [PM];exact h)
 rw [HZ2.out];have HS3:=DX (show p+4<=w3.heap.size by rw [PM];have:=HZ2.out;simp;omega);have TL:=DX (TK.out.kept IK);have IU:=DX (GP.out.kept IK);have TZ:=DX (HX.out.kept IK);have GC:=DX (FW.out.trans IK);clear IK PM r0 r1 r2 TK GP HX FW;go_wp2_with fail
 refine eS 8 ?_
 have hwp:w.heap.size<=p:=Nat.le_of_eq HP.out.symm;have WS:=DX (show ∀ W,aV (fun g=>g=p+2) w3 W->W.cell? ⟨p+3,0,none⟩=some (.int .i64 k0)/\W.cell? ⟨p+3,1,none⟩=some (.slice ab bs.length cb)/\W.cell? ⟨p+3,2,none⟩=some (.slice au us.length cu) from fun W hc=>dI (HY.out.but hc aE))
 have RX:=DX (show ∀ i,i<bs.length->∃ b o,ab=some ⟨b,o,none⟩/\∀ W,aV (fun g=>g=p+2) w3 W->W.cell? ⟨b,o+i,none⟩=some (.string (bs.getD i ByteArray.empty)) from fun i hi=>by
  obtain ⟨b,o,ha,hc⟩:=RL.out.cells;obtain ⟨FV,hci⟩:=hc i hi
  exact ⟨b,o,ha aE,fun W MU=>zJ (GC.out.cell FV hci) MU aE⟩)
 have HUU:=DX (show ∀ i,i<us.length->∃ b o,au=some ⟨b,o,none⟩/\∀ W,aV (fun g=>g=p+2) w3 W->W.cell? ⟨b,o+i,none⟩=some (.string (us.getD i ByteArray.empty)) from fun i hi=>by
  obtain ⟨b,o,ha,hc⟩:=TX.out.cells;obtain ⟨FV,hci⟩:=hc i hi
  exact ⟨b,o,ha aE,fun W MU=>zJ (GC.out.cell FV hci) MU aE⟩)
 refine eI rfl aE (gf:=150) (lb:=#[.pointer (some ⟨p+3,0,none⟩)]) rfl trivial (enters_of Tryz.func150 aW rfl)
  (zN 7 aE (fun g=>g=p+2) k0 ab au cb cu bs us (p+3) w3 WS.out RX.out HUU.out JU.out) (aV.refl _) aV.trans aV.putObj (Below.refl _ _) (fun _=>rfl)
  (fun pre W=>(lU pre).all (Ey ts bs us)=true/\Rr p (LS aT lT cT aG lG cG aS lS cS nx) (LM k0 ab bs.length cb au us.length cu) w true W)
  (fun c pre W=>(c=.exit 0/\(List.range (bs.length+us.length)).all (Ey ts bs us)=false)/\Rr p (LS aT lT cT aG lG cG aS lS cS nx) (LM k0 ab bs.length cb au us.length cu) w false W)
  (OwnFrom.and (Own.from (fun s A B row hs hg hr=>hs) _) (Rr.own (by have:=HS3.out;omega))) (fun c=>OwnFrom.and (Own.from (fun s A B row hs hg hr=>hs) _) (Rr.own (by have:=HS3.out;omega))) ?h0 ?round ?done ?stop
 case h0=>exact ⟨rfl,TL.out,IU.out,TZ.out,GC.out⟩
 case round =>
  rintro l ⟨ii,hi⟩ W K hK;have HK:=DX hK;clear hK;have HAL:=DX (fun pre=>show (lU (pre++[(⟨ii,hi⟩:{ k:Nat // k<bs.length+us.length })])).all (Ey ts bs us)=((lU pre).all (Ey ts bs us)&&Ey ts bs us ii) by rw [dJ,List.all_append];simp);have HWF:=DX (show Ey ts bs us ii=iZ ts (Ib bs us ii) (decide (bs.length<=ii)) from rfl);have SQ:=DX (fun h=>show (List.range (bs.length+us.length)).all (Ey ts bs us)=false from eQ (List.mem_range.2 hi) h);generalize Ib bs us ii=d at *;generalize decide (bs.length<=ii)=j at *;gi_wp2
  refine HK.out _ ?_
  clear HK;rintro l pre W ⟨GH,hA,hB,hX,hkw⟩ GM;have HC:=DX (show Rr p (LS aT lT cT aG lG cG aS lS cS nx) (LM k0 ab bs.length cb au us.length cu) w true W from ⟨hA,hB,hX,hkw⟩);have HA9:=DX GH;obtain ⟨r0,r1,r2,r3⟩:=aI hA;clear hA hB hX hkw GH;gi_wp2_with fail
  refine (CallsIn.inRound l (callsIn_wide.2 (Dk aT aG aS lT lG lS cT cG cS nx ts d j W (JV.out.kept HC.out.2.2.2) NX.out))).mono ?_
  rintro e W5 ⟨rfl,GZ⟩;have ZW:=DX (show Rr p (LS aT lT cT aG lG cG aS lS cS nx) (LM k0 ab bs.length cb au us.length cu) w true W5 from ⟨HC.out.1.kept GZ,HC.out.2.1.kept GZ,HC.out.2.2.1.kept GZ,HC.out.2.2.2.trans GZ⟩);have MH:=DX GZ;rw [<- HWF.out];clear GZ r0 r1 r2 r3
  cases PK:Ey ts bs us ii with
  | true =>
   gi_wp2;exact ⟨dR MH.out,aV.of_kept MH.out,by rw [HAL.out,HA9.out,PK];rfl,ZW.out⟩
  | false =>
   have x0:=fC ZW.out.2.2.1;have f0:=ZW.out.2.2.1.free 0;have HN:=DX (SQ.out PK);gi_wp2;exact ⟨(dR MH.out).trans (KeepsOthers.setCell _ ⟨p+2,0,none⟩ _),⟨rfl,HN.out⟩,cV ZW.out.1 aE,cV ZW.out.2.1 aE,gT ZW.out.2.2.1,ZW.out.2.2.2.setCell (p:=⟨p+2,0,none⟩) (by show w.heap.size<=p+2;omega) _⟩
 case done =>
  rintro D ys W hD TJ ⟨GH,hA,hB,hX,hkw⟩ hK;have IR:=DX (show (List.range (bs.length+us.length)).all (Ey ts bs us)=true by rw [<- TJ];exact GH);have x0:=fC hX;have MH:=DX hkw;have VP:=DX hK;clear GH hA hB hX hkw hK TJ;go_wp2;refine lR ⟨by simp,.inl ⟨_,_,rfl,run_takeDeferred VP.out,?_⟩⟩;have k2:aB w (W.putObj D (.deferred none)):=Below.grown MH.out (cK W D (.deferred none)) (by have:=MH.out.size;simp;omega) (fun k e=>by cases e;have:=HS3.out;omega);refine ⟨.bool true,?_,by rw [IR.out],k2⟩
  simp [results,Tryz.f89,go_sem]
 case stop =>
  rintro D c pre W hD _ ⟨⟨rfl,hno⟩,hA,hB,hX,hkw⟩ hK;have IR:=DX hno;have x0:=fC hX;have MH:=DX hkw;have VP:=DX hK;clear hno hA hB hX hkw hK;gi_wp2;go_wp2;refine lR ⟨by simp,.inl ⟨_,_,rfl,run_takeDeferred VP.out,?_⟩⟩;have k2:aB w (W.putObj D (.deferred none)):=Below.grown MH.out (cK W D (.deferred none)) (by have:=MH.out.size;simp;omega) (fun k e=>by cases e;have:=HS3.out;omega);refine ⟨.bool false,?_,by rw [IR.out],k2⟩
  simp [results,Tryz.f89,go_sem]
theorem kZ {P:Program} {ops:Array Oper} {rest:List Oper} {o:Oper} {a:Act} {w:World} {Q:Exit->Act->World->Prop} (hg:o.guard=none) (t:TypeId) (x:Operand) (ho:o.op=.box t x)
 (cells:Array Value) (hx:a.eval x=.agg cells)
 (h:wpList P ops Q rest (a.put o.dst (.pointer (some ⟨w.heap.size,0,none⟩))) (w.alloc (.cells cells t))):wpList P ops Q (o :: rest) a w:=by
 refine wpList_plain hg fun K hK=>?_
 unfold Oper.wp execOp;simp only [ho,hx,Sem.run_bind,Instr.box,newVar,newRow,run_newObj_alloc,Sem.run_pure,Result.andThen_ok];exact hK _ _ h
theorem vG {P:Program} (w:World) {t:TypeId} {d:TypeDesc} (hu:P.underlying t=some d):(isAgg t).run P w=.ok (match d with | .struct _ | .array _ _=>true | _=>false) w:=by
 unfold isAgg;rw [Sem.run_bind,run_underlying hu w];cases d <;> simp
theorem nW {P:Program} (w:World) {t:TypeId} {n:Nat} (hi:(P.info? t).map (·.size)=some n):(sizeOf t).run P w=.ok n w:=by
 cases hq:P.info? t with
 | none=>simp [hq] at hi
 | some i =>
  have hs:i.size=n:=by simpa [hq] using hi
  simp [sizeOf,typeInfo,hq,hs]
theorem uV {P:Program} (w:World) (t e:TypeId) (n sz:Nat) (cs:Array Value) (k:IntKind) (i:Nat) (d:TypeDesc) (h:P.underlying t=some (.array n e)) (hi:i<n)
 (hs:(P.info? e).map (·.size)=some sz) (hu:P.underlying e=some d) (hd:(match d with | .struct _ | .array _ _=>true | _=>false)=true) :
 (Instr.index t (.agg cs) (.int k i)).run P w=.ok (.agg (cs.extract (i*sz) (i*sz+sz))) w:=by
 have hn:(0:Int)<=(i:Int)/\(i:Int)<(n:Int):=by omega
 have e1:(part e cs (i*sz)).run P w=.ok (.agg (cs.extract (i*sz) (i*sz+sz))) w:=by
  unfold part
  simp [Sem.run_bind,vG w hu,hd,nW w hs]
 exact Qj
theorem tN {P:Program} (w:World) (t e:TypeId) (n:Nat) (cs:Array Value) (k:IntKind) (i:Nat) (d:TypeDesc) (v:Value) (h:P.underlying t=some (.array n e)) (hi:i<n)
 (hs:(P.info? e).map (·.size)=some 1) (hu:P.underlying e=some d) (hd:(match d with | .struct _ | .array _ _=>true | _=>false)=false) (hv:cs[i]?=some v) :
 (Instr.index t (.agg cs) (.int k i)).run P w=.ok v w:=by
 have hn:(0:Int)<=(i:Int)/\(i:Int)<(n:Int):=by omega
 have e1:(part e cs i).run P w=.ok v w:=by
  unfold part
  simp [Sem.run_bind,vG w hu,hd,hv]
 exact Qj
theorem CH:(Tryz.prog.info? 101).map (·.size)=some 1:=by kernel_rfl
theorem Di {v:List Nat} (h:Bl.W 8 v) (i:Nat) (hi:i<8) (w:World):(Instr.index 102 (.agg (cw v)) (.int .i64 i)).run Tryz.prog w=.ok (.int .u32 (v.getD i 0:Nat)) w :=
 tN w _ _ 8 _ _ i _ _ ES hi CH Tryz.underlying101 rfl (cR v i (by rw [h.len];exact hi))
def fD (w:World):Prop:=∀ i,i<8->w.cell? ⟨0,i,none⟩=some (.int .u32 (Bl.begins.getD i 0:Nat))
def fW (w:World):Prop:=∀ i,i<160->w.cell? ⟨1,i,none⟩=some (.int .u8 (Bl.orders.flatten.getD i 0:Nat))
theorem fD.kept {w w':World} (h:fD w) (k:aB w w'):fD w':=fun i hi=>k.cell (jC (h i hi)) (h i hi)
theorem fW.kept {w w':World} (h:fW w) (k:aB w w'):fW w':=fun i hi=>k.cell (jC (h i hi)) (h i hi)
theorem fD.part {w:World} (h:fD w):∀ j v,(cw Bl.begins).toList[j]?=some v->w.cell? ((⟨0,0,none⟩:Addr).add j)=some v:=by
 intro j v hj
 have hj8:j<8:=by
  have h2:=(List.getElem?_eq_some_iff.1 hj).1
  rw [Array.length_toList,yA,Bl.begins_ok.len] at h2;exact h2
 rw [jQ,Nat.zero_add,h j hj8];rw [Array.getElem?_toList,cR Bl.begins j (by rw [Bl.begins_ok.len];exact hj8)] at hj;exact hj
def xQ:Array Value:=(Bl.orders.flatten.map fun (n:Nat)=>Value.int .u8 (n:Int)).toArray
def mE (r:Nat):Array Value:=((Bl.orders.getD r []).map fun (n:Nat)=>Value.int .u8 (n:Int)).toArray
theorem wE:Bl.orders.flatten.length=160:=by decide
theorem qF:xQ.size=160:=by simp only [xQ,List.size_toArray,List.length_map];exact wE
theorem fW.part {w:World} (h:fW w):∀ j v,xQ.toList[j]?=some v->w.cell? ((⟨1,0,none⟩:Addr).add j)=some v:=by
 intro j v hj
 have hj8:j<160:=by
  have h2:=(List.getElem?_eq_some_iff.1 hj).1
  rw [Array.length_toList,qF] at h2;exact h2
 rw [jQ,Nat.zero_add,h j hj8]
 have hl:j<Bl.orders.flatten.length:=by rw [wE];exact hj8
 simp only [xQ,List.getElem?_map,List.getElem?_eq_getElem hl,Option.map_some] at hj;rw [List.getD_eq_getElem?_getD,List.getElem?_eq_getElem hl];exact hj
theorem Lf (r:Nat) (h:r<10):xQ.extract (r*16) (r*16+16)=mE r:=by
 have h1:∀ r,r<10->(Bl.orders.flatten.drop (r*16)).take 16=Bl.orders.getD r []:=by decide
 apply Array.ext'
 simp only [xQ,mE,List.extract_toArray,List.extract_eq_take_drop];rw [<- List.map_drop,<- List.map_take,show r*16+16 - r*16=16 by omega,h1 r h]
theorem tB (r:Nat) (h:r<10):(mE r).size=16:=by
 have h2:∀ r,r<10->(Bl.orders.getD r []).length=16:=by decide
 simp only [mE,List.size_toArray,List.length_map];exact h2 r h
theorem pM (r j:Nat) (h:r<10) (hj:j<16):(mE r)[j]?=some (.int .u8 ((Bl.orders.getD r []).getD j 0:Nat)):=by
 have h2:∀ r,r<10->(Bl.orders.getD r []).length=16:=by decide
 have h3:=h2 r h
 have h4:j<(Bl.orders.getD r []).length:=by omega
 rw [List.getD_eq_getElem?_getD (l:=Bl.orders.getD r []),List.getElem?_eq_getElem h4];simp only [mE,List.getElem?_toArray,List.getElem?_map,List.getElem?_eq_getElem h4,Option.map_some,Option.getD_some]
theorem Fw (r:Nat):(mE r).all (·.oneCell')=true:=by
 rw [Array.all_eq_true];intro i h
 simp [mE,Value.oneCell']
def Fp (h:List Nat):Nat->List Nat
 | 0=>h
 | k+1=>(Fp h k).set k ((Fp h k).getD k 0 ^^^ Bl.begins.getD k 0)
theorem yF {h:List Nat} (hh:Bl.W 8 h):∀ k,Bl.W 8 (Fp h k)
 | 0=>hh
 | k+1=>(yF hh k).set _ (Bl.xor_lt ((yF hh k).at _) (Bl.begins_ok.at _))
def eU (h:List Nat):List Nat:=(Fp h 8).set 0 ((Fp h 8).getD 0 0 ^^^ 16842784)
theorem sL {h:List Nat} (hh:Bl.W 8 h):Bl.W 8 (eU h):=(yF hh 8).set _ (Bl.xor_lt ((yF hh 8).at _) aF)
theorem qZ {h:List Nat} (hh:Bl.W 8 h):eU (eU h)=h:=by
 obtain ⟨h1,_⟩:=hh
 match h,h1 with
 | [a,b,c,d,e,f,g,i],_ =>
  simp only [eU,Fp,List.set_cons_zero,List.set_cons_succ,List.getD_cons_zero,List.getD_cons_succ,Bl.begins];simp only [Nat.xor_assoc,List.cons.injEq,and_true]
  have e1:∀ x y:Nat,x ^^^ (y ^^^ y)=x:=fun x y=>by rw [Nat.xor_self,Nat.xor_zero]
  refine ⟨?_,e1 _ _,e1 _ _,e1 _ _,e1 _ _,e1 _ _,e1 _ _,e1 _ _⟩;rw [show (1779033703:Nat) ^^^ (16842784 ^^^ (1779033703 ^^^ 16842784))=0 by decide,Nat.xor_zero]
theorem qH (h:List Nat) (hh:Bl.W 8 h) (w:World) (hB:fD w) :
 Calls Tryz.prog 144 #[.agg (cw h)] w fun e w'=>e=.returned (.agg (cw (eU h)))/\aB w w':=by
 go_enter Tryz.func144,Tryz.ntmps144
 go_wp2_with (first
  | (with_reducible refine kZ rfl 102 (.tmp 0) rfl (cw h) rfl ?_)
  | (with_reducible refine aZ rfl 102 rfl z8 BK ?_)
  | (refine dE rfl 102 (.global 0) rfl ⟨0,0,none⟩ rfl (cw Bl.begins) _ (hB.kept (((EX w).alloc _).alloc _)).part ES rfl AZ ?_))
 obtain ⟨w1,KK⟩:∃ w1,w1=(w.alloc (.cells (cw h) 102)).alloc (.cells z8 102):=⟨_,rfl⟩
 rw [<- KK]
 have MF:aB w w1:=by rw [KK];exact ((EX w).alloc _).alloc _
 have PA:aA w1 w.heap.size (cw h) 102:=by rw [KK];exact (EY w _ _).kept ((EX _).alloc _)
 have ZP:aA w1 (w.heap.size+1) z8 102:=by rw [KK];have q:=EY (w.alloc (.cells (cw h) 102)) z8 102;rw [World.size_alloc] at q;exact q
 obtain ⟨pb,PK⟩:∃ pb,pb=w.heap.size:=⟨_,rfl⟩
 rw [<- PK] at PA ZP ⊢;have ZB:=DX PK;have NI:=DX (V8.here PA hh);have HR1:=DX ZP;have IL:=DX MF;clear KK MF PA ZP PK;go_wp2_with fail;go_loopw [6] (fun i wx=>∃ k:Nat,k<=8/\i=.int .i64 k/\V8 w1 pb (Fp h k) wx) (fun i _=>8 - (intOf i).toNat)
 case atStart=>exact ⟨0,aE,rfl,NI.out⟩
 case round =>
  obtain ⟨k,hk,rfl,hv⟩:=hrel;have IS:=DX hv;clear hv
  by_cases FV:k<8
  . as_aux_lemma =>
     have hix:=Di Bl.begins_ok k FV;have c1:=IS.out.cell k FV;have f1:=IS.out.free k;have e1:=wM _ _ (IS.out.ok.at k) (Bl.begins_ok.at k);have IN:=DX (show V8 w1 pb (Fp h (k+1)) _ from IS.out.put0 k (Bl.xor_lt (IS.out.ok.at k) (Bl.begins_ok.at k)))
     generalize (Fp h k).getD k 0 ^^^ Bl.begins.getD k 0=z at *
     generalize (Fp h k).getD k 0=x at *
     exact Tn
  . obtain rfl:k=8:=by omega
    have c1:=IS.out.cell 0 aE;have f1:=IS.out.free 0
    have e1:bits .xor .u32 ((Fp h 8).getD 0 0:Nat) 16842784=(((Fp h 8).getD 0 0 ^^^ 16842784:Nat):Int):=wM _ 16842784 (IS.out.ok.at 0) aF
    have GL:V8 w1 pb (eU h) _:=IS.out.put0 0 (Bl.xor_lt (IS.out.ok.at 0) (by decide:16842784<4294967296));have IN:=DX GL;have NW:=aU HR1.out GL.grown aE;have HR:=DX NW;have SA:=DX (GL.kept IL.out (by have:=ZB.out;omega));clear GL NW
    generalize (Fp h 8).getD 0 0 ^^^ 16842784=z at *
    generalize (Fp h 8).getD 0 0=x at *
    go_wp2_with (first
     | (refine wpList_load_row rfl 102 (.tmp 1) rfl pb rfl 102 (cw (eU h)) (0,0) _ IN.out.row ES rfl (by rw [eL IN.out.ok];exact AZ) ?_)
     | (refine aD rfl 102 (.tmp 2) (.tmp 21) rfl (pb+1) (cw (eU h)) z8 102 rfl rfl HR.out (by rw [eL IN.out.ok];exact AZ) (by rw [eL IN.out.ok];exact xK) (iT _) ?_))
    refine EI (v:=.agg (cw (eU h))) ?_ rfl ⟨rfl,SA.out.setRow (by have:=ZB.out;omega) _⟩
    exact EH rfl _ _ (pb+1) 102 (cw (eU h)) (0,0) _ rfl (HR.out.setRow _) ES rfl (by rw [eL IN.out.ok];exact AZ)
end Go.Proofs.YtkfmladhicapeaaGreatDoor
