import Derived.Test.YtkfmladhicapeaaGreatDoorY45
set_option maxRecDepth 100000
set_option maxHeartbeats 4000000
namespace Go.Proofs.YtkfmladhicapeaaGreatDoor
open Go.RowKit Go.Shelf
attribute [local go_sem] Oper.semAt_some
theorem Kb:dP ⟨[],[],[],0⟩=true:=cU.2 ⟨⟨by simp,(fun x h=>by cases h),List.Pairwise.nil,(fun x h=>by cases h),(fun x h=>by cases h)⟩,⟨by simp,(fun x h=>by cases h),List.Pairwise.nil⟩,⟨by simp,aF,aF,(fun x h=>by cases h),List.Pairwise.nil⟩⟩
theorem At (w:World) (hE:uR w):Calls Tryz.prog 31 #[] w fun e w'=>e=.returned (.bool true)/\aB w w':=by
 have VQ:=DX (zW none none none 0 0 0 [] [] [] 0 ⟨1,0,0,0,⟨#[]⟩,⟨#[]⟩,⟨#[]⟩⟩ w (nV _ _) (lK _ _) (jH _ _) (fun x h=>by cases h) hE (by show (0:Nat)<=_;omega) (by show (0:Nat)<=_;omega) Kb ⟨aF,aF⟩ (⟨[],[],[⟨0,ByteArray.empty⟩],1⟩,dY 0) (by simp [dK,eF]));go_enter Tryz.func31,Tryz.ntmps31;go_wp2_with fail
 refine VQ.out.mono ?_
 rintro e w2 ⟨⟨x1,y1,x2,y2,x3,y3,he,_⟩,FX⟩
 have he2:e=.returned (.tuple #[.agg (LS x1 0 y1 x2 0 y2 x3 1 y3 1),.agg LR,.int .i64 0]):=he
 subst he2;clear he VQ
 go_upto_region 2 with (fail)
 have k1:=(EX w2).alloc ((KS x1 0 y1 x2 0 y2 x3 1 y3 1))
 have k2:=(EX (w2.alloc ((KS x1 0 y1 x2 0 y2 x3 1 y3 1)))).alloc (KR)
 have h1:=(EY w2 (LS x1 0 y1 x2 0 y2 x3 1 y3 1) 26).kept k2
 have h2:=FB w2 LR 47 ((KS x1 0 y1 x2 0 y2 x3 1 y3 1));have HK:=DX ((FX.trans k1).trans k2);clear k1 k2 FX
 generalize (w2.alloc ((KS x1 0 y1 x2 0 y2 x3 1 y3 1))).alloc (KR)=w3 at *
 obtain ⟨r0,r1,r2,r3⟩:=aI h1;obtain ⟨d0,d1,d2⟩:=dI h2;go_wp2_with fail
 refine (fP _ _).mono ?_
 rintro e w' ⟨rfl,rfl⟩;go_wp2_with fail;go_ret;exact ⟨rfl,HK.out⟩
end Go.Proofs.YtkfmladhicapeaaGreatDoor
namespace Go.Proofs.YtkfmladhicapeaaGreatDoor
open Go.ChangeShapes Go.WideShapes Go.ChangeAt Go.RowKit Go.Joins Go.Deep
section
variable {H:Type} {enc:TypeId × Value->H} {P:Program} {w:World} {base:Nat} {spare:Nat->Bool} {PT:Bool}
theorem xE {t:TypeId} {f0 f1 f2 f3:Field} {fuel:Nat} {cs:List Value} {x:DataW H × List MemPlace} (ht:P.underlying t=some (.struct #[f0,f1,f2,f3])) (h:DataW.trod enc P w base spare PT fuel t cs=some x) :
 ∃ y0 y1 y2 y3 n,x=(.agg [y0.1,y1.1,y2.1,y3.1],y0.2++(y1.2++(y2.2++y3.2)))/\cs.length=P.cellsOf t/\DataW.trod enc P w base spare PT n f0.type ((cs.drop f0.offset).take (P.cellsOf f0.type))=some y0 /\
  DataW.trod enc P w base spare PT n f1.type ((cs.drop f1.offset).take (P.cellsOf f1.type))=some y1/\DataW.trod enc P w base spare PT n f2.type ((cs.drop f2.offset).take (P.cellsOf f2.type))=some y2 /\
  DataW.trod enc P w base spare PT n f3.type ((cs.drop f3.offset).take (P.cellsOf f3.type))=some y3:=by
 obtain ⟨xs,n,_,rfl,hl,GM,hf⟩:=DataW.trod_struct ht h
 match xs,GM with
 | [y0,y1,y2,y3],_=>exact ⟨y0,y1,y2,y3,n,by simp,hl,by simpa using hf 0 f0 rfl,by simpa using hf 1 f1 rfl,by simpa using hf 2 f2 rfl,by simpa using hf 3 f3 rfl⟩
end
theorem Um {α:Type} {cs:Array α} (h:cs.size=5):∃ c0 c1 c2 c3 c4,cs=#[c0,c1,c2,c3,c4]:=by
 obtain ⟨l⟩:=cs
 match l,h with
 | [c0,c1,c2,c3,c4],_=>exact ⟨c0,c1,c2,c3,c4,rfl⟩
theorem CP:Tryz.prog.cellsOf 29=5:=by kernel_rfl
theorem CT:Tryz.prog.cellsOf 26=4:=by kernel_rfl
theorem DI:Tryz.prog.cellsOf 22=1:=by kernel_rfl
theorem DM:Tryz.prog.cellsOf 23=1:=by kernel_rfl
theorem DG:Tryz.prog.cellsOf 24=1:=by kernel_rfl
theorem CZ:Tryz.prog.cellsOf 27=1:=by kernel_rfl
theorem DP:Tryz.prog.cellsOf 3=1:=by kernel_rfl
theorem Uu {H:Type} {enc:TypeId × Value->H} {W:World} {base:Nat} {v:Value} {d:DataW H} {p:List MemPlace} (hv:Value.okWide Tryz.prog W .any base 29 v)
 (h:DataW.Trod enc Tryz.prog W 0 (fun _=>true) true 29 v d p) (hz:∀ n∈d.weights Tryz.prog 29,n<=reachBytes) :
 ∃ aT aG aS aO cT cG cS cO ts gs ss nx os,v=.agg (L5 aT ts.length cT aG gs.length cG aS ss.length cS nx aO os.length cO)/\bO W aT ts.length ts/\cJ W aG gs.length gs/\cP W aS ss.length ss/\iG W aO os.length os:=by
 obtain ⟨cs,rfl,IG⟩:=okWide_struct Tryz.underlying29 hv;obtain ⟨c0,c1,c2,c3,c4,rfl⟩:=Um (IG.trans CP);obtain ⟨fuel,hf⟩:=h;obtain ⟨y0,y1,n,hx,_,t0,t1⟩:=trod_struct2 Tryz.underlying29 hf;simp only [Prod.mk.injEq] at hx;obtain ⟨rfl,rfl⟩:=hx
 have t0':DataW.trod enc Tryz.prog W 0 (fun _=>true) true n 26 [c0,c1,c2,c3]=some y0:=by simpa [Value.cells,CT] using t0
 have t1':DataW.trod enc Tryz.prog W 0 (fun _=>true) true n 27 [c4]=some y1:=by simpa [Value.cells,CZ] using t1
 clear t0 t1
 have GV:∀ n∈y0.1.weights Tryz.prog 26,n<=reachBytes:=fun n hn=>hz n (by
  simp only [DataW.weights,Tryz.underlying29]
  exact DataW.weights_mem_each (j:=0) (t:=26) (d:=y0.1) uN uN n hn)
 have GJ:∀ n∈y1.1.weights Tryz.prog 27,n<=reachBytes:=fun n hn=>hz n (by
  simp only [DataW.weights,Tryz.underlying29]
  exact DataW.weights_mem_each (j:=1) (t:=27) (d:=y1.1) uN uN n hn)
 obtain ⟨z0,z1,z2,z3,m,rfl,_,s0,s1,s2,s3⟩:=xE EW t0'
 have s0':DataW.trod enc Tryz.prog W 0 (fun _=>true) true m 22 [c0]=some z0:=by simpa [DI] using s0
 have s1':DataW.trod enc Tryz.prog W 0 (fun _=>true) true m 23 [c1]=some z1:=by simpa [DM] using s1
 have s2':DataW.trod enc Tryz.prog W 0 (fun _=>true) true m 24 [c2]=some z2:=by simpa [DG] using s2
 have s3':DataW.trod enc Tryz.prog W 0 (fun _=>true) true m 3 [c3]=some z3:=by simpa [DP] using s3
 clear s0 s1 s2 s3 t0'
 obtain ⟨aT,lT,cT,ts,rfl,hT⟩:=Vf s0' (fun n hn=>GV n (by
  simp only [DataW.weights,EW]
  exact DataW.weights_mem_each (j:=0) (t:=22) (d:=z0.1) uN uN n hn))
 obtain ⟨aG,lG,cG,gs,rfl,hG⟩:=Wt s1' (fun n hn=>GV n (by
  simp only [DataW.weights,EW]
  exact DataW.weights_mem_each (j:=1) (t:=23) (d:=z1.1) uN uN n hn))
 obtain ⟨aS,lS,cS,ss,rfl,hS⟩:=Xl s2' (fun n hn=>GV n (by
  simp only [DataW.weights,EW]
  exact DataW.weights_mem_each (j:=2) (t:=24) (d:=z2.1) uN uN n hn))
 obtain ⟨aO,lO,cO,os,rfl,hO⟩:=Yq t1' GJ;obtain ⟨nx,rfl,_⟩:=Fv EK s3';obtain rfl:=hT.len_eq;obtain rfl:=hG.len_eq;obtain rfl:=hS.len_eq;obtain rfl:=hO.len_eq;exact ⟨aT,aG,aS,aO,cT,cG,cS,cO,ts,gs,ss,nx,os,rfl,hT,hG,hS,hO⟩
theorem uZ {H:Type} {enc:TypeId × Value->H} {P:Program} {w:World} {base:Nat} {sp:Nat->Bool} {PT:Bool} {fuel:Nat} {t e u:TypeId} {n m:Nat} {k:IntKind} {cs:List Value} {zss:List (List Int)} {p:List MemPlace}
 (ht:P.underlying t=some (.array n e)) (he:P.underlying e=some (.array m u)) (hu:P.underlying u=some (.int k)) (hcu:P.cellsOf u=1) (hce:P.cellsOf e=m)
 (h:DataW.trod enc P w base sp PT fuel t cs=some (.agg (zss.map (Lib.tabData k)),p)):∀ i,i<n->(cs.drop (i*m)).take m=(zss.getD i []).map fun z=>Value.int k z:=by
 cases fuel with
 | zero=>simp [DataW.trod] at h
 | succ fuel =>
  simp only [DataW.trod,ht,hce] at h
  split at h
  . obtain ⟨xs,hm,hx⟩:=Option.map_eq_some_iff.1 h
    have hxs:xs.map (·.1)=zss.map (Lib.tabData (H:=H) k):=by
     have:=congrArg Prod.fst hx
     simpa using this
    intro i hi;obtain ⟨b,hb,hf⟩:=Lib.mapM_at hm i i (by simp [hi])
    have h2:(xs.map (·.1))[i]?=some b.1:=by simp [hb]
    rw [hxs,List.getElem?_map] at h2;obtain ⟨zs,hz,hzb⟩:=Option.map_eq_some_iff.1 h2
    have hf2:DataW.trod enc P w base sp PT fuel e ((cs.drop (i*m)).take m)=some (Lib.tabData k zs,b.2):=by
     rw [hzb];exact hf
    rw [List.getD_eq_getElem?_getD,hz];exact Lib.cells_of_tab he hu hcu hce hf2
  . cases h
theorem CV:Tryz.prog.globalNamed "silo/digest.begins" = some 0:=by kernel_rfl
theorem CW:Tryz.prog.globalNamed "silo/digest.order" = some 1:=by kernel_rfl
theorem DR:(Tryz.prog.globals[0]?).map (·.type)=some 102:=by kernel_rfl
theorem DS:(Tryz.prog.globals[1]?).map (·.type)=some 191:=by kernel_rfl
theorem DT:Tryz.prog.cellsOf 101=1:=by kernel_rfl
theorem DW:Tryz.prog.cellsOf 5=1:=by kernel_rfl
theorem DU:Tryz.prog.cellsOf 102=8:=by kernel_rfl
theorem DV:Tryz.prog.cellsOf 190=16:=by kernel_rfl
theorem aQ:([("unicode/utf8.acceptRanges", Rows.laid_unicode_utf8_acceptRanges),("silo/digest.begins", Rows.laid_silo_digest_begins),("silo/digest.order", Rows.laid_silo_digest_order),("unicode/utf8.first", Rows.laid_unicode_utf8_first)]:List (String × DataW Unit))=[("unicode/utf8.acceptRanges", Rows.laid_unicode_utf8_acceptRanges),("silo/digest.begins", Lib.tabData .u32 (Bl.begins.map fun n:Nat=>(n:Int))),("silo/digest.order", .agg ((Bl.orders.map fun l=>l.map fun n:Nat=>(n:Int)).map (Lib.tabData .u8))),("unicode/utf8.first", Rows.laid_unicode_utf8_first)]:=by kernel_rfl
theorem Lx {W:World} (h:laidMetH Tryz.prog [("unicode/utf8.acceptRanges", Rows.laid_unicode_utf8_acceptRanges),("silo/digest.begins", Rows.laid_silo_digest_begins),("silo/digest.order", Rows.laid_silo_digest_order),("unicode/utf8.first", Rows.laid_unicode_utf8_first)] W):fD W/\fW W:=by
 rw [aQ] at h;have h':laidMet Tryz.prog [("unicode/utf8.acceptRanges", Rows.laid_unicode_utf8_acceptRanges),("silo/digest.begins", Lib.tabData .u32 (Bl.begins.map fun n:Nat=>(n:Int))),("silo/digest.order", .agg ((Bl.orders.map fun l=>l.map fun n:Nat=>(n:Int)).map (Lib.tabData .u8))),("unicode/utf8.first", Rows.laid_unicode_utf8_first)] W:=h;obtain ⟨ps,⟨_,_,_,_,_,_,_,_,_,_,hb,_⟩,_⟩:=h';obtain ⟨g',t',cs,fuel,p,q,hg',ht',hvar,hd,hrest,_⟩:=hb;obtain rfl:=EB (CV.symm.trans hg');obtain rfl:=EB (DR.symm.trans ht');refine ⟨fun i hi=>?_,?_⟩
 . have JW:=Lib.cells_of_tab ES Tryz.underlying101 DT DU hd
   rw [World.var?_cell CV hvar i,<- Array.getElem?_toList,JW,List.getElem?_map,List.getElem?_map]
   have hi':i<Bl.begins.length:=by simpa [Bl.begins] using hi
   simp [List.getD,hi']
 . clear hvar hd
   obtain ⟨g',t',cs,fuel,p,q,hg',ht',hvar,hd,_,_⟩:=hrest;obtain rfl:=EB (CW.symm.trans hg');obtain rfl:=EB (DS.symm.trans ht');have NW:=uZ Tryz.underlying191 Tryz.underlying190 EM DW DV hd;intro i hi;have hc:=World.var?_cell CW hvar i;rw [hc];have h1:=congrArg (·[i % 16]?) (NW (i / 16) aE);simp only [List.getElem?_take,List.getElem?_drop,show i / 16*16+i % 16=i by omega,show i % 16<16 by omega,if_true] at h1;rw [<- Array.getElem?_toList,h1]
   have h2:∀ r,r<10->∀ j,j<16->((Bl.orders.map fun l=>l.map fun n:Nat=>(n:Int)).getD r [])[j]?=some ((Bl.orders.flatten.getD (r*16+j) 0:Nat):Int):=by decide +kernel
   rw [List.getElem?_map,h2 (i / 16) aE (i % 16) aE,show i / 16*16+i % 16=i by omega];rfl
theorem maxL {W:World} (h:W.ShapedOpen Tryz.prog):Dj W:=by
 obtain ⟨m,hm⟩:=CO.s1_3 W h;exact ⟨World.block_lt_of_cell? _ _ hm,m,hm⟩
theorem Uw {W:World} (h:laidMetH Tryz.prog [("unicode/utf8.acceptRanges", Rows.laid_unicode_utf8_acceptRanges),("silo/digest.begins", Rows.laid_silo_digest_begins),("silo/digest.order", Rows.laid_silo_digest_order),("unicode/utf8.first", Rows.laid_unicode_utf8_first)] W) (hs:W.ShapedOpen Tryz.prog):uR W:=⟨(Lx h).1,(Lx h).2,maxL hs⟩
end Go.Proofs.YtkfmladhicapeaaGreatDoor
