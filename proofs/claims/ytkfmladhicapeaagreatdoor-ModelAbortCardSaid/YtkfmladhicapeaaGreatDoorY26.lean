import Derived.Test.YtkfmladhicapeaaGreatDoorY25
set_option maxRecDepth 100000
set_option maxHeartbeats 2000000
namespace Go.Proofs.YtkfmladhicapeaaGreatDoor
open Go.RowKit Go.Shelf
attribute [local go_sem] Oper.semAt_some
theorem pN {F:Fence} {n:Nat} {P:Program} (w:World) {ops:Array Oper} {rest:List Oper} {o:Oper} {a:Act} {Q:Exit->Act->World->Prop} (hgd:o.guard=none) (d s:Operand) (t t':TypeId)
 (ho:o.op=.call { callee:=.builtin .copy,args:=#[d,s],argTypes:=#[t,t'] }) (v u:Value) (hd:a.eval d=v) (hs:a.eval s=u) {v':Value} {w':World}
 (hr:(Builtin.copy_ #[t,t'] o.type #[v,u]).run P w=.ok v' w') (h:wpListIn F n P ops Q rest (a.put o.dst v') w'):wpListIn F n P ops Q (o :: rest) a w:=by
 refine wpListIn_plain hgd fun K hK'=>?_
 unfold Oper.wpIn;refine ⟨?_,?_⟩
 . simp [Oper.about,ho,resolve,Target.leads,Sem.run_pure]
 . rw [Oper.semAt_plain F _ _ (by rw [ho];intro c XC;cases XC)]
   simp [execOp,ho,resolve,invoke,builtin,hd,hs,hr,Result.andThen]
   exact hK' _ _ h
def Mi (h:List Nat):Nat->List Nat
 | 0=>h++List.replicate 8 0
 | k+1=>(Mi h k).set (8+k) (Bl.begins.getD k 0)
theorem Md {h:List Nat} (hh:Bl.W 8 h):Mi h 8=h++Bl.begins:=by
 exact Sr
theorem Hg (a b:List Nat):(cw (a++b)).toList=(cw a).toList++(cw b).toList:=by simp [cw]
theorem Uo (h:List Nat) (hh:Bl.W 8 h):((mI.toList.take 0++(cw h).toList)++mI.toList.drop (0+(cw h).toList.length)).toArray=cw (h++List.replicate 8 0):=by
 rw [Array.length_toList,eL hh]
 apply Array.ext'
 rw [Hg];rfl
theorem CI:(Tryz.prog.info? 191).map (·.size)=some 160:=by kernel_rfl
theorem BZ:(Tryz.prog.info? 190).map (·.size)=some 16:=by kernel_rfl
def zK:Array Value:=Array.replicate 16 (.int .u8 0)
theorem DD:(Tryz.prog.info? 190).map (·.zero)=some (some (.agg zK)):=by kernel_rfl
theorem Bm (k:Nat) (hk:k<10) (w:World):(Instr.index 191 (.agg xQ) (.int .i64 k)).run Tryz.prog w=.ok (.agg (mE k)) w:=by
 rw [<- Lf k hk];exact uV w _ _ 10 16 _ _ k _ Tryz.underlying191 hk BZ Tryz.underlying190 rfl
theorem Aq (h:List Nat) (s:ByteArray) (n:Nat) (last:Bool) (hh:Bl.W 8 h) (hs:s.size<=64) (hn:n<9223372036854775808) (w:World) (hB:fD w) (hO:fW w) :
 Calls Tryz.prog 147 #[.agg (cw h),.string s,.int .i64 n,.bool last] w fun e w'=>e=.returned (.agg (cw (Bl.block h s.data.toList n last)))/\aB w w':=by
 have ZU:=DX hB;have XR:=DX hO;have HH:=DX hh;clear hB hO hh;go_enter Tryz.func147,Tryz.ntmps147
 go_wp2_with (first
  | (with_reducible refine kZ rfl 102 (.tmp 0) rfl (cw h) rfl ?_)
  | (with_reducible refine aZ rfl 102 rfl z8 BK ?_))
 refine (Gu s hs _).mono ?_
 rintro e w2 ⟨rfl,FX⟩
 obtain ⟨ps,YO⟩:∃ ps,ps=w.heap.size:=⟨_,rfl⟩
 have RI:aA w2 ps (cw h) 102:=by rw [YO];exact ((EY w _ _).kept ((EX _).alloc _)).kept FX
 have he2:aA w2 (ps+1) z8 102:=by
  have q:=EY (w.alloc (.cells (cw h) 102)) z8 102;rw [World.size_alloc] at q;rw [YO];exact q.kept FX
 have hkk2:aB w w2:=(((EX w).alloc _).alloc _).trans FX
 rw [<- YO]
 obtain ⟨m,hm⟩:∃ m,m=Bl.words s.data.toList s.size:=⟨_,rfl⟩
 have HM:=DX hm
 have hmo:Bl.W 16 m:=by rw [hm];exact Bl.words_ok _ _
 have NQ:=DX hmo;rw [<- hm];have XT:=DX YO;have HS2:=DX RI;have ZY:=DX he2;have FW:=DX hkk2;clear FX hkk2 RI he2 hmo hm YO;have hsm:ps+1<w2.heap.size:=ZY.out.lt
 go_upto_region 2 with (first
  | (with_reducible refine aZ rfl 145 rfl mI BL ?_)
  | (refine aD rfl 145 (.tmp 9) (.tmp 19) rfl w2.heap.size (cw m) mI 145 rfl rfl (EY _ _ _) (by rw [qJ NQ.out];exact BH) (by rw [qJ NQ.out];exact sI) (iT _) ?_))
 obtain ⟨w3,PM⟩:∃ w3,w3=(w2.alloc (.cells mI 145)).setRow w2.heap.size (cw m):=⟨_,rfl⟩
 rw [<- PM]
 have IK:aB w2 w3:=by rw [PM];exact ((EX w2).alloc _).setRow (EA _) _
 have TD:aA w3 w2.heap.size (cw m) 145:=by rw [PM];exact (EY w2 _ _).setRow _
 obtain ⟨pm,TG⟩:∃ pm,pm=w2.heap.size:=⟨_,rfl⟩
 rw [<- TG] at TD hsm ⊢;have ZV:=DX TD;have HS3:=DX (HS2.out.kept IK);have HE3:=DX (ZY.out.kept IK);have GC:=DX (FW.out.trans IK);clear PM IK TD TG HS2 ZY FW;have hmv:pm<w3.heap.size:=ZV.out.lt
 go_upto_region 3 with (first
  | (with_reducible refine aZ rfl 145 rfl mI BL ?_)
  | (with_reducible refine gP rfl 145 rfl mI BY ?_)
  | (refine aD rfl 145 (.tmp 10) (.tmp 20) rfl w3.heap.size mI mI 145 rfl rfl (EY _ _ _) BH rfl Fd ?_))
 obtain ⟨w4,WQ⟩:∃ w4,w4=(w3.alloc (.cells mI 145)).setRow w3.heap.size mI:=⟨_,rfl⟩
 rw [<- WQ]
 have IV:aB w3 w4:=by rw [WQ];exact ((EX w3).alloc _).setRow (EA _) _
 have IM:aA w4 w3.heap.size mI 145:=by rw [WQ];exact (EY w3 _ _).setRow _
 obtain ⟨pv,hpv⟩:∃ pv,pv=w3.heap.size:=⟨_,rfl⟩
 rw [<- hpv] at IM hmv ⊢;have aBa:=DX (ZV.out.kept IV);have HS4:=DX (HS3.out.kept IV);have HE4:=DX (HE3.out.kept IV);have GQ:=DX (GC.out.trans IV);have KY:=DX IM;clear WQ IV IM hpv ZV HS3 HE3 GC
 have aCb:∀ nq,(Builtin.copy_ #[189,189] 3 #[.slice (some ⟨pv,0,none⟩) 8 16,.slice (some ⟨ps,0,none⟩) 8 8]).run Tryz.prog (w4.drewN nq)=.ok (goInt 8) ((w4.drewN nq).setRow pv (cw (h++List.replicate 8 0))):=fun nq=>by
  have q:=run_copy_row (P:=Tryz.prog) (w4.drewN nq) 189 189 3 101 pv 0 8 16 ⟨ps,0,none⟩ 8 8 mI 145 (cw h).toList Tryz.underlying189 CH KY.out (by rw [Array.length_toList,eL HH.out];rfl)
   (fun j v hj=>by rw [jQ,Nat.zero_add];exact (HS4.out.kept ((EX _).drewN nq)).cell j ▸ (by rw [<- Array.getElem?_toList];exact hj)) (by rw [Array.length_toList,eL HH.out,sI];decide) (fun v hv=>Array.all_eq_true'.1 (iT h) v (by simpa using hv))
  rw [Uo h HH.out,Array.length_toList,eL HH.out] at q;exact q
 have HRUN:=DX aCb;clear aCb;go_wp2_with fail;simp only [dO,Act.put]
 refine (wpIn_wide (n:=0)).1 ?_
 refine wpIn_region_quiet_tail_lit 2 aW aW aW ?_
 simp only [List.take_succ_cons,List.take_zero,List.drop_succ_cons,List.drop_zero]
 repeat (gi_big_quiet_step (fail))
 refine wpQuietIn_nil ?_
 intro _ GD;obtain ⟨nq,FT⟩:=GD;subst FT;gi_wp2_with (refine pN _ rfl _ _ 189 189 rfl _ _ rfl rfl (HRUN.out nq) ?_)
 obtain ⟨w5,MD⟩:∃ w5,w5=(w4.drewN nq).setRow pv (cw (h++List.replicate 8 0)):=⟨_,rfl⟩
 rw [<- MD]
 have VH:eH w4 pv (Mi h 0) w5:=by
  rw [MD];exact ⟨aA.setRow (t:=145) (KY.out.kept ((EX _).drewN nq)) _,bE (bN ((EX _).drewN nq) _) (dB _ _ _),Bl.both_ok HH.out (Bl.W.zeros 8)⟩
 have TN:=DX (aU aBa.out VH.grown aE);have HS5:=DX (aU HS4.out VH.grown aE);have HE5:=DX (aU HE4.out VH.grown aE);have IQ:=DX (VH.kept GQ.out (by have:=XT.out;omega));have OV:=DX (eH.here VH.row VH.ok);clear MD VH aBa HS4 HE4 GQ KY HRUN
 go_wp2_with (first
  | (refine dE rfl 102 (.global 0) rfl ⟨0,0,none⟩ rfl (cw Bl.begins) _ (ZU.out.kept IQ.out).part ES rfl AZ ?_))
 go_loopw [25] (fun i wx=>∃ k:Nat,k<=8/\i=.int .i64 k/\eH w5 pv (Mi h k) wx) (fun i _=>8 - (intOf i).toNat)
 case atStart=>exact ⟨0,aE,rfl,OV.out⟩
 case round =>
  obtain ⟨k,hk,rfl,hv⟩:=hrel;have IS:=DX hv;clear hv
  by_cases FV:k<8
  . as_aux_lemma =>
     have hix:=Di Bl.begins_ok k FV;have f1:=IS.out.free (8+k);have c1:=IS.out.cell (8+k) aE;have IN:=DX (show eH w5 pv (Mi h (k+1)) _ from IS.out.put0 (8+k) (Bl.begins_ok.at k));exact Tn
  . obtain rfl:k=8:=by omega
    have hv8:=IS.out;rw [Md HH.out] at hv8;have KX:=DX hv8;clear hv8 IS OV;cases last
    . as_aux_lemma =>
       have hsg:IntKind.u32.signed=false:=rfl;have c12:=KX.out.cell 12 aE;have c13:=KX.out.cell 13 aE;have f12:=KX.out.free 12;have f13:=KX.out.free 13;have u12:=KX.out.ok.at 12;have u13:=KX.out.ok.at 13;have e1:=Pm n;have VB:n / 4294967296 % 4294967296=n / 4294967296:=Nat.mod_eq_of_lt aE;have e3:=wM _ (n % 4294967296) u12 (Nat.mod_lt _ aF)
       have e4:bits .xor .u32 ((h++Bl.begins).getD 13 0:Nat) ((n:Int) / 4294967296)=(((h++Bl.begins).getD 13 0 ^^^ n / 4294967296 % 4294967296:Nat):Int):=by
        exact Kl
       clear VB
       have GL:=(KX.out.put0 12 (Bl.xor_lt u12 (Nat.mod_lt n aF))).put0 13 (Bl.xor_lt u13 (Nat.mod_lt (n / 4294967296) aF))
       rw [qU h n] at GL
       obtain ⟨v0,KU⟩:∃ v0,v0=Bl.start h n false:=⟨_,rfl⟩
       have QD:=DX KU;rw [<- KU] at GL;have IN:=DX GL;clear GL u12 u13 KU
       generalize (h++Bl.begins).getD 12 0 ^^^ n % 4294967296=y12 at *
       generalize (h++Bl.begins).getD 13 0 ^^^ n / 4294967296 % 4294967296=y13 at *
       generalize (h++Bl.begins).getD 12 0=y12a at *
       generalize (h++Bl.begins).getD 13 0=y13a at *
       generalize n % 4294967296=n1 at *
       go_upto_region 13 with fail
       generalize World.setCell _ _ _=w7 at IN ⊢;have TO:=DX (aU TN.out IN.out.grown aE);have HS7:=DX (aU HS5.out IN.out.grown aE);have ZZ:=DX (aU HE5.out IN.out.grown aE);have SP:=DX (IN.out.kept IQ.out (by have:=XT.out;omega));have OW:=DX (eH.here IN.out.row IN.out.ok);clear KX IN TN HS5 HE5 IQ c12 c13 f12 f13 e1 e3 e4
       go_wp2_with (first
        | (refine dE rfl 191 (.global 1) rfl ⟨1,0,none⟩ rfl xQ _ (XR.out.kept SP.out).part Tryz.underlying191 rfl (by rw [qF];exact CI) ?_))
       go_loopw [54] (fun i wx=>∃ k:Nat,k<=10/\i=.int .i64 k/\eH w7 pv (Bl.rounds m v0 k) wx) (fun i _=>10 - (intOf i).toNat)
       case atStart=>exact ⟨0,aE,rfl,OW.out⟩
       case round =>
        obtain ⟨k,hk,rfl,hv⟩:=hrel;have IS:=DX hv;clear hv
        by_cases FV:k<10
        . exact MX0
        . obtain rfl:k=10:=by omega
          have HS9:=DX (aU HS7.out IS.out.grown aE);have HE9:=DX (aU ZZ.out IS.out.grown aE);have JQ:=DX (IS.out.kept SP.out (by have:=XT.out;omega))
          obtain ⟨v,hv⟩:∃ v,v=Bl.rounds m v0 10:=⟨_,rfl⟩
          have HVV:=DX hv;have PD:=IS.out;rw [<- hv] at PD;have UV:=DX PD;clear hv PD IS OW TO HS7 ZZ SP;go_wp2_with fail;go_loopw [115] (fun i wx=>∃ k:Nat,k<=8/\i=.int .i64 k/\V8 wr ps (Bl.fin h v k) wx) (fun i _=>8 - (intOf i).toNat)
          case atStart=>exact ⟨0,aE,rfl,V8.here HS9.out HH.out⟩
          case round =>
           obtain ⟨k,hk,rfl,hv⟩:=hrel;have IS:=DX hv;clear hv
           by_cases FV:k<8
           . exact Ym
           . obtain rfl:k=8:=by omega
             have hf:=IS.out;rw [HVV.out,QD.out,HM.out] at hf;have hf2:V8 _ ps (Bl.block h s.data.toList n false) wr:=hf
             obtain ⟨V,hV⟩:∃ V,V=Bl.block h s.data.toList n false:=⟨_,rfl⟩
             exact Xy
    . as_aux_lemma =>
       have hsg:IntKind.u32.signed=false:=rfl;have c12:=KX.out.cell 12 aE;have c13:=KX.out.cell 13 aE;have f12:=KX.out.free 12;have f13:=KX.out.free 13;have u12:=KX.out.ok.at 12;have u13:=KX.out.ok.at 13;have e1:=Pm n;have VB:n / 4294967296 % 4294967296=n / 4294967296:=Nat.mod_eq_of_lt aE;have e3:=wM _ (n % 4294967296) u12 (Nat.mod_lt _ aF)
       have e4:bits .xor .u32 ((h++Bl.begins).getD 13 0:Nat) ((n:Int) / 4294967296)=(((h++Bl.begins).getD 13 0 ^^^ n / 4294967296 % 4294967296:Nat):Int):=by
        exact Kl
       clear VB;have c14:=KX.out.cell 14 aE;have f14:=KX.out.free 14;have e5:=Qm _ (KX.out.ok.at 14)
       have GL:=(KX.out.put0 12 (Bl.xor_lt u12 (Nat.mod_lt n aF))).put0 13 (Bl.xor_lt u13 (Nat.mod_lt (n / 4294967296) aF))
       have GL:=GL.put0 14 (Bl.inv_lt ((h++Bl.begins).getD 14 0));rw [qS h n] at GL
       obtain ⟨v0,KU⟩:∃ v0,v0=Bl.start h n true:=⟨_,rfl⟩
       have QD:=DX KU;rw [<- KU] at GL;have IN:=DX GL;clear GL u12 u13 KU
       generalize (h++Bl.begins).getD 12 0 ^^^ n % 4294967296=y12 at *
       generalize (h++Bl.begins).getD 13 0 ^^^ n / 4294967296 % 4294967296=y13 at *
       generalize Bl.inv ((h++Bl.begins).getD 14 0)=y14 at *
       generalize (h++Bl.begins).getD 14 0=y14a at *
       generalize (h++Bl.begins).getD 12 0=y12a at *
       generalize (h++Bl.begins).getD 13 0=y13a at *
       generalize n % 4294967296=n1 at *
       go_upto_region 13 with fail
       generalize World.setCell _ _ _=w7 at IN ⊢;have TO:=DX (aU TN.out IN.out.grown aE);have HS7:=DX (aU HS5.out IN.out.grown aE);have ZZ:=DX (aU HE5.out IN.out.grown aE);have SP:=DX (IN.out.kept IQ.out (by have:=XT.out;omega));have OW:=DX (eH.here IN.out.row IN.out.ok);clear KX IN TN HS5 HE5 IQ c12 c13 f12 f13 e1 e3 e4 c14 f14 e5
       go_wp2_with (first
        | (refine dE rfl 191 (.global 1) rfl ⟨1,0,none⟩ rfl xQ _ (XR.out.kept SP.out).part Tryz.underlying191 rfl (by rw [qF];exact CI) ?_))
       go_loopw [54] (fun i wx=>∃ k:Nat,k<=10/\i=.int .i64 k/\eH w7 pv (Bl.rounds m v0 k) wx) (fun i _=>10 - (intOf i).toNat)
       case atStart=>exact ⟨0,aE,rfl,OW.out⟩
       case round =>
        obtain ⟨k,hk,rfl,hv⟩:=hrel;have IS:=DX hv;clear hv
        by_cases FV:k<10
        . exact MX0
        . obtain rfl:k=10:=by omega
          have HS9:=DX (aU HS7.out IS.out.grown aE);have HE9:=DX (aU ZZ.out IS.out.grown aE);have JQ:=DX (IS.out.kept SP.out (by have:=XT.out;omega))
          obtain ⟨v,hv⟩:∃ v,v=Bl.rounds m v0 10:=⟨_,rfl⟩
          have HVV:=DX hv;have PD:=IS.out;rw [<- hv] at PD;have UV:=DX PD;clear hv PD IS OW TO HS7 ZZ SP;go_wp2_with fail;go_loopw [115] (fun i wx=>∃ k:Nat,k<=8/\i=.int .i64 k/\V8 wr ps (Bl.fin h v k) wx) (fun i _=>8 - (intOf i).toNat)
          case atStart=>exact ⟨0,aE,rfl,V8.here HS9.out HH.out⟩
          case round =>
           obtain ⟨k,hk,rfl,hv⟩:=hrel;have IS:=DX hv;clear hv
           by_cases FV:k<8
           . exact Ym
           . obtain rfl:k=8:=by omega
             have hf:=IS.out;rw [HVV.out,QD.out,HM.out] at hf;have hf2:V8 _ ps (Bl.block h s.data.toList n true) wr:=hf
             obtain ⟨V,hV⟩:∃ V,V=Bl.block h s.data.toList n true:=⟨_,rfl⟩
             exact Xy
theorem Da (l t:List UInt8) (a b:Nat) (h:b<=l.length):Bl.cut (l++t) a b=Bl.cut l a b:=by
 unfold Bl.cut;rw [List.take_append_of_le_length h]
theorem rA (l t:List UInt8):∀ k,64*k<=l.length->Bl.sums (l++t) k=Bl.sums l k
 | 0,_=>rfl
 | k+1,h=>by
  unfold Bl.sums;rw [rA l t k aE,Da l t _ _ aE]
def nB (n:Nat):Nat:=(n+63) / 64
theorem Sh {n k:Nat}:k<nB n↔k*64<n:=by unfold nB;omega
def yS (s:ByteArray) (k:Nat):ByteArray:=s.extract (k*64) (min (k*64+64) s.size)
theorem Mj (s:ByteArray) (k:Nat):(yS s k).size<=64:=by unfold yS;rw [ByteArray.size_extract];omega
theorem Id (s:ByteArray) (k:Nat):(yS s k).data.toList=Bl.cut s.data.toList (k*64) (min (k*64+64) s.size):=by unfold yS;exact mL _ _ _
theorem Cl (t:ByteArray) (w:World) :
 Calls Tryz.prog 145 #[.string t] w fun e w'=>e=.returned (.func (.func 169) #[] #[.pointer (some ⟨w.heap.size,0,none⟩)]) /\
  w'=w.alloc (.cells #[.string t] 9):=by
 go_enter Tryz.func145,Tryz.ntmps145;go_wp2;go_ret;exact ⟨rfl,rfl⟩
theorem xI (n:Nat) (hn:1<=n) (R:Nat->Prop) (t:ByteArray) (ht:t.size<=2305843009213693952) (pt:Nat) (w:World)
 (hRt:¬ R pt) (hpt:aA w pt #[.string t] 9) :
 SeqStopsK Fence.wide n Tryz.prog 169 #[.pointer (some ⟨pt,0,none⟩)]
  (fun k:{ k:Nat // k<nB t.size }=>#[Value.int .i64 ((min (k.1*64+64) t.size:Nat):Int),Value.string (yS t k.1)]) (aV R)
  (fun xs=>lU xs=List.range (nB t.size)) (fun pre=>∃ k,k<nB t.size/\lU pre=List.range (k+1)) (nB t.size) w:=fun l J Jx W hW hJ _ hY h0=>by
 have hT:=hpt.kept hW
 refine callsIn_of_wp Tryz.func169 rfl trivial ?_ rfl
 simp only [Tryz.ntmps169,List.size_toArray,List.length_nil,List.length_cons,Nat.reduceAdd,Nat.reduceSub,Array.replicate_succ,Array.replicate_zero,List.push_toArray,List.append_toArray,List.nil_append,List.cons_append]
 refine wpIn_wide.2 ?_
 have HJ:=DX h0;have HTT:=DX hT;clear hpt hW h0 hT;go_wp2_with fail
 refine eS n ?_
 gi_loopw [3] (fun i wr=>∃ k m:Nat,m=k*64/\k<=nB t.size/\m<=t.size+64/\i=.int .i64 m/\aA wr pt #[.string t] 9/\∃ pre:List { k:Nat // k<nB t.size },lU pre=List.range k/\J pre wr) (fun i _=>t.size+64 - (intOf i).toNat)
 case atStart=>exact ⟨0,0,by simp,aE,aE,rfl,HTT.out,[],rfl,HJ.out⟩
 case round =>
  obtain ⟨k,m,hm,hk,PJ,rfl,hT,pre,JZ,XA⟩:=hrel;have c1:=fC hT;have HT:=DX hT;have LY:=DX JZ
  have GM:pre.length=k:=by have:=congrArg List.length JZ;rw [fH] at this;simpa using this
  have TS:=DX GM;have FV:=Sh (n:=t.size) (k:=k);rw [<- hm] at FV;have QB:=DX FV
  have ZQ:yS t k=t.extract m (min (m+64) t.size):=by rw [hm];rfl
  have hmk:k*64=m:=hm.symm;have HM:=DX hm;clear JZ GM hT hm FV
  by_cases LA:m<t.size
  . have JE:k<nB t.size:=QB.out.2 LA
    obtain ⟨f1,t1,a1,b1,MW,hR1⟩:=hY pre ⟨k,JE⟩ wr XA (by rw [TS.out];exact JE);simp only [ZQ,hmk] at MW;clear ZQ hmk
    obtain ⟨u,hu⟩:∃ u,u=m+64:=⟨_,rfl⟩
    have hi8:(m:Int)+64=(u:Int):=by omega
    have hu2:u<=t.size+64:=by omega
    have hmu:m<=u:=by omega
    rw [<- hu] at MW
    have UH:u=(k+1)*64:=by rw [hu,HM.out,Nat.succ_mul]
    have RO:=DX UH;have HMU:=DX (show t.size+64 - u<t.size+64 - m by omega);clear UH hu
    have IT:∀ (e:Ending) (W3:World),(e=.returned (.bool true)/\J (pre++[⟨k,JE⟩]) W3/\aV R wr W3\/e=.returned (.bool false)/\Jx (pre++[⟨k,JE⟩]) W3)->(e=.returned (.bool true)/\aA W3 pt #[.string t] 9/\J (pre++[⟨k,JE⟩]) W3)\/(e=.returned (.bool false)/\Jx (pre++[⟨k,JE⟩]) W3):=fun e W3 h=>by
     exact So
    have TQ:=DX IT;clear IT XA
    by_cases hcu:t.size<u
    . rw [show min u t.size=t.size by omega] at MW
      have VF:m<=t.size:=by omega
      have RI:t.size<=t.size:=by omega
      have hmin:min (u:Int) (t.size:Int)=(t.size:Int):=by omega
      exact Xi
    . rw [show min u t.size=u by omega] at MW
      have VF:u<=t.size:=by omega
      have hmin:min (u:Int) (t.size:Int)=(u:Int):=by omega
      exact Xi
  . have hke:k=nB t.size:=by
     have:¬ k<nB t.size:=fun h=>LA (QB.out.1 h)
     omega
    have OS:=DX hke;clear hke ZQ;gi_wp2;go_end0;exact ⟨⟨_,rfl⟩,.inl ⟨pre,by rw [LY.out,OS.out],XA⟩⟩
end Go.Proofs.YtkfmladhicapeaaGreatDoor
namespace Go.Proofs.YtkfmladhicapeaaGreatDoor
instance (w:World):Nonempty (bF w):=⟨⟨w,aB.refl w⟩⟩
theorem gU {F:Fence} {n:Nat} {P:Program} {id:Nat} {Q:Exit->Act->World->Prop} {a:Act} {w:World} {l:List Oper} (m:Nat) (hm:P.follows .mixedOrders=true) (VC:l.toArray.all Oper.noDefer=true) (hB:Region.lexTailB .any l.toArray m=true)
 (h:wpQuietIn F n P l.toArray (fun w'=>∃ u:bF w,w'=u.1) (fun a'=>∀ w',(∃ u:bF w,w'=u.1)->wpListIn F n P l.toArray Q (l.drop m) a' w') (l.take m) a):(Code.region id l.toArray true).wpIn F n P Q a w :=
 wpIn_region_quiet_tail m hm VC hB ⟨⟨{ w with drawn:=w.drawn+1 },⟨rfl,rfl,rfl,EA _,fun _ _=>rfl⟩⟩,rfl⟩ h
end Go.Proofs.YtkfmladhicapeaaGreatDoor
namespace Go.Proofs.YtkfmladhicapeaaGreatDoor
open Go.RowKit Go.Shelf
attribute [local go_sem] Oper.semAt_some
def bP (v:List Nat) (r:ByteArray) (n:Nat):Array Value:=cw v++#[.string r,.int .i64 (n:Int)]
def dA (l:List UInt8):ByteArray:=⟨(l.drop (64*Bl.ahead l.length)).toArray⟩
def gL (l:List UInt8):List Nat:=Bl.sums l (Bl.ahead l.length)
def qE (w:World) (b:Nat) (l:List UInt8):Prop:=aA w b (bP (eU (gL l)) (dA l) l.length) 132
theorem gC (l:List UInt8):Bl.W 8 (gL l):=Bl.sums_ok _ _
theorem Ao {v:List Nat} (h:Bl.W 8 v) (r:ByteArray) (n:Nat):(bP v r n).size=10:=by
 unfold bP;rw [Array.size_append,eL h];rfl
theorem mV {v:List Nat} (h:Bl.W 8 v) (r:ByteArray) (n:Nat):(bP v r n)[8]?=some (.string r):=by
 exact Rn
theorem oR {v:List Nat} (h:Bl.W 8 v) (r:ByteArray) (n:Nat):(bP v r n)[9]?=some (.int .i64 (n:Int)):=by
 exact Rn
theorem tP {v:List Nat} (h:Bl.W 8 v) (r:ByteArray) (n i:Nat) (hi:i<8):(bP v r n)[i]?=(cw v)[i]?:=by
 unfold bP;rw [Array.getElem?_append_left (by rw [eL h];omega)]
theorem Bu {v:List Nat} (h:Bl.W 8 v) (r r':ByteArray) (n:Nat):(bP v r n).setIfInBounds 8 (.string r')=bP v r' n:=by
 exact FR
theorem Cr {v:List Nat} (h:Bl.W 8 v) (r:ByteArray) (n n':Nat):(bP v r n).setIfInBounds 9 (.int .i64 (n':Int))=bP v r n':=by
 exact FR
theorem An {v v':List Nat} (h:Bl.W 8 v) (h':Bl.W 8 v') (r:ByteArray) (n:Nat):((bP v r n).toList.take (0+0)++(cw v').toList++(bP v r n).toList.drop (0+0+(cw v').toList.length)).toArray=bP v' r n:=by
 obtain ⟨h1,_⟩:=h;obtain ⟨h2,_⟩:=h'
 match v,h1,v',h2 with
 | [a,b,c,d,e,f,g,i],_,[a',b',c',d',e',f',g',i'],_=>rfl
theorem Hm {w:World} {b:Nat} {v:List Nat} {r:ByteArray} {n:Nat} {t:TypeId} (hv:Bl.W 8 v) (h:aA w b (bP v r n) t):∀ j x,(cw v).toList[j]?=some x->w.cell? ((⟨b,0,none⟩:Addr).add j)=some x:=by
 intro j x hj
 have hj8:j<8:=by
  have h2:=(List.getElem?_eq_some_iff.1 hj).1
  rw [Array.length_toList,eL hv] at h2;exact h2
 rw [jQ,Nat.zero_add,h.cell,tP hv r n j hj8,<- Array.getElem?_toList];exact hj
theorem fD.gr {w w':World} {b:Nat} (h:fD w) (k:w.grownBy w' (some b)) (GW:b≠0):fD w':=fun i hi=>by
 exact Mm
theorem fW.gr {w w':World} {b:Nat} (h:fW w) (k:w.grownBy w' (some b)) (GW:b≠1):fW w':=fun i hi=>by
 exact Mm
theorem vB {β:Type} {B b:Nat} {w₀:World} (hB:w₀.heap.size<=B):OwnFrom B (fun (_:β) W=>w₀.grownBy W (some b)):=fun _ W W' row hs hg hr =>
 ⟨hg.os.trans hs.os,hg.tape.trans hs.tape,hg.output.trans hs.output,EF hs.size hg.size,fun k hk GW=>(hg.block k (EG hk hs.size) (fun e=>by have:=(hr k e.symm).1;omega)).trans (hs.block k hk GW)⟩
theorem oP {F:Fence} {n:Nat} {P:Program} {w:World} {ops:Array Oper} {rest:List Oper} {o:Oper} {a:Act} {Q:Exit->Act->World->Prop} (hgd:o.guard=none) (ty:TypeId) (x:Operand) (ho:o.op=.load ty x)
 (p:Addr) (hx:a.eval x=.pointer (some p)) (cs:Array Value) (d:TypeDesc) (hc:∀ j v,cs.toList[j]?=some v->w.cell? (p.add j)=some v)
 (hu:P.underlying ty=some d) (hd:(match d with | .struct _ | .array _ _=>true | _=>false)=true) (hi:(P.info? ty).map (·.size)=some cs.size)
 (h:wpListIn F n P ops Q rest (a.put o.dst (.agg cs)) w):wpListIn F n P ops Q (o :: rest) a w:=by
 refine wpListIn_plain hgd fun K hK=>?_
 unfold Oper.wpIn;refine ⟨?_,?_⟩
 . simp [Oper.about,ho]
 . rw [Oper.semAt_plain F _ _ (by rw [ho];intro c XC;cases XC)]
   unfold execOp;exact Ru
theorem oJ {F:Fence} {n:Nat} {P:Program} {w:World} {ops:Array Oper} {rest:List Oper} {o:Oper} {a:Act} {Q:Exit->Act->World->Prop} (hgd:o.guard=none) (ty:TypeId) (x y:Operand) (ho:o.op=.store ty x y)
 (g:Nat) (cells old:Array Value) (t:TypeId) (hx:a.eval x=.pointer (some ⟨g,0,none⟩)) (hy:a.eval y=.agg cells) (hg:aA w g old t) (hi:(P.info? ty).map (·.size)=some cells.size) (IG:old.size=cells.size) (h1:cells.all (·.oneCell')=true)
 (h:wpListIn F n P ops Q rest (a.put o.dst undef) (w.setRow g cells)):wpListIn F n P ops Q (o :: rest) a w:=by
 refine wpListIn_plain hgd fun K hK=>?_
 unfold Oper.wpIn;refine ⟨?_,?_⟩
 . simp [Oper.about,ho]
 . rw [Oper.semAt_plain F _ _ (by rw [ho];intro c XC;cases XC)]
   unfold execOp;exact Rh
theorem sR {P:Program} (w:World) (g:Nat) (t ty:TypeId) (old cells:Array Value) (hg:aA w g old t) (hi:(P.info? ty).map (·.size)=some cells.size) (IG:cells.size<=old.size) (h1:cells.all (·.oneCell')=true) :
 (storeVar ty ⟨g,0,none⟩ (.agg cells)).run P w=.ok () (w.setRow g (old.toList.take (0+0)++cells.toList++old.toList.drop (0+0+cells.toList.length)).toArray):=by
 have GL:=run_storeCells_at P g 0 t cells.toList 0 old w hg (by simpa using IG) (fun v hv=>Array.all_eq_true'.1 h1 v (by simpa using hv))
 cases hq:P.info? ty with
 | none=>simp [hq] at hi
 | some i =>
  have hs:i.size=cells.size:=by simpa [hq] using hi
  unfold storeVar;simp only [Sem.run_bind,nW w hi,Result.andThen_ok,Value.cells]
  simp [GL]
theorem nJ {F:Fence} {n:Nat} {P:Program} {w:World} {ops:Array Oper} {rest:List Oper} {o:Oper} {a:Act} {Q:Exit->Act->World->Prop} (hgd:o.guard=none) (ty:TypeId) (x y:Operand) (ho:o.op=.store ty x y)
 (g:Nat) (cells old:Array Value) (t:TypeId) (hx:a.eval x=.pointer (some ⟨g,0,none⟩)) (hy:a.eval y=.agg cells) (hg:aA w g old t) (hi:(P.info? ty).map (·.size)=some cells.size) (IG:cells.size<=old.size) (h1:cells.all (·.oneCell')=true)
 (h:wpListIn F n P ops Q rest (a.put o.dst undef) (w.setRow g (old.toList.take (0+0)++cells.toList++old.toList.drop (0+0+cells.toList.length)).toArray)):wpListIn F n P ops Q (o :: rest) a w:=by
 refine wpListIn_plain hgd fun K hK=>?_
 unfold Oper.wpIn;refine ⟨?_,?_⟩
 . simp [Oper.about,ho]
 . rw [Oper.semAt_plain F _ _ (by rw [ho];intro c XC;cases XC)]
   unfold execOp;simp only [ho,hx,hy,Instr.storeAt,Instr.sureAddr,Sem.run_bind,Sem.run_pure,Result.andThen_ok,sR w g t ty old cells hg hi IG h1];exact hK _ _ h
theorem Mc (L:List UInt8) (c a b:Nat):Bl.cut (L.drop c) a b=Bl.cut L (c+a) (c+b):=by
 unfold Bl.cut;rw [List.take_drop,List.drop_drop]
end Go.Proofs.YtkfmladhicapeaaGreatDoor
