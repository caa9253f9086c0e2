import Derived.Test.YtkfmladhicapeaaGreatDoorY21
set_option maxRecDepth 100000
set_option maxHeartbeats 2000000
namespace Go.Proofs.YtkfmladhicapeaaGreatDoor
open Go.RowKit Go.Shelf
attribute [local go_sem] Oper.semAt_some
def Hw (h:List Nat):Nat->List Nat
 | 0=>List.replicate 16 0
 | k+1=>((Hw h k).set k (h.getD k 0)).set (k+8) (Bl.begins.getD k 0)
theorem Lv {h:List Nat} (hh:Bl.W 8 h):Hw h 8=h++Bl.begins:=by
 exact Sr
theorem Qm (x:Nat) (hx:x<4294967296):bits .xor .u32 IntKind.u32.max (x:Int)=((Bl.inv x:Nat):Int):=by
 have h:=u32_xor_nat 4294967295 x aF hx
 have e:4294967295 ^^^ x=Bl.inv x:=by
  unfold Bl.inv;have h2:=BitVec.toNat_xor (BitVec.allOnes 32) (BitVec.ofNat 32 x);have h3:=BitVec.toNat_not (x:=BitVec.ofNat 32 x);rw [<- BitVec.allOnes_xor,h2] at h3
  simpa [Nat.mod_eq_of_lt hx] using h3
 rw [<- e];exact h
theorem eH.drew {w W:World} {g:Nat} {v:List Nat} (h:eH w g v W):eH w g v W.drew:=⟨h.row,bE h.grown (bN ((EX W).drewN 1) _),h.ok⟩
theorem V8.drew {w W:World} {g:Nat} {v:List Nat} (h:V8 w g v W):V8 w g v W.drew:=⟨h.row,bE h.grown (bN ((EX W).drewN 1) _),h.ok⟩
theorem eH.on {w W W':World} {g:Nat} {v:List Nat} (h:eH w g v W) (k:aB W W'):eH w g v W':=⟨h.row.kept k,bE h.grown (bN k _),h.ok⟩
theorem V8.on {w W W':World} {g:Nat} {v:List Nat} (h:V8 w g v W) (k:aB W W'):V8 w g v W':=⟨h.row.kept k,bE h.grown (bN k _),h.ok⟩
theorem eH.trans {a b c:World} {g:Nat} {v:List Nat} (h:a.grownBy b (some g)) (k:eH b g v c):eH a g v c:=⟨k.row,bE h k.grown,k.ok⟩
theorem Pm (n:Nat):(n:Int) % 4294967296=((n % 4294967296:Nat):Int):=by omega
def jJ (m o v:List Nat) (a b c d i j:Nat):List Nat:=Bl.mix v a b c d (m.getD (o.getD i 0) 0) (m.getD (o.getD j 0) 0)
theorem Xf (m o v:List Nat):Bl.halfB m o (Bl.halfA m o v 4) 4=Bl.mix (Bl.mix (Bl.mix (Bl.mix (Bl.mix (Bl.mix (Bl.mix (Bl.mix (v) 0 4 8 12 (m.getD (o.getD 0 0) 0) (m.getD (o.getD 1 0) 0)) 1 5 9 13 (m.getD (o.getD 2 0) 0) (m.getD (o.getD 3 0) 0)) 2 6 10 14 (m.getD (o.getD 4 0) 0) (m.getD (o.getD 5 0) 0)) 3 7 11 15 (m.getD (o.getD 6 0) 0) (m.getD (o.getD 7 0) 0)) 0 5 10 15 (m.getD (o.getD 8 0) 0) (m.getD (o.getD 9 0) 0)) 1 6 11 12 (m.getD (o.getD 10 0) 0) (m.getD (o.getD 11 0) 0)) 2 7 8 13 (m.getD (o.getD 12 0) 0) (m.getD (o.getD 13 0) 0)) 3 4 9 14 (m.getD (o.getD 14 0) 0) (m.getD (o.getD 15 0) 0):=by
 simp only [Bl.halfA,Bl.halfB,Nat.reduceMul,Nat.reduceAdd,Nat.reduceMod,Nat.mul_zero,Nat.zero_add,Nat.add_zero]
theorem qW (m v0:List Nat) (k:Nat):Bl.rounds m v0 (k+1)=Bl.halfB m (Bl.orders.getD k []) (Bl.halfA m (Bl.orders.getD k []) (Bl.rounds m v0 k) 4) 4:=rfl
theorem Bi {W:World} {po k:Nat} (h:aA W po mG 147) (hk:k<10):∀ j v,(gX k).toList[j]?=some v->W.cell? ((⟨po,k*16,none⟩:Addr).add j)=some v:=by
 intro j v hj
 have hj16:j<16:=by
  have h2:=(List.getElem?_eq_some_iff.1 hj).1
  rw [Array.length_toList,gZ k hk] at h2;exact h2
 rw [jQ,h.cell,show k*16+j=16*k+j by omega,Pe k hk j hj16]
 simpa using hj
theorem qU (h:List Nat) (n:Nat):((h++Bl.begins).set 12 ((h++Bl.begins).getD 12 0 ^^^ n % 4294967296)).set 13 ((h++Bl.begins).getD 13 0 ^^^ n / 4294967296 % 4294967296)=Bl.start h n false:=by
 have e:((h++Bl.begins).set 12 ((h++Bl.begins).getD 12 0 ^^^ n % 4294967296)).getD 13 0=(h++Bl.begins).getD 13 0:=by simp [List.getD_eq_getElem?_getD]
 unfold Bl.start;simp only [Bool.false_eq_true,if_false];rw [e]
theorem qS (h:List Nat) (n:Nat):(((h++Bl.begins).set 12 ((h++Bl.begins).getD 12 0 ^^^ n % 4294967296)).set 13 ((h++Bl.begins).getD 13 0 ^^^ n / 4294967296 % 4294967296)).set 14 (Bl.inv ((h++Bl.begins).getD 14 0))=Bl.start h n true:=by
 have e:((h++Bl.begins).set 12 ((h++Bl.begins).getD 12 0 ^^^ n % 4294967296)).getD 13 0=(h++Bl.begins).getD 13 0:=by simp [List.getD_eq_getElem?_getD]
 have e2:(((h++Bl.begins).set 12 ((h++Bl.begins).getD 12 0 ^^^ n % 4294967296)).set 13 ((h++Bl.begins).getD 13 0 ^^^ n / 4294967296 % 4294967296)).getD 14 0=(h++Bl.begins).getD 14 0:=by simp [List.getD_eq_getElem?_getD]
 unfold Bl.start;simp only [if_true];rw [e,e2]
theorem uL (g:Nat) (h:List Nat) (s:ByteArray) (n:Nat) (last:Bool) (hs:s.size<=64) (hn:n<18446744073709551616) (w:World) (hv:V8 w g h w) :
 Calls Tryz.prog 93 #[.pointer (some ⟨g,0,none⟩),.string s,.int .u64 n,.bool last] w fun e w'=>e=.returned (.tuple #[])/\V8 w g (Bl.block h s.data.toList n last) w':=by
 have HV:=DX hv;have hgw:g<w.heap.size:=hv.row.lt;clear hv;go_enter Tryz.func93,Tryz.ntmps93
 go_upto_region 1 with (with_reducible refine aZ rfl 145 rfl mI BL ?_)
 obtain ⟨w1,KK⟩:∃ w1,w1=w.alloc (.cells mI 145):=⟨_,rfl⟩
 rw [<- KK]
 have MF:aB w w1:=by rw [KK];exact (EX w).alloc _
 have PA:aA w1 w.heap.size mI 145:=by rw [KK];exact EY w _ _
 have GJ:w1.heap.size=w.heap.size+1:=by rw [KK];simp
 obtain ⟨pm,TG⟩:∃ pm,pm=w.heap.size:=⟨_,rfl⟩
 have hgm:g<pm:=by omega
 rw [<- TG] at PA GJ ⊢;have OL:=DX TG;have NI:=DX (eH.here (v:=List.replicate 16 0) PA (Bl.W.zeros 16));have IL:=DX MF;have ZG:=DX GJ;clear KK MF PA TG GJ;go_wp2_with fail;go_loopw [9] (fun i wr=>∃ k:Nat,k<=s.size/\i=.int .i64 k/\eH w1 pm (Bl.words s.data.toList k) wr) (fun i _=>s.size - (intOf i).toNat)
 case atStart=>exact ⟨0,aE,rfl,NI.out⟩
 case round =>
  obtain ⟨k,hk,rfl,hv⟩:=hrel;have HVm:=DX hv;clear hv
  by_cases FV:k<s.size
  . as_aux_lemma =>
     have HS:=DX (zL s k FV)
     obtain ⟨q,hq⟩:∃ q,q=k / 4:=⟨_,rfl⟩
     obtain ⟨r,hr⟩:∃ r,r=k % 4:=⟨_,rfl⟩
     have hq16:q<16:=by omega
     have hr4:r<4:=by omega
     have c1:=HVm.out.cell q hq16;have f1:=HVm.out.free q
     have LA:(Bl.words s.data.toList k).getD q 0<4294967296:=HVm.out.ok.at q
     obtain ⟨u,hu⟩:∃ u,u=(Bl.words s.data.toList k).getD q 0:=⟨_,rfl⟩
     rw [<- hu] at c1 LA;have hx:=UInt8.toNat_lt s[k]
     have e1:=We s[k].toNat r
     have e2:=o32 u (s[k].toNat*2 ^ (8*r) % 4294967296) LA (Nat.mod_lt _ aF)
     have GL:∀ nq,eH w1 pm (Bl.wd (Bl.words s.data.toList k) k s[k].toNat) ((wr.drewN nq).setCell ⟨pm,q,none⟩ (.int .u32 ((u ||| s[k].toNat*2 ^ (8*r) % 4294967296:Nat):Int))):=fun nq=>by
      have h:=HVm.out.put nq q (Bl.or_lt LA (Nat.mod_lt (s[k].toNat*2 ^ (8*r)) aF));unfold Bl.wd;rw [<- hq,<- hr,<- hu];exact h
     have IN:=DX GL
     have XF:(k:Int) / 4=(q:Int):=by omega
     have hr2:(k:Int) % 4=(r:Int):=by omega
     clear GL hq hr hu LA
     generalize u ||| s[k].toNat*2 ^ (8*r) % 4294967296=z at *
     generalize s[k].toNat*2 ^ (8*r) % 4294967296=y at *
     go_wp2_with fail
     refine (wpIn_wide (n:=0)).1 ?_
     refine wpIn_region_quiet_tail_lit 16 aW aW aW ?_
     exact Mr
  . obtain rfl:k=s.size:=by omega
    have FW:=DX (HVm.out.kept IL.out (by have:=OL.out;omega));have hbm:=HVm.out.row;have GO:pm<wr.heap.size:=hbm.lt
    obtain ⟨m,hm⟩:∃ m,m=Bl.words s.data.toList s.size:=⟨_,rfl⟩
    have hmo:Bl.W 16 m:=by rw [hm];exact Bl.words_ok _ _
    rw [<- hm] at hbm;have HBM:=DX hbm;have NQ:=DX hmo;have HM:=DX hm;clear hbm hmo hm HVm NI IL ZG
    go_upto_region 6 with (with_reducible refine aZ rfl 145 rfl mI BL ?_)
    obtain ⟨w3,PM⟩:∃ w3,w3=wr.alloc (.cells mI 145):=⟨_,rfl⟩
    rw [<- PM]
    have IK:aB wr w3:=by rw [PM];exact (EX wr).alloc _
    have TD:aA w3 wr.heap.size mI 145:=by rw [PM];exact EY wr _ _
    obtain ⟨pv,hpv⟩:∃ pv,pv=wr.heap.size:=⟨_,rfl⟩
    rw [<- hpv] at TD ⊢
    have hmv:pm<pv:=by omega
    have IU:=DX TD;have GC:=DX (FW.out.trans IK);have ZV:=DX (HBM.out.kept IK);clear PM IK TD HBM FW hpv GO;go_wp2_with fail
    refine (rF _).mono ?_
    rintro e w4 ⟨rfl,IV⟩;have KY:=DX (IU.out.kept IV);have GQ:=DX (GC.out.trans IV);have aBa:=DX (ZV.out.kept IV);clear IV IU GC ZV
    go_wp2_with (first
     | (with_reducible refine aZ rfl 102 rfl z8 BK ?_)
     | (refine aD rfl 102 (.tmp 11) (.tmp 39) rfl w4.heap.size (cw Bl.begins) z8 102 rfl rfl (EY _ _ _) AZ rfl (iT _) ?_))
    obtain ⟨w5,MD⟩:∃ w5,w5=(w4.alloc (.cells z8 102)).setRow w4.heap.size (cw Bl.begins):=⟨_,rfl⟩
    rw [<- MD]
    have GZ:aB w4 w5:=by rw [MD];exact ((EX w4).alloc _).setRow (EA _) _
    have ZI:aA w5 w4.heap.size (cw Bl.begins) 102:=by rw [MD];exact (EY w4 _ _).setRow _
    have hvp:pv<w4.heap.size:=KY.out.lt
    obtain ⟨pb,PK⟩:∃ pb,pb=w4.heap.size:=⟨_,rfl⟩
    rw [<- PK] at ZI hvp ⊢;have OV:=DX (eH.here (v:=Hw h 0) (KY.out.kept GZ) (Bl.W.zeros 16));have RX:=DX ZI;have IQ:=DX (GQ.out.trans GZ);have TN:=DX (aBa.out.kept GZ);have HH5:=DX (HV.out.row.kept IQ.out);clear MD GZ ZI KY GQ aBa PK;go_loopw [12] (fun i wx=>∃ k:Nat,k<=8/\i=.int .i64 k/\eH w5 pv (Hw h k) wx) (fun i _=>8 - (intOf i).toNat)
    case atStart=>exact ⟨0,aE,rfl,OV.out⟩
    case round =>
     obtain ⟨k,hk,rfl,hv⟩:=hrel;have IS:=DX hv;clear hv
     by_cases FV:k<8
     . as_aux_lemma =>
        have c1:=(aU HH5.out IS.out.grown aE).cell k
        rw [cR h k (by rw [HV.out.ok.len];exact FV)] at c1
        have c2:=(aU RX.out IS.out.grown aE).cell k
        rw [cR _ k (by rw [Bl.begins_ok.len];exact FV)] at c2;have c3:=IS.out.cell k aE;have c4:=IS.out.cell (k+8) aE;have f3:=IS.out.free k;have f4:=IS.out.free (k+8)
        have GL:=(IS.out.put0 k (HV.out.ok.at k)).put0 (k+8) (Bl.begins_ok.at k)
        rw [show ((Hw h k).set k (h.getD k 0)).set (k+8) (Bl.begins.getD k 0)=Hw h (k+1) from rfl] at GL;have IN:=DX GL;clear GL;generalize h.getD k 0=x at *;generalize Bl.begins.getD k 0=y at *;go_wp2_with fail;go_region;go_wp2;go_roundw
        case rel=>exact ⟨k+1,aE,by go_num,IN.out.drew⟩
        case measure=>simp [intOf];omega
     . obtain rfl:k=8:=by omega
       have hv8:=IS.out;rw [Lv HV.out.ok] at hv8;have KX:=DX hv8;clear hv8 IS OV;cases last
       . as_aux_lemma =>
          have hsg:IntKind.u32.signed=false:=rfl;have HKP:=DX (KX.out.kept IQ.out (by have:=OL.out;omega))
          have hgl:g<pv:=by omega
          clear RX;have c12:=KX.out.cell 12 aE;have c13:=KX.out.cell 13 aE;have f12:=KX.out.free 12;have f13:=KX.out.free 13;have u12:=KX.out.ok.at 12;have u13:=KX.out.ok.at 13;have e1:=Pm n;have VB:n / 4294967296 % 4294967296=n / 4294967296:=Nat.mod_eq_of_lt aE;have e3:=wM _ (n % 4294967296) u12 (Nat.mod_lt _ aF)
          have e4:bits .xor .u32 ((h++Bl.begins).getD 13 0:Nat) ((n:Int) / 4294967296)=(((h++Bl.begins).getD 13 0 ^^^ n / 4294967296 % 4294967296:Nat):Int):=by
           exact Kl
          clear VB
          have GL:=(KX.out.put0 12 (Bl.xor_lt u12 (Nat.mod_lt n aF))).put0 13 (Bl.xor_lt u13 (Nat.mod_lt (n / 4294967296) aF))
          rw [qU h n] at GL;have IN:=DX GL;clear GL u12 u13
          generalize (h++Bl.begins).getD 12 0 ^^^ n % 4294967296=y12 at *
          generalize (h++Bl.begins).getD 13 0 ^^^ n / 4294967296 % 4294967296=y13 at *
          generalize (h++Bl.begins).getD 12 0=y12a at *
          generalize (h++Bl.begins).getD 13 0=y13a at *
          generalize n % 4294967296=n1 at *;go_wp2_with fail
          refine (wN _).mono ?_
          rintro e w6 ⟨rfl,JD⟩;have MO:=DX (IN.out.on JD);clear JD IN KX c12 c13 f12 f13 e1 e3 e4;have aBb:=DX (aU TN.out MO.out.grown aE);have HH6:=DX (aU HH5.out MO.out.grown aE);have NO:=DX (MO.out.kept IQ.out (by have:=OL.out;omega));clear TN HH5 IQ HKP hsg
          go_wp2_with (first
           | (with_reducible refine aZ rfl 147 rfl pI BQ ?_)
           | (refine aD rfl 147 (.tmp 13) (.tmp 75) rfl w6.heap.size mG pI 147 rfl rfl (EY _ _ _) (by rw [iF];exact BO) (by rw [iF,pI,Array.size_replicate]) tW ?_))
          obtain ⟨w7,RW⟩:∃ w7,w7=(w6.alloc (.cells pI 147)).setRow w6.heap.size mG:=⟨_,rfl⟩
          rw [<- RW]
          have KD:aB w6 w7:=by rw [RW];exact ((EX w6).alloc _).setRow (EA _) _
          have hb7:aA w7 w6.heap.size mG 147:=by rw [RW];exact (EY w6 _ _).setRow _
          have UN:pv<w6.heap.size:=MO.out.row.lt
          obtain ⟨po,hpo⟩:∃ po,po=w6.heap.size:=⟨_,rfl⟩
          rw [<- hpo] at hb7 UN ⊢
          obtain ⟨v0,KU⟩:∃ v0,v0=Bl.start h n false:=⟨_,rfl⟩
          have QD:=DX KU;have YU:=eH.here (MO.out.row.kept KD) MO.out.ok;rw [<- KU] at YU;have OW:=DX YU;have XP:=DX hb7;have SP:=DX (NO.out.trans KD);have TO:=DX (aBb.out.kept KD);have HH7:=DX (HH6.out.kept KD);clear RW KD hb7 MO aBb HH6 NO hpo KU YU;go_wp2_with fail;go_loopw [14] (fun i wx=>∃ k:Nat,k<=10/\i=.int .i64 k/\eH w7 pv (Bl.rounds m v0 k) wx) (fun i _=>10 - (intOf i).toNat)
          case atStart=>exact ⟨0,aE,rfl,OW.out⟩
          case round =>
           obtain ⟨k,hk,rfl,hv⟩:=hrel;have IS:=DX hv;clear hv
           by_cases FV:k<10
           . as_aux_lemma =>
              have HOk:=DX (aU XP.out IS.out.grown aE);have HBk:=DX (aU TO.out IS.out.grown aE)
              go_wp2_with (first
               | (with_reducible refine aZ rfl 146 rfl yM BW ?_)
               | (refine dE rfl 146 (.tmp 81) rfl ⟨po,k*16,none⟩ rfl (gX k) _ (Bi HOk.out FV) Tryz.underlying146 rfl (by rw [gZ k FV];exact BN) ?_)
               | (refine aD rfl 146 (.tmp 15) (.tmp 82) rfl wr.heap.size (gX k) yM 146 rfl rfl (EY _ _ _) (by rw [gZ k FV];exact BN) (by rw [gZ k FV,yM,Array.size_replicate]) (yW k) ?_))
              obtain ⟨wb,TH⟩:∃ wb,wb=(wr.alloc (.cells yM 146)).setRow wr.heap.size (gX k):=⟨_,rfl⟩
              rw [<- TH]
              have OA:aB wr wb:=by rw [TH];exact ((EX wr).alloc _).setRow (EA _) _
              have LF:aA wb wr.heap.size (gX k) 146:=by rw [TH];exact (EY wr _ _).setRow _
              have XE:po<wr.heap.size:=HOk.out.lt
              obtain ⟨pr,SJ⟩:∃ pr,pr=wr.heap.size:=⟨_,rfl⟩
              rw [<- SJ] at LF XE ⊢
              obtain ⟨x0,SL⟩:∃ x0,x0=Bl.rounds m v0 k:=⟨_,rfl⟩
              have HX0:=DX SL;have hg7:=bE IS.out.grown (bN OA (some pv));have KU:=eH.here (IS.out.row.kept OA) IS.out.ok;rw [<- SL] at KU;have NA:=DX KU;have WA:=DX LF;have VN:=DX (HBk.out.kept OA);have HG7:=DX hg7;clear TH OA LF SJ SL hg7 KU HOk HBk;simp only [dO,Act.put];have hr0:=aU WA.out NA.out.grown aE;have NE:=aU VN.out NA.out.grown aE;have c1:=hr0.cell 0;rw [cL k 0 FV aE] at c1;have c2:=hr0.cell 1;rw [cL k 1 FV aE] at c2;have c3:=NE.cell ((Bl.orders.getD k []).getD 0 0);rw [cR m _ (by rw [NQ.out.len];exact Bl.order_lt k 0)] at c3;have c4:=NE.cell ((Bl.orders.getD k []).getD 1 0);rw [cR m _ (by rw [NQ.out.len];exact Bl.order_lt k 1)] at c4;have l1:=Bl.order_lt k 0;have l2:=Bl.order_lt k 1;clear hr0 NE
              obtain ⟨x1,GV⟩:∃ y,y=jJ m (Bl.orders.getD k []) x0 0 4 8 12 0 1:=⟨_,rfl⟩
              have HX1:=DX GV;have VJ:=GV;rw [jJ] at VJ;clear GV;have HC:=DX (fun nq=>fE pv x0 0 4 8 12 (m.getD ((Bl.orders.getD k []).getD 0 0) 0) (m.getD ((Bl.orders.getD k []).getD 1 0) 0) aF aF aF aF (wb.drewN nq) (eH.here (NA.out.row.kept ((EX _).drewN nq)) NA.out.ok));rw [<- VJ] at HC;clear VJ;generalize m.getD ((Bl.orders.getD k []).getD 0 0) 0=p1 at *;generalize m.getD ((Bl.orders.getD k []).getD 1 0) 0=p2 at *
              generalize (Bl.orders.getD k []).getD 0 0=q1 at *
              generalize (Bl.orders.getD k []).getD 1 0=q2 at *
              go_wp2_with fail
              refine (wpIn_wide (n:=0)).1 ?_
              refine wpIn_region_quiet_tail_lit 8 aW aW aW ?_
              simp only [List.take_succ_cons,List.take_zero,List.drop_succ_cons,List.drop_zero]
              repeat (gi_big_quiet_step (fail))
              refine wpQuietIn_nil ?_
              intro _ GD;obtain ⟨nq,FT⟩:=GD;subst FT;gi_wp2_with fail;refine callsIn_wide.2 ((HC.out nq).mono ?_);rintro e w10 ⟨rfl,hw⟩;have OX:=DX (eH.trans (bE NA.out.grown (bN ((EX _).drewN nq) _)) hw);clear hw HC c1 c2 c3 c4 l1 l2 NA;gi_wp2;have ZP:=aU WA.out OX.out.grown aE;have TE:=aU VN.out OX.out.grown aE;have c1:=ZP.cell 2;rw [cL k 2 FV aE] at c1;have c2:=ZP.cell 3;rw [cL k 3 FV aE] at c2;have c3:=TE.cell ((Bl.orders.getD k []).getD 2 0);rw [cR m _ (by rw [NQ.out.len];exact Bl.order_lt k 2)] at c3;have c4:=TE.cell ((Bl.orders.getD k []).getD 3 0);rw [cR m _ (by rw [NQ.out.len];exact Bl.order_lt k 3)] at c4;have l1:=Bl.order_lt k 2;have l2:=Bl.order_lt k 3;clear ZP TE
              obtain ⟨x2,GJ⟩:∃ y,y=jJ m (Bl.orders.getD k []) x1 1 5 9 13 2 3:=⟨_,rfl⟩
              have HX2:=DX GJ;have MW:=GJ;rw [jJ] at MW;clear GJ;have HC:=DX (fun nq=>fE pv x1 1 5 9 13 (m.getD ((Bl.orders.getD k []).getD 2 0) 0) (m.getD ((Bl.orders.getD k []).getD 3 0) 0) aF aF aF aF (w10.drewN nq) (eH.here (OX.out.row.kept ((EX _).drewN nq)) OX.out.ok));rw [<- MW] at HC;clear MW;generalize m.getD ((Bl.orders.getD k []).getD 2 0) 0=p1 at *;generalize m.getD ((Bl.orders.getD k []).getD 3 0) 0=p2 at *
              generalize (Bl.orders.getD k []).getD 2 0=q1 at *
              generalize (Bl.orders.getD k []).getD 3 0=q2 at *
              go_wp2_with fail
              refine (wpIn_wide (n:=0)).1 ?_
              refine wpIn_region_quiet_tail_lit 8 aW aW aW ?_
              simp only [List.take_succ_cons,List.take_zero,List.drop_succ_cons,List.drop_zero]
              repeat (gi_big_quiet_step (fail))
              refine wpQuietIn_nil ?_
              intro _ GD;obtain ⟨nq,FT⟩:=GD;subst FT;gi_wp2_with fail;refine callsIn_wide.2 ((HC.out nq).mono ?_);rintro e w11 ⟨rfl,hw⟩;have OY:=DX (eH.trans (bE OX.out.grown (bN ((EX _).drewN nq) _)) hw);clear hw HC c1 c2 c3 c4 l1 l2 OX;gi_wp2;have hr2:=aU WA.out OY.out.grown aE;have PJ:=aU VN.out OY.out.grown aE;have c1:=hr2.cell 4;rw [cL k 4 FV aE] at c1;have c2:=hr2.cell 5;rw [cL k 5 FV aE] at c2;have c3:=PJ.cell ((Bl.orders.getD k []).getD 4 0);rw [cR m _ (by rw [NQ.out.len];exact Bl.order_lt k 4)] at c3;have c4:=PJ.cell ((Bl.orders.getD k []).getD 5 0);rw [cR m _ (by rw [NQ.out.len];exact Bl.order_lt k 5)] at c4;have l1:=Bl.order_lt k 4;have l2:=Bl.order_lt k 5;clear hr2 PJ
              obtain ⟨x3,GO⟩:∃ y,y=jJ m (Bl.orders.getD k []) x2 2 6 10 14 4 5:=⟨_,rfl⟩
              have TZ:=DX GO;have hy2:=GO;rw [jJ] at hy2;clear GO;have HC:=DX (fun nq=>fE pv x2 2 6 10 14 (m.getD ((Bl.orders.getD k []).getD 4 0) 0) (m.getD ((Bl.orders.getD k []).getD 5 0) 0) aF aF aF aF (w11.drewN nq) (eH.here (OY.out.row.kept ((EX _).drewN nq)) OY.out.ok));rw [<- hy2] at HC;clear hy2;generalize m.getD ((Bl.orders.getD k []).getD 4 0) 0=p1 at *;generalize m.getD ((Bl.orders.getD k []).getD 5 0) 0=p2 at *
              generalize (Bl.orders.getD k []).getD 4 0=q1 at *
              generalize (Bl.orders.getD k []).getD 5 0=q2 at *
              go_wp2_with fail
              refine (wpIn_wide (n:=0)).1 ?_
              refine wpIn_region_quiet_tail_lit 8 aW aW aW ?_
              simp only [List.take_succ_cons,List.take_zero,List.drop_succ_cons,List.drop_zero]
              repeat (gi_big_quiet_step (fail))
              refine wpQuietIn_nil ?_
              intro _ GD;obtain ⟨nq,FT⟩:=GD;subst FT;gi_wp2_with fail;refine callsIn_wide.2 ((HC.out nq).mono ?_);rintro e w12 ⟨rfl,hw⟩;have TY:=DX (eH.trans (bE OY.out.grown (bN ((EX _).drewN nq) _)) hw);clear hw HC c1 c2 c3 c4 l1 l2 OY;gi_wp2;have WO:=aU WA.out TY.out.grown aE;have ZL:=aU VN.out TY.out.grown aE;have c1:=WO.cell 6;rw [cL k 6 FV aE] at c1;have c2:=WO.cell 7;rw [cL k 7 FV aE] at c2;have c3:=ZL.cell ((Bl.orders.getD k []).getD 6 0);rw [cR m _ (by rw [NQ.out.len];exact Bl.order_lt k 6)] at c3;have c4:=ZL.cell ((Bl.orders.getD k []).getD 7 0);rw [cR m _ (by rw [NQ.out.len];exact Bl.order_lt k 7)] at c4;exact MX1
           . exact MX9
       . as_aux_lemma =>
          have hsg:IntKind.u32.signed=false:=rfl;have HKP:=DX (KX.out.kept IQ.out (by have:=OL.out;omega))
          have hgl:g<pv:=by omega
          clear RX;have c12:=KX.out.cell 12 aE;have c13:=KX.out.cell 13 aE;have f12:=KX.out.free 12;have f13:=KX.out.free 13;have u12:=KX.out.ok.at 12;have u13:=KX.out.ok.at 13;have e1:=Pm n;have VB:n / 4294967296 % 4294967296=n / 4294967296:=Nat.mod_eq_of_lt aE;have e3:=wM _ (n % 4294967296) u12 (Nat.mod_lt _ aF)
          have e4:bits .xor .u32 ((h++Bl.begins).getD 13 0:Nat) ((n:Int) / 4294967296)=(((h++Bl.begins).getD 13 0 ^^^ n / 4294967296 % 4294967296:Nat):Int):=by
           exact Kl
          clear VB;have c14:=KX.out.cell 14 aE;have f14:=KX.out.free 14;have e5:=Qm _ (KX.out.ok.at 14)
          have GL:=(KX.out.put0 12 (Bl.xor_lt u12 (Nat.mod_lt n aF))).put0 13 (Bl.xor_lt u13 (Nat.mod_lt (n / 4294967296) aF))
          have GL:=GL.put0 14 (Bl.inv_lt ((h++Bl.begins).getD 14 0));rw [qS h n] at GL;have IN:=DX GL;clear GL u12 u13
          generalize (h++Bl.begins).getD 12 0 ^^^ n % 4294967296=y12 at *
          generalize (h++Bl.begins).getD 13 0 ^^^ n / 4294967296 % 4294967296=y13 at *
          generalize Bl.inv ((h++Bl.begins).getD 14 0)=y14 at *
          generalize (h++Bl.begins).getD 14 0=y14a at *
          generalize (h++Bl.begins).getD 12 0=y12a at *
          generalize (h++Bl.begins).getD 13 0=y13a at *
          generalize n % 4294967296=n1 at *;go_wp2_with fail
          refine (wN _).mono ?_
          rintro e w6 ⟨rfl,JD⟩;have MO:=DX (IN.out.on JD);clear JD IN KX c12 c13 f12 f13 e1 e3 e4 c14 f14 e5;have aBb:=DX (aU TN.out MO.out.grown aE);have HH6:=DX (aU HH5.out MO.out.grown aE);have NO:=DX (MO.out.kept IQ.out (by have:=OL.out;omega));clear TN HH5 IQ HKP hsg
          go_wp2_with (first
           | (with_reducible refine aZ rfl 147 rfl pI BQ ?_)
           | (refine aD rfl 147 (.tmp 13) (.tmp 75) rfl w6.heap.size mG pI 147 rfl rfl (EY _ _ _) (by rw [iF];exact BO) (by rw [iF,pI,Array.size_replicate]) tW ?_))
          obtain ⟨w7,RW⟩:∃ w7,w7=(w6.alloc (.cells pI 147)).setRow w6.heap.size mG:=⟨_,rfl⟩
          rw [<- RW]
          have KD:aB w6 w7:=by rw [RW];exact ((EX w6).alloc _).setRow (EA _) _
          have hb7:aA w7 w6.heap.size mG 147:=by rw [RW];exact (EY w6 _ _).setRow _
          have UN:pv<w6.heap.size:=MO.out.row.lt
          obtain ⟨po,hpo⟩:∃ po,po=w6.heap.size:=⟨_,rfl⟩
          rw [<- hpo] at hb7 UN ⊢
          obtain ⟨v0,KU⟩:∃ v0,v0=Bl.start h n true:=⟨_,rfl⟩
          have QD:=DX KU;have YU:=eH.here (MO.out.row.kept KD) MO.out.ok;rw [<- KU] at YU;have OW:=DX YU;have XP:=DX hb7;have SP:=DX (NO.out.trans KD);have TO:=DX (aBb.out.kept KD);have HH7:=DX (HH6.out.kept KD);clear RW KD hb7 MO aBb HH6 NO hpo KU YU;go_wp2_with fail;go_loopw [14] (fun i wx=>∃ k:Nat,k<=10/\i=.int .i64 k/\eH w7 pv (Bl.rounds m v0 k) wx) (fun i _=>10 - (intOf i).toNat)
          case atStart=>exact ⟨0,aE,rfl,OW.out⟩
          case round =>
           obtain ⟨k,hk,rfl,hv⟩:=hrel;have IS:=DX hv;clear hv
           by_cases FV:k<10
           . as_aux_lemma =>
              have HOk:=DX (aU XP.out IS.out.grown aE);have HBk:=DX (aU TO.out IS.out.grown aE)
              go_wp2_with (first
               | (with_reducible refine aZ rfl 146 rfl yM BW ?_)
               | (refine dE rfl 146 (.tmp 81) rfl ⟨po,k*16,none⟩ rfl (gX k) _ (Bi HOk.out FV) Tryz.underlying146 rfl (by rw [gZ k FV];exact BN) ?_)
               | (refine aD rfl 146 (.tmp 15) (.tmp 82) rfl wr.heap.size (gX k) yM 146 rfl rfl (EY _ _ _) (by rw [gZ k FV];exact BN) (by rw [gZ k FV,yM,Array.size_replicate]) (yW k) ?_))
              obtain ⟨wb,TH⟩:∃ wb,wb=(wr.alloc (.cells yM 146)).setRow wr.heap.size (gX k):=⟨_,rfl⟩
              rw [<- TH]
              have OA:aB wr wb:=by rw [TH];exact ((EX wr).alloc _).setRow (EA _) _
              have LF:aA wb wr.heap.size (gX k) 146:=by rw [TH];exact (EY wr _ _).setRow _
              have XE:po<wr.heap.size:=HOk.out.lt
              obtain ⟨pr,SJ⟩:∃ pr,pr=wr.heap.size:=⟨_,rfl⟩
              rw [<- SJ] at LF XE ⊢
              obtain ⟨x0,SL⟩:∃ x0,x0=Bl.rounds m v0 k:=⟨_,rfl⟩
              have HX0:=DX SL;have hg7:=bE IS.out.grown (bN OA (some pv));have KU:=eH.here (IS.out.row.kept OA) IS.out.ok;rw [<- SL] at KU;have NA:=DX KU;have WA:=DX LF;have VN:=DX (HBk.out.kept OA);have HG7:=DX hg7;clear TH OA LF SJ SL hg7 KU HOk HBk;simp only [dO,Act.put];have hr0:=aU WA.out NA.out.grown aE;have NE:=aU VN.out NA.out.grown aE;have c1:=hr0.cell 0;rw [cL k 0 FV aE] at c1;have c2:=hr0.cell 1;rw [cL k 1 FV aE] at c2;have c3:=NE.cell ((Bl.orders.getD k []).getD 0 0);rw [cR m _ (by rw [NQ.out.len];exact Bl.order_lt k 0)] at c3;have c4:=NE.cell ((Bl.orders.getD k []).getD 1 0);rw [cR m _ (by rw [NQ.out.len];exact Bl.order_lt k 1)] at c4;have l1:=Bl.order_lt k 0;have l2:=Bl.order_lt k 1;clear hr0 NE
              obtain ⟨x1,GV⟩:∃ y,y=jJ m (Bl.orders.getD k []) x0 0 4 8 12 0 1:=⟨_,rfl⟩
              have HX1:=DX GV;have VJ:=GV;rw [jJ] at VJ;clear GV;have HC:=DX (fun nq=>fE pv x0 0 4 8 12 (m.getD ((Bl.orders.getD k []).getD 0 0) 0) (m.getD ((Bl.orders.getD k []).getD 1 0) 0) aF aF aF aF (wb.drewN nq) (eH.here (NA.out.row.kept ((EX _).drewN nq)) NA.out.ok));rw [<- VJ] at HC;clear VJ;generalize m.getD ((Bl.orders.getD k []).getD 0 0) 0=p1 at *;generalize m.getD ((Bl.orders.getD k []).getD 1 0) 0=p2 at *
              generalize (Bl.orders.getD k []).getD 0 0=q1 at *
              generalize (Bl.orders.getD k []).getD 1 0=q2 at *
              go_wp2_with fail
              refine (wpIn_wide (n:=0)).1 ?_
              refine wpIn_region_quiet_tail_lit 8 aW aW aW ?_
              simp only [List.take_succ_cons,List.take_zero,List.drop_succ_cons,List.drop_zero]
              repeat (gi_big_quiet_step (fail))
              refine wpQuietIn_nil ?_
              intro _ GD;obtain ⟨nq,FT⟩:=GD;subst FT;gi_wp2_with fail;refine callsIn_wide.2 ((HC.out nq).mono ?_);rintro e w10 ⟨rfl,hw⟩;have OX:=DX (eH.trans (bE NA.out.grown (bN ((EX _).drewN nq) _)) hw);clear hw HC c1 c2 c3 c4 l1 l2 NA;gi_wp2;have ZP:=aU WA.out OX.out.grown aE;have TE:=aU VN.out OX.out.grown aE;have c1:=ZP.cell 2;rw [cL k 2 FV aE] at c1;have c2:=ZP.cell 3;rw [cL k 3 FV aE] at c2;have c3:=TE.cell ((Bl.orders.getD k []).getD 2 0);rw [cR m _ (by rw [NQ.out.len];exact Bl.order_lt k 2)] at c3;have c4:=TE.cell ((Bl.orders.getD k []).getD 3 0);rw [cR m _ (by rw [NQ.out.len];exact Bl.order_lt k 3)] at c4;have l1:=Bl.order_lt k 2;have l2:=Bl.order_lt k 3;clear ZP TE
              obtain ⟨x2,GJ⟩:∃ y,y=jJ m (Bl.orders.getD k []) x1 1 5 9 13 2 3:=⟨_,rfl⟩
              have HX2:=DX GJ;have MW:=GJ;rw [jJ] at MW;clear GJ;have HC:=DX (fun nq=>fE pv x1 1 5 9 13 (m.getD ((Bl.orders.getD k []).getD 2 0) 0) (m.getD ((Bl.orders.getD k []).getD 3 0) 0) aF aF aF aF (w10.drewN nq) (eH.here (OX.out.row.kept ((EX _).drewN nq)) OX.out.ok));rw [<- MW] at HC;clear MW;generalize m.getD ((Bl.orders.getD k []).getD 2 0) 0=p1 at *;generalize m.getD ((Bl.orders.getD k []).getD 3 0) 0=p2 at *
              generalize (Bl.orders.getD k []).getD 2 0=q1 at *
              generalize (Bl.orders.getD k []).getD 3 0=q2 at *
              go_wp2_with fail
              refine (wpIn_wide (n:=0)).1 ?_
              refine wpIn_region_quiet_tail_lit 8 aW aW aW ?_
              simp only [List.take_succ_cons,List.take_zero,List.drop_succ_cons,List.drop_zero]
              repeat (gi_big_quiet_step (fail))
              refine wpQuietIn_nil ?_
              intro _ GD;obtain ⟨nq,FT⟩:=GD;subst FT;gi_wp2_with fail;refine callsIn_wide.2 ((HC.out nq).mono ?_);rintro e w11 ⟨rfl,hw⟩;have OY:=DX (eH.trans (bE OX.out.grown (bN ((EX _).drewN nq) _)) hw);clear hw HC c1 c2 c3 c4 l1 l2 OX;gi_wp2;have hr2:=aU WA.out OY.out.grown aE;have PJ:=aU VN.out OY.out.grown aE;have c1:=hr2.cell 4;rw [cL k 4 FV aE] at c1;have c2:=hr2.cell 5;rw [cL k 5 FV aE] at c2;have c3:=PJ.cell ((Bl.orders.getD k []).getD 4 0);rw [cR m _ (by rw [NQ.out.len];exact Bl.order_lt k 4)] at c3;have c4:=PJ.cell ((Bl.orders.getD k []).getD 5 0);rw [cR m _ (by rw [NQ.out.len];exact Bl.order_lt k 5)] at c4;have l1:=Bl.order_lt k 4;have l2:=Bl.order_lt k 5;clear hr2 PJ
              obtain ⟨x3,GO⟩:∃ y,y=jJ m (Bl.orders.getD k []) x2 2 6 10 14 4 5:=⟨_,rfl⟩
              have TZ:=DX GO;have hy2:=GO;rw [jJ] at hy2;clear GO;have HC:=DX (fun nq=>fE pv x2 2 6 10 14 (m.getD ((Bl.orders.getD k []).getD 4 0) 0) (m.getD ((Bl.orders.getD k []).getD 5 0) 0) aF aF aF aF (w11.drewN nq) (eH.here (OY.out.row.kept ((EX _).drewN nq)) OY.out.ok));rw [<- hy2] at HC;clear hy2;generalize m.getD ((Bl.orders.getD k []).getD 4 0) 0=p1 at *;generalize m.getD ((Bl.orders.getD k []).getD 5 0) 0=p2 at *
              generalize (Bl.orders.getD k []).getD 4 0=q1 at *
              generalize (Bl.orders.getD k []).getD 5 0=q2 at *
              go_wp2_with fail
              refine (wpIn_wide (n:=0)).1 ?_
              refine wpIn_region_quiet_tail_lit 8 aW aW aW ?_
              simp only [List.take_succ_cons,List.take_zero,List.drop_succ_cons,List.drop_zero]
              repeat (gi_big_quiet_step (fail))
              refine wpQuietIn_nil ?_
              intro _ GD;obtain ⟨nq,FT⟩:=GD;subst FT;gi_wp2_with fail;refine callsIn_wide.2 ((HC.out nq).mono ?_);rintro e w12 ⟨rfl,hw⟩;have TY:=DX (eH.trans (bE OY.out.grown (bN ((EX _).drewN nq) _)) hw);clear hw HC c1 c2 c3 c4 l1 l2 OY;gi_wp2;have WO:=aU WA.out TY.out.grown aE;have ZL:=aU VN.out TY.out.grown aE;have c1:=WO.cell 6;rw [cL k 6 FV aE] at c1;have c2:=WO.cell 7;rw [cL k 7 FV aE] at c2;have c3:=ZL.cell ((Bl.orders.getD k []).getD 6 0);rw [cR m _ (by rw [NQ.out.len];exact Bl.order_lt k 6)] at c3;have c4:=ZL.cell ((Bl.orders.getD k []).getD 7 0);rw [cR m _ (by rw [NQ.out.len];exact Bl.order_lt k 7)] at c4;exact MX1
           . exact MX9
end Go.Proofs.YtkfmladhicapeaaGreatDoor
