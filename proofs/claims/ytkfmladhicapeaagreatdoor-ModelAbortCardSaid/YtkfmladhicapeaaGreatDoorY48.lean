import Derived.Test.YtkfmladhicapeaaGreatDoorY47
set_option maxRecDepth 100000
set_option maxHeartbeats 4000000
namespace Go.Proofs.YtkfmladhicapeaaGreatDoor
open Go.RowKit Go.Shelf
attribute [local go_sem] Oper.semAt_some
def FQ (qs:List fV):Prop:=∀ x∈qs,x.name.size<=140737488351232/\x.d.size<=140737488351232/\x.t.size<=140737488351232
theorem FQ.snoc {qs:List fV} (h:FQ qs) {x:fV} (hx:x.name.size<=140737488351232/\x.d.size<=140737488351232/\x.t.size<=140737488351232):FQ (qs++[x]):=fun y hy=>by
 rcases List.mem_append.1 hy with h1 | h1
 . exact h y h1
 . cases List.mem_singleton.1 h1;exact hx
theorem FO (qs:List fV) (x:fV):(qs++[x]).flatMap opC=qs.flatMap opC++opC x:=by simp [List.flatMap_append]
theorem kinds_of {W:World} {b:Nat} {C:Array Value} {t:TypeId} (h:aA W b C t) (n:Nat) (hC:∀ i,i<n->∃ x:Int,C[i]?=some (.int .i64 x)):∀ i,i<n->∃ x:Int,∀ w9,aB W w9->w9.cell? ⟨b,i,none⟩=some (.int .i64 x):=fun i hi=>by
 obtain ⟨x,hx⟩:=hC i hi;exact ⟨x,fun w9 k=>by rw [(h.kept k).cell];exact hx⟩
theorem FP (aT aG aS aO:Option Addr) (cT cG cS cO:Nat) (ts:List Th) (gs:List Tg) (ss:List Se) (nx:Int) (os:List fV) (bk n:Nat) (hn:0<n) (wo:World) (hO:iG wo aO os.length os) (hMD:∀ (a:Option Addr) (c:Nat) (qs:List fV) (w9:World),aB wo w9->iG w9 a qs.length qs->Calls Tryz.prog 3 #[.agg (L5 aT ts.length cT aG gs.length cG aS ss.length cS nx a qs.length c)] w9 fun e w'=>e=.returned (.bool true)/\aB w9 w') (hks:∀ i,i<n->∃ x:Int,∀ w9,aB wo w9->w9.cell? ⟨bk,i,none⟩=some (.int .i64 x)) :
 Calls Tryz.prog 32 #[.agg (L5 aT ts.length cT aG gs.length cG aS ss.length cS nx aO os.length cO),.slice (some ⟨bk,0,none⟩) n n] wo fun e w'=>e=.returned (.bool true)/\aB wo w':=by
 have VQ:=DX hMD;have OK:=DX hO;have HKS:=DX hks;clear hMD hO hks;have HB:=DX (EY wo (L5 aT ts.length cT aG gs.length cG aS ss.length cS nx aO os.length cO) 29);have HK:=DX ((EX wo).alloc (.cells (L5 aT ts.length cT aG gs.length cG aS ss.length cS nx aO os.length cO) 29));have HS1:=DX (show (wo.alloc (.cells (L5 aT ts.length cT aG gs.length cG aS ss.length cS nx aO os.length cO) 29)).heap.size=wo.heap.size+1 by simp [World.size_alloc]);go_enter Tryz.func32,Tryz.ntmps32
 go_upto_region 1 with (fail)
 generalize wo.alloc (.cells (L5 aT ts.length cT aG gs.length cG aS ss.length cS nx aO os.length cO) 29)=w1 at *;obtain ⟨r0,r1,r2,r3,r4⟩:=vD HB.out
 go_upto_region 2 with (fail)
 have ka:=(EX w1).alloc (.cells (L5 aT ts.length cT aG gs.length cG aS ss.length cS nx none 0 0) 29)
 have HP:=DX (EY w1 (L5 aT ts.length cT aG gs.length cG aS ss.length cS nx none 0 0) 29);have FW:=DX (HK.out.trans ka);have GP:=DX (HB.out.kept ka);clear ka HB HK r0 r1 r2 r3 r4;have HS2:=DX (show (w1.alloc (.cells (L5 aT ts.length cT aG gs.length cG aS ss.length cS nx none 0 0) 29)).heap.size=w1.heap.size+1 by simp [World.size_alloc]);generalize w1.alloc (.cells (L5 aT ts.length cT aG gs.length cG aS ss.length cS nx none 0 0) 29)=w2 at *
 obtain ⟨p,hp⟩:∃ p,p=w1.heap.size:=⟨_,rfl⟩
 generalize w1.heap.size=p at *
 have hpo:wo.heap.size<p:=by have:=HS1.out;omega
 have PK:p<w2.heap.size:=by have:=HS2.out;omega
 clear HS1 HS2
 go_upto_region 3 with (fail)
 have HPO:=DX hpo;have ZB:=DX PK;clear hpo PK;have aAz:os.length<=1759218604441:=OK.out.le;go_loopw [6] (fun kv wr=>∃ (k:Nat) (a:Option Addr) (c:Nat) (qs:List fV),k<=os.length/\kv=.int .i64 k/\Hid (qs.length=k)/\Hid (FQ qs)/\Hid (aA wr p (L5 aT ts.length cT aG gs.length cG aS ss.length cS nx a k c) 29)/\Hid (wr.ownsRow w2.heap.size 35 7 (.slice a k c) k (qs.flatMap opC))/\Hid (aB wo wr)/\Hid (aA wr wo.heap.size (L5 aT ts.length cT aG gs.length cG aS ss.length cS nx aO os.length cO) 29)/\Hid (w2.heap.size<=wr.heap.size)) (fun kv _=>os.length - (intOf kv).toNat)
 case atStart=>exact ⟨0,none,0,[],aE,rfl,DX rfl,DX (fun x hx=>by cases hx),HP,DX (jU _ _ _ _),FW,GP,DX (EA _)⟩
 case round =>
  clear HP FW GP
  rename World=>wr
  obtain ⟨k,a,c,qs,hk,rfl,HL,HQ,HP,KV,IA,HBR,MZ⟩:=hrel;obtain ⟨r0,r1,r2,r3,r4⟩:=vD HBR.out;obtain ⟨s0,s1,s2,s3,s4⟩:=vD HP.out
  by_cases IE:k<os.length
  . have GU:decide (k<os.length)=true:=DZ IE
    have KG:decide ((k:Int)<(os.length:Int))=true:=DZ aE;have HZ:=DX (OK.out.size k IE);obtain ⟨bo,of,rfl,JC⟩:=OK.out.at aE;obtain ⟨c0,c1,c2,c3,c4,c5,c6⟩:=JC k IE wr IA.out;clear JC;generalize os.getD k jA=o at *;obtain ⟨ok,oi,on,om,GE,od,ot⟩:=o;dsimp only at c0 c1 c2 c3 c4 c5 c6
    obtain ⟨m,hm⟩:∃ m,m=k % n:=⟨_,rfl⟩
    have ZM:m<n:=by rw [hm];exact Nat.mod_lt _ hn
    have e1:(k:Int) % (n:Int)=(m:Int):=by rw [hm];simp
    have e1t:(k:Int).tmod (n:Int)=(m:Int):=by rw [Int.tmod_eq_emod_of_nonneg aE];exact e1
    have hl1:((n:Int) == 0)=false:=by rw [beq_eq_false_iff_ne];omega
    obtain ⟨kd,hkd⟩:=HKS.out m ZM;have d0:=hkd wr IA.out;have d1:=hkd (wr.alloc ((KO ok oi on om GE od ot))) (IA.out.alloc _);clear hkd hm
    go_upto_region 7 with (fail)
    clear e1 e1t hl1 d0 d1;have hn5:=EY wr (LO kd oi on om GE od ot) 35
    have GZ:=(EX wr).alloc ((KO kd oi on om GE od ot))
    have HN:=DX (show aA _ _ (LO kd oi on om GE od ot) _ from hn5);have HOx:=DX (aH KV.out GZ);have HPx:=DX (HP.out.kept GZ);have HBx:=DX (HBR.out.kept GZ);have HKx:=DX (IA.out.trans GZ);have HSx:=DX (EF MZ.out GZ.size);clear hn5 GZ r0 r1 r2 r3 r4 s0 s1 s2 s3 s4 c0 c1 c2 c3 c4 c5 c6 KV HP HBR IA MZ;generalize wr.alloc ((KO kd oi on om GE od ot))=w5 at *;generalize wr.heap.size=pn at *;obtain ⟨s0,s1,s2,s3,s4⟩:=vD HPx.out;obtain ⟨n0,n1,n2,n3,n4,n5,n6⟩:=cX HN.out;obtain ⟨i0,IY⟩:=info_op Tryz.prog DE;have HI:=DX IY;clear IY;go_wp2_with (at_builtin;refine wpList_append_own_at _ rfl _ _ 27 rfl w2.heap.size 35 i0 (.agg (LO 0 0 0 0 ByteArray.empty ByteArray.empty ByteArray.empty)) 7 80 Tryz.underlying27 HI.out.1 HI.out.2.1 HI.out.2.2.1 HI.out.2.2.2 rfl aF _ _ _ rfl (aH HOx.out ((EX w5).alloc _)) ⟨w5.heap.size,0,none⟩ 1 1 (opC ⟨kd,oi,on,om,GE,od,ot⟩) rfl rfl ?c1 ?c2 ?c3 ?c4 ?c5 ?_)
    case c1=>exact fun j u h=>h
    case c2=>exact fun u hu=>opC_one [⟨kd,oi,on,om,GE,od,ot⟩] u (by simpa using hu)
    case c3=>unfold maxLen;omega
    case c4=>omega
    case c5=>have:=HSx.out;simp;omega
    intro v9 w9 FU IB _ _;obtain ⟨a9,c9,rfl⟩:=aP FU
    have NW:∀ g,(Value.slice a k c).ownBlock=some g->w2.heap.size<=g:=fun g e=>((aH HOx.out ((EX w5).alloc ((KO kd oi on om GE od ot)))).lt g e).1
    have GW:some p≠(Value.slice a k c).ownBlock:=fun e=>by have:=NW p e.symm;have:=ZB.out;omega
    have SI:some wo.heap.size≠(Value.slice a k c).ownBlock:=fun e=>by have:=NW wo.heap.size e.symm;have:=ZB.out;have:=HPO.out;omega
    have HP9:=DX ((HPx.out.kept ((EX w5).alloc ((KO kd oi on om GE od ot)))).gr IB GW);have HB9:=DX ((HBx.out.kept ((EX w5).alloc ((KO kd oi on om GE od ot)))).gr IB SI);have JQ:=DX (cD (HKx.out.alloc ((KO kd oi on om GE od ot))) IB (fun g e=>by have:=NW g e;have:=ZB.out;have:=HPO.out;omega) (EA _));have XQ:=DX FU;have HS9:=DX (show w2.heap.size<=w9.heap.size from EF (EF HSx.out ((EX w5).alloc ((KO kd oi on om GE od ot))).size) IB.size);clear NW GW SI FU IB s0 s1 s2 s3 s4 n0 n1 n2 n3 n4 n5 n6;obtain ⟨s0,s1,s2,s3,s4⟩:=vD HP9.out;have f4:=HP9.out.free 4;go_wp2_with fail;go_roundw
    case rel=>exact ⟨k+1,a9,c9,qs++[⟨kd,oi,on,om,GE,od,ot⟩],aE,by go_num,DX (by rw [List.length_append,HL.out];rfl),DX (HQ.out.snoc HZ.out),DX (HP9.out.set (i:=4) (.slice a9 (k+1) c9)),DX (by rw [FO];exact bI XQ.out HP9.out aF (iE _ _ _ _)),DX (JQ.out.setCell (Nat.le_of_lt HPO.out) _),DX (HB9.out.setOther _ (by have:=HPO.out;omega)),DX (by simpa using HS9.out)⟩
    case measure=>simp [intOf];omega
  . obtain rfl:k=os.length:=by omega
    have GU:decide (os.length<os.length)=false:=DY aE;have KG:decide ((os.length:Int)<(os.length:Int))=false:=DY aE;have HLE:=DX HL.out;have FU:=KV.out;have hl:=HL.out;obtain ⟨_,_,hv,hQ⟩:=op_own FU hl OK.out.le HQ.out;cases hv;have HC:=DX (VQ.out a c qs wr IA.out (by rw [hl];exact hQ));clear FU hQ VQ;rw [hl] at HC;clear hl HLE;go_wp2_with fail
    refine HC.out.mono ?_
    rintro e w4 ⟨rfl,IV⟩;have GQ:=DX (IA.out.trans IV);clear IV;go_wp2_with fail;go_ret;exact ⟨rfl,GQ.out⟩
theorem each_walk (aT aG aS aO:Option Addr) (cT cG cS cO:Nat) (ts:List Th) (gs:List Tg) (ss:List Se) (nx:Int) (os:List fV) (kd:Int) (wo:World) (hO:iG wo aO os.length os) (hMD:∀ (a:Option Addr) (c:Nat) (qs:List fV) (w9:World),aB wo w9->iG w9 a qs.length qs->Calls Tryz.prog 3 #[.agg (L5 aT ts.length cT aG gs.length cG aS ss.length cS nx a qs.length c)] w9 fun e w'=>e=.returned (.bool true)/\aB w9 w') :
 Calls Tryz.prog 36 #[.agg (L5 aT ts.length cT aG gs.length cG aS ss.length cS nx aO os.length cO),.int .i64 kd] wo fun e w'=>e=.returned (.bool true)/\aB wo w':=by
 have VQ:=DX hMD;have OK:=DX hO;clear hMD hO;have HB:=DX (EY wo (L5 aT ts.length cT aG gs.length cG aS ss.length cS nx aO os.length cO) 29);have HK:=DX ((EX wo).alloc (.cells (L5 aT ts.length cT aG gs.length cG aS ss.length cS nx aO os.length cO) 29));have HS1:=DX (show (wo.alloc (.cells (L5 aT ts.length cT aG gs.length cG aS ss.length cS nx aO os.length cO) 29)).heap.size=wo.heap.size+1 by simp [World.size_alloc]);go_enter Tryz.func36,Tryz.ntmps36
 go_upto_region 1 with (fail)
 generalize wo.alloc (.cells (L5 aT ts.length cT aG gs.length cG aS ss.length cS nx aO os.length cO) 29)=w1 at *;obtain ⟨r0,r1,r2,r3,r4⟩:=vD HB.out
 go_upto_region 2 with (fail)
 have ka:=(EX w1).alloc (.cells (L5 aT ts.length cT aG gs.length cG aS ss.length cS nx none 0 0) 29)
 have HP:=DX (EY w1 (L5 aT ts.length cT aG gs.length cG aS ss.length cS nx none 0 0) 29);have FW:=DX (HK.out.trans ka);have GP:=DX (HB.out.kept ka);clear ka HB HK r0 r1 r2 r3 r4;have HS2:=DX (show (w1.alloc (.cells (L5 aT ts.length cT aG gs.length cG aS ss.length cS nx none 0 0) 29)).heap.size=w1.heap.size+1 by simp [World.size_alloc]);generalize w1.alloc (.cells (L5 aT ts.length cT aG gs.length cG aS ss.length cS nx none 0 0) 29)=w2 at *
 obtain ⟨p,hp⟩:∃ p,p=w1.heap.size:=⟨_,rfl⟩
 generalize w1.heap.size=p at *
 have hpo:wo.heap.size<p:=by have:=HS1.out;omega
 have PK:p<w2.heap.size:=by have:=HS2.out;omega
 clear HS1 HS2
 go_upto_region 3 with (fail)
 have HPO:=DX hpo;have ZB:=DX PK;clear hpo PK;have aAz:os.length<=1759218604441:=OK.out.le;go_loopw [6] (fun kv wr=>∃ (k:Nat) (a:Option Addr) (c:Nat) (qs:List fV),k<=os.length/\kv=.int .i64 k/\Hid (qs.length=k)/\Hid (FQ qs)/\Hid (aA wr p (L5 aT ts.length cT aG gs.length cG aS ss.length cS nx a k c) 29)/\Hid (wr.ownsRow w2.heap.size 35 7 (.slice a k c) k (qs.flatMap opC))/\Hid (aB wo wr)/\Hid (aA wr wo.heap.size (L5 aT ts.length cT aG gs.length cG aS ss.length cS nx aO os.length cO) 29)/\Hid (w2.heap.size<=wr.heap.size)) (fun kv _=>os.length - (intOf kv).toNat)
 case atStart=>exact ⟨0,none,0,[],aE,rfl,DX rfl,DX (fun x hx=>by cases hx),HP,DX (jU _ _ _ _),FW,GP,DX (EA _)⟩
 case round =>
  clear HP FW GP
  rename World=>wr
  obtain ⟨k,a,c,qs,hk,rfl,HL,HQ,HP,KV,IA,HBR,MZ⟩:=hrel;obtain ⟨r0,r1,r2,r3,r4⟩:=vD HBR.out;obtain ⟨s0,s1,s2,s3,s4⟩:=vD HP.out
  by_cases IE:k<os.length
  . have GU:decide (k<os.length)=true:=DZ IE
    have KG:decide ((k:Int)<(os.length:Int))=true:=DZ aE;have HZ:=DX (OK.out.size k IE);obtain ⟨bo,of,rfl,JC⟩:=OK.out.at aE;obtain ⟨c0,c1,c2,c3,c4,c5,c6⟩:=JC k IE wr IA.out;clear JC;generalize os.getD k jA=o at *;obtain ⟨ok,oi,on,om,GE,od,ot⟩:=o;dsimp only at c0 c1 c2 c3 c4 c5 c6
    go_upto_region 6 with (fail)
    have hn5:=EY wr (LO ok oi on om GE od ot) 35
    have GZ:=(EX wr).alloc ((KO ok oi on om GE od ot))
    have HSy:=DX MZ.out;have HGX:=DX (show ∀ g,(Value.slice a k c).ownBlock=some g->g<wr.heap.size from fun g e=>(KV.out.lt g e).2);have HN:=DX (show aA _ _ (LO ok oi on om GE od ot) _ from hn5);have HOx:=DX (aH KV.out GZ);have HPx:=DX (HP.out.kept GZ);have HBx:=DX (HBR.out.kept GZ);have HKx:=DX (IA.out.trans GZ);have HSx:=DX (EF MZ.out GZ.size);clear hn5 GZ r0 r1 r2 r3 r4 s0 s1 s2 s3 s4 c0 c1 c2 c3 c4 c5 c6 KV HP HBR IA MZ;generalize wr.alloc ((KO ok oi on om GE od ot))=w5 at *;generalize wr.heap.size=pn at *;have XS:=DX (show w2.heap.size<=pn from HSy.out);go_cut [25] (fun t wx=>(∃ B,t=.bool B)/\w5=wx)
    case first =>
     go_wp2_with fail
     all_goals (go_meet;exact ⟨⟨_,rfl⟩,rfl⟩)
    case rest =>
     obtain ⟨⟨B,rfl⟩,rfl⟩:=hcut
     cases B with
     | false =>
      go_upto_region 8 with (fail)
      obtain ⟨s0,s1,s2,s3,s4⟩:=vD HPx.out;obtain ⟨n0,n1,n2,n3,n4,n5,n6⟩:=cX HN.out;obtain ⟨i0,IY⟩:=info_op Tryz.prog DE;have HI:=DX IY;clear IY;go_wp2_with (at_builtin;refine wpList_append_own_at _ rfl _ _ 27 rfl w2.heap.size 35 i0 (.agg (LO 0 0 0 0 ByteArray.empty ByteArray.empty ByteArray.empty)) 7 80 Tryz.underlying27 HI.out.1 HI.out.2.1 HI.out.2.2.1 HI.out.2.2.2 rfl aF _ _ _ rfl (aH HOx.out ((EX w5).alloc _)) ⟨w5.heap.size,0,none⟩ 1 1 (opC ⟨ok,oi,on,om,GE,od,ot⟩) rfl rfl ?c1 ?c2 ?c3 ?c4 ?c5 ?_)
      case c1=>exact fun j u h=>h
      case c2=>exact fun u hu=>opC_one [⟨ok,oi,on,om,GE,od,ot⟩] u (by simpa using hu)
      case c3=>unfold maxLen;omega
      case c4=>omega
      case c5=>have:=HSx.out;simp;omega
      intro v9 w9 FU IB _ _;obtain ⟨a9,c9,rfl⟩:=aP FU
      have NW:∀ g,(Value.slice a k c).ownBlock=some g->w2.heap.size<=g:=fun g e=>((aH HOx.out ((EX w5).alloc ((KO ok oi on om GE od ot)))).lt g e).1
      have GW:some p≠(Value.slice a k c).ownBlock:=fun e=>by have:=NW p e.symm;have:=ZB.out;omega
      have SI:some wo.heap.size≠(Value.slice a k c).ownBlock:=fun e=>by have:=NW wo.heap.size e.symm;have:=ZB.out;have:=HPO.out;omega
      have HP9:=DX ((HPx.out.kept ((EX w5).alloc ((KO ok oi on om GE od ot)))).gr IB GW);have HB9:=DX ((HBx.out.kept ((EX w5).alloc ((KO ok oi on om GE od ot)))).gr IB SI);have JQ:=DX (cD (HKx.out.alloc ((KO ok oi on om GE od ot))) IB (fun g e=>by have:=NW g e;have:=ZB.out;have:=HPO.out;omega) (EA _));have XQ:=DX FU;have HS9:=DX (show w2.heap.size<=w9.heap.size from EF (EF HSx.out ((EX w5).alloc ((KO ok oi on om GE od ot))).size) IB.size);clear NW GW SI FU IB s0 s1 s2 s3 s4 n0 n1 n2 n3 n4 n5 n6;obtain ⟨s0,s1,s2,s3,s4⟩:=vD HP9.out;have f4:=HP9.out.free 4;go_wp2_with fail;go_roundw
      case rel=>exact ⟨k+1,a9,c9,qs++[⟨ok,oi,on,om,GE,od,ot⟩],aE,by go_num,DX (by rw [List.length_append,HL.out];rfl),DX (HQ.out.snoc HZ.out),DX (HP9.out.set (i:=4) (.slice a9 (k+1) c9)),DX (by rw [FO];exact bI XQ.out HP9.out aF (iE _ _ _ _)),DX (JQ.out.setCell (Nat.le_of_lt HPO.out) _),DX (HB9.out.setOther _ (by have:=HPO.out;omega)),DX (by simpa using HS9.out)⟩
      case measure=>simp [intOf];omega
     | true =>
      obtain ⟨n0,n1,n2,n3,n4,n5,n6⟩:=cX HN.out;have f0:=HN.out.free 0
      go_upto_region 8 with (fail)
      clear n0 n1 n2 n3 n4 n5 n6 f0;have hg:=iE w5 pn 0 (.int .i64 kd);have HN6:=DX (show aA _ _ (LO kd oi on om GE od ot) _ from HN.out.set (i:=0) (.int .i64 kd));clear HN;have HN:=HN6
      have hpp:p≠pn:=by have:=XS.out;have:=ZB.out;omega
      have MG:wo.heap.size≠pn:=by have:=XS.out;have:=ZB.out;have:=HPO.out;omega
      have HPx6:=DX (HPx.out.setOther (i:=0) (g':=pn) (.int .i64 kd) hpp);have HBx6:=DX (HBx.out.setOther (i:=0) (g':=pn) (.int .i64 kd) MG);have HKx6:=DX (HKx.out.setCell (p:=⟨pn,0,none⟩) (by have:=XS.out;have:=ZB.out;have:=HPO.out;show wo.heap.size<=pn;omega) (.int .i64 kd));have HSx6:=DX (show w2.heap.size<=(w5.setCell ⟨pn,0,none⟩ (.int .i64 kd)).heap.size by simpa using HSx.out);have HOx6:=DX (dF HOx.out hg (fun g e1 e2=>by cases EB e2;have:=HGX.out _ e1;omega));clear hg HPx HBx HKx HSx HOx hpp MG;have HPx:=HPx6;have HBx:=HBx6;have HKx:=HKx6;have HSx:=HSx6;have HOx:=HOx6;clear HPx6 HBx6 HKx6 HSx6 HOx6 HN6;generalize w5.setCell ⟨pn,0,none⟩ (.int .i64 kd)=w6 at *;obtain ⟨s0,s1,s2,s3,s4⟩:=vD HPx.out;obtain ⟨n0,n1,n2,n3,n4,n5,n6⟩:=cX HN.out;obtain ⟨i0,IY⟩:=info_op Tryz.prog DE;have HI:=DX IY;clear IY;go_wp2_with (at_builtin;refine wpList_append_own_at _ rfl _ _ 27 rfl w2.heap.size 35 i0 (.agg (LO 0 0 0 0 ByteArray.empty ByteArray.empty ByteArray.empty)) 7 80 Tryz.underlying27 HI.out.1 HI.out.2.1 HI.out.2.2.1 HI.out.2.2.2 rfl aF _ _ _ rfl (aH HOx.out ((EX w6).alloc _)) ⟨w6.heap.size,0,none⟩ 1 1 (opC ⟨kd,oi,on,om,GE,od,ot⟩) rfl rfl ?c1 ?c2 ?c3 ?c4 ?c5 ?_)
      case c1=>exact fun j u h=>h
      case c2=>exact fun u hu=>opC_one [⟨kd,oi,on,om,GE,od,ot⟩] u (by simpa using hu)
      case c3=>unfold maxLen;omega
      case c4=>omega
      case c5=>have:=HSx.out;simp;omega
      intro v9 w9 FU IB _ _;obtain ⟨a9,c9,rfl⟩:=aP FU
      have NW:∀ g,(Value.slice a k c).ownBlock=some g->w2.heap.size<=g:=fun g e=>((aH HOx.out ((EX w6).alloc ((KO kd oi on om GE od ot)))).lt g e).1
      have GW:some p≠(Value.slice a k c).ownBlock:=fun e=>by have:=NW p e.symm;have:=ZB.out;omega
      have SI:some wo.heap.size≠(Value.slice a k c).ownBlock:=fun e=>by have:=NW wo.heap.size e.symm;have:=ZB.out;have:=HPO.out;omega
      have HP9:=DX ((HPx.out.kept ((EX w6).alloc ((KO kd oi on om GE od ot)))).gr IB GW);have HB9:=DX ((HBx.out.kept ((EX w6).alloc ((KO kd oi on om GE od ot)))).gr IB SI);have JQ:=DX (cD (HKx.out.alloc ((KO kd oi on om GE od ot))) IB (fun g e=>by have:=NW g e;have:=ZB.out;have:=HPO.out;omega) (EA _));have XQ:=DX FU;have HS9:=DX (show w2.heap.size<=w9.heap.size from EF (EF HSx.out ((EX w6).alloc ((KO kd oi on om GE od ot))).size) IB.size);clear NW GW SI FU IB s0 s1 s2 s3 s4 n0 n1 n2 n3 n4 n5 n6;obtain ⟨s0,s1,s2,s3,s4⟩:=vD HP9.out;have f4:=HP9.out.free 4;go_wp2_with fail;go_roundw
      case rel=>exact ⟨k+1,a9,c9,qs++[⟨kd,oi,on,om,GE,od,ot⟩],aE,by go_num,DX (by rw [List.length_append,HL.out];rfl),DX (HQ.out.snoc HZ.out),DX (HP9.out.set (i:=4) (.slice a9 (k+1) c9)),DX (by rw [FO];exact bI XQ.out HP9.out aF (iE _ _ _ _)),DX (JQ.out.setCell (Nat.le_of_lt HPO.out) _),DX (HB9.out.setOther _ (by have:=HPO.out;omega)),DX (by simpa using HS9.out)⟩
      case measure=>simp [intOf];omega
  . obtain rfl:k=os.length:=by omega
    have GU:decide (os.length<os.length)=false:=DY aE;have KG:decide ((os.length:Int)<(os.length:Int))=false:=DY aE;have HLE:=DX HL.out;have FU:=KV.out;have hl:=HL.out;obtain ⟨_,_,hv,hQ⟩:=op_own FU hl OK.out.le HQ.out;cases hv;have HC:=DX (VQ.out a c qs wr IA.out (by rw [hl];exact hQ));clear FU hQ VQ;rw [hl] at HC;clear hl HLE;go_wp2_with fail
    refine HC.out.mono ?_
    rintro e w4 ⟨rfl,IV⟩;have GQ:=DX (IA.out.trans IV);clear IV;go_wp2_with fail;go_ret;exact ⟨rfl,GQ.out⟩
end Go.Proofs.YtkfmladhicapeaaGreatDoor
