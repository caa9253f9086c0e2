import Derived.Test.YtkfmladhicapeaaGreatDoorY3
set_option maxRecDepth 100000
set_option maxHeartbeats 2000000
namespace Go.Proofs.YtkfmladhicapeaaGreatDoor
open Go.RowKit Go.Shelf
attribute [local go_sem] Oper.semAt_some
def gM (l:List ByteArray):List UInt8:=l.flatMap fun s=>s.data.toList
def sG (m:Mf):List UInt8:=[77,65,78,70,UInt8.ofNat m.k.toNat,UInt8.ofNat m.bs.length,UInt8.ofNat m.us.length]++gM m.bs++gM m.us
def Pc (m:Mf):ByteArray:=⟨(sG m).toArray⟩
theorem vR (l:List ByteArray) (k:Nat) (h:k<l.length):gM (l.take (k+1))=gM (l.take k)++(pQ l k).data.toList:=by
 unfold gM pQ;exact zV
theorem pE:∀ l:List ByteArray,oK l=true->(gM l).length=32*l.length
 | [],_=>rfl
 | s :: l,h=>by
  unfold oK at h;rw [List.all_cons,Bool.and_eq_true] at h;have h1:=of_decide_eq_true h.1;have:=pE l h.2;unfold gM at this ⊢;rw [List.flatMap_cons,List.length_append,this,List.length_cons]
  have:s.data.toList.length=32:=by simpa using h1
  omega
theorem Kh {l:List ByteArray} (h:oK l=true) {k:Nat} (hk:k<l.length):(pQ l k).size=32:=by
 unfold oK at h;rw [List.all_eq_true] at h;have:=of_decide_eq_true (h l[k] (List.getElem_mem hk));unfold pQ
 simpa [List.getD,hk] using this
theorem pF {m:Mf} (h:rY m=true):m.bs.length+m.us.length<=20/\0<=m.k/\m.k<=255/\oK m.bs=true/\oK m.us=true/\gG m.bs=true/\gG m.us=true:=by
 unfold rY oU lM at h;simp only [Bool.and_eq_true,decide_eq_true_eq] at h;exact ⟨h.1,h.2.1.1,h.2.1.2.1,h.2.1.2.2.1,h.2.1.2.2.2,h.2.2.1,h.2.2.2⟩
theorem Gv (W:World) (xs:Array Value) (t:TypeId) (m:Nat × Nat) (i:Nat):(W.alloc (.cells xs t m)).cell? ⟨W.heap.size,i,none⟩=xs[i]?:=by
 unfold World.cell?
 have:(W.alloc (.cells xs t m)).heap[W.heap.size]?=some (.cells xs t m):=by
  show (W.heap.push (.cells xs t m))[W.heap.size]?=_
  simp
 rw [this]
 simp
theorem Vw {a b:ByteArray} {x:Value} (h:b=a):Ending.returned (.tuple #[.string a,x])=.returned (.tuple #[.string b,x]):=by rw [h]
theorem Bq (b j:Nat):(⟨b,0,none⟩:Addr).add j=⟨b,j,none⟩:=by unfold Addr.add;split <;> simp_all
def Bc:List Value:=[.int .u8 77,.int .u8 65,.int .u8 78,.int .u8 70]
theorem Ch (k:Int) (ab:Option Addr) (lb cb:Nat) (au:Option Addr) (lu cu:Nat) (bs us:List ByteArray) (w:World) (hb:bD w ab lb bs) (hu:bD w au lu us) (hl:lb<=1000000/\lu<=1000000) (hm:rY ⟨k,bs,us⟩=false) :
 Calls Tryz.prog 119 #[.agg (LM k ab lb cb au lu cu)] w fun e w'=>e=.returned (.tuple #[.string ByteArray.empty,.int .i64 1])/\aB w w':=by
 have HB:=DX (EY w (LM k ab lb cb au lu cu) 85);have HK:=DX ((EX w).alloc ((KM k ab lb cb au lu cu)))
 have WE:=fun w h1 h2=>sZ k ab lb cb au lu cu bs us w h1 h2 hl
 rw [show Ua ⟨k,bs,us⟩=1 by unfold Ua;rw [hm];rfl] at WE;have KQ:=DX WE;have RL:=DX hb;have TX:=DX hu;clear hb hu hm WE;go_enter Tryz.func119,Tryz.ntmps119
 go_upto_region 1 with (fail)
 generalize w.alloc ((KM k ab lb cb au lu cu))=w1 at *;obtain ⟨a0,a1,a2⟩:=dI HB.out;go_wp2_with fail
 refine (KQ.out _ (RL.out.kept HK.out) (TX.out.kept HK.out)).mono ?_
 rintro e w2 ⟨rfl,FX⟩;have FW:=DX (HK.out.trans FX);clear a0 a1 a2 FX;go_wp2;go_ret2;exact ⟨rfl,FW.out⟩
theorem zA (k:Int) (ab:Option Addr) (lb cb:Nat) (au:Option Addr) (lu cu:Nat) (bs us:List ByteArray) (w:World) (hb:bD w ab lb bs) (hu:bD w au lu us) (hm:rY ⟨k,bs,us⟩=true) :
 Calls Tryz.prog 119 #[.agg (LM k ab lb cb au lu cu)] w fun e w'=>e=.returned (.tuple #[.string (Pc ⟨k,bs,us⟩),.int .i64 0])/\aB w w':=by
 obtain ⟨h20,RT,MF,PY,PZ,-,-⟩:=pF hm;dsimp only at h20 RT MF PY PZ;rw [hb.len_eq,hu.len_eq] at h20
 obtain ⟨K,rfl⟩:∃ K:Nat,k=K:=⟨k.toNat,aE⟩
 have WE:=fun w h1 h2=>sZ K ab lb cb au lu cu bs us w h1 h2 aE
 rw [show Ua ⟨K,bs,us⟩=0 by unfold Ua;rw [hm];rfl] at WE;have HT:=DX (show Pc ⟨K,bs,us⟩=⟨([77,65,78,70,UInt8.ofNat K,UInt8.ofNat lb,UInt8.ofNat lu]++gM bs++gM us).toArray⟩ by unfold Pc sG;dsimp only;rw [hb.len_eq,hu.len_eq,Int.toNat_natCast]);have HB:=DX (EY w (LM K ab lb cb au lu cu) 85);have HK:=DX ((EX w).alloc ((KM K ab lb cb au lu cu)));have KQ:=DX WE;have RL:=DX hb;have TX:=DX hu;have HLB:=DX hb.len_eq;have HLU:=DX hu.len_eq;have ST:=DX PY;have SD:=DX PZ;have JU:=DX (pE bs PY);have HLM:=DX (pE us PZ);obtain ⟨i0,hi,GV,GJ,GO⟩:=info_parts DQ;have IJ:=DX (EC hi (EC GV (EC GJ GO)));clear hb hu hm WE PY PZ hi GV GJ GO;go_enter Tryz.func119,Tryz.ntmps119
 go_upto_region 1 with (fail)
 generalize w.alloc ((KM K ab lb cb au lu cu))=w1 at *;obtain ⟨a0,a1,a2⟩:=dI HB.out;have PK:=HB.out.lt;go_wp2_with fail
 refine (KQ.out _ (RL.out.kept HK.out) (TX.out.kept HK.out)).mono ?_
 rintro e w2 ⟨rfl,FX⟩;have FW:=DX (HK.out.trans FX);have GP:=DX (HB.out.kept FX);clear a0 a1 a2 FX HB HK;obtain ⟨a0,a1,a2⟩:=dI GP.out
 go_upto_region 3 with (fail)
 have kc:=fun (w:World) (C:Array Value) (n c:Nat)=>Lib.run_convert_bytes_const (P:=Tryz.prog) w 107 5 C n c EO EM
 have km:=(EX w2).alloc (.cells #[.int .u8 77,.int .u8 65,.int .u8 78,.int .u8 70] 5 (4,5))
 obtain ⟨b0,b1,b2⟩:=rH GP.out km;go_wp2_with (at_builtin;refine wpList_append_grows _ rfl _ _ 107 rfl 5 i0 (.int .u8 0) 1 1 EO IJ.out.1 IJ.out.2.1 IJ.out.2.2.1 IJ.out.2.2.2 rfl aF _ _ _ Bc rfl (fun e=>by cases e) rfl ?c1 _ _ _ [.int .u8 (K:Int),.int .u8 (lb:Int),.int .u8 (lu:Int)] rfl rfl ?c2 ?c3 aF aF aF ?_)
 case c1 =>
  intro b hb j u hj;cases hb
  have e:(⟨w2.heap.size,0,none⟩:Addr).add j=⟨w2.heap.size,j,none⟩:=Bq _ _
  have FV:w2.heap.size<(w2.alloc (.cells #[.int .u8 77,.int .u8 65,.int .u8 78,.int .u8 70] 5 (4,5))).heap.size:=by simp
  rw [e]
  refine aB.cell ((EX _).alloc _) FV ?_
  rw [Gv]
  match j,hj with
  | 0,hj=>simpa [Bc] using hj
  | 1,hj=>simpa [Bc] using hj
  | 2,hj=>simpa [Bc] using hj
  | 3,hj=>simpa [Bc] using hj
  | j+4,hj=>simp [Bc] at hj
 case c2 =>
  intro j u hj
  have e:(⟨(w2.alloc (.cells #[.int .u8 77,.int .u8 65,.int .u8 78,.int .u8 70] 5 (4,5))).heap.size,0,none⟩:Addr).add j=⟨(w2.alloc (.cells #[.int .u8 77,.int .u8 65,.int .u8 78,.int .u8 70] 5 (4,5))).heap.size,j,none⟩:=Bq _ _
  have hc:=jN (w2.alloc (.cells #[.int .u8 77,.int .u8 65,.int .u8 78,.int .u8 70] 5 (4,5))) #[.int .u8 (K:Int),.int .u8 (lb:Int),.int .u8 (lu:Int)] 5 j;rw [<- e] at hc;simp only [Cw] at hc;rw [hc]
  match j,hj with
  | 0,hj=>simpa using hj
  | 1,hj=>simpa using hj
  | 2,hj=>simpa using hj
  | j+3,hj=>simp at hj
 case c3=>intro u hu;simp at hu;rcases hu with rfl | rfl | rfl <;> rfl
 intro v0 u0 FU GB
 have hK2':UInt8.toNat (UInt8.ofNat K)=K:=by simp;omega
 have hlb':UInt8.toNat (UInt8.ofNat lb)=lb:=by simp;omega
 have hlu':UInt8.toNat (UInt8.ofNat lu)=lu:=by simp;omega
 have hku:aB w u0:=by
  refine FW.out.trans (aB.trans (km.alloc (.cells #[.int .u8 (K:Int),.int .u8 (lb:Int),.int .u8 (lu:Int)] 5)) ?_);exact ⟨GB.os,GB.tape,GB.output,GB.size,fun k hk=>GB.block k hk (fun e=>by cases e)⟩
 obtain ⟨hd7,hhd7⟩:∃ x:List UInt8,x=[77,65,78,70,UInt8.ofNat K,UInt8.ofNat lb,UInt8.ofNat lu]:=⟨_,rfl⟩
 rw [<- hhd7] at HT
 have HO0:=DX (show u0.ownsRow w.heap.size 5 1 v0 7 (bv hd7) by
  have h:=bA FU (show w.heap.size<=w2.heap.size+1+1 by have:=FW.out.size;omega)
  have e:Bc++[.int .u8 (K:Int),.int .u8 (lb:Int),.int .u8 (lu:Int)]=bv hd7:=by
   rw [hhd7];unfold Bc bv;simp only [List.map_cons,List.map_nil,hK2',hlb',hlu'];rfl
  rw [<- e]
  exact h)
 have HKU:=DX hku;have HBU:=DX (GP.out.kept (show aB w2 u0 from aB.trans (km.alloc (.cells #[.int .u8 (K:Int),.int .u8 (lb:Int),.int .u8 (lu:Int)] 5)) ⟨GB.os,GB.tape,GB.output,GB.size,fun k hk=>GB.block k hk (fun e=>by cases e)⟩));clear FU GB km kc a0 a1 a2 b0 b1 b2 hK2' hlb' hlu' hku hhd7;obtain ⟨a0,a1,a2⟩:=dI HBU.out;go_wp2_with fail;go_loopw [4,30] (fun v q wr=>∃ (j:Nat) (V:Value),j<=lb/\V=v/\q=.int .i64 j/\wr.ownsRow w.heap.size 5 1 V (7+32*j) (bv (hd7++gM (bs.take j)))/\dQ w.heap.size 5 u0 wr) (fun _ q _=>lb - (intOf q).toNat)
 case atStart=>exact ⟨0,_,aE,rfl,rfl,by simpa [gM] using HO0.out,dQ.refl _ _ _⟩
 case round =>
  obtain ⟨j,vL,hj,rfl,rfl,ho,hs⟩:=hrel;have PG:=DX ho;have HS4:=DX hs;have hz:=HKU.out.size;clear ho hs
  by_cases FV:j<lb
  . have GU:decide (j<lb)=true:=DZ FV
    obtain ⟨bl,ol,rfl,hc⟩:=RL.out.at aE;have c0:=hc j FV _ (((dQ.of_kept (base:=w.heap.size) (e:=5) HKU.out).trans HS4.out).kept);have IX:=DX (vR bs j (by rw [HLB.out];exact FV))
    have RK:(pQ bs j).size=32:=Kh ST.out (by rw [HLB.out];exact FV)
    unfold pQ at IX RK;generalize bs.getD j ByteArray.empty=t at c0 IX RK;have hz4:=HS4.out.size;have JV:=DX RK;clear hc RK;go_wp2_with (at_builtin;refine Lib.wpList_append_own_string _ rfl _ _ 107 9 rfl w.heap.size 5 i0 EO EN IJ.out.1 IJ.out.2.1 IJ.out.2.2.1 IJ.out.2.2.2 vL (7+32*j) _ rfl PG.out t rfl (by rw [JV.out];unfold maxLen;omega) (by rw [JV.out];omega) aE ?_);intro v5 u5 ho hg _;have HS5:=DX (HS4.out.trans (dQ.of_grown PG.out hg))
    have US:=DX (show u5.ownsRow w.heap.size 5 1 v5 (7+32*(j+1)) (bv (hd7++gM (bs.take (j+1)))) by
     rw [IX.out,<- List.append_assoc,pV,show 7+32*(j+1)=7+32*j+t.size by rw [JV.out];omega]
     exact ho)
    exact Qx
  . obtain rfl:lb=j:=by omega
    have GU:decide (lb<lb)=false:=DY aE;rw [EE (by rw [HLB.out];omega)] at PG;have hz4:=HS4.out.size;obtain ⟨a0,a1,a2⟩:=dI (HS4.out.at HBU.out aF);generalize hd8:hd7++gM bs=h8 at PG;rw [hd8] at HT;clear hd8;go_wp2_with fail;go_loopw [4,41] (fun v q wq=>∃ (j:Nat) (V:Value),j<=lu/\V=v/\q=.int .i64 j/\wq.ownsRow w.heap.size 5 1 V (7+32*lb+32*j) (bv (h8++gM (us.take j)))/\dQ w.heap.size 5 wr wq) (fun _ q _=>lu - (intOf q).toNat)
    case atStart=>exact ⟨0,_,aE,rfl,rfl,by simpa [gM] using PG.out,dQ.refl _ _ _⟩
    case round =>
     rename World=>wq
     obtain ⟨j,vM,hj,rfl,rfl,ho,hs⟩:=hrel;have HO6:=DX ho;have HS6:=DX hs;clear ho hs;have hz6:=HS6.out.size;have HKQ:=DX ((((dQ.of_kept (base:=w.heap.size) (e:=5) HKU.out).trans HS4.out).trans HS6.out).kept)
     by_cases FV:j<lu
     . have GU:decide (j<lu)=true:=DZ FV
       obtain ⟨bl,ol,rfl,hc⟩:=TX.out.at aE;have c0:=hc j FV _ HKQ.out;have IX:=DX (vR us j (by rw [HLU.out];exact FV))
       have RK:(pQ us j).size=32:=Kh SD.out (by rw [HLU.out];exact FV)
       unfold pQ at IX RK;generalize us.getD j ByteArray.empty=t at c0 IX RK;have JV:=DX RK;clear hc RK a0 a1 a2;go_wp2_with (at_builtin;refine Lib.wpList_append_own_string _ rfl _ _ 107 9 rfl w.heap.size 5 i0 EO EN IJ.out.1 IJ.out.2.1 IJ.out.2.2.1 IJ.out.2.2.2 vM (7+32*lb+32*j) _ rfl HO6.out t rfl (by rw [JV.out];unfold maxLen;omega) (by rw [JV.out];omega) aE ?_);intro v5 u5 ho hg _;have HS5:=DX (HS6.out.trans (dQ.of_grown HO6.out hg))
       have US:=DX (show u5.ownsRow w.heap.size 5 1 v5 (7+32*lb+32*(j+1)) (bv (h8++gM (us.take (j+1)))) by
        rw [IX.out,<- List.append_assoc,pV,show 7+32*lb+32*(j+1)=7+32*lb+32*j+t.size by rw [JV.out];omega]
        exact ho)
       exact Qx
     . obtain rfl:lu=j:=by omega
       have GU:decide (lu<lu)=false:=DY aE;rw [EE (by rw [HLU.out];omega)] at HO6
       have GM:(h8++gM us).length=7+32*lb+32*lu:=by
        have h:=HO6.out.1;rw [Fs] at h;omega
       have hcv:=sU HO6.out GM;clear a0 a1 a2 GM;go_wp2;go_ret2;exact ⟨Vw HT.out,HKQ.out⟩
end Go.Proofs.YtkfmladhicapeaaGreatDoor
namespace Go.Proofs.YtkfmladhicapeaaGreatDoor.Pj
open Go.RowKit Go.Shelf
theorem Zv {F:Fence} {n:Nat} {P:Program} {md:Region.Mode} {ops:Array Oper} {Q:Exit->Act->World->Prop} (J:Array Bool->Act->World->Prop)
 (JP:∀ aQ a w i,J aQ a w->i∈Region.ready md ops aQ->wpOpIn F n P ops Q i (J (aQ.setIfInBounds i true)) a w)
 (IT:∀ aQ a w,J aQ a w->Region.ready md ops aQ=[]->Q .normal a w):∀ fuel aQ a w,Zp aQ<=fuel->J aQ a w->wpAnyIn F n P md ops Q fuel aQ a w
 | 0,aQ,a,w,hl,hJ=>by
  exact Qs
 | fuel+1,aQ,a,w,hl,hJ=>by
  refine ⟨IT aQ a w hJ,fun i hi=>wpOpIn_mono (fun a' w' h=>Zv J JP IT fuel _ a' w' ?_ h) (JP aQ a w i hJ hi)⟩;have:=AA (Zk hi);omega
theorem Zx {F:Fence} {n:Nat} {P:Program} {id:Nat} {ops:Array Oper} {Q:Exit->Act->World->Prop} (hF:∀ f,F.fn f) (J:(Nat->Prop)->Act->World->Prop) {a:Act} {w:World} (hm:P.follows .mixedOrders=true) (hb:Zq ops=true)
 (h0:∀ L:Nat->Prop,(∀ j,j<ops.size->¬ L j)->J L a w.drew)
 (JP:∀ (L L':Nat->Prop) a w i o K,J L a w->ops[i]?=some o->¬ L i->(∀ j,(o.after.any fun e=>e.on == j&&Region.binds .any e)=true->L j)->(∀ j,L' j↔(j=i\/L j))->(∀ a' w',J L' a' w'->K a' w') ->
  Za o (yielded ops a.tmps) (Oper.wpIn F n P o a w K Q) (K (a.put o.dst undef) w))
 (IT:∀ (L:Nat->Prop) a w,J L a w->(∀ j,j<ops.size->L j)->Q .normal a w):(Code.region id ops true).wpIn F n P Q a w:=by
 refine wpIn_region_any hm (Zv (fun aQ a w=>aQ.size=ops.size/\J (fun j=>aQ.getD j true=true) a w) ?_ ?_ ops.size _ a _ (by unfold Zp;rw [Array.toList_replicate,List.count_replicate];split <;> omega) ⟨Array.size_replicate,h0 _ (fun j hj=>by simp [AK _ _ hj])⟩)
 . rintro aQ a w i ⟨hs,hJ⟩ hi
   have FY:=Zk hi
   have RR:=(List.mem_filter.1 hi).2
   have hil:i<ops.size:=List.mem_range.1 (List.mem_filter.1 hi).1
   have ho:ops[i]?=some ops[i]:=Array.getElem?_eq_getElem hil
   have GH:=AI hb ho
   refine wpOpIn_step ho fun K' hK=>?_
   have h:=JP _ (fun j=>(aQ.setIfInBounds i true).getD j true=true) a w i ops[i] K' hJ ho (by rw [FY];exact Bool.false_ne_true) (fun j hj=>?_) (fun j=>?_) (fun a' w' h'=>hK a' w' ⟨by rw [Array.size_setIfInBounds];exact hs,h'⟩)
   . by_cases hw:Region.wanted ops[i] (yielded ops a.tmps)=true
     . rw [if_pos hw];exact h.1 hw
     . rw [if_neg hw];exact ⟨fun f _=>hF f,h.2 hw⟩
   . exact Xe
   . exact Qi
 . exact Sy
theorem Zt {F:Fence} {n:Nat} {P:Program} {id:Nat} {ops:Array Oper} {Q:Exit->Act->World->Prop} (hF:∀ f,F.fn f) (J:Act->(Nat->Prop)->Act->World->Prop) {a:Act} {w:World} (hm:P.follows .mixedOrders=true) (hb:Zq ops=true)
 (h0:∀ L:Nat->Prop,(∀ j,j<ops.size->¬ L j)->J a L a w.drew)
 (JP:∀ (L L':Nat->Prop) b w i o K,J a L b w->ops[i]?=some o->¬ L i->(∀ j,(o.after.any fun e=>e.on == j&&Region.binds .any e)=true->L j)->(∀ j,L' j↔(j=i\/L j))->(∀ a' w',J a L' a' w'->K a' w') ->
  Za o (yielded ops b.tmps) (Oper.wpIn F n P o b w K Q) (K (b.put o.dst undef) w))
 (IT:∀ (L:Nat->Prop) b w,J a L b w->(∀ j,j<ops.size->L j)->Q .normal b w):(Code.region id ops true).wpIn F n P Q a w :=
 Zx hF (J a) hm hb h0 JP IT
theorem AJ {l n:Nat} {P:Program} {o:Oper} {a:Act} {w:World} {K:Act->World->Prop} {Q:Exit->Act->World->Prop} (hd:∀ c,o.op≠.defer c)
 (h:Oper.wp P o a w K Q):Oper.wpIn (Fence.wide.inRound l) n P o a w K Q:=by
 unfold Oper.wpIn;unfold Oper.wp at h;refine ⟨fun f _=>trivial,?_⟩
 have e:o.semAt (Fence.wide.inRound l).round a.eval=execOp a.eval o:=Oper.semAt_some l _ _ hd
 rw [e]
 generalize (execOp a.eval o).run P w=r at *
 cases r with
 | ok x w' =>
  cases x <;> simp only [Oper.upon] at h <;> simp only [Oper.uponIn]
  case value u=>exact h
  case skip=>exact h
  case defer d=>exact h
  case enter f args =>
   refine ⟨fun q=>by simp [Fence.wide] at q,?_⟩
   exact (callsIn_wide (n:=n - 1)).2 h
  case row row args =>
   refine ⟨fun q=>by simp [Fence.wide] at q,?_⟩
   exact fun c cs _=>let ⟨v,w',r,s⟩:=h c cs;⟨v,w',r,stepsIn_wide.2 s⟩
  all_goals exact h
 | halt x w'=>cases x <;> simp only [Oper.upon] at h <;> simp only [Oper.uponIn] <;> exact h
def AW (ops:Array Oper):Bool:=ops.all fun o=>match o.op with | .defer _=>false | _=>true
theorem AS {ops:Array Oper} (h:AW ops=true) {i:Nat} {o:Oper} (ho:ops[i]?=some o):∀ c,o.op≠.defer c:=by
 intro c e;obtain ⟨hi,he⟩:=Array.getElem?_eq_some_iff.1 ho;have:=Array.all_eq_true'.1 h o (he ▸ Array.getElem_mem hi);rw [e] at this;cases this
theorem Zw {l n:Nat} {P:Program} {id:Nat} {ops:Array Oper} {Q:Exit->Act->World->Prop} (VC:AW ops=true) (J:Act->(Nat->Prop)->Act->World->Prop) {a:Act} {w:World} (hm:P.follows .mixedOrders=true) (hb:Zq ops=true)
 (h0:∀ L:Nat->Prop,(∀ j,j<ops.size->¬ L j)->J a L a w.drew)
 (JP:∀ (L L':Nat->Prop) b w i o K,J a L b w->ops[i]?=some o->¬ L i->(∀ j,(o.after.any fun e=>e.on == j&&Region.binds .any e)=true->L j)->(∀ j,L' j↔(j=i\/L j))->(∀ a' w',J a L' a' w'->K a' w') ->
  Za o (yielded ops b.tmps) (Oper.wp P o b w K Q) (K (b.put o.dst undef) w))
 (IT:∀ (L:Nat->Prop) b w,J a L b w->(∀ j,j<ops.size->L j)->Q .normal b w):(Code.region id ops true).wpIn (Fence.wide.inRound l) n P Q a w :=
 Zt (fun _=>trivial) J hm hb h0 (fun L L' b w i o K h1 h2 h3 h4 h5 h6 =>
  have h:=JP L L' b w i o K h1 h2 h3 h4 h5 h6
  ⟨fun q=>AJ (AS VC h2) (h.1 q),h.2⟩) IT
end Go.Proofs.YtkfmladhicapeaaGreatDoor.Pj
namespace Go.Proofs.YtkfmladhicapeaaGreatDoor
open Go.RowKit Go.Shelf
attribute [local go_sem] Oper.semAt_some
def mH (t:ByteArray):Nat:=t.size / 32
def gE (t:ByteArray) (k:Nat):ByteArray:=t.extract (k*32) (k*32+32)
theorem Mv {t:ByteArray} {k:Nat}:k*32+32<=t.size↔k<mH t:=by unfold mH;omega
theorem nF {t:ByteArray} {k:Nat} (h:k<mH t):(gE t k).size=32:=by
 have:=Mv.2 h;unfold gE;rw [ByteArray.size_extract];omega
theorem qC (s:ByteArray) (w:World) (h:s.size<=281474976710656):Calls Tryz.prog 146 #[.string s] w fun e w'=>e=.returned (.string s)/\aB w w':=by
 go_enter Tryz.func146,Tryz.ntmps146;go_wp2_with fail
 refine (BJ s _ h).mono ?_
 rintro e w1 ⟨rfl,hk⟩;have HK:=DX (show aB w w1 from hk);clear hk;go_wp2;go_ret;exact ⟨rfl,HK.out⟩
theorem xO (t:ByteArray) (w:World) :
 Calls Tryz.prog 118 #[.string t] w fun e w'=>e=.returned (.func (.func 148) #[] #[.pointer (some ⟨w.heap.size,0,none⟩)])/\w'=w.alloc (.cells #[.string t] 9):=by
 go_enter Tryz.func118,Tryz.ntmps118;go_wp2;go_ret;exact ⟨rfl,rfl⟩
theorem Gs {a b:World} (h:aB a b):a.grownBy b none:=⟨Below.os h,Below.tape h,Below.output h,Below.size h,fun k hk _=>Below.block h k hk⟩
theorem tG (n:Nat) (hn:1<=n) (R:Nat->Prop) (t:ByteArray) (ht:t.size<=1000000) (pt:Nat) (w:World) (hRt:¬ R pt) (hpt:aA w pt #[.string t] 9) :
 SeqStopsK Fence.wide n Tryz.prog 148 #[.pointer (some ⟨pt,0,none⟩)]
  (fun k:{ k:Nat // k<mH t }=>#[Value.string (gE t k.1)]) (aV R)
  (fun xs=>lU xs=List.range (mH t)) (fun pre=>∃ k,k<mH t/\lU pre=List.range (k+1)) (mH t) w:=fun l J Jx W hW hJ _ hY h0=>by
 have hT:=hpt.kept hW
 refine callsIn_of_wp Tryz.func148 rfl trivial ?_ rfl
 simp only [Tryz.ntmps148,List.size_toArray,List.length_nil,List.length_cons,Nat.reduceAdd,Nat.reduceSub,Array.replicate_succ,Array.replicate_zero,List.push_toArray,List.append_toArray,List.nil_append,List.cons_append]
 refine wpIn_wide.2 ?_
 have HJ0:=DX h0;have HTT:=DX hT;have HAB:=DX hJ;clear hpt hW h0 hT;go_wp2_with fail
 refine eS n ?_
 gi_loopw [3] (fun i wr=>∃ k m:Nat,m=k*32/\k<=mH t/\m<=1000000/\i=.int .i64 m/\aA wr pt #[.string t] 9/\∃ pre:List { k:Nat // k<mH t },lU pre=List.range k/\J pre wr) (fun i _=>2000000 - (intOf i).toNat)
 case atStart=>exact ⟨0,0,by simp,aE,aE,rfl,HTT.out,[],rfl,HJ0.out⟩
 case round =>
  obtain ⟨k,m,hm,hk,PJ,rfl,hT,pre,JZ,XA⟩:=hrel;have c1:=fC hT;have HT:=DX hT;have LY:=DX JZ
  have GM:pre.length=k:=by have:=congrArg List.length JZ;rw [fH] at this;simpa using this
  have TS:=DX GM;have FV:=Mv (t:=t) (k:=k)
  have hdg:gE t k=t.extract m (m+32):=by unfold gE;rw [<- hm]
  rw [<- hm] at FV;have QB:=DX FV;have HM:=DX hm;have HJK:=DX XA;clear JZ GM hT hm FV XA
  by_cases LA:m+32<=t.size
  . have JE:k<mH t:=QB.out.1 LA
    obtain ⟨u,hu⟩:∃ u,u=m+32:=⟨_,rfl⟩
    have hi8:(m:Int)+32=(u:Int):=by omega
    have hu2:u<=1000000:=by omega
    have hmu:m<=u:=by omega
    have hul:u<=t.size:=by omega
    have MI:decide (u<=t.size)=true:=DZ hul;have HDS:=DX (nF JE);rw [<- hu] at hdg;have RO:=DX (show u=(k+1)*32 by rw [hu,HM.out];omega);clear hu LA
    obtain ⟨d,hd⟩:∃ d,d=gE t k:=⟨_,rfl⟩
    rw [<- hd] at hdg HDS;have HD:=DX hd;have hxt:t.extract m u=d:=hdg.symm;clear hd hdg;gi_wp2_with fail;refine ⟨trivial,callsIn_wide.2 ((qC d wr (by rw [HDS.out];omega)).mono ?_)⟩;rintro e w9 ⟨rfl,GF⟩;have hJ9:=HAB.out pre wr w9 none HJK.out (Gs GF) (fun r e=>by cases e);have hT9:=HT.out.kept GF;have HT9:=DX hT9;obtain ⟨f1,t1,a1,b1,MW,hR1⟩:=hY pre ⟨k,JE⟩ w9 hJ9 (by rw [TS.out];exact JE);simp only [<- HD.out] at MW
    have IT:∀ (e:Ending) (W3:World),(e=.returned (.bool true)/\J (pre++[⟨k,JE⟩]) W3/\aV R w9 W3\/e=.returned (.bool false)/\Jx (pre++[⟨k,JE⟩]) W3)->(e=.returned (.bool true)/\aA W3 pt #[.string t] 9/\J (pre++[⟨k,JE⟩]) W3)\/(e=.returned (.bool false)/\Jx (pre++[⟨k,JE⟩]) W3):=fun e W3 h=>by
     rcases h with ⟨rfl,TB,hkp⟩ | ⟨rfl,UP⟩
     . exact .inl ⟨rfl,HT9.out.but hkp hRt,TB⟩
     . exact .inr ⟨rfl,UP⟩
    have TQ:=DX IT;clear IT GF hJ9 hT9 c1 hxt;gi_wp2_with fail
    refine hR1.mono ?_
    rintro e W3 h3
    rcases TQ.out _ _ h3 with ⟨rfl,hT3,TB⟩ | ⟨rfl,UP⟩
    . have HT3:=DX hT3
      have HJ3:=DX TB;clear h3 hT3 TB;gi_wp2;go_roundw
      case rel=>exact ⟨k+1,u,RO.out,aE,hu2,by go_num,HT3.out,pre++[⟨k,JE⟩],by rw [dJ,LY.out,List.range_succ],HJ3.out⟩
      case measure=>simp [intOf];omega
    . gi_wp2
      refine EI (results_none rfl _ _ _) rfl ?_
      exact ⟨⟨_,rfl⟩,.inr ⟨pre++[⟨k,JE⟩],⟨k,JE,by rw [dJ,LY.out,List.range_succ]⟩,UP⟩⟩
  . have OS:=DX (show k=mH t by
     have:¬ k<mH t:=fun h=>LA (QB.out.2 h)
     omega)
    have MI:decide (m+32<=t.size)=false:=DY LA;clear hdg;gi_wp2;go_end0;exact ⟨⟨_,rfl⟩,.inl ⟨pre,by rw [LY.out,OS.out],HJK.out⟩⟩
def fK (s:ByteArray) (i:Nat):UInt8:=s.data.toList.getD i 0
theorem lI (s:ByteArray) (i:Nat) (h:i<s.size):s[i]=fK s i:=by
 unfold fK;rw [List.getD_eq_getElem?_getD,List.getElem?_eq_getElem (by simpa using h)];rfl
def oL (s:ByteArray):ByteArray:=s.extract 7 s.size
def mS (t:ByteArray):List ByteArray:=(List.range (mH t)).map (gE t)
theorem hZ (t:ByteArray):(mS t).length=mH t:=by simp [mS]
def eR (s:ByteArray):Mf:=⟨((fK s 4).toNat:Int),(mS (oL s)).take (fK s 5).toNat,(mS (oL s)).drop (fK s 5).toNat⟩
def bJ (s:ByteArray):Option Mf:=if 7<=s.size/\s.size<=647/\rY (eR s)=true/\Pc (eR s)=s then some (eR s) else none
def Ax (w w':World) (ab:Option Addr) (cb:Nat) (au:Option Addr) (m:Mf):Prop :=
 m.bs.length<=cb/\w'.ownsRow w.heap.size 9 1 (.slice ab m.bs.length cb) m.bs.length (m.bs.map Value.string)/\∀ W2,w'.grownBy W2 (Value.slice ab m.bs.length cb).ownBlock->bD W2 au m.us.length m.us
def Bv (w:World) (o:Option Mf) (e:Ending) (w':World):Prop :=
 (o=none->e=.returned (.tuple #[.agg (LM 0 none 0 0 none 0 0),.int .i64 7])) /\
 (∀ m,o=some m->∃ ab cb au cu,e=.returned (.tuple #[.agg (LM m.k ab m.bs.length cb au m.us.length cu),.int .i64 0])/\Ax w w' ab cb au m/\bD w' ab m.bs.length m.bs/\bD w' au m.us.length m.us)/\aB w w'
theorem BB:(Tryz.prog.info? 85).map (·.size)=some 3:=by kernel_rfl
theorem wR (r:Int) (a:Option Addr) (l cap:Nat) (b:Option Addr) (m cap':Nat):(#[Value.int .i64 r,.slice a l cap,.slice b m cap']:Array Value).all (·.oneCell')=true:=by simp [Value.oneCell']
theorem Hz (s:ByteArray) (w:World) (h:s.size<7\/647<s.size):Calls Tryz.prog 88 #[.string s] w (Bv w none):=by
 have QT:=DX ((EX w).alloc ((KM 0 none 0 0 none 0 0)));have HR:=DX (EY w (LM 0 none 0 0 none 0 0) 85)
 rcases h with h | h
 . have hd:decide (s.size<7)=true:=DZ h
   exact Yr
 . have hd:decide (s.size<7)=false:=DY aE
   have JH:decide (647<(s.size:Int))=true:=DZ aE;have ZK:decide (647<s.size)=true:=DZ aE;exact Yr
end Go.Proofs.YtkfmladhicapeaaGreatDoor
