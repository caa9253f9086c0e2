import Derived.Test.YtkfmladhicapeaaGreatDoorY1
set_option maxRecDepth 100000
set_option maxHeartbeats 2000000
namespace Go.Proofs.YtkfmladhicapeaaGreatDoor.Pj
open Go.RowKit Go.Shelf
def Zp (aQ:Array Bool):Nat:=aQ.toList.count false
theorem AA {aQ:Array Bool} {i:Nat} (h:aQ.getD i true=false):Zp (aQ.setIfInBounds i true)+1=Zp aQ:=by
 have hi:i<aQ.size:=by
  rcases Nat.lt_or_ge i aQ.size with hi | hi
  . exact hi
  . rw [Array.getD_eq_getD_getElem?,Array.getElem?_eq_none hi] at h
    cases h
 have hv:aQ.toList[i]'(by simpa using hi)=false:=by
  rw [Array.getD_eq_getD_getElem?,Array.getElem?_eq_getElem hi] at h
  simpa using h
 have aBY:0<aQ.toList.count false:=List.count_pos_iff.2 (by rw [<- hv];exact List.getElem_mem _);unfold Zp;rw [Array.toList_setIfInBounds,List.count_set (by simpa using hi),hv,if_pos uN,if_neg aF];omega
theorem AQ {md:Region.Mode} {ops:Array Oper} {aQ:Array Bool} (h:Zp aQ=0):Region.ready md ops aQ=[]:=by
 unfold Region.ready;rw [List.filter_eq_nil_iff];intro i _ hb;rw [Bool.and_eq_true] at hb
 have h1:aQ.getD i true=false:=by simpa using hb.1
 have:=AA h1;omega
theorem Zk {md:Region.Mode} {ops:Array Oper} {aQ:Array Bool} {i:Nat} (h:i∈Region.ready md ops aQ):aQ.getD i true=false:=by
 unfold Region.ready at h
 have:=(List.mem_filter.1 h).2
 rw [Bool.and_eq_true] at this
 simpa using this.1
theorem AF {P:Program} {md:Region.Mode} {ops:Array Oper} {Q:Exit->Act->World->Prop} (J:Array Bool->Act->World->Prop)
 (JP:∀ aQ a w i,J aQ a w->i∈Region.ready md ops aQ->wpOp P ops Q i (J (aQ.setIfInBounds i true)) a w)
 (IT:∀ aQ a w,J aQ a w->Region.ready md ops aQ=[]->Q .normal a w):∀ fuel aQ a w,Zp aQ<=fuel->J aQ a w->wpAny P md ops Q fuel aQ a w
 | 0,aQ,a,w,hl,hJ=>by
  exact Qs
 | fuel+1,aQ,a,w,hl,hJ=>by
  refine ⟨IT aQ a w hJ,fun i hi=>wpOp_mono (fun a' w' h=>AF J JP IT fuel _ a' w' ?_ h) (JP aQ a w i hJ hi)⟩;have:=AA (Zk hi);omega
theorem getD_set (aQ:Array Bool) (i j:Nat):(aQ.setIfInBounds i true).getD j true=if i=j then true else aQ.getD j true:=by
 simp only [Array.getD_eq_getD_getElem?,Array.getElem?_setIfInBounds]
 split
 . rename_i h
   split
   . rfl
   . rename_i h2
     rfl
 . rfl
theorem AK (n j:Nat) (h:j<n):(Array.replicate n false).getD j true=false:=by
 simp [Array.getD_eq_getD_getElem?,h]
theorem AG (aQ:Array Bool) (j:Nat) (h:j<aQ.size):aQ.getD j false=aQ.getD j true:=by
 simp [Array.getD_eq_getD_getElem?,h]
def Zq (ops:Array Oper):Bool:=(List.range ops.size).all fun i=>((ops[i]?).map (fun o=>o.after.all fun e=>decide (e.on<i)||!Region.binds .any e)).getD true
theorem AI {ops:Array Oper} (hb:Zq ops=true) {i:Nat} {o:Oper} (ho:ops[i]?=some o):o.after.all (fun e=>decide (e.on<i)||!Region.binds .any e)=true:=by
 have hi:i<ops.size:=(Array.getElem?_eq_some_iff.1 ho).1
 have:=List.all_eq_true.1 hb i (List.mem_range.2 hi);rw [ho] at this;exact this
theorem Zz {ops:Array Oper} (hb:Zq ops=true) {aQ:Array Bool} (hs:aQ.size=ops.size) (hr:Region.ready .any ops aQ=[]):∀ n i,i<n->i<ops.size->aQ.getD i true=true
 | n+1,i,JN,hi=>by
  have ih:=Zz hb hs hr n
  cases hl:aQ.getD i true with
  | true=>rfl
  | false =>
   exfalso
   have ho:ops[i]?=some ops[i]:=Array.getElem?_eq_getElem hi
   have GH:=AI hb ho
   have aBQ:i∈Region.ready .any ops aQ:=by
    unfold Region.ready;refine List.mem_filter.2 ⟨List.mem_range.2 hi,?_⟩;rw [hl,ho];simp only [Bool.not_false,Bool.true_and,Option.map_some,Option.getD_some];rw [Array.all_eq_true] at GH ⊢;intro k hk;have h0:=GH k hk
    cases JL:Region.binds .any (ops[i].after[k]) with
    | false=>rfl
    | true =>
     rw [JL] at h0
     have h1:(ops[i].after[k]).on<i:=by simpa using h0
     rw [AG aQ _ aE,ih _ aE aE,Bool.or_true]
   rw [hr] at aBQ;cases aBQ
theorem AD {P:Program} {id:Nat} {ops:Array Oper} {Q:Exit->Act->World->Prop} (J:(Nat->Prop)->Act->World->Prop) {a:Act} {w:World} (hm:P.follows .mixedOrders=true) (hb:Zq ops=true)
 (h0:∀ L:Nat->Prop,(∀ j,j<ops.size->¬ L j)->J L a w.drew)
 (JP:∀ (L L':Nat->Prop) a w i o K,J L a w->ops[i]?=some o->¬ L i->(∀ j,(o.after.any fun e=>e.on == j&&Region.binds .any e)=true->L j)->(∀ j,L' j↔(j=i\/L j))->(∀ a' w',J L' a' w'->K a' w') ->
  if Region.wanted o (yielded ops a.tmps)=true then Oper.wp P o a w K Q else K (a.put o.dst undef) w)
 (IT:∀ (L:Nat->Prop) a w,J L a w->(∀ j,j<ops.size->L j)->Q .normal a w):(Code.region id ops true).wp P Q a w:=by
 refine wp_region_any hm (AF (fun aQ a w=>aQ.size=ops.size/\J (fun j=>aQ.getD j true=true) a w) ?_ ?_ ops.size _ a _ (by unfold Zp;rw [Array.toList_replicate,List.count_replicate];split <;> omega) ⟨Array.size_replicate,h0 _ (fun j hj=>by simp [AK _ _ hj])⟩)
 . rintro aQ a w i ⟨hs,hJ⟩ hi
   have FY:=Zk hi
   have RR:=(List.mem_filter.1 hi).2
   have hil:i<ops.size:=List.mem_range.1 (List.mem_filter.1 hi).1
   have ho:ops[i]?=some ops[i]:=Array.getElem?_eq_getElem hil
   have GH:=AI hb ho
   refine wpOp_step ho fun K' hK=>JP _ (fun j=>(aQ.setIfInBounds i true).getD j true=true) a w i ops[i] K' hJ ho (by rw [FY];exact Bool.false_ne_true) (fun j hj=>?_) (fun j=>?_) (fun a' w' h'=>hK a' w' ⟨by rw [Array.size_setIfInBounds];exact hs,h'⟩)
   . exact Xe
   . exact Qi
 . exact Sy
theorem AB {P:Program} {id:Nat} {ops:Array Oper} {Q:Exit->Act->World->Prop} (J:Act->(Nat->Prop)->Act->World->Prop) {a:Act} {w:World} (hm:P.follows .mixedOrders=true) (hb:Zq ops=true)
 (h0:∀ L:Nat->Prop,(∀ j,j<ops.size->¬ L j)->J a L a w.drew)
 (JP:∀ (L L':Nat->Prop) b w i o K,J a L b w->ops[i]?=some o->¬ L i->(∀ j,(o.after.any fun e=>e.on == j&&Region.binds .any e)=true->L j)->(∀ j,L' j↔(j=i\/L j))->(∀ a' w',J a L' a' w'->K a' w') ->
  if Region.wanted o (yielded ops b.tmps)=true then Oper.wp P o b w K Q else K (b.put o.dst undef) w)
 (IT:∀ (L:Nat->Prop) b w,J a L b w->(∀ j,j<ops.size->L j)->Q .normal b w):(Code.region id ops true).wp P Q a w :=
 AD (J a) hm hb h0 JP IT
theorem Ze {o:Oper} (h:o.guard=none) (y:Nat->Option Bool):Region.wanted o y=true:=by unfold Region.wanted;rw [h]
def Yz (V:Nat->Value) (i:Nat) (x:Value):Nat->Value:=fun j=>if j=i then x else V j
theorem Zc (V:Nat->Value) (i:Nat) (x:Value):Yz V i x i=x:=by simp [Yz]
theorem Yy (V:Nat->Value) {i j:Nat} (x:Value) (h:j≠i):Yz V i x j=V j:=by simp [Yz,h]
def AR (p:World->Value->Prop):Prop:=∀ w w' v,p w v->aB w w'->p w' v
def Is (x:Value):World->Value->Prop:=fun _ v=>v=x
theorem Is.stays (x:Value):AR (Is x):=fun _ _ _ h _=>h
def of (l:List (World->Value->Prop)) (j:Nat):World->Value->Prop:=l.getD j (fun _ _=>True)
def Zl:List (World->Value->Prop)->Prop
 | []=>True
 | p :: l=>AR p/\Zl l
theorem Zl.at:∀ {l:List (World->Value->Prop)},Zl l->∀ j,AR (of l j)
 | [],_,j=>fun _ _ _ _ _=>by simp [of]
 | p :: l,h,0=>h.1
 | p :: l,h,j+1=>fun w w' v hv hk=>by
  have:=Zl.at h.2 j w w' v (by simpa [of] using hv) hk
  simpa [of] using this
structure J (W:World) (l:List (World->Value->Prop)) (L:Nat->Prop) (V:Nat->Value) (w:World):Prop where
 kp:aB W w
 h:∀ j,L j->of l j w (V j)
theorem J.none {W w:World} {l:List (World->Value->Prop)} {L:Nat->Prop} {V:Nat->Value} {n:Nat} (hn:l.length<=n) (hL:∀ j,j<n->¬ L j) (k:aB W w):J W l L V w :=
 ⟨k,fun j hj=>by
  by_cases h:j<n
  . exact absurd hj (hL j h)
  . have:of l j=fun _ _=>True:=by
     exact Qq
    rw [this]
    trivial⟩
theorem J.more {W:World} {l:List (World->Value->Prop)} {L L':Nat->Prop} {V:Nat->Value} {w w':World} {i:Nat} (h:J W l L V w) (hP:Zl l) (hL:∀ j,L' j↔(j=i\/L j)) (hk:aB w w') {x:Value} (hx:of l i w' x):J W l L' (Yz V i x) w' :=
 ⟨h.kp.trans hk,fun j hj=>by
  by_cases e:j=i
  . subst e;rw [Zc];exact hx
  . rw [Yy _ _ e];exact hP.at j w w' _ (h.h j (((hL j).1 hj).resolve_left e)) hk⟩
def Zb (sl:List (Nat × Nat)) (V:Nat->Value) (a:Act):Act:=sl.foldl (fun a p=>a.put (some p.1) (V p.2)) a
theorem AT (a:Act) (s:Nat):a.put (some s) (a.tmps.getD s undef)=a:=by
 obtain ⟨t,d⟩:=a;unfold Act.put
 simp only
 congr 1
 apply Array.ext_getElem?
 intro i;rw [Array.getElem?_setIfInBounds]
 by_cases h:s=i
 . subst h
   by_cases h2:s<t.size
   . simp [h2]
   . simp [h2]
 . simp [h]
theorem Zi (a:Act) (f:Nat->Nat):∀ js:List Nat,a=Zb (js.map fun j=>(f j,j)) (fun j=>a.tmps.getD (f j) undef) a
 | []=>rfl
 | j :: js=>by
  have h:=Zi a f js;have e:Zb ((j :: js).map fun j=>(f j,j)) (fun j=>a.tmps.getD (f j) undef) a=Zb (js.map fun j=>(f j,j)) (fun j=>a.tmps.getD (f j) undef) (a.put (some (f j)) (a.tmps.getD (f j) undef)):=rfl;rw [e,AT];exact h
theorem AO {o:Oper} {g:Nat} {b:Bool} (h:o.guard=some (g,b)) {y:Nat->Option Bool} (hy:y g=some b):Region.wanted o y=true:=by
 unfold Region.wanted;rw [h]
 simp [hy]
def Za (o:Oper) (y:Nat->Option Bool) (A B:Prop):Prop:=(Region.wanted o y=true->A)/\(¬ Region.wanted o y=true->B)
theorem Za.free {o:Oper} {y:Nat->Option Bool} {A B:Prop} (h:o.guard=none) (a:A):Za o y A B:=⟨fun _=>a,fun k=>absurd (Ze h y) k⟩
theorem Za.at {o:Oper} {y:Nat->Option Bool} {A B:Prop} {g:Nat} {b:Bool} (h:o.guard=some (g,b)) (hy:y g=some b) (a:A):Za o y A B:=⟨fun _=>a,fun k=>absurd (AO h hy) k⟩
theorem Zg {P:Program} {id:Nat} {ops:Array Oper} {Q:Exit->Act->World->Prop} (J:Act->(Nat->Prop)->Act->World->Prop) {a:Act} {w:World} (hm:P.follows .mixedOrders=true) (hb:Zq ops=true)
 (h0:∀ L:Nat->Prop,(∀ j,j<ops.size->¬ L j)->J a L a w.drew)
 (JP:∀ (L L':Nat->Prop) b w i o K,J a L b w->ops[i]?=some o->¬ L i->(∀ j,(o.after.any fun e=>e.on == j&&Region.binds .any e)=true->L j)->(∀ j,L' j↔(j=i\/L j))->(∀ a' w',J a L' a' w'->K a' w') ->
  Za o (yielded ops b.tmps) (Oper.wp P o b w K Q) (K (b.put o.dst undef) w))
 (IT:∀ (L:Nat->Prop) b w,J a L b w->(∀ j,j<ops.size->L j)->Q .normal b w):(Code.region id ops true).wp P Q a w :=
 AB J hm hb h0 (fun L L' b w i o K h1 h2 h3 h4 h5 h6=>by
  have h:=JP L L' b w i o K h1 h2 h3 h4 h5 h6
  by_cases hw:Region.wanted o (yielded ops b.tmps)=true
  . rw [if_pos hw];exact h.1 hw
  . rw [if_neg hw];exact h.2 hw) IT
end Go.Proofs.YtkfmladhicapeaaGreatDoor.Pj
namespace Go.Proofs.YtkfmladhicapeaaGreatDoor
open Go.RowKit Go.Shelf
attribute [local go_sem] Oper.semAt_some
theorem nK (l:List ByteArray) (k:Nat) (h:k<l.length):oK (l.take (k+1))=(oK (l.take k)&&decide ((pQ l k).size=32)):=tE l _ k ByteArray.empty h
theorem wT (a:Option Addr) (l cap:Nat) (ss:List ByteArray) (w:World) (h:bD w a l ss) :
 Calls Tryz.prog 196 #[.slice a l cap] w fun e w'=>e=.returned (.bool (oK ss))/\aB w w':=by
 have OH:=h.le;have HS:=DX h;have HL:=DX h.len_eq;clear h;go_enter Tryz.func196,Tryz.ntmps196;go_wp2_with fail;go_loopw [4,7] (fun _ i wr=>∃ k:Nat,k<=l/\i=.int .i64 k/\Hid (oK (ss.take k)=true)/\aB w wr) (fun _ i _=>l - (intOf i).toNat)
 case atStart=>exact ⟨0,aE,rfl,DX rfl,EX _⟩
 case round =>
  obtain ⟨k,hk,rfl,HZ,IF⟩:=hrel;have HK:=DX IF;clear IF
  by_cases FV:k<l
  . have GU:decide (k<l)=true:=DZ FV
    obtain ⟨b,off,rfl,hc⟩:=HS.out.at aE;have c0:=hc k FV _ HK.out;have IX:=DX (nK ss k (by rw [HL.out];exact FV));have HF:=DX (fun hp=>uD ss (fun d=>decide (d.size=32)) k ByteArray.empty (by rw [HL.out];exact FV) hp)
    obtain ⟨t,ht⟩:∃ t,t=ss.getD k ByteArray.empty:=⟨_,rfl⟩
    have RK:=HS.out.size k FV;unfold pQ at IX;rw [<- ht] at c0 IX HF RK;clear hc ht
    by_cases h32:t.size=32
    . have GW:((t.size:Int) != 32)=false:=by simp [h32]
      have HN:=DX (show oK (ss.take (k+1))=true by rw [IX.out,HZ.out,DZ h32];rfl);clear h32;go_wp2;exact Mh
    . have GW:((t.size:Int) != 32)=true:=by simp;omega
      have HN:=DX (show oK ss=false from HF.out (DY h32));clear h32;go_wp2;go_ret;rw [HN.out];exact ⟨rfl,HK.out⟩
  . obtain rfl:l=k:=by omega
    have GU:decide (l<l)=false:=DY aE;have HN:=DX (show oK ss=true by rw [<- HZ.out,EE (by rw [HL.out];omega)]);go_wp2;go_ret;rw [HN.out];exact ⟨rfl,HK.out⟩
theorem tO (a:Option Addr) (l cap:Nat) (ss:List ByteArray) (w:World) (h:bD w a l ss) :
 Calls Tryz.prog 175 #[.slice a l cap] w fun e w'=>e=.returned (.bool (gG ss))/\aB w w':=by
 have OH:=h.le;have HS:=DX h;have HL:=DX h.len_eq;clear h;go_enter Tryz.func175,Tryz.ntmps175;go_wp2_with fail
 refine wp_scope_straight ?_
 go_wp2_with fail
 refine wp_label ?_
 go_wp2_with fail;go_loopw [3,4,7] (fun x _ i wr=>∃ k:Nat,k<=l/\i=.int .i64 k/\x=.bool true/\Hid (pS ss k=true)/\aB w wr) (fun _ _ i _=>l - (intOf i).toNat)
 case atStart=>exact ⟨0,aE,rfl,rfl,DX rfl,EX _⟩
 case round =>
  obtain ⟨k,hk,rfl,rfl,HZ,IF⟩:=hrel;have HK:=DX IF;clear IF
  by_cases FV:k<l
  . have GU:decide (k<l)=true:=DZ FV
    obtain ⟨b,off,rfl,hc⟩:=HS.out.at aE
    by_cases h0:k=0
    . subst h0
      have HN:=DX (show pS ss (0+1)=true from rfl);clear hc;go_wp2_with fail;go_quiet (fail);go_wp2;go_roundw
      case rel=>exact ⟨0+1,aE,by go_num,rfl,HN,HK.out.drewN nq⟩
      case measure=>simp [intOf];omega
    . obtain ⟨j,rfl⟩:∃ j,k=j+1:=⟨k - 1,aE⟩
      have c0:=hc j aE _ HK.out;have c1:=hc (j+1) FV _ HK.out;have IX:=DX (mT ss (j+1));have HF:=DX (fun hp=>kY (l:=ss) (n:=l) (i:=j+1) FV aE hp);rw [Nat.add_sub_cancel] at IX HF;unfold pQ at IX HF
      obtain ⟨t,ht⟩:∃ t,t=ss.getD j ByteArray.empty:=⟨_,rfl⟩
      obtain ⟨u,hu⟩:∃ u,u=ss.getD (j+1) ByteArray.empty:=⟨_,rfl⟩
      rw [<- ht] at c0 IX HF;rw [<- hu] at c1 IX HF;clear hc ht hu
      obtain ⟨m,hm⟩:∃ m,m=j+1:=⟨_,rfl⟩
      rw [<- hm] at c1 IX HZ FV GU hk ⊢
      have hmi:(m:Int) - 1=(j:Int):=by omega
      have hwj:IntKind.i64.wrap (j:Int)=(j:Int):=IntWalk.i64_in _ aE;have NE:decide (0<m)=true:=DZ aE
      have YM:j<l:=by omega
      clear hm
      cases hq:cZ t u with
      | true =>
       have ZO:=jV hq;have HN:=DX (show pS ss (m+1)=true by rw [IX.out,HZ.out,hq];simp);clear h0 hq;go_wp2_with fail;go_quiet (fail);go_wp2;go_roundw
       case rel=>exact ⟨m+1,aE,by go_num,rfl,HN,HK.out.drewN nq⟩
       case measure=>simp [intOf];omega
      | false =>
       have ZO:=jV hq;have HN:=DX (show gG ss=false by unfold gG;rw [HL.out];exact HF.out hq);clear h0 hq;go_wp2_with fail;go_quiet (fail);go_wp2
       (refine lR ?_;go_ret)
       rw [HN.out];exact ⟨rfl,HK.out.drewN nq⟩
  . obtain rfl:l=k:=by omega
    have GU:decide (l<l)=false:=DY aE;have HN:=DX (show gG ss=true by unfold gG;rw [HL.out];exact HZ.out);go_wp2
    (refine lR ?_;go_ret)
    rw [HN.out];exact ⟨rfl,HK.out⟩
theorem rH {W:World} {b:Nat} {x y z:Value} {t:TypeId} (h:aA W b #[x,y,z] t) {w:World} (k:aB W w):w.cell? ⟨b,0,none⟩=some x/\w.cell? ⟨b,1,none⟩=some y/\w.cell? ⟨b,2,none⟩=some z :=
 ⟨(h.kept k).cell 0,(h.kept k).cell 1,(h.kept k).cell 2⟩
theorem jR {a b:Bool} (h:b=a):Ending.returned (.bool a)=.returned (.bool b):=by rw [h]
theorem tF {a b:Int} (h:b=a):Ending.returned (.int .i64 a)=.returned (.int .i64 b):=by rw [h]
theorem Pd (k:Int) (ab:Option Addr) (lb cb:Nat) (au:Option Addr) (lu cu:Nat) (bs us:List ByteArray) (w:World) (hb:bD w ab lb bs) (hu:bD w au lu us) (hl:lb<=1000000/\lu<=1000000) :
 Calls Tryz.prog 173 #[.agg (LM k ab lb cb au lu cu)] w fun e w'=>e=.returned (.bool (oU ⟨k,bs,us⟩))/\aB w w':=by
 have HF:=DX (show oU ⟨k,bs,us⟩=decide ((lb:Int)+(lu:Int)<=20) by
  unfold oU;rw [hb.len_eq,hu.len_eq]
  by_cases e:lb+lu<=20
  . rw [DZ e,DZ aE]
  . rw [DY e,DY aE])
 have HB:=DX (EY w (LM k ab lb cb au lu cu) 85);have HK:=DX ((EX w).alloc ((KM k ab lb cb au lu cu)));clear hb hu;rw [HF.out]
 obtain ⟨B,hB⟩:∃ B,B=decide ((lb:Int)+(lu:Int)<=20):=⟨_,rfl⟩
 rw [<- hB];have HX:=DX hB;clear hB HF;go_enter Tryz.func173,Tryz.ntmps173
 go_upto_region 1 with (fail)
 generalize w.alloc ((KM k ab lb cb au lu cu))=w1 at *;obtain ⟨a0,a1,a2⟩:=dI HB.out;go_wp2;go_ret;exact ⟨jR HX.out,HK.out⟩
theorem Lw (k:Int) (ab:Option Addr) (lb cb:Nat) (au:Option Addr) (lu cu:Nat) (bs us:List ByteArray) (w:World) (hb:bD w ab lb bs) (hu:bD w au lu us) :
 Calls Tryz.prog 174 #[.agg (LM k ab lb cb au lu cu)] w fun e w'=>e=.returned (.bool (lM ⟨k,bs,us⟩))/\aB w w':=by
 have RL:=DX hb;have TX:=DX hu;have HF:=DX (show lM ⟨k,bs,us⟩=(decide (0<=k)&&(decide (k<=255)&&(oK bs&&oK us))) from rfl);have HB:=DX (EY w (LM k ab lb cb au lu cu) 85);have HK:=DX ((EX w).alloc ((KM k ab lb cb au lu cu)));clear hb hu
 obtain ⟨R,hR⟩:∃ R,R=lM ⟨k,bs,us⟩:=⟨_,rfl⟩
 rw [<- hR];have HR:=DX (hR.trans HF.out);clear HF hR;go_enter Tryz.func174,Tryz.ntmps174
 go_upto_region 1 with (fail)
 generalize w.alloc ((KM k ab lb cb au lu cu))=w1 at *;obtain ⟨a0,a1,a2⟩:=dI HB.out
 by_cases h1:0<=k
 . have d1:decide (0<=k)=true:=DZ h1
   by_cases h2:k<=255
   . have d2:decide (k<=255)=true:=DZ h2
     have GK:=DX (show R=(oK bs&&oK us) by rw [HR.out,d1,d2];rfl);clear HR;go_wp2_with fail
     refine (wT ab lb cb bs _ (RL.out.kept HK.out)).mono ?_
     rintro e w2 ⟨rfl,FX⟩;have FW:=DX (HK.out.trans FX);clear a0 a1 a2;obtain ⟨a0,a1,a2⟩:=rH HB.out FX;clear FX
     cases hz:oK bs with
     | false =>
      have HE:=DX (show R=false by rw [GK.out,hz];rfl);clear hz GK;go_wp2;go_ret;exact ⟨jR HE.out,FW.out⟩
     | true =>
      have HE:=DX (show R=oK us by rw [GK.out,hz];rfl);clear hz GK;go_wp2_with fail
      refine (wT au lu cu us _ (TX.out.kept FW.out)).mono ?_
      rintro e w3 ⟨rfl,IK⟩;have GC:=DX (FW.out.trans IK);clear a0 a1 a2 IK;generalize oK us=B at *;go_wp2;go_ret;exact ⟨jR HE.out,GC.out⟩
   . have d2:decide (k<=255)=false:=DY h2
     have HE:=DX (show R=false by rw [HR.out,d1,d2];rfl);go_wp2;go_ret;exact ⟨jR HE.out,HK.out⟩
 . have d1:decide (0<=k)=false:=DY h1
   have HE:=DX (show R=false by rw [HR.out,d1];rfl);go_wp2;go_ret;exact ⟨jR HE.out,HK.out⟩
def Ua (m:Mf):Int:=if rY m=true then 0 else 1
theorem sZ (k:Int) (ab:Option Addr) (lb cb:Nat) (au:Option Addr) (lu cu:Nat) (bs us:List ByteArray) (w:World) (hb:bD w ab lb bs) (hu:bD w au lu us) (hl:lb<=1000000/\lu<=1000000) :
 Calls Tryz.prog 149 #[.agg (LM k ab lb cb au lu cu)] w fun e w'=>e=.returned (.int .i64 (Ua ⟨k,bs,us⟩))/\aB w w':=by
 have RL:=DX hb;have TX:=DX hu;have HF:=DX (show rY ⟨k,bs,us⟩=(oU ⟨k,bs,us⟩&&(lM ⟨k,bs,us⟩&&(gG bs&&gG us))) from rfl);have HFW:=DX (fun w h1 h2=>Pd k ab lb cb au lu cu bs us w h1 h2 hl);have VQ:=DX (fun w h1 h2=>Lw k ab lb cb au lu cu bs us w h1 h2);have HB:=DX (EY w (LM k ab lb cb au lu cu) 85);have HK:=DX ((EX w).alloc ((KM k ab lb cb au lu cu)));clear hb hu
 obtain ⟨R,hR⟩:∃ R,R=Ua ⟨k,bs,us⟩:=⟨_,rfl⟩
 rw [<- hR];have HR:=DX (show R=if (oU ⟨k,bs,us⟩&&(lM ⟨k,bs,us⟩&&(gG bs&&gG us)))=true then 0 else 1 by rw [hR];unfold Ua;rw [HF.out]);clear HF hR;generalize oU ⟨k,bs,us⟩=b1 at *;generalize lM ⟨k,bs,us⟩=b2 at *;generalize TD:gG bs=b3 at *;generalize IM:gG us=b4 at *;have H3:=DX TD;have H4:=DX IM;clear TD IM;go_enter Tryz.func149,Tryz.ntmps149
 go_upto_region 1 with (fail)
 generalize w.alloc ((KM k ab lb cb au lu cu))=w1 at *;obtain ⟨a0,a1,a2⟩:=dI HB.out;go_wp2_with fail
 refine (HFW.out _ (RL.out.kept HK.out) (TX.out.kept HK.out)).mono ?_
 rintro e w2 ⟨rfl,FX⟩;have FW:=DX (HK.out.trans FX);clear a0 a1 a2;obtain ⟨a0,a1,a2⟩:=rH HB.out FX;have GP:=DX (HB.out.kept FX);clear FX
 cases b1 with
 | false =>
  go_wp2;go_ret;exact ⟨tF (by rw [HR.out];rfl),FW.out⟩
 | true =>
  go_wp2_with fail
  refine (VQ.out _ (RL.out.kept FW.out) (TX.out.kept FW.out)).mono ?_
  rintro e w3 ⟨rfl,IK⟩;have GC:=DX (FW.out.trans IK);clear a0 a1 a2;obtain ⟨a0,a1,a2⟩:=rH GP.out IK;have IU:=DX (GP.out.kept IK);clear IK
  cases b2 with
  | false =>
   go_wp2;go_ret;exact ⟨tF (by rw [HR.out];rfl),GC.out⟩
  | true =>
   go_wp2_with fail
   refine (tO ab lb cb bs _ (RL.out.kept GC.out)).mono ?_
   rw [H3.out];rintro e w4 ⟨rfl,IV⟩;have GQ:=DX (GC.out.trans IV);clear a0 a1 a2;obtain ⟨a0,a1,a2⟩:=rH IU.out IV;clear IV
   cases b3 with
   | false =>
    go_wp2;go_ret;exact ⟨tF (by rw [HR.out];rfl),GQ.out⟩
   | true =>
    go_wp2_with fail
    refine (tO au lu cu us _ (TX.out.kept GQ.out)).mono ?_
    rw [H4.out];rintro e w5 ⟨rfl,GZ⟩;have IQ:=DX (GQ.out.trans GZ);clear a0 a1 a2 GZ
    cases b4 with
    | false =>
     go_wp2;go_ret;exact ⟨tF (by rw [HR.out];rfl),IQ.out⟩
    | true =>
     go_wp2;go_ret;exact ⟨tF (by rw [HR.out];rfl),IQ.out⟩
end Go.Proofs.YtkfmladhicapeaaGreatDoor
