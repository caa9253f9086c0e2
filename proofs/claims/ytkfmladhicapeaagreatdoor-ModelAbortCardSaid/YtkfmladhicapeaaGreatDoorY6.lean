import Derived.Test.YtkfmladhicapeaaGreatDoorY5
set_option maxRecDepth 100000
set_option maxHeartbeats 2000000
namespace Go.Proofs.YtkfmladhicapeaaGreatDoor.Pj
open Go.RowKit Go.Shelf
structure AE (base:Nat) (t:TypeId) (s na nb:Nat) (xs ya zs:List Value) (c b p q:Nat) (L:Nat->Prop) (V:Nat->Value) (w:World):Prop where
 c1:L c->¬ L p->w.ownsRow base t s (V c) na xs
 b1:L b->¬ L p->∃ g,V b=.slice (some ⟨g,0,none⟩) 1 1/\aA w g ya.toArray t
 p1:L p->¬ L q->w.ownsRow base t s (V p) (na+1) (xs++ya)
 q1:L q->w.ownsRow base t s (V q) (na+1+nb) (xs++ya++zs)
 op:L p->L c/\L b
 oq:L q->L p
section
variable {base:Nat} {t:TypeId} {s na nb:Nat} {xs ya zs:List Value} {c b p q:Nat} {L L':Nat->Prop} {V:Nat->Value} {w w':World}
theorem AE.start (hc:¬ L c) (hb:¬ L b) (hp:¬ L p) (hq:¬ L q):AE base t s na nb xs ya zs c b p q L V w :=
 ⟨fun h=>absurd h hc,fun h=>absurd h hb,fun h=>absurd h hp,fun h=>absurd h hq,fun h=>absurd h hp,fun h=>absurd h hq⟩
theorem AE.keep {i:Nat} (h:AE base t s na nb xs ya zs c b p q L V w) (hc:i≠c) (hb:i≠b) (hp:i≠p) (hq:i≠q) (hL:∀ j,L' j↔(j=i\/L j)) (hk:aB w w') {x:Value}:AE base t s na nb xs ya zs c b p q L' (Yz V i x) w':=by
 have e:∀ j,i≠j->(L' j↔L j):=fun j hj=>⟨fun q=>((hL j).1 q).resolve_left (fun e=>hj e.symm),fun q=>(hL j).2 (.inr q)⟩
 have ec:=e c hc;have eb:=e b hb;have ep:=e p hp;have eq:=e q hq;refine ⟨fun h1 h2=>?_,fun h1 h2=>?_,fun h1 h2=>?_,fun h1=>?_,fun h1=>⟨ec.2 (h.op (ep.1 h1)).1,eb.2 (h.op (ep.1 h1)).2⟩,fun h1=>ep.2 (h.oq (eq.1 h1))⟩
 . rw [Yy _ _ (fun e=>hc e.symm)];exact aH (h.c1 (ec.1 h1) (fun r=>h2 (ep.2 r))) hk
 . rw [Yy _ _ (fun e=>hb e.symm)]
   obtain ⟨g,e1,e2⟩:=h.b1 (eb.1 h1) (fun r=>h2 (ep.2 r));exact ⟨g,e1,e2.kept hk⟩
 . rw [Yy _ _ (fun e=>hp e.symm)];exact aH (h.p1 (ep.1 h1) (fun r=>h2 (eq.2 r))) hk
 . rw [Yy _ _ (fun e=>hq e.symm)];exact aH (h.q1 (eq.1 h1)) hk
theorem AE.copied (h:AE base t s na nb xs ya zs c b p q L V w) (ho:¬ L c) (MU:c≠b) (hcp:c≠p) (hcq:c≠q) (hL:∀ j,L' j↔(j=c\/L j)) (hk:aB w w') {x:Value} (hx:w'.ownsRow base t s x na xs):AE base t s na nb xs ya zs c b p q L' (Yz V c x) w':=by
 have e:∀ j,c≠j->(L' j↔L j):=fun j hj=>⟨fun q=>((hL j).1 q).resolve_left (fun e=>hj e.symm),fun q=>(hL j).2 (.inr q)⟩
 have hp:¬ L' p:=fun h1=>ho (h.op ((e p hcp).1 h1)).1
 have hq:¬ L' q:=fun h1=>hp ((e p hcp).2 (h.oq ((e q hcq).1 h1)))
 refine ⟨fun _ _=>by rw [Zc];exact hx,fun h1 _=>?_,fun h1=>absurd h1 hp,fun h1=>absurd h1 hq,fun h1=>absurd h1 hp,fun h1=>absurd h1 hq⟩;rw [Yy _ _ (fun e=>MU e.symm)];obtain ⟨g,e1,e2⟩:=h.b1 ((e b MU).1 h1) (fun r=>hp ((e p hcp).2 r));exact ⟨g,e1,e2.kept hk⟩
theorem AE.built (h:AE base t s na nb xs ya zs c b p q L V w) (ho:¬ L b) (MU:b≠c) (hbp:b≠p) (hbq:b≠q) (hL:∀ j,L' j↔(j=b\/L j)):AE base t s na nb xs ya zs c b p q L' (Yz V b (.slice (some ⟨w.heap.size,0,none⟩) 1 1)) (w.alloc (.cells ya.toArray t)):=by
 have e:∀ j,b≠j->(L' j↔L j):=fun j hj=>⟨fun q=>((hL j).1 q).resolve_left (fun e=>hj e.symm),fun q=>(hL j).2 (.inr q)⟩
 have hp:¬ L' p:=fun h1=>ho (h.op ((e p hbp).1 h1)).2
 have hq:¬ L' q:=fun h1=>hp ((e p hbp).2 (h.oq ((e q hbq).1 h1)))
 refine ⟨fun h1 _=>?_,fun _ _=>⟨_,Zc _ _ _,EY _ _ _⟩,fun h1=>absurd h1 hp,fun h1=>absurd h1 hq,fun h1=>absurd h1 hp,fun h1=>absurd h1 hq⟩;rw [Yy _ _ (fun e=>MU e.symm)];exact aH (h.c1 ((e c MU).1 h1) (fun r=>hp ((e p hbp).2 r))) ((EX w).alloc _)
theorem AE.one (h:AE base t s na nb xs ya zs c b p q L V w) (ho:¬ L p) (hc:L c) (hb:L b) (_:p≠c) (_:p≠b) (hpq:p≠q) (hL:∀ j,L' j↔(j=p\/L j)) {x:Value} (hx:w'.ownsRow base t s x (na+1) (xs++ya)):AE base t s na nb xs ya zs c b p q L' (Yz V p x) w':=by
 have hp:L' p:=(hL p).2 (.inl rfl)
 have hq:¬ L' q:=fun h1=>ho (h.oq (((hL q).1 h1).resolve_left (fun e=>hpq e.symm)))
 exact ⟨fun _ h2=>absurd hp h2,fun _ h2=>absurd hp h2,fun _ _=>by rw [Zc];exact hx,fun h1=>absurd h1 hq,fun _=>⟨(hL c).2 (.inr hc),(hL b).2 (.inr hb)⟩,fun h1=>absurd h1 hq⟩
theorem AE.tail (h:AE base t s na nb xs ya zs c b p q L V w) (hp:L p) (_:q≠p) (hL:∀ j,L' j↔(j=q\/L j)) {x:Value} (hx:w'.ownsRow base t s x (na+1+nb) (xs++ya++zs)):AE base t s na nb xs ya zs c b p q L' (Yz V q x) w':=by
 have hp':L' p:=(hL p).2 (.inr hp)
 have hq:L' q:=(hL q).2 (.inl rfl)
 exact ⟨fun _ h2=>absurd hp' h2,fun _ h2=>absurd hp' h2,fun _ h2=>absurd hq h2,fun _=>by rw [Zc];exact hx,fun _=>⟨(hL c).2 (.inr (h.op hp).1),(hL b).2 (.inr (h.op hp).2)⟩,fun _=>hp'⟩
end
structure AP (base:Nat) (t:TypeId) (s na nb:Nat) (xs zs:List Value) (c q:Nat) (L:Nat->Prop) (V:Nat->Value) (w:World):Prop where
 c1:L c->¬ L q->w.ownsRow base t s (V c) na xs
 q1:L q->w.ownsRow base t s (V q) (na+nb) (xs++zs)
 oq:L q->L c
section
variable {base:Nat} {t:TypeId} {s na nb:Nat} {xs zs:List Value} {c q:Nat} {L L':Nat->Prop} {V:Nat->Value} {w w':World}
theorem AP.start (hc:¬ L c) (hq:¬ L q):AP base t s na nb xs zs c q L V w:=⟨fun h=>absurd h hc,fun h=>absurd h hq,fun h=>absurd h hq⟩
theorem AP.keep {i:Nat} (h:AP base t s na nb xs zs c q L V w) (hc:i≠c) (hq:i≠q) (hL:∀ j,L' j↔(j=i\/L j)) (hk:aB w w') {x:Value}:AP base t s na nb xs zs c q L' (Yz V i x) w':=by
 have e:∀ j,i≠j->(L' j↔L j):=fun j hj=>⟨fun q=>((hL j).1 q).resolve_left (fun e=>hj e.symm),fun q=>(hL j).2 (.inr q)⟩
 refine ⟨fun h1 h2=>?_,fun h1=>?_,fun h1=>(e c hc).2 (h.oq ((e q hq).1 h1))⟩
 . rw [Yy _ _ (fun e=>hc e.symm)];exact aH (h.c1 ((e c hc).1 h1) (fun r=>h2 ((e q hq).2 r))) hk
 . rw [Yy _ _ (fun e=>hq e.symm)];exact aH (h.q1 ((e q hq).1 h1)) hk
theorem AP.copied (h:AP base t s na nb xs zs c q L V w) (ho:¬ L c) (hcq:c≠q) (hL:∀ j,L' j↔(j=c\/L j)) {x:Value} (hx:w'.ownsRow base t s x na xs):AP base t s na nb xs zs c q L' (Yz V c x) w':=by
 have hq:¬ L' q:=fun h1=>ho (h.oq (((hL q).1 h1).resolve_left (fun e=>hcq e.symm)))
 exact ⟨fun _ _=>by rw [Zc];exact hx,fun h1=>absurd h1 hq,fun h1=>absurd h1 hq⟩
theorem AP.tail (hc:L c) (hL:∀ j,L' j↔(j=q\/L j)) {x:Value} (hx:w'.ownsRow base t s x (na+nb) (xs++zs)):AP base t s na nb xs zs c q L' (Yz V q x) w' :=
 ⟨fun _ h2=>absurd ((hL q).2 (.inl rfl)) h2,fun _=>by rw [Zc];exact hx,fun _=>(hL c).2 (.inr hc)⟩
end
theorem Zo {w:World} {g:Nat} {ya:List Value} {t:TypeId} (h:aA w g ya.toArray t):∀ j u,ya[j]?=some u->w.cell? ((⟨g,0,none⟩:Addr).add j)=some u:=fun j u hj=>by
 have e:(⟨g,0,none⟩:Addr).add j=⟨g,j,none⟩:=by unfold Addr.add;split <;> simp_all
 rw [e,h.cell]
 simpa using hj
theorem AC {P:Program} {w:World} (base:Nat) (t ty e:TypeId) (i:TypeInfo) (size:Nat) (ht:P.underlying t=some (.slice e)) (hi:P.info? e=some i) (c:Nat)
 (v:Value) (n:Nat) (xs:List Value) (FU:w.ownsRow base e size v n xs):(Builtin.append_ #[t,t] ty #[v,.slice none 0 c]).run P w=.ok v w:=by
 exact Iw
theorem Zm {P:Program} {o:Oper} {a:Act} {w:World} {K:Act->World->Prop} {Q:Exit->Act->World->Prop} (s x:Operand) (t:TypeId)
 (ho:o.op=.call { callee:=.builtin .append,args:=#[s,x],argTypes:=#[t,t] })
 (base:Nat) (e:TypeId) (i:TypeInfo) (z:Value) (size bytes:Nat) (ht:P.underlying t=some (.slice e)) (hi:P.info? e=some i) (hz:i.zero=some z)
 (JT:i.size=size) (XB:i.bytes=bytes) (XH:z.cells.size=size) (IG:0<size)
 (v:Value) (n:Nat) (xs:List Value) (hs:a.eval s=v) (FU:w.ownsRow base e size v n xs)
 (ao:Option Addr) (m c:Nat) (news:List Value) (hx:a.eval x=.slice ao m c) (hno:ao=none->m=0) (hl:news.length=m*size) (hc:∀ ad,ao=some ad->∀ j u,news[j]?=some u->w.cell? (ad.add j)=some u) (h1:∀ u∈news,u.oneCell'=true)
 (hn:n+m<=1000000) (hb:bytes<=1000) (JI:base<=w.heap.size)
 (h:∀ v' w',w'.ownsRow base e size v' (n+m) (xs++news)->w.grownBy w' v.ownBlock->K (a.put o.dst v') w'):Oper.wp P o a w K Q:=by
 cases ao with
 | none =>
  obtain rfl:=hno rfl;have YN:news=[]:=List.length_eq_zero_iff.1 aE;subst YN;have hr:=AC (P:=P) (w:=w) base t o.type e i size ht hi c v n xs FU;unfold Oper.wp execOp;simp only [ho,resolve,invoke,builtin,Sem.run_bind,Sem.run_pure,Result.andThen_ok,List.map_toArray,List.map_cons,List.map_nil,hs,hx,hr];exact h v w (by simpa using FU) ⟨rfl,rfl,rfl,EA _,fun _ _ _=>rfl⟩
 | some ad =>
  obtain ⟨v',w',hr,h2,h3,h4,h5⟩:=run_append_own_at (P:=P) w base t o.type e i z size bytes ht hi hz JT XB XH IG v n xs FU ad m c news hl (hc ad rfl) h1 (by unfold maxLen;omega) (EF (Nat.mul_le_mul hn hb) aF) JI;exact Ug
end Go.Proofs.YtkfmladhicapeaaGreatDoor.Pj
namespace Go.Proofs.YtkfmladhicapeaaGreatDoor
open Go.ChangeShapes Go.WideShapes Go.ChangeAt Go.RowKit Go.Joins Go.Deep
section
variable {H:Type} {enc:TypeId × Value->H} {P:Program} {w:World} {base:Nat} {spare:Nat->Bool} {PT:Bool}
end
theorem mX {H:Type} {P:Program} {e:TypeId}:∀ {l:List (DataW H)} {d:DataW H},d∈l->∀ n∈d.weights P e,n∈DataW.weightsAll P e l
 | d' :: r,d,hd,n,hn=>by
  simp only [DataW.weightsAll,List.mem_append]
  rcases List.mem_cons.1 hd with rfl | h
  . exact Or.inl hn
  . exact Or.inr (mX h n hn)
structure jB (W:World) (a:Option Addr) (l cap:Nat) (ss:List ByteArray):Prop where
 strs:bD W a l ss
 le_cap:l<=cap
 few:l<=8796093021952
 short:∀ s∈ss,s.size<=140737488351232
theorem jB.kept {W W':World} {a:Option Addr} {l cap:Nat} {ss:List ByteArray} (h:jB W a l cap ss) (k:aB W W'):jB W' a l cap ss:=⟨h.strs.kept k,h.le_cap,h.few,h.short⟩
theorem jB.size {W:World} {a:Option Addr} {l cap:Nat} {ss:List ByteArray} (h:jB W a l cap ss) (i:Nat) (hi:i<l):(ss.getD i ByteArray.empty).size<=140737488351232:=by
 have hl:i<ss.length:=by rw [h.strs.len_eq];exact hi
 exact h.short _ (by simp [List.getD,hl])
theorem jB.cell {W:World} {a:Option Addr} {l cap:Nat} {ss:List ByteArray} (h:jB W a l cap ss) (hl:0<l):∃ b off,a=some ⟨b,off,none⟩/\∀ i,i<l->∀ w,aB W w->w.cell? ⟨b,off+i,none⟩=some (.string (ss.getD i ByteArray.empty)):=by
 obtain ⟨b,off,ha,hc⟩:=h.strs.cells;exact ⟨b,off,ha hl,fun i hi w k=>k.cell (hc i hi).1 (hc i hi).2⟩
end Go.Proofs.YtkfmladhicapeaaGreatDoor
namespace Go.Proofs.YtkfmladhicapeaaGreatDoor
open Go.RowKit Go.Shelf
attribute [local go_sem] Oper.semAt_some
theorem qG (ss:List ByteArray) (k:Nat) (h:k<ss.length):ss.take (k+1)=ss.take k++[ss.getD k ByteArray.empty]:=by
 rw [List.take_succ_eq_append_getElem h]
 simp [List.getD,h]
theorem dM {a b:ByteArray} (h:¬ a=b):¬ a.toList=b.toList/\(a.toList == b.toList)=false/\(a.toList != b.toList)=true:=by
 have h1:¬ a.toList=b.toList:=by
  rw [ByteArray.toList_eq,ByteArray.toList_eq];intro e
  apply h
  obtain ⟨⟨x⟩⟩:=a;obtain ⟨⟨y⟩⟩:=b
  simp at e
  rw [e]
 exact ⟨h1,by simpa using h1,by simpa using h1⟩
theorem lD (a:Option Addr) (l cap:Nat) (ss:List ByteArray) (w:World) (h:bD w a l ss) (hl:l<=8796093021952) :
 Calls Tryz.prog 113 #[.slice a l cap] w fun e w'=>∃ a' cap',e=.returned (.slice a' l cap')/\w'.ownsRow w.heap.size 9 1 (.slice a' l cap') l (ss.map Value.string)/\aB w w':=by
 obtain ⟨i0,hi,GV,GJ,GO⟩:=info_parts BD;have HL:=DX h.len_eq;have MZ:=DX h.sizes;have HI:=DX (EC hi (EC GV (EC GJ GO)));clear hi GV GJ GO;go_enter Tryz.func113,Tryz.ntmps113;go_wp2;go_loopw [3,4] (fun v i wr=>∃ k:Nat,k<=l/\i=.int .i64 k/\wr.ownsRow w.heap.size 9 1 v k ((ss.take k).map Value.string)/\aB w wr) (fun _ i _=>l - (intOf i).toNat)
 case atStart=>exact Rp
 case round =>
  obtain ⟨k,hk,rfl,FU,hK⟩:=hrel;have HK:=DX hK;have HO:=DX FU
  by_cases FV:k<l
  . obtain ⟨b,off,ha,hc⟩:=h.cells
    obtain rfl:=ha aE
    have WE:=hK.cell (hc k FV).1 (hc k FV).2
    have htk:=qG ss k (by have:=HL.out;omega);generalize ss.getD k ByteArray.empty=t at WE htk;have HT:=DX htk;clear h hc ha hK htk FU;go_wp2_with (at_builtin;refine wpList_append_own _ rfl _ _ 72 rfl w.heap.size 9 i0 (.string ByteArray.empty) 1 16 EP HI.out.1 HI.out.2.1 HI.out.2.2.1 HI.out.2.2.2 rfl aF _ _ _ rfl (HO.out.alloc _) ⟨wr.heap.size,0,none⟩ 1 1 [.string t] rfl rfl ?c1 ?c2 ?c3 ?c4 ?c5 ?_)
    case c1 =>
     intro j u hj
     match j,hj with
     | 0,hj=>simp at hj;subst hj;simp [Addr.add]
    case c2=>intro u hu;simp at hu;subst hu;rfl
    case c3=>unfold maxLen;omega
    case c4=>omega
    case c5=>have:=HK.out.size;simp;omega
    intro v' w1 LU GB _;have HO':=DX LU;have HK':=DX (Bx (HK.out.alloc _) (HO.out.alloc _) GB);clear LU GB;go_wp2;go_roundw
    case rel=>exact ⟨k+1,aE,by go_num,by rw [HT.out,List.map_append,List.map_take];exact HO'.out,HK'.out⟩
    case measure=>simp [intOf];omega
  . obtain rfl:k=l:=by omega
    rw [EE (Nat.le_of_eq HL.out)] at FU;obtain ⟨a',cap',rfl⟩:=aP FU;have HF:=DX FU;clear h hK FU HO;go_wp2;go_ret;exact ⟨a',cap',rfl,HF.out,HK.out⟩
def iS (x:ByteArray) (ss:List ByteArray):Bool:=ss.any fun y=>decide (y=x)
theorem lB {x:ByteArray} {ss:List ByteArray}:iS x ss=true↔x∈ss:=by
 unfold iS;rw [List.any_eq_true]
 constructor
 . rintro ⟨y,hy,e⟩
   rw [<- of_decide_eq_true e];exact hy
 . exact fun h=>⟨x,h,DZ rfl⟩
theorem Fh (a:Option Addr) (l cap:Nat) (ss:List ByteArray) (x:ByteArray) (w:World) (h:bD w a l ss) :
 Calls Tryz.prog 85 #[.slice a l cap,.string x] w fun e w'=>e=.returned (.bool (iS x ss))/\aB w w':=by
 have OH:=h.le;have HS:=DX h;have HL:=DX h.len_eq
 obtain ⟨B,hB⟩:∃ B,B=iS x ss:=⟨_,rfl⟩
 rw [<- hB];have HB:=DX hB;clear h hB;go_enter Tryz.func85,Tryz.ntmps85;go_wp2_with fail;go_loopw [5] (fun i wr=>∃ k:Nat,k<=l/\i=.int .i64 k/\Hid (∀ q,q<k->ss.getD q ByteArray.empty≠x)/\aB w wr) (fun i _=>l - (intOf i).toNat)
 case atStart=>exact Sg
 case round =>
  obtain ⟨k,hk,rfl,HQ,IF⟩:=hrel;have HK:=DX IF;clear IF
  by_cases FV:k<l
  . obtain ⟨b,off,rfl,hc⟩:=HS.out.at aE
    have c0:=hc k FV _ HK.out
    obtain ⟨t,ht⟩:∃ t,t=ss.getD k ByteArray.empty:=⟨_,rfl⟩
    have RK:=HS.out.size k FV;rw [<- ht] at c0 RK;have HT:=DX ht;clear hc ht
    by_cases he:t=x
    . have HE:=DX (show B=true by
       rw [HB.out]
       refine lB.2 ?_
       rw [<- he,HT.out]
       simp [List.getD,show k<ss.length by rw [HL.out];exact FV])
      subst he;go_wp2_with fail;go_ret;exact ⟨jR HE.out,HK.out⟩
    . have HN:=DX (show ∀ q,q<k+1->ss.getD q ByteArray.empty≠x from fun q hq=>by
       by_cases e:q=k
       . rw [e,<- HT.out];exact he
       . exact HQ.out q aE)
      obtain ⟨g1,g2,g3⟩:=dM he;clear he;go_wp2;exact Mh
  . obtain rfl:l=k:=by omega
    have HE:=DX (show B=false by
     rw [HB.out];refine Bool.eq_false_iff.2 (fun hb=>?_);have hm:=lB.1 hb;obtain ⟨q,hq,e⟩:=List.getElem_of_mem hm;have:=HQ.out q (by rw [<- HL.out];exact hq)
     simp [List.getD,hq] at this
     exact this e)
    go_wp2;go_ret;exact ⟨jR HE.out,HK.out⟩
theorem pD.from {a b w:World} {p:Option Addr} {l cap:Nat} {ss:List ByteArray} (h:pD b w p l cap ss) (k:a.heap.size<=b.heap.size):pD a w p l cap ss :=
 ⟨h.1,h.2.1,fun q=>by obtain ⟨g,cs,e,h1,h2⟩:=h.2.2 q;exact ⟨g,cs,e,aE,h2⟩⟩
theorem pD.set {w0 w w':World} {g l cap:Nat} {C:Array Value} {t:TypeId} {a:Option Addr} {ss:List ByteArray} (h:pD w0 w a l cap ss) (hg:aA w g C t) (hn:∀ (i:Nat) (x:ByteArray),C[i]?≠some (Value.string x)) (ht:t≠9) (k:w.grownBy w' (some g)):pD w0 w' a l cap ss :=
 ⟨h.1,kW h.2.1 hg hn k,fun q=>by
  obtain ⟨b,cs,e,h1,h2⟩:=h.2.2 q;refine ⟨b,cs,e,h1,aM h2 k (fun e2=>ht ?_)⟩;cases e2;have h3:=Eq.trans (Eq.symm hg) h2;cases h3
  rfl⟩
theorem rD {w:World} {base l cap:Nat} {a:Option Addr} {ss:List ByteArray} (h:w.ownsRow base 9 1 (.slice a l cap) l (ss.map Value.string)) (hs:∀ s∈ss,s.size<=9223372036854775807) (hl:ss.length=l):bD w a l ss:=by
 obtain ⟨a',c',e,_,h2⟩:=eC h hl hs;cases e;exact h2
end Go.Proofs.YtkfmladhicapeaaGreatDoor
namespace Go.Proofs.YtkfmladhicapeaaGreatDoor
open Go.ChangeShapes Go.WideShapes Go.ChangeAt Go.RowKit Go.Joins Go.Deep
theorem Fv {H:Type} {enc:TypeId × Value->H} {P:Program} {t:TypeId} {k:IntKind} (ht:P.underlying t=some (.int k)) {W:World} {fuel:Nat} {v:Value} {y:DataW H × List MemPlace}
 (h0:DataW.trod enc P W 0 (fun _=>true) true fuel t [v]=some y):∃ n,v=.int k n/\(Lit.int k n).wf=true:=by
 obtain ⟨n,h,hx,hw⟩:=DataW.trod_int ht h0;simp only [List.cons.injEq,and_true] at h;exact ⟨n,h,hw⟩
section
variable {H:Type} {enc:TypeId × Value->H} {P:Program} {w:World} {base:Nat} {spare:Nat->Bool} {PT:Bool}
theorem iW {t e:TypeId} {fs:Array Field} {fuel:Nat} {cs:List Value} {x:DataW H × List MemPlace} (ht:P.underlying t=some (.slice e)) (he:P.underlying e=some (.struct fs))
 (hone:oneCellFields P fs=true) (hC:P.cellsOf e=fs.size) (h:DataW.trod enc P w base spare PT fuel t cs=some x) :
 (cs=[.slice none 0 0]/\x=(.nil,[])) \/
 ∃ (a:Addr) (len cap m:Nat) (D:Nat->DataW H) (Pl:Nat->List MemPlace),cs=[.slice (some a) len cap]/\base<=a.block/\len<=cap/\cap<=maxLen/\m=(if spare a.block then cap else len) /\
  x=(.slice ((List.range len).map D) ((List.range (m - len)).map fun j=>D (len+j)),MemPlace.row a (m*fs.size)++(List.range m).flatMap Pl) /\
  ∀ i,i<m->∃ (ys:List (DataW H × List MemPlace)) (n:Nat),D i=.agg (ys.map (·.1))/\Pl i=ys.flatMap (·.2)/\ys.length=fs.size /\
   ∀ (j:Nat) (f:Field),fs[j]?=some f->∃ (v:Value) (y:DataW H × List MemPlace),w.cell? (a.add (i*fs.size+j))=some v/\ys[j]?=some y/\DataW.trod enc P w base spare PT n f.type [v]=some y:=by
 rcases open_slice ht h with h0 | ⟨a,len,cap,m,n,D,Pl,JW,hb,hl,hm,WI,hx,hi⟩
 . exact .inl h0
 . refine .inr ⟨a,len,cap,m,D,Pl,JW,hb,hl,hm,WI,by rw [hC] at hx;exact hx,fun i him=>?_⟩
   obtain ⟨cs',hc,ht'⟩:=hi i him;rw [hC] at hc;obtain ⟨ys,n',hn',hy,GM,hyl,hf⟩:=DataW.trod_struct he ht';obtain ⟨_,PB,GA⟩:=World.cells?_some hc;simp only [Prod.mk.injEq] at hy;refine ⟨ys,n',hy.1,hy.2,hyl,fun j f hj=>?_⟩;obtain ⟨ho,hk⟩:=hone_of hone j f hj
   have YM:j<fs.size:=(Array.getElem?_eq_some_iff.1 hj).1
   have hcell:=GA j YM
   have hv:cs'[j]?=some (cs'[j]'(by omega)):=List.getElem?_eq_getElem aE
   have h1:=hf j f hj;rw [ho,hk] at h1
   have hone':(cs'.drop j).take 1=[cs'[j]'(by omega)]:=by
    rw [List.drop_eq_getElem_cons aE];rfl
   rw [hone'] at h1
   have TJ:ys[j]?=some (ys[j]'(by omega)):=List.getElem?_eq_getElem aE
   refine ⟨_,_,?_,TJ,h1.trans TJ⟩;rw [<- Go.Deep.add_add,hcell,hv]
end
theorem jY {H:Type} {enc:TypeId × Value->H} {P:Program} {W:World} {fuel:Nat} {t e:TypeId} {a:Option Addr} {l cap:Nat} {y:DataW H × List MemPlace} (ht:P.underlying t=some (.slice e))
 (h:DataW.trod enc P W 0 (fun _=>true) true fuel t [.slice a l cap]=some y) (hz:∀ n∈y.1.weights P t,n<=reachBytes):l*P.bytesOf e<=reachBytes:=by
 rcases open_slice ht h with ⟨JW,_⟩ | ⟨a',len,cap',m,n,D,Pl,JW,_,hl,_,_,hx,_⟩
 . simp only [List.cons.injEq,and_true,Value.slice.injEq] at JW
   obtain ⟨_,rfl,_⟩:=JW
   simp
 . simp only [List.cons.injEq,and_true,Value.slice.injEq] at JW
   obtain ⟨_,rfl,_⟩:=JW;have h1:=hz (((List.range l).map D).length+((List.range (m - l)).map fun j=>D (l+j)).length |> (·*P.bytesOf e)) (by rw [hx];simp [DataW.weights,ht])
   have h2:l<=((List.range l).map D).length+((List.range (m - l)).map fun j=>D (l+j)).length:=by simp
   exact EF (Nat.mul_le_mul_right _ h2) h1
theorem oM {α:Type} (d:α):∀ (n:Nat) (P:Nat->α->Prop),(∀ i,i<n->∃ r,P i r)->∃ l:List α,l.length=n/\∀ i,i<n->P i (l.getD i d)
 | 0,_,_=>⟨[],rfl,fun i hi=>absurd hi (Nat.not_lt_zero i)⟩
 | n+1,P,h=>by
  obtain ⟨l,hl,hp⟩:=oM d n P (fun i hi=>h i aE);obtain ⟨r,hr⟩:=h n aE;refine ⟨l++[r],by simp [hl],fun i hi=>?_⟩
  by_cases e:i=n
  . subst e
    have:(l++[r]).getD i d=r:=by simp [List.getD,<- hl]
    rw [this];exact hr
  . have:(l++[r]).getD i d=l.getD i d:=by simp [List.getD,List.getElem?_append_left (show i<l.length by omega)]
    rw [this];exact hp i aE
def yK (W:World) (b o:Nat) (m:Mf):Prop:=∃ ab cb au cu,jB W ab m.bs.length cb m.bs/\jB W au m.us.length cu m.us/\(-9223372036854775808<=m.k/\m.k<=9223372036854775807)/\b<W.heap.size /\
 W.cell? ⟨b,o,none⟩=some (.int .i64 m.k)/\W.cell? ⟨b,o+1,none⟩=some (.slice ab m.bs.length cb)/\W.cell? ⟨b,o+2,none⟩=some (.slice au m.us.length cu)
def mf00:Mf:=⟨0,[],[]⟩
structure Jk (W:World) (a:Option Addr) (len:Nat) (ms:List Mf):Prop where
 len_eq:ms.length=len
 few:len<=2513169434916
 cells:∃ b off,(0<len->a=some ⟨b,off,none⟩)/\∀ i,i<len->yK W b (off+i*3) (ms.getD i mf00)
theorem yK.kept {W W':World} {b o:Nat} {m:Mf} (h:yK W b o m) (k:aB W W'):yK W' b o m:=by
 obtain ⟨ab,cb,au,cu,h1,h2,h3,h4,h5,h6,h7⟩:=h;exact ⟨ab,cb,au,cu,h1.kept k,h2.kept k,h3,EG h4 k.size,k.cell h4 h5,k.cell h4 h6,k.cell h4 h7⟩
theorem Jk.kept {W W':World} {a:Option Addr} {len:Nat} {ms:List Mf} (h:Jk W a len ms) (k:aB W W'):Jk W' a len ms:=by
 obtain ⟨b,off,ha,hc⟩:=h.cells;exact ⟨h.len_eq,h.few,b,off,ha,fun i hi=>(hc i hi).kept k⟩
end Go.Proofs.YtkfmladhicapeaaGreatDoor
namespace Go.Proofs.YtkfmladhicapeaaGreatDoor
open Go.RowKit Go.Shelf
attribute [local go_sem] Oper.semAt_some
theorem kX (w:World) (a:Option Addr):bD w a 0 []:=⟨rfl,aF,(fun s hs=>by cases hs),0,0,fun h=>absurd h (EJ 0),fun i hi=>absurd hi (Nat.not_lt_zero i)⟩
end Go.Proofs.YtkfmladhicapeaaGreatDoor
namespace Go.Proofs.YtkfmladhicapeaaGreatDoor
open Go.RowKit Go.Shelf
theorem mW (t:ByteArray) (a b:Nat):(t.extract a b).data.toList=(t.data.toList.take b).drop a:=by
 exact Sc
theorem vY (t:ByteArray) (k:Nat):(gE t k).data.toList=(t.data.toList.drop (k*32)).take 32:=by
 unfold gE;rw [mW,List.drop_take]
 congr 1
 omega
theorem qX (a b:List ByteArray):gM (a++b)=gM a++gM b:=by unfold gM;rw [List.flatMap_append]
theorem sJ (t:ByteArray):∀ n,n*32<=t.size->gM ((List.range n).map (gE t))=t.data.toList.take (n*32)
 | 0,_=>by simp [gM]
 | n+1,h=>by
  rw [List.range_succ,List.map_append,qX,sJ t n aE]
  have e:gM ([n].map (gE t))=(t.data.toList.drop (n*32)).take 32:=by
   rw [<- vY]
   simp [gM]
  rw [e,show (n+1)*32=n*32+32 by omega,List.take_add]
theorem Kd (t:ByteArray) (n:Nat) (h:t.size=n*32):gM (mS t)=t.data.toList:=by
 have e:mH t=n:=by unfold mH;omega
 unfold mS;rw [e,sJ t n aE,EE (by simp;omega)]
theorem Nc (t:ByteArray):oK (mS t)=true:=by
 unfold oK mS;rw [List.all_eq_true];intro x hx;rw [List.mem_map] at hx;obtain ⟨k,hk,rfl⟩:=hx;exact DZ (nF (List.mem_range.1 hk))
def xR:ByteArray:=⟨#[77,65,78,70]⟩
def wO (s:ByteArray):Option Mf:=if 7<=s.size/\s.extract 0 4=xR/\s.size=7+32*((fK s 5).toNat+(fK s 6).toNat)/\rY (eR s)=true then some (eR s) else none
theorem sV (s:ByteArray):(oL s).size=s.size - 7:=by unfold oL;rw [ByteArray.size_extract];omega
theorem Bg (s:ByteArray):(oL s).data.toList=s.data.toList.drop 7:=by
 unfold oL;rw [mW,EE (by simp)]
theorem pT {a b:ByteArray} (h:a.data.toList=b.data.toList):a=b:=by
 obtain ⟨⟨x⟩⟩:=a;obtain ⟨⟨y⟩⟩:=b
 simp at h
 rw [h]
theorem Yw (L:List UInt8) (h:7<=L.length):L=[L.getD 0 0,L.getD 1 0,L.getD 2 0,L.getD 3 0,L.getD 4 0,L.getD 5 0,L.getD 6 0]++L.drop 7:=by
 match L,h with
 | a :: b :: c :: d :: e :: f :: g :: r,_=>simp [List.getD]
theorem Lr (x:UInt8):UInt8.ofNat x.toNat=x:=by simp
theorem Hq (s:ByteArray):wO s=bJ s:=by
 unfold wO bJ
 by_cases h7:7<=s.size
 . have hL:7<=s.data.toList.length:=by simpa using h7
   have h7L:=Yw _ hL
   have aBZ:(eR s).bs=(mS (oL s)).take (fK s 5).toNat:=rfl
   have aCa:(eR s).us=(mS (oL s)).drop (fK s 5).toNat:=rfl
   have hrawk:(eR s).k.toNat=(fK s 4).toNat:=rfl
   have hcat:gM (eR s).bs++gM (eR s).us=gM (mS (oL s)):=by rw [aBZ,aCa,<- qX,List.take_append_drop]
   have GM:(eR s).bs.length+(eR s).us.length=mH (oL s):=by rw [aBZ,aCa,<- List.length_append,List.take_append_drop,hZ]
   have hT:(Pc (eR s)).data.toList=[77,65,78,70,fK s 4,UInt8.ofNat (eR s).bs.length,UInt8.ofNat (eR s).us.length]++gM (mS (oL s)):=by
    show sG (eR s)=_
    unfold sG;rw [List.append_assoc,hcat,hrawk,Lr]
   by_cases hm:rY (eR s)=true
   . have h20:=(pF hm).1
     have hiff:(s.extract 0 4=xR/\s.size=7+32*((fK s 5).toNat+(fK s 6).toNat))↔(s.size<=647/\Pc (eR s)=s):=by
      constructor
      . rintro ⟨hx,hs⟩
        have ht:(oL s).size=((fK s 5).toNat+(fK s 6).toNat)*32:=by rw [sV];omega
        have hn:mH (oL s)=(fK s 5).toNat+(fK s 6).toNat:=by unfold mH;omega
        have hb:(eR s).bs.length=(fK s 5).toNat:=by rw [aBZ,List.length_take,hZ];omega
        have hu:(eR s).us.length=(fK s 6).toNat:=by rw [aCa,List.length_drop,hZ];omega
        refine ⟨aE,pT ?_⟩;rw [hT,hb,hu,Lr,Lr,Kd _ _ ht,Bg]
        have hx4:s.data.toList.take 4=[77,65,78,70]:=by
         have:=congrArg (fun b:ByteArray=>b.data.toList) hx;simp only [mW,List.drop_zero] at this;exact this
        rw [h7L] at hx4;simp only [List.cons_append,List.nil_append,List.take_succ_cons,List.take_zero,List.cons.injEq,and_true] at hx4;obtain ⟨e0,e1,e2,e3⟩:=hx4
        conv=>rhs;rw [h7L,e0,e1,e2,e3]
        rfl
      . rintro ⟨hs,ht⟩
        have hl:=congrArg (fun b:ByteArray=>b.data.toList) ht;simp only [hT] at hl;have hc:=pE _ (Nc (oL s));rw [hZ] at hc
        have hz:s.size=7+32*mH (oL s):=by
         have:=congrArg List.length hl;rw [List.length_append,hc] at this
         simpa using this.symm
        have hbl:(eR s).bs.length<=20:=by omega
        have hul:(eR s).us.length<=20:=by omega
        have g5:fK s 5=UInt8.ofNat (eR s).bs.length:=by unfold fK;rw [<- hl];rfl
        have g6:fK s 6=UInt8.ofNat (eR s).us.length:=by unfold fK;rw [<- hl];rfl
        have n5:(fK s 5).toNat=(eR s).bs.length:=by rw [g5];simp;omega
        have n6:(fK s 6).toNat=(eR s).us.length:=by rw [g6];simp;omega
        refine ⟨pT ?_,by rw [n5,n6,GM];exact hz⟩;rw [mW,<- hl];rfl
     by_cases hc:s.extract 0 4=xR/\s.size=7+32*((fK s 5).toNat+(fK s 6).toNat)
     . rw [if_pos ⟨h7,hc.1,hc.2,hm⟩,if_pos ⟨h7,(hiff.1 hc).1,hm,(hiff.1 hc).2⟩]
     . rw [if_neg (fun h=>hc ⟨h.2.1,h.2.2.1⟩),if_neg (fun h=>hc (hiff.2 ⟨h.2.1,h.2.2.2⟩))]
   . rw [if_neg (fun h=>hm h.2.2.2),if_neg (fun h=>hm h.2.2.1)]
 . rw [if_neg (fun h=>h7 h.1),if_neg (fun h=>h7 h.1)]
end Go.Proofs.YtkfmladhicapeaaGreatDoor
namespace Go.Proofs.YtkfmladhicapeaaGreatDoor
open Go.RowKit Go.Shelf
attribute [local go_sem] Oper.semAt_some
theorem Br (a:Option Addr) (l cap:Nat) (ss:List ByteArray) (w:World) (h:bD w a l ss) :
 Calls Tryz.prog 124 #[.slice a l cap] w fun e w'=>e=.returned (.bool (Ct ss))/\aB w w':=by
 have OH:=h.le;have HS:=DX h;have HL:=DX h.len_eq;clear h
 obtain ⟨B,hB⟩:∃ B,B=Ct ss:=⟨_,rfl⟩
 rw [<- hB];have HB:=DX hB;clear hB;go_enter Tryz.func124,Tryz.ntmps124;go_wp2_with fail;go_loopw [3] (fun i wr=>∃ k:Nat,k<=l/\i=.int .i64 k/\Hid (oK (ss.take k)=true/\pS ss k=true)/\aB w wr) (fun i _=>l - (intOf i).toNat)
 case atStart=>exact ⟨0,aE,rfl,DX ⟨rfl,rfl⟩,EX _⟩
 case round =>
  obtain ⟨k,hk,rfl,HZ,IF⟩:=hrel;have HK:=DX IF;clear IF
  by_cases FV:k<l
  . have GU:decide (k<l)=true:=DZ FV
    obtain ⟨b,off,rfl,hc⟩:=HS.out.at aE;have c0:=hc k FV _ HK.out;have IX:=DX (nK ss k (by rw [HL.out];exact FV));have HF:=DX (fun hp=>uD ss (fun d=>decide (d.size=32)) k ByteArray.empty (by rw [HL.out];exact FV) hp);have OM:=DX (mT ss k)
    obtain ⟨t,ht⟩:∃ t,t=ss.getD k ByteArray.empty:=⟨_,rfl⟩
    have RK:=HS.out.size k FV;have HTE:=DX ht;unfold pQ at IX OM;rw [<- ht] at c0 IX HF RK OM
    by_cases h32:t.size=32
    . have GW:((t.size:Int) != 32)=false:=by simp [h32]
      have HN:=DX (show oK (ss.take (k+1))=true by rw [IX.out,HZ.out.1,DZ h32];rfl)
      by_cases h0:k=0
      . subst h0
        have HR:=DX (show pS ss (0+1)=true from rfl);rw [Nat.add_zero] at c0;clear hc h32 ht;go_wp2_with fail;go_quiet (fail);go_wp2;go_roundw
        case rel=>exact ⟨0+1,aE,by go_num,DX ⟨HN.out,HR.out⟩,HK.out.drewN nq⟩
        case measure=>simp [intOf];omega
      . obtain ⟨j,rfl⟩:∃ j,k=j+1:=⟨k - 1,aE⟩
        have c1:=hc j aE _ HK.out;have PF:=DX (fun hp=>kY (l:=ss) (n:=l) (i:=j+1) FV aE hp);rw [Nat.add_sub_cancel] at OM PF;unfold pQ at PF
        obtain ⟨u,hu⟩:∃ u,u=ss.getD j ByteArray.empty:=⟨_,rfl⟩
        rw [<- hu] at c1 OM PF;rw [<- ht] at PF;clear hc ht hu h32
        obtain ⟨m,hm⟩:∃ m,m=j+1:=⟨_,rfl⟩
        rw [<- hm] at c0 OM HZ HN FV GU hk ⊢
        have hmi:(m:Int) - 1=(j:Int):=by omega
        have hwj:IntKind.i64.wrap (j:Int)=(j:Int):=IntWalk.i64_in _ aE;have NE:decide (0<m)=true:=DZ aE
        have YM:j<l:=by omega
        clear hm
        cases hq:cZ u t with
        | true =>
         have ZO:=jV hq;have HR:=DX (show pS ss (m+1)=true by rw [OM.out,HZ.out.2,hq];simp);clear h0 hq;go_wp2_with fail;go_quiet (fail);go_wp2;go_roundw
         case rel=>exact ⟨m+1,aE,by go_num,DX ⟨HN.out,HR.out⟩,HK.out.drewN nq⟩
         case measure=>simp [intOf];omega
        | false =>
         have ZO:=jV hq;have HE:=DX (show B=false by rw [HB.out];unfold Ct gG;rw [HL.out,PF.out hq,Bool.and_false]);clear h0 hq;exact Et
    . have GW:((t.size:Int) != 32)=true:=by simp;omega
      have HE:=DX (show B=false by rw [HB.out];unfold Ct;rw [show oK ss=false from HF.out (DY h32),Bool.false_and]);clear h32 hc ht;exact Et
  . obtain rfl:l=k:=by omega
    have GU:decide (l<l)=false:=DY aE
    have HE:=DX (show B=true by
     rw [HB.out];unfold Ct gG;rw [HL.out,HZ.out.2];have:=HZ.out.1;rw [EE (by rw [HL.out];omega)] at this;rw [this]
     rfl)
    go_wp2;go_ret;exact ⟨jR HE.out,HK.out⟩
theorem Jh (n m:Int) (w:World):Calls Tryz.prog 49 #[.int .i64 n,.int .i64 m] w fun e w'=>e=.returned (.bool (decide (0<=n)&&decide (n<=m)))/\w=w':=by
 by_cases h:0<=n
 . have hb:(decide (0<=n)&&decide (n<=m))=decide (n<=m):=by simp [h]
   rw [hb];clear hb;go_enter Tryz.func49,Tryz.ntmps49;go_wp2;go_ret;exact ⟨by simp,rfl⟩
 . have hb:(decide (0<=n)&&decide (n<=m))=false:=by simp [h]
   rw [hb];have hd:decide (0<=n)=false:=DY h;clear hb;exact Ee
theorem Po (k:Int) (bs us:List ByteArray):rY ⟨k,bs,us⟩=((decide (0<=k)&&decide (k<=255))&&(decide (bs.length+us.length<=20)&&(Ct bs&&Ct us))):=by
 unfold rY oU lM Ct;dsimp only;cases decide (0<=k) <;> cases decide (k<=255) <;> cases decide (bs.length+us.length<=20) <;> cases oK bs <;> cases oK us <;> cases gG bs <;> cases gG us <;> rfl
theorem Le (k:Int) (ab:Option Addr) (lb cb:Nat) (au:Option Addr) (lu cu:Nat) (bs us:List ByteArray) (w:World) (hb:bD w ab lb bs) (hu:bD w au lu us) (hl:lb<=1000000/\lu<=1000000) :
 Calls Tryz.prog 94 #[.agg (LM k ab lb cb au lu cu)] w fun e w'=>e=.returned (.bool (rY ⟨k,bs,us⟩))/\aB w w':=by
 have RL:=DX hb;have TX:=DX hu;have HB:=DX (EY w (LM k ab lb cb au lu cu) 85);have HK:=DX ((EX w).alloc ((KM k ab lb cb au lu cu)))
 obtain ⟨R,hR⟩:∃ R,R=rY ⟨k,bs,us⟩:=⟨_,rfl⟩
 rw [<- hR];have HR:=DX (show R=((decide (0<=k)&&decide (k<=255))&&(decide (lb+lu<=20)&&(Ct bs&&Ct us))) by rw [hR,Po,hb.len_eq,hu.len_eq]);clear hb hu hR
 obtain ⟨b1,PA⟩:∃ b1,b1=(decide (0<=k)&&decide (k<=255)):=⟨_,rfl⟩
 rw [<- PA] at HR
 have UH:=fun w=>Jh k 255 w
 rw [<- PA] at UH;have RO:=DX UH;clear PA UH;go_enter Tryz.func94,Tryz.ntmps94
 go_upto_region 1 with (fail)
 generalize w.alloc ((KM k ab lb cb au lu cu))=w1 at *;obtain ⟨a0,a1,a2⟩:=dI HB.out;go_wp2_with fail
 refine (RO.out _).mono ?_
 rintro e w2 ⟨rfl,rfl⟩
 cases b1 with
 | false =>
  have HE:=DX (show R=false by rw [HR.out];rfl);go_wp2;go_ret;exact ⟨jR HE.out,HK.out⟩
 | true =>
  by_cases h20:lb+lu<=20
  . have d1:decide ((lb:Int)+(lu:Int)<=20)=true:=DZ aE
    have GK:=DX (show R=(Ct bs&&Ct us) by rw [HR.out,DZ h20];rfl);clear HR;go_wp2_with fail
    refine (Br ab lb cb bs _ (RL.out.kept HK.out)).mono ?_
    rintro e w3 ⟨rfl,IK⟩;have GC:=DX (HK.out.trans IK);clear a0 a1 a2;obtain ⟨a0,a1,a2⟩:=rH HB.out IK;clear IK
    cases hz:Ct bs with
    | false =>
     have HE:=DX (show R=false by rw [GK.out,hz];rfl);clear hz GK;go_wp2;go_ret;exact ⟨jR HE.out,GC.out⟩
    | true =>
     have HE:=DX (show R=Ct us by rw [GK.out,hz];rfl);clear hz GK;go_wp2_with fail
     refine (Br au lu cu us _ (TX.out.kept GC.out)).mono ?_
     rintro e w4 ⟨rfl,IV⟩;have GQ:=DX (GC.out.trans IV);clear a0 a1 a2 IV;generalize Ct us=B at *;go_wp2;go_ret;exact ⟨jR HE.out,GQ.out⟩
  . have d1:decide ((lb:Int)+(lu:Int)<=20)=false:=DY aE
    have HE:=DX (show R=false by rw [HR.out,DY h20];rfl);clear HR;go_wp2;go_ret;exact ⟨jR HE.out,HK.out⟩
end Go.Proofs.YtkfmladhicapeaaGreatDoor
