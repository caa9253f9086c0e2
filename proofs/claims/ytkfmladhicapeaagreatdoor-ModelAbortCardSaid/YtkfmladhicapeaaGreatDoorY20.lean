import Derived.Test.YtkfmladhicapeaaGreatDoorY13
set_option maxRecDepth 100000
set_option maxHeartbeats 4000000
namespace Go
section
variable {F:Fence} {n:Nat} {P:Program} {ops:Array Oper} {md:Region.Mode} {C:World->Prop}
def Oper.noDefer (o:Oper):Bool:=match o.op with | .defer _=>false | _=>true
theorem Oper.noDefer_ne {o:Oper} (h:o.noDefer=true):∀ c,o.op≠.defer c:=by
 intro c e;unfold Oper.noDefer at h;rw [e] at h;cases h
theorem Oper.wpIn_of_quietR {o:Oper} {a:Act} {K:Act->Prop} {K':Act->World->Prop} {Q':Exit->Act->World->Prop} {w:World} (hnd:o.noDefer=true) (hw:C w) (h:∀ a w',C w'->K a->K' a w')
 (ha:o.askedIn F P a C) (hh:o.quietIn F n P a C K):o.wpIn F n P a w K' Q':=by
 obtain ⟨v,h1,h2⟩:=hh;have h3:=h1 w hw;unfold Oper.quietAtIn at h3;unfold Oper.wpIn;refine ⟨ha w hw,?_⟩;rw [Oper.semAt_eq _ _ _ (Oper.noDefer_ne hnd)]
 generalize (execOp a.eval o).run P w=r at *
 cases r with
 | ok x w' =>
  cases x <;> simp only [Oper.quietUponIn] at h3 <;> simp only [Oper.uponIn]
  case value u =>
   obtain ⟨e1,e2⟩:=h3;rw [e1,e2];exact h _ _ hw h2
  case skip =>
   obtain ⟨e1,e2⟩:=h3;rw [e1,<- e2];exact h _ _ hw h2
  case enter f args =>
   obtain ⟨e1,hd,hc⟩:=h3;rw [e1];exact ⟨hd,hc.mono fun e w'' ⟨he,hw''⟩=>by subst he;exact h _ _ hw'' h2⟩
 | halt x w'=>simp only [Oper.quietUponIn] at h3
theorem wpOpIn_of_qOpInR {i:Nat} {a:Act} {K:Act->Prop} {K':Act->World->Prop} {Q':Exit->Act->World->Prop} {w:World} (hnd:ops.all Oper.noDefer=true) (hC:C w) (h:∀ a w',C w'->K a->K' a w')
 (hh:qOpIn F n P ops C i K a):wpOpIn F n P ops Q' i K' a w:=by
 unfold qOpIn at hh;unfold wpOpIn
 split
 . rename_i ho;simp only [ho] at hh;exact h _ _ hC hh
 . rename_i o ho
   simp only [ho] at hh;obtain ⟨ha,hh⟩:=hh
   have ho':o.noDefer=true:=by
    obtain ⟨hi,he⟩:=Array.getElem?_eq_some_iff.1 ho;exact Array.all_eq_true'.1 hnd o (he ▸ Array.getElem_mem hi)
   split
   . rename_i hw;simp only [hw,if_true] at hh;exact Oper.wpIn_of_quietR ho' hC h ha hh
   . rename_i hw;simp only [hw] at hh;exact ⟨ha w hC,h _ _ hC hh⟩
def wpAnyQL (F:Fence) (n:Nat) (P:Program) (md:Region.Mode) (ops:Array Oper) (C:World->Prop) (m:Nat) (L:Array Bool->Act->Prop):Nat->Array Bool->Act->Prop
 | 0,aQ,a=>L aQ a
 | f+1,aQ,a =>
  Region.ready md ops aQ≠[]/\∀ i∈Region.ready md ops aQ,i<m/\qOpIn F n P ops C i (wpAnyQL F n P md ops C m L f (aQ.setIfInBounds i true)) a
theorem wpAnyIn_of_qhead {m g:Nat} {L:Array Bool->Act->Prop} {Q':Exit->Act->World->Prop} (hnd:ops.all Oper.noDefer=true) (hL:∀ aQ a w,C w->L aQ a->wpAnyIn F n P md ops Q' g aQ a w) :
 ∀ (f:Nat) (aQ:Array Bool) (a:Act) (w:World),C w->wpAnyQL F n P md ops C m L f aQ a->wpAnyIn F n P md ops Q' (f+g) aQ a w
 | 0,aQ,a,w,hw,h=>by rw [Nat.zero_add];exact hL _ _ _ hw h
 | f+1,aQ,a,w,hw,h=>by
  rw [show f+1+g=(f+g)+1 by omega];exact ⟨fun h0=>absurd h0 h.1,fun i hi=>wpOpIn_of_qOpInR hnd hw (fun a' w' hw' h'=>wpAnyIn_of_qhead hnd hL f _ a' w' hw' h') (h.2 i hi).2⟩
theorem wpAnyQL_first {m i:Nat} {oi:Oper} {v:Value} {L:Array Bool->Act->Prop} (hi:ops[i]?=some oi) (hsel:∀ (j:Nat) (o:Oper) cs b,ops[j]?=some o->o.op≠.select cs b)
 (hs:Region.sinkB md ops m=true) (hc:Region.chainB md ops m=true) (hn:m<ops.size) (hin:i<m)
 (hdone:∀ aQ a,L aQ a->∀ j∈Region.ready md ops aQ,m<=j) :
 ∀ (f:Nat) (aQ:Array Bool) (a:Act),HeadInv md ops m aQ ->
  (∀ j oj,ops[j]?=some oj->j≠i->aQ.getD j true=false->(∀ e∈oj.after,Region.binds md e=true->e.on≠i)->oi.apart ops oj=true) ->
  i∈Region.ready md ops aQ->YieldsQuiet F n P ops C oi v a ->
  wpAnyQL F n P md ops C m L f (aQ.setIfInBounds i true) (a.put oi.dst v)->wpAnyQL F n P md ops C m L (f+1) aQ a:=by
 intro f
 induction f with
 | zero =>
  intro aQ a inv _ hr hy H
  have hun:=(mem_ready.1 hr).1
  refine ⟨fun h=>(by rw [h] at hr;cases hr),fun j hj=>?_⟩
  have hjn:j<m:=by
   rcases Nat.lt_or_ge j m with h | h
   . exact h
   . exact absurd hj (tail_waits hs hc hn inv _ i rfl hin hun j h)
  refine ⟨hjn,?_⟩
  by_cases hji:j=i
  . subst hji;exact hy.qOpIn hi H
  . have:=hdone _ _ H j (ready_mono hj hji)
    omega
 | succ f ih =>
  intro aQ a inv hfree hr hy H
  have hun:=(mem_ready.1 hr).1
  refine ⟨fun h=>(by rw [h] at hr;cases hr),fun j hj=>?_⟩
  have hjn:j<m:=by
   rcases Nat.lt_or_ge j m with h | h
   . exact h
   . exact absurd hj (tail_waits hs hc hn inv _ i rfl hin hun j h)
  refine ⟨hjn,?_⟩
  by_cases hji:j=i
  . subst hji;exact hy.qOpIn hi H
  . have h1:=(H.2 j (ready_mono hj hji)).2
    obtain ⟨hjun,oj,hoj,hall⟩:=mem_ready.1 hj
    have hnot:∀ e∈oj.after,Region.binds md e=true->e.on≠i:=fun e he hb heq=>by
     have h1:=hall e he hb;rw [heq,getD_both hun] at h1;cases h1
    have h2:=qOpIn_put hoj (hfree j oj hoj hji hjun hnot) (fun cs b=>hsel i oi cs b hi) (fun cs b=>hsel j oj cs b hoj) hy h1
    have hfree':∀ k ok,ops[k]?=some ok->k≠i->(aQ.setIfInBounds j true).getD k true=false ->
     (∀ e∈ok.after,Region.binds md e=true->e.on≠i)->oi.apart ops ok=true:=fun k ok hk hki hun hno=>by
     refine hfree k ok hk hki ?_ hno
     by_cases hjk:j=k
     . subst hjk;exact hjun
     . rw [getD_set_ne true hjk] at hun;exact hun
    refine qOpIn_mono (fun a' h3=>ih (aQ.setIfInBounds j true) a' (inv.set hj hjn) hfree' (ready_mono hr (Ne.symm hji)) h3.1 ?_) h2;rw [Array.setIfInBounds_comm _ _ hji];exact h3.2
theorem wpAnyIn_of_seq {Q':Exit->Act->World->Prop}:∀ (l:List Oper) (k:Nat) (aQ:Array Bool) (a:Act) (w:World),(∀ j,l[j]?=ops[k+j]?) ->
 Region.seqB md ops l.length k aQ=true->wpListIn F n P ops Q' l a w->wpAnyIn F n P md ops Q' l.length aQ a w
 | [],_,_,_,_,_,hB,h=>⟨by simpa [Region.seqB] using hB,h⟩
 | o :: l,k,aQ,a,w,hl,hB,h=>by
  have h0:ops[k]?=some o:=by simpa using (hl 0).symm
  simp only [List.length_cons,Region.seqB,Bool.and_eq_true,decide_eq_true_eq] at hB;refine ⟨fun h1=>(by rw [hB.1] at h1;cases h1),fun i hi=>?_⟩;rw [hB.1] at hi
  have hik:i=k:=by simpa using hi
  subst hik
  have hw:wpOpIn F n P ops Q' i (wpListIn F n P ops Q' l) a w:=by unfold wpOpIn;simp only [h0];exact h
  exact wpOpIn_mono (fun a' w' h'=>wpAnyIn_of_seq l (i+1) _ a' w' (fun j=>by have:=hl (j+1);simpa [Nat.add_assoc,Nat.add_comm 1 j] using this) hB.2 h') hw
theorem wpAnyQL_lex {m g:Nat} {Lq:Act->Prop} (hsel:Region.noSelect ops=true) (hs:Region.sinkB md ops m=true) (hc:Region.chainB md ops m=true) (hn:m<ops.size) :
 ∀ (l:List Oper) (k:Nat) (aQ:Array Bool) (a:Act),(∀ j,j<l.length->l[j]?=ops[k+j]?)->k+l.length=m->HeadInv md ops m aQ ->
 Region.lexHead md ops g l.length k aQ=true->wpQuietIn F n P ops C Lq l a ->
 wpAnyQL F n P md ops C m (fun listed' a'=>Region.seqB md ops g m listed'=true/\Lq a') l.length aQ a
 | [],k,aQ,a,_,hk,_,hB,h=>by
  have:k=m:=by simpa using hk
  subst this;exact ⟨by simpa [Region.lexHead] using hB,h⟩
 | o :: l,k,aQ,a,hl,hk,inv,hB,h=>by
  have h0:ops[k]?=some o:=by simpa using (hl 0 (by simp)).symm
  simp only [List.length_cons,Region.lexHead,Bool.and_eq_true] at hB;obtain ⟨⟨hr,hf⟩,hB'⟩:=hB
  have hkn:k<m:=by simp only [List.length_cons] at hk;omega
  have hr':k∈Region.ready md ops aQ:=by simpa using hr
  have hst:qOpIn F n P ops C k (wpQuietIn F n P ops C Lq l) a:=by unfold qOpIn;simp only [h0];exact h
  obtain ⟨v,hy,hK⟩:=yieldsQuiet_of_qOpIn h0 hst;exact wpAnyQL_first h0 (Region.noSelect_spec hsel) hs hc hn hkn (fun listed' a' hL=>seqB_ready hL.1) l.length aQ a inv (Region.free_spec h0 hf) hr' hy
   (wpAnyQL_lex hsel hs hc hn l (k+1) _ _ (fun j hj=>by have:=hl (j+1) (by simp;omega);simpa [Nat.add_assoc,Nat.add_comm 1 j] using this) (by simp only [List.length_cons] at hk;omega) (inv.set hr' hkn) hB' hK)
theorem wpIn_region_quiet_tail {id:Nat} {Q:Exit->Act->World->Prop} {a:Act} {w:World} {l:List Oper} (m:Nat) (hm:P.follows .mixedOrders=true) (hnd:l.toArray.all Oper.noDefer=true) (hB:Region.lexTailB .any l.toArray m=true) (hC:C { w with drawn:=w.drawn+1 })
 (h:wpQuietIn F n P l.toArray C (fun a'=>∀ w',C w'->wpListIn F n P l.toArray Q (l.drop m) a' w') (l.take m) a):(Code.region id l.toArray true).wpIn F n P Q a w:=by
 simp only [Region.lexTailB,Bool.and_eq_true,decide_eq_true_eq] at hB;obtain ⟨⟨⟨⟨hsel,hn⟩,hs⟩,hc⟩,hlex⟩:=hB
 have hn':m<l.length:=by simpa using hn
 have htl:(l.take m).length=m:=by simp;omega
 have hdl:(l.drop m).length=l.toArray.size - m:=by simp
 have inv0:HeadInv .any l.toArray m (Array.replicate l.toArray.size false) :=
  ⟨by simp,fun j oj _ hl=>(by rw [getD_replicate_false] at hl;cases hl),fun t _ ht=>getD_in (by simpa using ht) (getD_replicate_false _ _)⟩
 have H:=wpAnyQL_lex (F:=F) (n:=n) (C:=C) (md:=.any) (g:=l.toArray.size - m) hsel hs hc hn (l.take m) 0 _ a (fun j hj=>by
  have hj':j<m:=by rw [htl] at hj;exact hj
  simp [hj']) (by simpa using htl) inv0 (by rw [htl];exact hlex) h
 refine wpIn_region_any hm ?_
 have:=wpAnyIn_of_qhead (Q':=Q) (g:=l.toArray.size - m) hnd (fun aQ a' w' hw' hL=>by
  have:=wpAnyIn_of_seq (F:=F) (n:=n) (md:=.any) (Q':=Q) (l.drop m) m aQ a' w' (fun j=>by simp [List.getElem?_drop]) (by rw [hdl];exact hL.1) (hL.2 w' hw')
  rwa [hdl] at this) _ _ _ _ hC H
 rw [htl,show m+(l.toArray.size - m)=l.toArray.size by omega] at this;exact this
theorem wpIn_region_quiet_tail_lit {id:Nat} {Q:Exit->Act->World->Prop} {a:Act} {w:World} {l:List Oper} (m:Nat) (hm:P.follows .mixedOrders=true) (hnd:l.toArray.all Oper.noDefer=true) (hB:Region.lexTailB .any l.toArray m=true)
 (h:wpQuietIn F n P l.toArray (fun w'=>∃ n,w'=w.drewN n) (fun a'=>∀ w',(∃ n,w'=w.drewN n)->wpListIn F n P l.toArray Q (l.drop m) a' w') (l.take m) a):(Code.region id l.toArray true).wpIn F n P Q a w :=
 wpIn_region_quiet_tail m hm hnd hB ⟨1,rfl⟩ h
@[simp] theorem wide_inRound_fn (l:Nat) (f:FuncId):(Fence.wide.inRound l).fn f=True:=rfl
@[simp] theorem wide_fn' (f:FuncId):Fence.wide.fn f=True:=rfl
@[simp] theorem wide_depth':Fence.wide.depth.isSome=false:=rfl
@[simp] theorem wide_inRound_depth (l:Nat):(Fence.wide.inRound l).depth.isSome=false:=rfl
end
end Go
namespace Go.Proofs.YtkfmladhicapeaaGreatDoor
open Go.RowKit Go.Shelf
attribute [local go_sem] Oper.semAt_some
def cw (v:List Nat):Array Value:=(v.map fun (n:Nat)=>Value.int .u32 (n:Int)).toArray
theorem yA (v:List Nat):(cw v).size=v.length:=by simp [cw]
theorem Ls (v:List Nat) (i x:Nat):(cw v).setIfInBounds i (.int .u32 (x:Int))=cw (v.set i x):=by simp [cw]
theorem cR (v:List Nat) (i:Nat) (h:i<v.length):(cw v)[i]?=some (.int .u32 (v.getD i 0:Nat)):=by
 simp [cw,h]
theorem iT (v:List Nat):(cw v).all (·.oneCell')=true:=by
 rw [Array.all_eq_true];intro i h
 simp [cw,Value.oneCell']
theorem wM (a b:Nat) (ha:a<4294967296) (hb:b<4294967296):bits .xor .u32 (a:Int) (b:Int)=((a ^^^ b:Nat):Int):=u32_xor_nat a b ha hb
theorem o32 (a b:Nat) (ha:a<4294967296) (hb:b<4294967296):bits .or .u32 (a:Int) (b:Int)=((a ||| b:Nat):Int):=u32_or_nat a b ha hb
theorem Ia (a b:Nat):((a:Int)+b) % 4294967296=((Bl.add a b:Nat):Int):=by unfold Bl.add;omega
theorem s32 (x n:Nat) (hx:x<4294967296):bits .or .u32 ((x:Int) / 2 ^ n) ((x:Int)*2 ^ (32 - n) % 4294967296)=((Bl.rot x n:Nat):Int):=by
 have h:=o32 (x / 2 ^ n) (x*2 ^ (32 - n) % 4294967296) (Nat.lt_of_le_of_lt (Nat.div_le_self _ _) hx) (Nat.mod_lt _ aF);unfold Bl.rot;rw [<- h]
 congr 1
theorem lJ (x n:Nat) (hx:x<4294967296) (hn:n<32) (w:World) :
 Calls Tryz.prog 155 #[.int .u32 x,.int .i64 n] w fun e w'=>e=.returned (.int .u32 (Bl.rot x n:Nat))/\∃ k,w'=w.drewN k:=by
 have hs:=s32 x n hx;go_enter Tryz.func155,Tryz.ntmps155;go_wp2;go_region;go_wp2;go_ret;exact ⟨rfl,1,rfl⟩
theorem Oi (x n:Nat) (hx:x<4294967296):bits .or .u32 ((x:Int)*2 ^ (32 - n) % 4294967296) ((x:Int) / 2 ^ n)=((Bl.rot x n:Nat):Int):=by
 have h:=o32 (x*2 ^ (32 - n) % 4294967296) (x / 2 ^ n) (Nat.mod_lt _ aF) (Nat.lt_of_le_of_lt (Nat.div_le_self _ _) hx);unfold Bl.rot;rw [Nat.or_comm,<- h]
 congr 1
theorem Il (x:Nat) (hx:x<4294967296) (w:World) :
 Calls Tryz.prog 195 #[.int .u32 x,.int .i64 (-16)] w fun e w'=>e=.returned (.int .u32 (Bl.rot x 16:Nat))/\w'=w:=by
 have hs:bits .or .u32 ((x:Int)*65536 % 4294967296) ((x:Int) / 65536)=((Bl.rot x 16:Nat):Int):=Oi x 16 hx
 have ha:bits .and .u64 (IntKind.u64.wrap (-16)) 31=16:=by decide +kernel
 exact Eb
theorem Kc (x:Nat) (hx:x<4294967296) (w:World) :
 Calls Tryz.prog 195 #[.int .u32 x,.int .i64 (-12)] w fun e w'=>e=.returned (.int .u32 (Bl.rot x 12:Nat))/\w'=w:=by
 have hs:bits .or .u32 ((x:Int)*1048576 % 4294967296) ((x:Int) / 4096)=((Bl.rot x 12:Nat):Int):=Oi x 12 hx
 have ha:bits .and .u64 (IntKind.u64.wrap (-12)) 31=20:=by decide +kernel
 exact Eb
theorem Og (x:Nat) (hx:x<4294967296) (w:World) :
 Calls Tryz.prog 195 #[.int .u32 x,.int .i64 (-8)] w fun e w'=>e=.returned (.int .u32 (Bl.rot x 8:Nat))/\w'=w:=by
 have hs:bits .or .u32 ((x:Int)*16777216 % 4294967296) ((x:Int) / 256)=((Bl.rot x 8:Nat):Int):=Oi x 8 hx
 have ha:bits .and .u64 (IntKind.u64.wrap (-8)) 31=24:=by decide +kernel
 exact Eb
theorem Oq (x:Nat) (hx:x<4294967296) (w:World) :
 Calls Tryz.prog 195 #[.int .u32 x,.int .i64 (-7)] w fun e w'=>e=.returned (.int .u32 (Bl.rot x 7:Nat))/\w'=w:=by
 have hs:bits .or .u32 ((x:Int)*33554432 % 4294967296) ((x:Int) / 128)=((Bl.rot x 7:Nat):Int):=Oi x 7 hx
 have ha:bits .and .u64 (IntKind.u64.wrap (-7)) 31=25:=by decide +kernel
 exact Eb
structure eH (w:World) (g:Nat) (v:List Nat) (W:World):Prop where
 row:aA W g (cw v) 145
 grown:w.grownBy W (some g)
 ok:Bl.W 16 v
theorem eH.cell {w W:World} {g:Nat} {v:List Nat} (h:eH w g v W) (i:Nat) (hi:i<16):W.cell? ⟨g,i,none⟩=some (.int .u32 (v.getD i 0:Nat)):=by
 rw [h.row.cell];exact cR v i (by rw [h.ok.len];exact hi)
theorem eH.free {w W:World} {g:Nat} {v:List Nat} (h:eH w g v W) (i:Nat):W.frozen? ⟨g,i,none⟩=false:=h.row.free i
theorem aB.gr {W a b:World} {row:Option Nat} (h:aB W a) (g:a.grownBy b row) (hr:∀ k,row=some k->W.heap.size<=k):aB W b:=Below.grown h g (Below.size h) hr
theorem kH {w W:World} {g:Nat} (h:w.grownBy W (some g)) (nq i:Nat) (x:Value):w.grownBy ((W.drewN nq).setCell ⟨g,i,none⟩ x) (some g) :=
 bE h (bE (bN ((EX W).drewN nq) _) (iE _ _ _ _))
theorem eH.put {w W:World} {g:Nat} {v:List Nat} (h:eH w g v W) (nq i:Nat) {x:Nat} (hx:x<4294967296):eH w g (v.set i x) ((W.drewN nq).setCell ⟨g,i,none⟩ (.int .u32 (x:Int))):=by
 refine ⟨?_,kH h.grown nq i _,h.ok.set i hx⟩;have hb:aA (W.drewN nq) g (cw v) 145:=h.row;rw [<- Ls];exact hb.set _
theorem En (g:Nat) (v:List Nat) (a b c d x y:Nat) (ha:a<16) (hb:b<16) (hc:c<16) (hd:d<16) (w:World) (hv:eH w g v w) :
 Calls Tryz.prog 172 #[.pointer (some ⟨g,0,none⟩),.int .i64 a,.int .i64 b,.int .i64 c,.int .i64 d,.int .u32 x,.int .u32 y] w fun e w'=>e=.returned (.tuple #[])/\eH w g (Bl.mix v a b c d x y) w':=by
 have QD:=DX hv;clear hv;go_enter Tryz.func172,Tryz.ntmps172
 obtain ⟨p,hp⟩:∃ p,p=v.getD a 0:=⟨_,rfl⟩
 obtain ⟨q,hq⟩:∃ q,q=v.getD b 0:=⟨_,rfl⟩
 have c1:=QD.out.cell a ha;have c2:=QD.out.cell b hb;have f1:=QD.out.free a;rw [<- hp] at c1;rw [<- hq] at c2;have e1:=Ia q x;have e2:=Ia p (Bl.add q x);rw [<- Bl.add_assoc] at e2;have HN:=DX (fun nq=>QD.out.put nq a (Bl.add_lt (Bl.add p q) x));have HE:=DX (show v.set a (Bl.add (Bl.add p q) x)=Bl.s0 v a b x by rw [hp,hq];rfl);clear hp hq;go_wp2_with fail
 refine (wpIn_wide (n:=0)).1 ?_
 refine wpIn_region_quiet_tail_lit 15 aW aW aW ?_
 simp only [List.take_succ_cons,List.take_zero,List.drop_succ_cons,List.drop_zero]
 repeat (gi_big_quiet_step (fail))
 refine wpQuietIn_nil ?_
 intro _ GD;obtain ⟨nq,FT⟩:=GD;subst FT;gi_wp2;have XW:=DX (HN.out nq);clear HN c1 c2 f1 e1 e2;generalize World.setCell _ _ _=w1 at XW ⊢;have RV:=XW.out;rw [HE.out] at RV;have NI:=DX RV;clear RV XW HE QD
 obtain ⟨v1,KK⟩:∃ v1,v1=(Bl.s0 v a b x):=⟨_,rfl⟩
 have ZE:=DX KK;rw [<- KK] at NI;clear KK
 obtain ⟨p,hp⟩:∃ p,p=v1.getD d 0:=⟨_,rfl⟩
 obtain ⟨q,hq⟩:∃ q,q=v1.getD a 0:=⟨_,rfl⟩
 have c1:=NI.out.cell d hd;have c2:=NI.out.cell a ha;have f1:=NI.out.free d
 have KJ:p<4294967296:=by rw [hp];exact NI.out.ok.at _
 have MR:q<4294967296:=by rw [hq];exact NI.out.ok.at _
 rw [<- hp] at c1;rw [<- hq] at c2;have IZ:=Bl.xor_lt KJ MR;have e1:=wM p q KJ MR;have HN:=DX (fun nq=>NI.out.put nq d (Bl.rot_lt IZ 16));have HE:=DX (show v1.set d (Bl.rot (p ^^^ q) 16)=Bl.s1 v1 d a 16 by rw [hp,hq];rfl);clear KJ MR;generalize p ^^^ q=z at *;clear hp hq;go_wp2_with fail
 refine (wpIn_wide (n:=0)).1 ?_
 refine wpIn_region_quiet_tail_lit 16 aW aW aW ?_
 simp only [List.take_succ_cons,List.take_zero,List.drop_succ_cons,List.drop_zero]
 repeat (gi_big_quiet_step ((gi_at_call 195;exact callsIn_wide.2 (Calls.quiet_of_same (Il _ IZ _)))))
 refine wpQuietIn_nil ?_
 intro _ GD;obtain ⟨nq,FT⟩:=GD;subst FT;gi_wp2;have XZ:=DX (HN.out nq);clear HN c1 c2 f1 e1 IZ;generalize World.setCell _ _ _=w2 at XZ ⊢;have VG:=XZ.out;rw [HE.out] at VG;have XY:=DX VG;clear VG XZ HE NI
 obtain ⟨v2,UO⟩:∃ v2,v2=(Bl.s1 v1 d a 16):=⟨_,rfl⟩
 have HW2:=DX UO;rw [<- UO] at XY;clear UO
 obtain ⟨p,hp⟩:∃ p,p=v2.getD c 0:=⟨_,rfl⟩
 obtain ⟨q,hq⟩:∃ q,q=v2.getD d 0:=⟨_,rfl⟩
 have c1:=XY.out.cell c hc;have c2:=XY.out.cell d hd;have f1:=XY.out.free c;rw [<- hp] at c1;rw [<- hq] at c2;have e1:=Ia p q;have HN:=DX (fun nq=>XY.out.put nq c (Bl.add_lt p q));have HE:=DX (show v2.set c (Bl.add p q)=Bl.s2 v2 c d by rw [hp,hq];rfl);clear hp hq;go_wp2_with fail
 refine (wpIn_wide (n:=0)).1 ?_
 refine wpIn_region_quiet_tail_lit 13 aW aW aW ?_
 simp only [List.take_succ_cons,List.take_zero,List.drop_succ_cons,List.drop_zero]
 repeat (gi_big_quiet_step (fail))
 refine wpQuietIn_nil ?_
 intro _ GD;obtain ⟨nq,FT⟩:=GD;subst FT;gi_wp2;have YA:=DX (HN.out nq);clear HN c1 c2 f1 e1;generalize World.setCell _ _ _=w3 at YA ⊢;have hv3:=YA.out;rw [HE.out] at hv3;have SW:=DX hv3;clear hv3 YA HE XY
 obtain ⟨v3,PM⟩:∃ v3,v3=(Bl.s2 v2 c d):=⟨_,rfl⟩
 have HW3:=DX PM;rw [<- PM] at SW;clear PM
 obtain ⟨p,hp⟩:∃ p,p=v3.getD b 0:=⟨_,rfl⟩
 obtain ⟨q,hq⟩:∃ q,q=v3.getD c 0:=⟨_,rfl⟩
 have c1:=SW.out.cell b hb;have c2:=SW.out.cell c hc;have f1:=SW.out.free b
 have KJ:p<4294967296:=by rw [hp];exact SW.out.ok.at _
 have MR:q<4294967296:=by rw [hq];exact SW.out.ok.at _
 rw [<- hp] at c1;rw [<- hq] at c2;have IZ:=Bl.xor_lt KJ MR;have e1:=wM p q KJ MR;have HN:=DX (fun nq=>SW.out.put nq b (Bl.rot_lt IZ 12));have HE:=DX (show v3.set b (Bl.rot (p ^^^ q) 12)=Bl.s1 v3 b c 12 by rw [hp,hq];rfl);clear KJ MR;generalize p ^^^ q=z at *;clear hp hq;go_wp2_with fail
 refine (wpIn_wide (n:=0)).1 ?_
 refine wpIn_region_quiet_tail_lit 16 aW aW aW ?_
 simp only [List.take_succ_cons,List.take_zero,List.drop_succ_cons,List.drop_zero]
 repeat (gi_big_quiet_step ((gi_at_call 195;exact callsIn_wide.2 (Calls.quiet_of_same (Kc _ IZ _)))))
 refine wpQuietIn_nil ?_
 intro _ GD;obtain ⟨nq,FT⟩:=GD;subst FT;gi_wp2;have YB:=DX (HN.out nq);clear HN c1 c2 f1 e1 IZ;generalize World.setCell _ _ _=w4 at YB ⊢;have hv4:=YB.out;rw [HE.out] at hv4;have HV4:=DX hv4;clear hv4 YB HE SW
 obtain ⟨v4,WQ⟩:∃ v4,v4=(Bl.s1 v3 b c 12):=⟨_,rfl⟩
 have HW4:=DX WQ;rw [<- WQ] at HV4;clear WQ
 obtain ⟨p,hp⟩:∃ p,p=v4.getD a 0:=⟨_,rfl⟩
 obtain ⟨q,hq⟩:∃ q,q=v4.getD b 0:=⟨_,rfl⟩
 have c1:=HV4.out.cell a ha;have c2:=HV4.out.cell b hb;have f1:=HV4.out.free a;rw [<- hp] at c1;rw [<- hq] at c2;have e1:=Ia q y;have e2:=Ia p (Bl.add q y);rw [<- Bl.add_assoc] at e2;have HN:=DX (fun nq=>HV4.out.put nq a (Bl.add_lt (Bl.add p q) y));have HE:=DX (show v4.set a (Bl.add (Bl.add p q) y)=Bl.s0 v4 a b y by rw [hp,hq];rfl);clear hp hq;go_wp2_with fail
 refine (wpIn_wide (n:=0)).1 ?_
 refine wpIn_region_quiet_tail_lit 15 aW aW aW ?_
 simp only [List.take_succ_cons,List.take_zero,List.drop_succ_cons,List.drop_zero]
 repeat (gi_big_quiet_step (fail))
 refine wpQuietIn_nil ?_
 intro _ GD;obtain ⟨nq,FT⟩:=GD;subst FT;gi_wp2;have YC:=DX (HN.out nq);clear HN c1 c2 f1 e1 e2;generalize World.setCell _ _ _=w5 at YC ⊢;have VH:=YC.out;rw [HE.out] at VH;have OV:=DX VH;clear VH YC HE HV4
 obtain ⟨v5,MD⟩:∃ v5,v5=(Bl.s0 v4 a b y):=⟨_,rfl⟩
 have RA:=DX MD;rw [<- MD] at OV;clear MD
 obtain ⟨p,hp⟩:∃ p,p=v5.getD d 0:=⟨_,rfl⟩
 obtain ⟨q,hq⟩:∃ q,q=v5.getD a 0:=⟨_,rfl⟩
 have c1:=OV.out.cell d hd;have c2:=OV.out.cell a ha;have f1:=OV.out.free d
 have KJ:p<4294967296:=by rw [hp];exact OV.out.ok.at _
 have MR:q<4294967296:=by rw [hq];exact OV.out.ok.at _
 rw [<- hp] at c1;rw [<- hq] at c2;have IZ:=Bl.xor_lt KJ MR;have e1:=wM p q KJ MR;have HN:=DX (fun nq=>OV.out.put nq d (Bl.rot_lt IZ 8));have HE:=DX (show v5.set d (Bl.rot (p ^^^ q) 8)=Bl.s1 v5 d a 8 by rw [hp,hq];rfl);clear KJ MR;generalize p ^^^ q=z at *;clear hp hq;go_wp2_with fail
 refine (wpIn_wide (n:=0)).1 ?_
 refine wpIn_region_quiet_tail_lit 16 aW aW aW ?_
 simp only [List.take_succ_cons,List.take_zero,List.drop_succ_cons,List.drop_zero]
 repeat (gi_big_quiet_step ((gi_at_call 195;exact callsIn_wide.2 (Calls.quiet_of_same (Og _ IZ _)))))
 refine wpQuietIn_nil ?_
 intro _ GD;obtain ⟨nq,FT⟩:=GD;subst FT;gi_wp2;have YD:=DX (HN.out nq);clear HN c1 c2 f1 e1 IZ;generalize World.setCell _ _ _=w6 at YD ⊢;have hv6:=YD.out;rw [HE.out] at hv6;have MO:=DX hv6;clear hv6 YD HE OV
 obtain ⟨v6,VI⟩:∃ v6,v6=(Bl.s1 v5 d a 8):=⟨_,rfl⟩
 have SY:=DX VI;rw [<- VI] at MO;clear VI
 obtain ⟨p,hp⟩:∃ p,p=v6.getD c 0:=⟨_,rfl⟩
 obtain ⟨q,hq⟩:∃ q,q=v6.getD d 0:=⟨_,rfl⟩
 have c1:=MO.out.cell c hc;have c2:=MO.out.cell d hd;have f1:=MO.out.free c;rw [<- hp] at c1;rw [<- hq] at c2;have e1:=Ia p q;have HN:=DX (fun nq=>MO.out.put nq c (Bl.add_lt p q));have HE:=DX (show v6.set c (Bl.add p q)=Bl.s2 v6 c d by rw [hp,hq];rfl);clear hp hq;go_wp2_with fail
 refine (wpIn_wide (n:=0)).1 ?_
 refine wpIn_region_quiet_tail_lit 13 aW aW aW ?_
 simp only [List.take_succ_cons,List.take_zero,List.drop_succ_cons,List.drop_zero]
 repeat (gi_big_quiet_step (fail))
 refine wpQuietIn_nil ?_
 intro _ GD;obtain ⟨nq,FT⟩:=GD;subst FT;gi_wp2;have YE:=DX (HN.out nq);clear HN c1 c2 f1 e1;generalize World.setCell _ _ _=w7 at YE ⊢;have YU:=YE.out;rw [HE.out] at YU;have OW:=DX YU;clear YU YE HE MO
 obtain ⟨v7,RW⟩:∃ v7,v7=(Bl.s2 v6 c d):=⟨_,rfl⟩
 have SZ:=DX RW;rw [<- RW] at OW;clear RW
 obtain ⟨p,hp⟩:∃ p,p=v7.getD b 0:=⟨_,rfl⟩
 obtain ⟨q,hq⟩:∃ q,q=v7.getD c 0:=⟨_,rfl⟩
 have c1:=OW.out.cell b hb;have c2:=OW.out.cell c hc;have f1:=OW.out.free b
 have KJ:p<4294967296:=by rw [hp];exact OW.out.ok.at _
 have MR:q<4294967296:=by rw [hq];exact OW.out.ok.at _
 rw [<- hp] at c1;rw [<- hq] at c2;have IZ:=Bl.xor_lt KJ MR;have e1:=wM p q KJ MR;have HN:=DX (fun nq=>OW.out.put nq b (Bl.rot_lt IZ 7));have HE:=DX (show v7.set b (Bl.rot (p ^^^ q) 7)=Bl.s1 v7 b c 7 by rw [hp,hq];rfl);clear KJ MR;generalize p ^^^ q=z at *;clear hp hq;go_wp2_with fail
 refine (wpIn_wide (n:=0)).1 ?_
 refine wpIn_region_quiet_tail_lit 16 aW aW aW ?_
 simp only [List.take_succ_cons,List.take_zero,List.drop_succ_cons,List.drop_zero]
 repeat (gi_big_quiet_step ((gi_at_call 195;exact callsIn_wide.2 (Calls.quiet_of_same (Oq _ IZ _)))))
 exact Xk
theorem fE (g:Nat) (v:List Nat) (a b c d x y:Nat) (ha:a<16) (hb:b<16) (hc:c<16) (hd:d<16) (w:World) (hv:eH w g v w) :
 Calls Tryz.prog 123 #[.pointer (some ⟨g,0,none⟩),.int .i64 a,.int .i64 b,.int .i64 c,.int .i64 d,.int .u32 x,.int .u32 y] w fun e w'=>e=.returned (.tuple #[])/\eH w g (Bl.mix v a b c d x y) w':=by
 have QD:=DX hv;clear hv;go_enter Tryz.func123,Tryz.ntmps123
 obtain ⟨p,hp⟩:∃ p,p=v.getD a 0:=⟨_,rfl⟩
 obtain ⟨q,hq⟩:∃ q,q=v.getD b 0:=⟨_,rfl⟩
 have c1:=QD.out.cell a ha;have c2:=QD.out.cell b hb;have f1:=QD.out.free a;rw [<- hp] at c1;rw [<- hq] at c2;have e1:=Ia p q;have e2:=Ia (Bl.add p q) x;have HN:=DX (fun nq=>QD.out.put nq a (Bl.add_lt (Bl.add p q) x));have HE:=DX (show v.set a (Bl.add (Bl.add p q) x)=Bl.s0 v a b x by rw [hp,hq];rfl);clear hp hq;go_wp2_with fail
 refine (wpIn_wide (n:=0)).1 ?_
 refine wpIn_region_quiet_tail_lit 17 aW aW aW ?_
 simp only [List.take_succ_cons,List.take_zero,List.drop_succ_cons,List.drop_zero]
 repeat (gi_big_quiet_step (fail))
 refine wpQuietIn_nil ?_
 intro _ GD;obtain ⟨nq,FT⟩:=GD;subst FT;gi_wp2;have XW:=DX (HN.out nq);clear HN c1 c2 f1 e1 e2;generalize World.setCell _ _ _=w1 at XW ⊢;have RV:=XW.out;rw [HE.out] at RV;have NI:=DX RV;clear RV XW HE QD
 obtain ⟨v1,KK⟩:∃ v1,v1=(Bl.s0 v a b x):=⟨_,rfl⟩
 have ZE:=DX KK;rw [<- KK] at NI;clear KK
 obtain ⟨p,hp⟩:∃ p,p=v1.getD d 0:=⟨_,rfl⟩
 obtain ⟨q,hq⟩:∃ q,q=v1.getD a 0:=⟨_,rfl⟩
 have c1:=NI.out.cell d hd;have c2:=NI.out.cell a ha;have f1:=NI.out.free d
 have KJ:p<4294967296:=by rw [hp];exact NI.out.ok.at _
 have MR:q<4294967296:=by rw [hq];exact NI.out.ok.at _
 rw [<- hp] at c1;rw [<- hq] at c2;have IZ:=Bl.xor_lt KJ MR;have e1:=wM p q KJ MR;have HN:=DX (fun nq=>NI.out.put nq d (Bl.rot_lt IZ 16));have HE:=DX (show v1.set d (Bl.rot (p ^^^ q) 16)=Bl.s1 v1 d a 16 by rw [hp,hq];rfl);clear KJ MR;generalize p ^^^ q=z at *;clear hp hq;go_wp2_with fail
 refine (wpIn_wide (n:=0)).1 ?_
 refine wpIn_region_quiet_tail_lit 16 aW aW aW ?_
 simp only [List.take_succ_cons,List.take_zero,List.drop_succ_cons,List.drop_zero]
 repeat (gi_big_quiet_step ((gi_at_call 155;exact callsIn_wide.2 (Calls.quiet_of (lJ _ 16 IZ aF _)))))
 refine wpQuietIn_nil ?_
 intro _ GD;obtain ⟨nq,FT⟩:=GD;subst FT;gi_wp2;have XZ:=DX (HN.out nq);clear HN c1 c2 f1 e1 IZ;generalize World.setCell _ _ _=w2 at XZ ⊢;have VG:=XZ.out;rw [HE.out] at VG;have XY:=DX VG;clear VG XZ HE NI
 obtain ⟨v2,UO⟩:∃ v2,v2=(Bl.s1 v1 d a 16):=⟨_,rfl⟩
 have HW2:=DX UO;rw [<- UO] at XY;clear UO
 obtain ⟨p,hp⟩:∃ p,p=v2.getD c 0:=⟨_,rfl⟩
 obtain ⟨q,hq⟩:∃ q,q=v2.getD d 0:=⟨_,rfl⟩
 have c1:=XY.out.cell c hc;have c2:=XY.out.cell d hd;have f1:=XY.out.free c;rw [<- hp] at c1;rw [<- hq] at c2;have e1:=Ia p q;have HN:=DX (fun nq=>XY.out.put nq c (Bl.add_lt p q));have HE:=DX (show v2.set c (Bl.add p q)=Bl.s2 v2 c d by rw [hp,hq];rfl);clear hp hq;go_wp2_with fail
 refine (wpIn_wide (n:=0)).1 ?_
 refine wpIn_region_quiet_tail_lit 15 aW aW aW ?_
 simp only [List.take_succ_cons,List.take_zero,List.drop_succ_cons,List.drop_zero]
 repeat (gi_big_quiet_step (fail))
 refine wpQuietIn_nil ?_
 intro _ GD;obtain ⟨nq,FT⟩:=GD;subst FT;gi_wp2;have YA:=DX (HN.out nq);clear HN c1 c2 f1 e1;generalize World.setCell _ _ _=w3 at YA ⊢;have hv3:=YA.out;rw [HE.out] at hv3;have SW:=DX hv3;clear hv3 YA HE XY
 obtain ⟨v3,PM⟩:∃ v3,v3=(Bl.s2 v2 c d):=⟨_,rfl⟩
 have HW3:=DX PM;rw [<- PM] at SW;clear PM
 obtain ⟨p,hp⟩:∃ p,p=v3.getD b 0:=⟨_,rfl⟩
 obtain ⟨q,hq⟩:∃ q,q=v3.getD c 0:=⟨_,rfl⟩
 have c1:=SW.out.cell b hb;have c2:=SW.out.cell c hc;have f1:=SW.out.free b
 have KJ:p<4294967296:=by rw [hp];exact SW.out.ok.at _
 have MR:q<4294967296:=by rw [hq];exact SW.out.ok.at _
 rw [<- hp] at c1;rw [<- hq] at c2;have IZ:=Bl.xor_lt KJ MR;have e1:=wM p q KJ MR;have HN:=DX (fun nq=>SW.out.put nq b (Bl.rot_lt IZ 12));have HE:=DX (show v3.set b (Bl.rot (p ^^^ q) 12)=Bl.s1 v3 b c 12 by rw [hp,hq];rfl);clear KJ MR;generalize p ^^^ q=z at *;clear hp hq;go_wp2_with fail
 refine (wpIn_wide (n:=0)).1 ?_
 refine wpIn_region_quiet_tail_lit 16 aW aW aW ?_
 simp only [List.take_succ_cons,List.take_zero,List.drop_succ_cons,List.drop_zero]
 repeat (gi_big_quiet_step ((gi_at_call 155;exact callsIn_wide.2 (Calls.quiet_of (lJ _ 12 IZ aF _)))))
 refine wpQuietIn_nil ?_
 intro _ GD;obtain ⟨nq,FT⟩:=GD;subst FT;gi_wp2;have YB:=DX (HN.out nq);clear HN c1 c2 f1 e1 IZ;generalize World.setCell _ _ _=w4 at YB ⊢;have hv4:=YB.out;rw [HE.out] at hv4;have HV4:=DX hv4;clear hv4 YB HE SW
 obtain ⟨v4,WQ⟩:∃ v4,v4=(Bl.s1 v3 b c 12):=⟨_,rfl⟩
 have HW4:=DX WQ;rw [<- WQ] at HV4;clear WQ
 obtain ⟨p,hp⟩:∃ p,p=v4.getD a 0:=⟨_,rfl⟩
 obtain ⟨q,hq⟩:∃ q,q=v4.getD b 0:=⟨_,rfl⟩
 have c1:=HV4.out.cell a ha;have c2:=HV4.out.cell b hb;have f1:=HV4.out.free a;rw [<- hp] at c1;rw [<- hq] at c2;have e1:=Ia p q;have e2:=Ia (Bl.add p q) y;have HN:=DX (fun nq=>HV4.out.put nq a (Bl.add_lt (Bl.add p q) y));have HE:=DX (show v4.set a (Bl.add (Bl.add p q) y)=Bl.s0 v4 a b y by rw [hp,hq];rfl);clear hp hq;go_wp2_with fail
 refine (wpIn_wide (n:=0)).1 ?_
 refine wpIn_region_quiet_tail_lit 17 aW aW aW ?_
 simp only [List.take_succ_cons,List.take_zero,List.drop_succ_cons,List.drop_zero]
 repeat (gi_big_quiet_step (fail))
 refine wpQuietIn_nil ?_
 intro _ GD;obtain ⟨nq,FT⟩:=GD;subst FT;gi_wp2;have YC:=DX (HN.out nq);clear HN c1 c2 f1 e1 e2;generalize World.setCell _ _ _=w5 at YC ⊢;have VH:=YC.out;rw [HE.out] at VH;have OV:=DX VH;clear VH YC HE HV4
 obtain ⟨v5,MD⟩:∃ v5,v5=(Bl.s0 v4 a b y):=⟨_,rfl⟩
 have RA:=DX MD;rw [<- MD] at OV;clear MD
 obtain ⟨p,hp⟩:∃ p,p=v5.getD d 0:=⟨_,rfl⟩
 obtain ⟨q,hq⟩:∃ q,q=v5.getD a 0:=⟨_,rfl⟩
 have c1:=OV.out.cell d hd;have c2:=OV.out.cell a ha;have f1:=OV.out.free d
 have KJ:p<4294967296:=by rw [hp];exact OV.out.ok.at _
 have MR:q<4294967296:=by rw [hq];exact OV.out.ok.at _
 rw [<- hp] at c1;rw [<- hq] at c2;have IZ:=Bl.xor_lt KJ MR;have e1:=wM p q KJ MR;have HN:=DX (fun nq=>OV.out.put nq d (Bl.rot_lt IZ 8));have HE:=DX (show v5.set d (Bl.rot (p ^^^ q) 8)=Bl.s1 v5 d a 8 by rw [hp,hq];rfl);clear KJ MR;generalize p ^^^ q=z at *;clear hp hq;go_wp2_with fail
 refine (wpIn_wide (n:=0)).1 ?_
 refine wpIn_region_quiet_tail_lit 16 aW aW aW ?_
 simp only [List.take_succ_cons,List.take_zero,List.drop_succ_cons,List.drop_zero]
 repeat (gi_big_quiet_step ((gi_at_call 155;exact callsIn_wide.2 (Calls.quiet_of (lJ _ 8 IZ aF _)))))
 refine wpQuietIn_nil ?_
 intro _ GD;obtain ⟨nq,FT⟩:=GD;subst FT;gi_wp2;have YD:=DX (HN.out nq);clear HN c1 c2 f1 e1 IZ;generalize World.setCell _ _ _=w6 at YD ⊢;have hv6:=YD.out;rw [HE.out] at hv6;have MO:=DX hv6;clear hv6 YD HE OV
 obtain ⟨v6,VI⟩:∃ v6,v6=(Bl.s1 v5 d a 8):=⟨_,rfl⟩
 have SY:=DX VI;rw [<- VI] at MO;clear VI
 obtain ⟨p,hp⟩:∃ p,p=v6.getD c 0:=⟨_,rfl⟩
 obtain ⟨q,hq⟩:∃ q,q=v6.getD d 0:=⟨_,rfl⟩
 have c1:=MO.out.cell c hc;have c2:=MO.out.cell d hd;have f1:=MO.out.free c;rw [<- hp] at c1;rw [<- hq] at c2;have e1:=Ia p q;have HN:=DX (fun nq=>MO.out.put nq c (Bl.add_lt p q));have HE:=DX (show v6.set c (Bl.add p q)=Bl.s2 v6 c d by rw [hp,hq];rfl);clear hp hq;go_wp2_with fail
 refine (wpIn_wide (n:=0)).1 ?_
 refine wpIn_region_quiet_tail_lit 15 aW aW aW ?_
 simp only [List.take_succ_cons,List.take_zero,List.drop_succ_cons,List.drop_zero]
 repeat (gi_big_quiet_step (fail))
 refine wpQuietIn_nil ?_
 intro _ GD;obtain ⟨nq,FT⟩:=GD;subst FT;gi_wp2;have YE:=DX (HN.out nq);clear HN c1 c2 f1 e1;generalize World.setCell _ _ _=w7 at YE ⊢;have YU:=YE.out;rw [HE.out] at YU;have OW:=DX YU;clear YU YE HE MO
 obtain ⟨v7,RW⟩:∃ v7,v7=(Bl.s2 v6 c d):=⟨_,rfl⟩
 have SZ:=DX RW;rw [<- RW] at OW;clear RW
 obtain ⟨p,hp⟩:∃ p,p=v7.getD b 0:=⟨_,rfl⟩
 obtain ⟨q,hq⟩:∃ q,q=v7.getD c 0:=⟨_,rfl⟩
 have c1:=OW.out.cell b hb;have c2:=OW.out.cell c hc;have f1:=OW.out.free b
 have KJ:p<4294967296:=by rw [hp];exact OW.out.ok.at _
 have MR:q<4294967296:=by rw [hq];exact OW.out.ok.at _
 rw [<- hp] at c1;rw [<- hq] at c2;have IZ:=Bl.xor_lt KJ MR;have e1:=wM p q KJ MR;have HN:=DX (fun nq=>OW.out.put nq b (Bl.rot_lt IZ 7));have HE:=DX (show v7.set b (Bl.rot (p ^^^ q) 7)=Bl.s1 v7 b c 7 by rw [hp,hq];rfl);clear KJ MR;generalize p ^^^ q=z at *;clear hp hq;go_wp2_with fail
 refine (wpIn_wide (n:=0)).1 ?_
 refine wpIn_region_quiet_tail_lit 16 aW aW aW ?_
 simp only [List.take_succ_cons,List.take_zero,List.drop_succ_cons,List.drop_zero]
 repeat (gi_big_quiet_step ((gi_at_call 155;exact callsIn_wide.2 (Calls.quiet_of (lJ _ 7 IZ aF _)))))
 exact Xk
end Go.Proofs.YtkfmladhicapeaaGreatDoor
