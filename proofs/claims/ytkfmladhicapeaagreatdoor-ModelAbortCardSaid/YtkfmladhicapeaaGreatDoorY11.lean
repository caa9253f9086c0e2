import Derived.Test.YtkfmladhicapeaaGreatDoorY10
set_option maxRecDepth 100000
set_option maxHeartbeats 4000000
namespace Go.Proofs.YtkfmladhicapeaaGreatDoor
open Go.RowKit Go.Shelf
attribute [local go_sem] Oper.semAt_some
def Tw (t:TypeId):Prop:=t=4\/t=78\/t=3
def jD (B:Nat) (w w':World):Prop:=∀ J:World->Prop,yH B Tw J->J w->J w'
theorem jD.refl (B:Nat) (w:World):jD B w w:=fun _ _ h=>h
theorem jD.trans {B:Nat} {a b c:World} (h:jD B a b) (k:jD B b c):jD B a c:=fun J hJ hj=>k J hJ (h J hJ hj)
theorem jD.step {B b:Nat} {w w':World} {C:Array Value} {t:TypeId} (g:w.grownBy w' (some b)) (hb:aA w b C t) (ht:Tw t) (hB:B<=b):jD B w w' :=
 fun _ hJ hj=>hJ w w' _ hj g (fun r e=>by cases e;exact ⟨hB,C,t,(0,0),hb,ht⟩)
theorem jD.row {B n:Nat} {w w':World} {e:TypeId} {v:Value} {xs:List Value} (g:w.grownBy w' v.ownBlock) (h:bM w B e v n xs) (ht:Tw e):jD B w w' :=
 fun _ hJ hj=>hJ w w' _ hj g (fun r er=>by
  obtain ⟨h1,⟨rfl,rfl⟩ | ⟨q,off,cap,cur,rfl,hb,hg,_⟩⟩:=h
  . cases er
  . cases er
    exact ⟨hb,cur,e,(0,0),hg,ht⟩)
theorem jD.kept {B:Nat} {w w':World} (k:aB w w'):jD B w w':=fun _ hJ hj=>hJ w w' none hj (bN k none) (fun r e=>by cases e)
theorem jD.keeps {B:Nat} {W w w':World} (h:jD B w w') (k:aB W w) (hb:W.heap.size<=B):aB W w' :=
 h (fun A=>aB W A) (fun _ _ _ hA g hr=>fO hA g (fun r e=>EF hb (hr r e).1)) k
theorem jD.size {B:Nat} {w w':World} (h:jD B w w'):w.heap.size<=w'.heap.size :=
 h (fun A=>w.heap.size<=A.heap.size) (fun _ _ _ hA g _=>EF hA g.size) (EA _)
theorem bM.ne {w:World} {base b n:Nat} {e t:TypeId} {v:Value} {xs:List Value} {C:Array Value} (h:bM w base e v n xs) (hb:aA w b C t) (GW:t≠e):some b≠v.ownBlock:=by
 obtain ⟨h1,⟨rfl,rfl⟩ | ⟨g,off,cap,cur,rfl,_,hg,_⟩⟩:=h
 . intro e;cases e
 . intro q
   obtain rfl:b=g:=by cases q;rfl
   have h2:=Eq.trans (Eq.symm (show w.heap[b]?=_ from hg)) hb;cases h2;exact GW rfl
structure Wk (w:World) (B p4 sb p5 l:Nat) (v:Value) (s:Sq):Prop where
 box4:aA w p4 #[.slice (some ⟨sb,0,none⟩) l l] 128
 seen:aA w sb (vU s.1) 4
 box5:aA w p5 #[v] 78
 next:bM w B 3 v s.2.length (s.2.map zC)
theorem Wk.kept {w w':World} {B p4 sb p5 l:Nat} {v:Value} {s:Sq} (h:Wk w B p4 sb p5 l v s) (k:aB w w'):Wk w' B p4 sb p5 l v s:=⟨h.box4.kept k,h.seen.kept k,h.box5.kept k,h.next.kept k⟩
def Yt (w:World) (B p4 sb p5 l:Nat) (v:Value) (s:Sq) (n:Nat) (e:Ending) (w':World):Prop :=
 (∃ u,e=.returned u)/\∃ v',Wk w' B p4 sb p5 l v' (gS s n)/\(∀ q,v'.ownBlock=some q->v.ownBlock=some q\/w.heap.size<=q)/\jD B w w'/\∀ q,q<w.heap.size->q≠sb->q≠p5->v.ownBlock≠some q->w'.heap[q]?=w.heap[q]?
theorem Ar (B p4 sb p5 l:Nat) (v:Value) (s:Sq) (n:Nat) (w:World) (h:Wk w B p4 sb p5 l v s) (hl:s.1.length=l) (hn:n<l) (hB:B<=sb/\B<=p5) (hs:s.2.length<=100000) :
 Calls Tryz.prog 163 #[.int .i64 n,.pointer (some ⟨p4,0,none⟩),.pointer (some ⟨p5,0,none⟩)] w (Yt w B p4 sb p5 l v s n):=by
 obtain ⟨i0,hi,GV,GJ,GO⟩:=info_parts CK;have HI:=DX (EC hi (EC GV (EC GJ GO)));clear hi GV GJ GO;have HW:=DX h;have hB1:=hB.1;have hB2:=hB.2;have PY:=h.seen.lt;have a4:=fC h.box4
 have b0:w.cell? ⟨sb,n,none⟩=some (.bool (s.1.getD n false)):=by rw [h.seen.cell,sM _ _ aE]
 clear h hB
 cases PL:s.1.getD n false with
 | true =>
  rw [PL] at b0;have HM:=DX (lF PL);clear PL;go_enter Tryz.func163,Tryz.ntmps163;go_wp2_with fail;go_end0;refine ⟨⟨_,rfl⟩,v,?_,fun q e=>.inl e,jD.refl _ _,fun _ _ _ _ _=>rfl⟩;rw [HM.out];exact HW.out
 | false =>
  rw [PL] at b0;have HM:=DX (jX PL);have f0:=HW.out.seen.free n;clear PL;go_enter Tryz.func163,Tryz.ntmps163
  go_upto_region 2 with (fail)
  have YL:=iE w sb n (.bool true)
  have NL:=DX (show aA (w.setCell ⟨sb,n,none⟩ (.bool true)) sb (vU (s.1.set n true)) 4 by
   have:=HW.out.seen.set (i:=n) (.bool true)
   rwa [Ff] at this)
  have H41:=DX (HW.out.box4.gr YL (Pj.Zd HW.out.seen aF _ _ HW.out.box4));have H51:=DX (HW.out.box5.gr YL (Pj.Zd HW.out.seen aF _ _ HW.out.box5));have HN1:=DX (HW.out.next.gr YL (fun q C hq _=>Pj.Zd HW.out.seen aF q C hq));have HA1:=DX (jD.step (B:=B) YL HW.out.seen (.inl rfl) hB1);have HO1:=DX (show ∀ q,q<w.heap.size->q≠sb->(w.setCell ⟨sb,n,none⟩ (.bool true)).heap[q]?=w.heap[q]? from fun q hq GW=>YL.block q hq (fun e=>GW (by cases e;rfl)))
  have GJ:(w.setCell ⟨sb,n,none⟩ (.bool true)).heap.size=w.heap.size:=by simp
  have ZG:=DX GJ;clear YL b0 f0 a4 GJ;generalize w.setCell ⟨sb,n,none⟩ (.bool true)=w1 at *;have a5:=fC H51.out;have hp5:=H51.out.lt;obtain ⟨av,cv,rfl,_⟩:=HN1.out.slice;go_wp2_with (at_builtin;refine jI rfl _ _ 78 rfl B 3 i0 (.int .i64 0) 8 Tryz.underlying78 HI.out.1 HI.out.2.1 HI.out.2.2.1 HI.out.2.2.2 rfl _ _ _ rfl (HN1.out.kept ((EX w1).alloc _)) (some ⟨w1.heap.size,0,none⟩) 1 1 [.int .i64 (n:Int)] rfl (kP w1 _ _ rfl) ?c1 ?c2 ?c3 ?_)
  case c1=>unfold maxLen;omega
  case c2=>omega
  case c3=>rw [World.size_alloc];omega
  intro v' w2 FU IB hwh
  have ka:=(EX w1).alloc (.cells #[.int .i64 (n:Int)] 3)
  have NV:=HN1.out.kept ka;have H42:=DX ((H41.out.kept ka).gr IB (NV.ne (H41.out.kept ka) aF));have GP:=DX ((NL.out.kept ka).gr IB (NV.ne (NL.out.kept ka) aF));have H52:=DX ((H51.out.kept ka).gr IB (NV.ne (H51.out.kept ka) aF));have TK:=DX (HA1.out.trans ((jD.kept ka).trans (jD.row IB NV (.inr (.inr rfl)))))
  have XY:=DX (show ∀ q,v'.ownBlock=some q->(Value.slice av s.2.length cv).ownBlock=some q\/w.heap.size<=q from fun q e=>(hwh q e).imp id (fun h=>by
   have:=ZG.out
   omega))
  have UR:=DX (show ∀ q,q<w.heap.size->q≠sb->(Value.slice av s.2.length cv).ownBlock≠some q->w2.heap[q]?=w.heap[q]? from fun q hq h1 h2=>by
   have WN:q<w1.heap.size:=by rw [ZG.out];exact hq
   exact (IB.block q (by rw [World.size_alloc];omega) (fun e=>h2 e.symm)).trans ((Below.block ka q WN).trans (HO1.out q hq h1)))
  have hT2:bM w2 B 3 v' (s.2++[n]).length ((s.2++[n]).map zC):=by
   rw [List.length_append,List.map_append];exact FU
  obtain ⟨a2,c2,rfl,_⟩:=FU.slice;have HT2:=DX hT2;clear ka NV FU IB hwh hT2;have a5:=fC H52.out;have f5:=H52.out.free 0;go_wp2_with fail;go_end0;have hg3:=iE w2 p5 0 (.slice a2 (s.2.length+1) c2)
  have hne5:∀ q C,aA w2 q C 3->some q≠some p5:=Pj.Zd H52.out aF
  refine ⟨⟨_,rfl⟩,.slice a2 (s.2.length+1) c2,?_,XY.out,TK.out.trans (jD.step hg3 H52.out (.inr (.inl rfl)) hB2),fun q h1 h2 h3 h4=>(hg3.block q ?_ (fun e=>h3 (by cases e;rfl))).trans (UR.out q h1 h2 h4)⟩
  . rw [HM.out]
    exact ⟨H42.out.gr hg3 (Pj.Zd H52.out aF _ _ H42.out),GP.out.gr hg3 (Pj.Zd H52.out aF _ _ GP.out),H52.out.set (i:=0) _,HT2.out.gr hg3 (fun q C hq _=>hne5 q C hq)⟩
  . have:=TK.out.size
    omega
def kE (W:World) (g l:Nat) (ll:List (List Nat)) (Z:Nat->Prop):Prop :=
 ∃ C:Array Value,aA W g C 78/\C.size=l/\Z g/\∀ j,j<l->∃ v,C[j]?=some v/\W.ownsRow (g+1) 3 1 v (ll.getD j []).length ((ll.getD j []).map zC)/\∀ q,v.ownBlock=some q->Z q
theorem Lz {W W':World} {base:Nat} {e:TypeId} {s n:Nat} {v:Value} {xs:List Value} (h:W.ownsRow base e s v n xs) (hq:∀ q,v.ownBlock=some q->W'.heap[q]?=W.heap[q]?):W'.ownsRow base e s v n xs:=by
 obtain ⟨h1,h2 | ⟨g,cap,cur,rfl,hb,hg,h3⟩⟩:=h
 . exact ⟨h1,.inl h2⟩
 . exact ⟨h1,.inr ⟨g,cap,cur,rfl,hb,(hq g rfl).trans hg,h3⟩⟩
theorem kE.heap {W W':World} {g l:Nat} {ll:List (List Nat)} {Z:Nat->Prop} (h:kE W g l ll Z) (hq:∀ q,Z q->W'.heap[q]?=W.heap[q]?):kE W' g l ll Z:=by
 obtain ⟨C,h1,h2,h3,h4⟩:=h;refine ⟨C,(hq g h3).trans h1,h2,h3,fun j hj=>?_⟩;obtain ⟨v,k1,k2,k3⟩:=h4 j hj;exact ⟨v,k1,Lz k2 (fun q e=>hq q (k3 q e)),k3⟩
theorem gN.toZ {W:World} {g l:Nat} {ll:List (List Nat)} (h:gN W (some ⟨g,0,none⟩) l ll):∃ Z:Nat->Prop,kE W g l ll Z/\∀ q,Z q->g<=q/\q<W.heap.size:=by
 obtain ⟨g',C,e,hb,hs,hl,hr⟩:=h;cases e;refine ⟨fun q=>q=g\/∃ j v,j<l/\C[j]?=some v/\v.ownBlock=some q,⟨C,hb,hs,.inl rfl,fun j hj=>?_⟩,fun q hq=>?_⟩
 . obtain ⟨v,hv,ho⟩:=hr j hj
   exact ⟨v,hv,ho,fun q e=>.inr ⟨j,v,hj,hv,e⟩⟩
 . rcases hq with rfl | ⟨j,v,hj,hv,e⟩
   . exact ⟨EA _,hb.lt⟩
   . obtain ⟨v',hv',ho⟩:=hr j hj
     rw [hv] at hv';cases hv';have:=ho.lt q e;omega
theorem kE.row {W:World} {g l:Nat} {ll:List (List Nat)} {Z:Nat->Prop} (h:kE W g l ll Z) (i:Nat) (hi:i<l):∃ b cap,W.cell? ⟨g,i,none⟩=some (.slice b (ll.getD i []).length cap) /\
 ∀ k,k<(ll.getD i []).length->∃ q,b=some ⟨q,0,none⟩/\Z q/\W.cell? ⟨q,k,none⟩=some (.int .i64 (((ll.getD i []).getD k 0:Nat):Int)):=by
 obtain ⟨C,h1,h2,h3,h4⟩:=h;obtain ⟨v,hv,ho,hz⟩:=h4 i hi;obtain ⟨b,cap,rfl⟩:=aP ho;refine ⟨b,cap,by rw [h1.cell,hv],fun k hk=>?_⟩
 rcases ho.2 with ⟨e,e2⟩ | ⟨q,cap',cur,e,hb,hg,hn,hm,_⟩
 . omega
 . cases e
   refine ⟨q,rfl,hz q rfl,?_⟩;exact Qk
structure cH (A B:World):Prop where
 size:A.heap.size<=B.heap.size
 block:∀ (k:Nat) (cs:Array Value) (t:TypeId) (fr:Nat × Nat),t≠9->t≠72->A.heap[k]?=some (Obj.cells cs t fr)->B.heap[k]?=some (Obj.cells cs t fr)
theorem cH.refl (A:World):cH A A:=⟨EA _,fun _ _ _ _ _ _ h=>h⟩
theorem cH.trans {A B C:World} (h:cH A B) (k:cH B C):cH A C:=⟨EF h.size k.size,fun i cs t fr h1 h2 hi=>k.block i cs t fr h1 h2 (h.block i cs t fr h1 h2 hi)⟩
theorem cH.putObj {w:World} (W:World) (l:Nat) (o o':Obj) (_:w.heap.size<=l) (h:W.heap[l]?=some o) (hc:o.isCells=false) (_:o.isWalk=false):cH W (W.putObj l o'):=by
 refine ⟨by simp,fun k cs t fr _ _ hk=>?_⟩;exact Sb
theorem aA.ty {A B:World} {b:Nat} {C:Array Value} {t:TypeId} (h:aA A b C t) (k:cH A B) (h1:t≠9) (h2:t≠72):aA B b C t:=k.block b C t (0,0) h1 h2 h
theorem bM.heap {W W':World} {base:Nat} {e:TypeId} {n:Nat} {v:Value} {xs:List Value} (h:bM W base e v n xs) (hq:∀ q C,v.ownBlock=some q->aA W q C e->aA W' q C e):bM W' base e v n xs:=by
 obtain ⟨h1,h2 | ⟨g,off,cap,cur,rfl,hb,hg,h3⟩⟩:=h
 . exact ⟨h1,.inl h2⟩
 . exact ⟨h1,.inr ⟨g,off,cap,cur,rfl,hb,hq g cur rfl hg,h3⟩⟩
theorem Wk.ty {A B:World} {b0 p4 sb p5 l:Nat} {v:Value} {s:Sq} (h:Wk A b0 p4 sb p5 l v s) (k:cH A B):Wk B b0 p4 sb p5 l v s :=
 ⟨h.box4.ty k aF aF,h.seen.ty k aF aF,h.box5.ty k aF aF,h.next.heap (fun _ _ _ hb=>hb.ty k aF aF)⟩
theorem kE.ty {A B:World} {g l:Nat} {ll:List (List Nat)} {Z:Nat->Prop} (h:kE A g l ll Z) (k:cH A B):kE B g l ll Z:=by
 obtain ⟨C,h1,h2,h3,h4⟩:=h;refine ⟨C,h1.ty k aF aF,h2,h3,fun j hj=>?_⟩;obtain ⟨v,k1,k2,k3⟩:=h4 j hj;refine ⟨v,k1,?_,k3⟩;obtain ⟨m1,m2 | ⟨q,cap,cur,rfl,hb,hg,m3⟩⟩:=k2
 . exact ⟨m1,.inl m2⟩
 . exact ⟨m1,.inr ⟨q,cap,cur,rfl,hb,aA.ty (show aA A q cur 3 from hg) k aF aF,m3⟩⟩
def Uc (w:World) (sb p5 l:Nat):Nat:=nD w sb l+Of ((w.cell? ⟨p5,0,none⟩).getD undef)
theorem Wk.mu {w:World} {b0 p4 sb p5 l:Nat} {v:Value} {s:Sq} (h:Wk w b0 p4 sb p5 l v s) (hl:s.1.length=l):Uc w sb p5 l=s.1.count false+s.2.length:=by
 unfold Uc;rw [lN h.seen hl,fC h.box5];obtain ⟨a,c,rfl,_⟩:=h.next.slice;rfl
theorem sS:∀ (ms:List Nat) (s:Sq),(∀ m∈ms,m<s.1.length)->(fY s ms).1.count false+(fY s ms).2.length=s.1.count false+s.2.length/\(fY s ms).1.length=s.1.length
 | [],s,_=>⟨rfl,rfl⟩
 | m :: r,s,h=>by
  have hm:=h m List.mem_cons_self
  have hl:(gS s m).1.length=s.1.length:=by
   unfold gS
   split
   . rfl
   . simp
  obtain ⟨i1,i2⟩:=sS r (gS s m) (fun q hq=>by rw [hl];exact h q (List.mem_cons_of_mem _ hq))
  show (fY (gS s m) r).1.count false+(fY (gS s m) r).2.length=_/\(fY (gS s m) r).1.length=_
  rw [i1,i2,hl];refine ⟨?_,rfl⟩
  cases e:s.1.getD m false with
  | true=>rw [lF e]
  | false =>
   rw [jX e];have:=vO hm e;simp only [List.length_append,List.length_cons,List.length_nil];omega
theorem Gf {A B:World} {q:Nat} (h:A.heap[q]?=B.heap[q]?) (o:Nat):A.cell? ⟨q,o,none⟩=B.cell? ⟨q,o,none⟩:=by
 unfold World.cell?;rw [h]
def Ss (ts:List Th) (rs:List ByteArray) (l:Nat) (xs:List { k:Nat // k<l }):Prop:=lU xs=jZ (oZ ts) (dZ l (kM ts rs))
theorem zP (n:Nat) (hn:1<=n) (ax:Option Addr) (l cap:Nat) (ts:List Th) (ar:Option Addr) (lr cr:Nat) (rs:List ByteArray) (pl pr:Nat) (w:World) (KJ:aA w pl #[.slice ax l cap] 22) (SJ:aA w pr #[.slice ar lr cr] 72)
 (hT:bO w ax l ts) (hR:bD w ar lr rs) (hB:fF ts=true) (hlr:lr<=1000000) :
 Yo Fence.wide n Tryz.prog 162 #[.pointer (some ⟨pl,0,none⟩),.pointer (some ⟨pr,0,none⟩)]
  (fun k:{ k:Nat // k<l }=>#[Value.int .i64 ((k.1:Nat):Int)]) cH Tw
  (Ss ts rs l) l w:=fun lq J W hW hJ hY h0=>by
 have hplW:=KJ.kept hW;have hprW:=SJ.kept hW;have HT:=DX (hT.kept hW);have HR:=DX (hR.kept hW);have HL:=DX hT.len_eq
 have h60:l<=60:=by rw [<- hT.len_eq];exact jL hB
 have NX:=DX (iY hB);clear hT hR hB KJ SJ hW
 have hmk:∀ u:World,(Instr.makeSlice 128 (.int .i64 l) (.int .i64 l)).run Tryz.prog u=.ok (.slice (some ⟨u.heap.size,0,none⟩) l l) (u.alloc (.cells (vU (List.replicate l false)) 4)):=Te l aE
 refine callsIn_of_wp Tryz.func162 rfl trivial ?_ rfl
 simp only [Tryz.ntmps162,List.size_toArray,List.length_nil,List.length_cons,Nat.reduceAdd,Nat.reduceSub,Array.replicate_succ,Array.replicate_zero,List.push_toArray,List.append_toArray,List.nil_append,List.cons_append]
 refine wpIn_wide.2 ?_
 have HJ0:=DX h0;have HAB:=DX hJ;have HY:=DX hY;have HPL:=DX hplW;have HPR:=DX hprW;have a1:=fC hplW;clear h0 hplW hprW hJ hY
 refine wp_scope_straight ?_
 go_upto_region 3 with (fail)
 obtain ⟨o1,ho1⟩:∃ o1,o1=(Obj.cells (vU (List.replicate l false)) 4):=⟨_,rfl⟩
 obtain ⟨o2,ZN⟩:∃ o2,o2=(Obj.cells #[Value.slice (some ⟨W.heap.size,0,none⟩) l l] 128):=⟨_,rfl⟩
 obtain ⟨o3,ho3⟩:∃ o3,o3=(Obj.cells #[] 3):=⟨_,rfl⟩
 obtain ⟨o4,ho4⟩:∃ o4,o4=(Obj.cells #[Value.slice (some ⟨W.heap.size+1+1,0,none⟩) 0 0] 78):=⟨_,rfl⟩
 have k34:aB ((W.alloc o1).alloc o2) ((((W.alloc o1).alloc o2).alloc o3).alloc o4):=((EX _).alloc o3).alloc o4
 have k24:aB (W.alloc o1) ((((W.alloc o1).alloc o2).alloc o3).alloc o4):=((EX _).alloc o2).trans k34
 have k14:aB W ((((W.alloc o1).alloc o2).alloc o3).alloc o4):=((EX _).alloc o1).trans k24
 have k44:aB (((W.alloc o1).alloc o2).alloc o3) ((((W.alloc o1).alloc o2).alloc o3).alloc o4):=(EX _).alloc o4
 have RT:Wk ((((W.alloc o1).alloc o2).alloc o3).alloc o4) W.heap.size (W.heap.size+1) W.heap.size (W.heap.size+1+1+1) l (.slice (some ⟨W.heap.size+1+1,0,none⟩) 0 0) (List.replicate l false,[]):=by
  refine ⟨?_,?_,?_,?_⟩
  . rw [ZN];exact (FB W _ _ o1).kept (by rw [<- ZN];exact k34)
  . rw [ho1];exact (EY W _ _).kept (by rw [<- ho1];exact k24)
  . rw [ho4];exact aA.new3 W _ _ o1 o2 o3
  . have h:=nG ((W.alloc o1).alloc o2) 3
    have hz:((W.alloc o1).alloc o2).heap.size=W.heap.size+1+1:=by simp
    rw [hz,<- ho3] at h
    exact (bM.of_own (bA h aE)).kept k44
 rw [<- ho1,<- ZN,<- ho3,<- ho4];have MH:=DX k14;have HW0:=DX RT;have HJ4:=DX (HAB.out [] W _ none HJ0.out (bN k14 none) (fun r e=>by cases e));clear k34 k24 k14 k44 RT ho1 ZN ho3 ho4 a1 hmk HJ0
 generalize (((W.alloc o1).alloc o2).alloc o3).alloc o4=w4 at *
 obtain ⟨sb,PY⟩:∃ sb,sb=W.heap.size:=⟨_,rfl⟩
 obtain ⟨p4,hp4⟩:∃ p4,p4=W.heap.size+1:=⟨_,rfl⟩
 obtain ⟨p5,hp5⟩:∃ p5,p5=W.heap.size+1+1+1:=⟨_,rfl⟩
 obtain ⟨B,hBB⟩:∃ B,B=W.heap.size:=⟨_,rfl⟩
 have HWB:=DX hBB;rw [<- hp5,<- hp4] at HW0 ⊢;have OF:=HW0.out;rw [<- hBB] at OF;have ZE:=DX (show Wk w4 B p4 sb p5 l _ (List.replicate l false,[]) by rw [PY,<- hBB];exact OF)
 have hB1:B<=sb:=by omega
 have hB2:B<=p5:=by omega
 clear HW0 OF PY hp4 hp5 hBB;have a2:=fC (HPR.out.kept MH.out);have HWS:=DX (show ∀ xs:List { k:Nat // k<l },lU xs=jZ (oZ ts) (dZ l (kM ts rs))->Ss ts rs l xs from fun _ h=>h);have HS0:=DX (show ∀ k,gV l [] (dZ l (kM ts (rs.take k))) from fun k=>mY (fun r hr=>by have:=sH ts _ r hr;rwa [HL.out] at this));have HLR:=DX HR.out.len_eq;go_wp2_with fail;go_loopw [22] (fun iv wx=>∃ (k:Nat) (v:Value),k<=lr/\iv=.int .i64 k/\Hid (Wk wx B p4 sb p5 l v (dZ l (kM ts (rs.take k))))/\Hid (J [] wx)/\aB W wx) (fun iv _=>lr - (intOf iv).toNat)
 case atStart=>exact ⟨0,_,aE,rfl,ZE,HJ4,MH.out⟩
 case round =>
  rename World=>wr
  obtain ⟨k,v,hk,rfl,HWK,HJK,IF⟩:=hrel;have HK:=DX IF;clear IF
  by_cases FV:k<lr
  . have GU:decide (k<lr)=true:=DZ FV
    obtain ⟨br,or,rfl,hcr⟩:=HR.out.at aE;have r0:=hcr k FV _ HK.out;have IX:=DX (Au ts rs k (by rw [HLR.out];exact FV))
    obtain ⟨d,hd⟩:∃ d,d=rs.getD k ByteArray.empty:=⟨_,rfl⟩
    rw [<- hd] at r0 IX;have a1:=fC (HPL.out.kept HK.out);have JA:=DX (Ir ax l cap ts d wr (HT.out.kept HK.out) NX.out);have NG:=DX (show nH ts d=true->fZ ts d<l from fun h=>by unfold nH at h;have:=(of_decide_eq_true h).1;rwa [HL.out] at this);generalize fZ ts d=nn at *;clear hcr hd
    cases hf:nH ts d with
    | false =>
     rw [hf] at JA IX;have HE:=DX (show kM ts (rs.take (k+1))=kM ts (rs.take k) by rw [IX.out];simp);clear hf NG;go_wp2_with fail
     refine JA.out.mono ?_
     rintro e w5 ⟨rfl,GZ⟩;have IQ:=DX (HK.out.trans GZ);have RA:=DX (HWK.out.kept GZ);have HJ5:=DX (HAB.out [] wr w5 none HJK.out (bN GZ none) (fun r e=>by cases e));clear GZ r0 a1;go_wp2_with fail;go_roundw
     case rel=>exact ⟨k+1,v,aE,by go_num,by rw [HE.out];exact RA,HJ5,IQ.out⟩
     case measure=>simp [intOf];omega
    | true =>
     rw [hf] at JA IX;have hnl:nn<l:=NG.out hf;have HE:=DX (show dZ l (kM ts (rs.take (k+1)))=gS (dZ l (kM ts (rs.take k))) nn by rw [IX.out];simp [dZ,tC]);have SU:=DX (HS0.out k);clear hf NG;generalize dZ l (kM ts (rs.take k))=sk at *
     have RI:sk.2.length<=100000:=by have:=SU.out.bound;omega
     have HMK:=DX (fun w h=>Ar B p4 sb p5 l v sk nn w h SU.out.len hnl ⟨hB1,hB2⟩ RI);go_wp2_with fail
     refine JA.out.mono ?_
     rintro e w5 ⟨rfl,GZ⟩;have IQ:=DX (HK.out.trans GZ);have RA:=DX (HWK.out.kept GZ);have HJ5:=DX (HAB.out [] wr w5 none HJK.out (bN GZ none) (fun r e=>by cases e));clear GZ r0 a1;go_wp2_with fail
     refine (HMK.out _ RA.out).mono ?_
     rintro e w6 ⟨⟨u6,rfl⟩,v6,VI,_,ha6,_⟩;have SY:=DX VI;have NO:=DX (ha6.keeps IQ.out (by rw [HWB.out];exact EA _));have HJ6:=DX (ha6 (J []) (by rw [HWB.out];exact HAB.out []) HJ5.out);clear VI ha6;go_wp2_with fail;go_roundw
     case rel=>exact ⟨k+1,v6,aE,by go_num,by rw [HE.out];exact SY,HJ6,NO.out⟩
     case measure=>simp [intOf];omega
  . obtain rfl:lr=k:=by omega
    have GU:decide (lr<lr)=false:=DY aE;have HSF:=DX (show dZ l (kM ts (rs.take lr))=dZ l (kM ts rs) by rw [EE (by rw [HLR.out];exact EA _)]);have SV:=DX (HS0.out lr);rw [HSF.out] at HWK SV;generalize dZ l (kM ts rs)=S0 at *;have a1:=fC (HPL.out.kept HK.out);have HLK:=DX (Lc ax l cap ts wr (HT.out.kept HK.out) NX.out h60);have HLE:=DX (show (oZ ts).length=l by rw [kB];exact HL.out);have hRL0:=DX (show ∀ i,i<l->((oZ ts).getD i []).length<=40 from fun i hi=>Ot ts i (by rw [HL.out];exact hi));have UT:=DX (yC ts);generalize oZ ts=LL at *;clear HS0 HSF;go_wp2_with fail
    refine HLK.out.mono ?_
    rintro e w5 ⟨c5,rfl,hli,GZ⟩;have hgw:wr.heap.size=wr.heap.size:=rfl;have HZX:=DX hli.toZ;have hz5:wr.heap.size<=w5.heap.size:=GZ.size;have IQ:=DX (HK.out.trans GZ);have RA:=DX (HWK.out.kept GZ);have HJ5:=DX (HAB.out [] wr w5 none HJK.out (bN GZ none) (fun r e=>by cases e));have hsbl:sb<wr.heap.size:=HWK.out.seen.lt;have hp5l:p5<wr.heap.size:=HWK.out.box5.lt;have NF:=HWK.out.next.lt
    obtain ⟨gl,hgl⟩:∃ gl,gl=wr.heap.size:=⟨_,rfl⟩
    obtain ⟨zb,hzb⟩:∃ zb,zb=w5.heap.size:=⟨_,rfl⟩
    rw [<- hgl] at HZX ⊢;obtain ⟨Z,hLZ,hZb⟩:=HZX.out;have HLZ:=DX hLZ;have HZB:=DX (show ∀ q,Z q->q<zb/\q≠sb/\q≠p5 from fun q h=>by have:=hZb q h;omega);have HZV:=DX (show ∀ q,v.ownBlock=some q->¬ Z q from fun q e h=>by have:=hZb q h;have:=NF q e;omega);have HZN:=DX (show ∀ q,Z q->q<zb from fun q h=>(HZB.out q h).1)
    have hzb5:zb<=w5.heap.size:=by omega
    clear hli GZ HLK NF hZb hLZ HZX hgw hgl hzb a1 HWK HJK hsbl hp5l hz5
    have UU:=DX (show ∀ k,gV l (fB LL S0 k).1 (fB LL S0 k).2 from fun k=>by
     have:=pP UT.out (by rw [HLE.out];exact SV.out) k
     rwa [HLE.out] at this)
    have HWL:=DX (show ∀ k,k<=l->(fB LL S0 k).2.2=[]->jZ LL S0=(fB LL S0 k).1 from fun k hk h=>Ik (by rw [HLE.out];exact hk) h)
    have OM:=DX (show ∀ k y sn m r,fB LL S0 k=(y,sn,m :: r)->fB LL S0 (k+1)=(y++[m],fY (sn,r) (LL.getD m [])) from fun k y sn m r h=>by
     show (match (fB LL S0 k).2.2 with | []=>fB LL S0 k | n :: r=>_)=_
     rw [h])
    have HOM:=DX (show ∀ i,i<l->∀ m∈LL.getD i [],m<l from fun i hi m hm=>by
     have:=UT.out i (by rw [HLE.out];exact hi) m hm
     rwa [HLE.out] at this)
    have HR0:=DX (show fB LL S0 0=([],S0) from rfl);clear UT SV HLE;generalize jZ LL S0=WL at *;generalize fB LL S0=RB at *;go_wp2_with fail
    refine wp_label ?_
    go_wp2_with fail
    refine eS n ?_
    gi_loopw [12] (fun _ wx=>∃ (k:Nat) (pre:List { k:Nat // k<l }) (y:List Nat) (sq:Sq) (v:Value),Hid (RB k=(y,sq))/\Hid (lU pre=y)/\Hid (y.length=k)/\Hid (Wk wx B p4 sb p5 l v sq)/\Hid (kE wx gl l LL Z)/\Hid (∀ q,v.ownBlock=some q->¬ Z q)/\Hid (J pre wx)/\zb<=wx.heap.size) (fun _ wx=>Uc wx sb p5 l)
    case atStart=>exact ⟨0,[],[],S0,v,HR0,DX rfl,DX rfl,RA,HLZ,HZV,HJ5,hzb5⟩
    case round =>
     rename World=>wx
     clear RA HLZ HZV HJ5 hzb5 IQ;obtain ⟨k,pre,y,⟨sn,nx⟩,v2,OE,HPR2,HYL,YF,HLX,HVX,HJX,hzx⟩:=hrel;have SU:=DX (show gV l y (sn,nx) by have:=UU.out k;rwa [OE.out] at this);have JL:=SU.out.bound;rw [HYL.out] at JL;dsimp only at JL;have HMU:=DX (YF.out.mu SU.out.len);have a5:=fC YF.out.box5;have f5:=YF.out.box5.free 0
     cases nx with
     | nil =>
      obtain ⟨av,cv,rfl,_⟩:=YF.out.next.slice
      have HE:=DX (show lU pre=WL by
       rw [HPR2.out,HWL.out k aE (by rw [OE.out]),OE.out])
      clear JL f5;gi_wp2_with fail;go_end0;exact ⟨⟨_,rfl⟩,pre,HWS.out pre HE.out,HJX.out⟩
     | cons m r =>
      have LA:m<l:=SU.out.lt m (by simp);obtain ⟨gg,off,cp,rfl,hbg,NJ,bP⟩:=YF.out.next.cells (by simp);have c0:=bP 0 (by simp) _ (EX _);simp only [List.map_cons,List.getElem?_cons_zero,Nat.add_zero,zC] at c0;have LX:bM wx B 3 (.slice (if cp=1 then some ⟨gg,off,none⟩ else some ⟨gg,off+1,none⟩) r.length (cp - 1)) r.length (r.map zC):=YF.out.next.tail
      obtain ⟨az,haz⟩:∃ az:Addr,(if cp=1 then some (⟨gg,off,none⟩:Addr) else some ⟨gg,off+1,none⟩)=some az:=by split <;> exact ⟨_,rfl⟩
      obtain ⟨cq,hcq⟩:∃ cq,cp - 1=cq:=⟨_,rfl⟩
      rw [haz,hcq] at LX
      have hazb:az.block=gg:=by
       split at haz <;> (cases haz;rfl)
      have NS:=DX LX;have YL:=iE wx p5 0 (.slice (some az) r.length cq)
      have ZE:=DX (show Wk (wx.setCell ⟨p5,0,none⟩ (.slice (some az) r.length cq)) B p4 sb p5 l (.slice (some az) r.length cq) (sn,r) from
       ⟨YF.out.box4.gr YL (Pj.Zd YF.out.box5 aF _ _ YF.out.box4),YF.out.seen.gr YL (Pj.Zd YF.out.box5 aF _ _ YF.out.seen),YF.out.box5.set (i:=0) _,LX.gr YL (fun q C hq _=>Pj.Zd YF.out.box5 aF q C hq)⟩)
      have HL1:=DX (HLX.out.heap (fun q hq=>YL.block q (by have:=HZN.out q hq;omega) (fun e=>(HZB.out q hq).2.2 (by cases e;rfl))))
      have NI:=DX (show ∀ q,(Value.slice (some az) r.length cq).ownBlock=some q->¬ Z q from fun q e=>HVX.out q (by
       cases e
       show some gg=some az.block
       rw [hazb]))
      have HA1:=DX (jD.step (B:=B) YL YF.out.box5 (.inr (.inl rfl)) hB2);have HJ1:=DX (HA1.out (J pre) (by rw [HWB.out];exact HAB.out pre) HJX.out)
      have GJ:zb<=(wx.setCell ⟨p5,0,none⟩ (.slice (some az) r.length cq)).heap.size:=by simpa using hzx
      have hyy:=HY.out pre ⟨m,LA⟩ _ HJ1.out (by have:=congrArg List.length HPR2.out;rw [fH,HYL.out] at this;simp at JL;omega);obtain ⟨f9,t9,s9,b9,MW,hR1⟩:=hyy;have HR1:=DX hR1;clear bP LX YL hbg hR1 JL;gi_wp2_with fail
      refine HR1.out.mono ?_
      rintro e W3 ⟨rfl,hj3,hcy⟩;have HW3:=DX (ZE.out.ty hcy);have HL3:=DX (HL1.out.ty hcy);have HJ3:=DX hj3;have hz3:zb<=W3.heap.size:=EF GJ hcy.size;have hcnt:=hRL0.out m LA;obtain ⟨rb,rc,hr0,hrk⟩:=HL3.out.row m LA;have HLZ3:=DX hrk;have HOMM:=DX (HOM.out m LA);have QV:=DX (OM.out k y sn m r OE.out);have HSKP:=DX SU.out.pop;have HPX:=DX (show lU (pre++[⟨m,LA⟩])=y++[m] by rw [dJ,HPR2.out]);have HJP:=DX (show ∀ A A',jD B A A'->J (pre++[⟨m,LA⟩]) A->J (pre++[⟨m,LA⟩]) A' from fun A A' h hj=>h (J (pre++[⟨m,LA⟩])) (by rw [HWB.out];exact HAB.out _) hj);have HMM2:=DX (show ∀ w,nD w sb l=nD w sb l from fun _=>rfl);generalize pre++[⟨m,LA⟩]=pre2 at *;generalize LL.getD m []=LMq at *;clear hj3 hcy ZE HL1 HJ1 HR1 GJ a5 f5 c0 haz hcq NS HA1 hrk HMM2;gi_wp2_with fail;gi_loopw [56] (fun iv wy=>∃ (j:Nat) (v3:Value),j<=LMq.length/\iv=.int .i64 j/\Hid (Wk wy B p4 sb p5 l v3 (fY (sn,r) (LMq.take j)))/\Hid (∀ q,Z q->wy.heap[q]?=W3.heap[q]?)/\Hid (∀ q,v3.ownBlock=some q->¬ Z q)/\Hid (J pre2 wy)/\zb<=wy.heap.size) (fun iv _=>LMq.length - (intOf iv).toNat)
      case atStart=>exact ⟨0,_,aE,rfl,HW3,DX (fun _ _=>rfl),NI,HJ3,hz3⟩
      case round =>
       rename World=>wy
       obtain ⟨j,v3,hj,rfl,HWY,HLY,HVY,HJY,hzy⟩:=hrel
       by_cases YM:j<LMq.length
       . have JH:decide (j<LMq.length)=true:=DZ YM
         obtain ⟨qb,rfl,hzq,hcq⟩:=HLZ3.out j YM
         have hcy:wy.cell? ⟨qb,j,none⟩=some (.int .i64 ((LMq.getD j 0:Nat):Int)):=by rw [Gf (HLY.out qb hzq),hcq]
         have aBQ:LMq.getD j 0∈LMq:=by simp [List.getD,YM]
         have MR:=HOMM.out _ aBQ
         have NY:=DX (show fY (sn,r) (LMq.take (j+1))=gS (fY (sn,r) (LMq.take j)) (LMq.getD j 0) by
          rw [List.take_succ_eq_append_getElem YM,tC]
          simp [List.getD,YM])
         have HSJ:=DX (gV.marks (LMq.take j) HSKP.out (fun q hq=>HOMM.out q (List.mem_of_mem_take hq)));generalize LMq.getD j 0=mj at *;generalize fY (sn,r) (LMq.take j)=sj at *
         have RI:sj.2.length<=100000:=by have:=HSJ.out.bound;omega
         have HMK:=DX (Ar B p4 sb p5 l v3 sj mj wy HWY.out HSJ.out.len MR ⟨hB1,hB2⟩ RI);clear aBQ hzq hcq;gi_wp2_with fail;refine ⟨trivial,callsIn_wide.2 (HMK.out.mono ?_)⟩;rintro e w6 ⟨⟨u6,rfl⟩,v6,VI,hv6,ha6,ho6⟩;have SY:=DX VI
         have MO:=DX (show ∀ q,v6.ownBlock=some q->¬ Z q from fun q e hq=>by
          rcases hv6 q e with h | h
          . exact HVY.out q h hq
          . have:=HZN.out q hq
            omega)
         have HH6:=DX (show ∀ q,Z q->w6.heap[q]?=W3.heap[q]? from fun q hq=>by
          have:=HZB.out q hq
          rw [ho6 q aE this.2.1 this.2.2 (fun e=>HVY.out q e hq),HLY.out q hq])
         have HJ6:=DX (HJP.out _ _ ha6 HJY.out);have hz6:zb<=w6.heap.size:=EF hzy ha6.size;clear VI hv6 ha6 ho6 hcy;gi_wp2_with fail;go_roundw
         case rel=>exact ⟨j+1,v6,aE,by go_num,by rw [NY.out];exact SY,HH6,MO,HJ6,hz6⟩
         case measure=>simp [intOf];omega
       . have hje:LMq.length=j:=by omega
         have JH:decide (j<LMq.length)=false:=DY YM;have NY:=DX (show LMq.take j=LMq by rw [EE aE]);rw [NY.out] at HWY;have HLF:=DX (HL3.out.heap HLY.out);have HYL2:=DX (show (y++[m]).length=k+1 by rw [List.length_append,HYL.out];rfl);have HMF:=DX (HWY.out.mu (by have:=(sS LMq (sn,r) (fun q hq=>by rw [SU.out.len];exact HOMM.out q hq)).2;rw [this];exact SU.out.len))
         have HM1:=DX (sS LMq (sn,r) (fun q hq=>by rw [SU.out.len];exact HOMM.out q hq)).1
         clear hje NY;gi_wp2_with fail;go_roundw
         case rel=>exact ⟨k+1,pre2,y++[m],fY (sn,r) LMq,v3,QV,HPX,HYL2,HWY,HLF,HVY,HJY,hzy⟩
         case measure =>
          rw [HMU.out,HMF.out,HM1.out]
          simp
end Go.Proofs.YtkfmladhicapeaaGreatDoor
