import Derived.Test.YtkfmladhicapeaaGreatDoorY0
import Derived.Test.YtkfmladhicapeaaGreatDoorRows
namespace Go.Proofs.YtkfmladhicapeaaGreatDoor
open Go.RowKit Go.Shelf
theorem Fo {P:Program} {f:FuncId} {args:Array Value} {w:World} {n:Nat} {v:Value}
 (h:Calls P f args (w.drewN n) fun e w'=>e=.returned v/\w.drewN n=w'):Calls P f args (w.drewN n) fun e w''=>e=.returned v/\∃ m,w''=w.drewN m :=
 h.mono fun _ _ ⟨he,hm⟩=>⟨he,n,hm.symm⟩
def aB (W wr:World):Prop:=Below W.heap.size W wr
theorem aB.refl (W:World):aB W W:=Below.refl _ _
abbrev EX:=@aB.refl
theorem aB.trans {a b c:World} (h:aB a b) (k:aB b c):aB a c:=Below.trans h (Below.mono k (Below.size h))
theorem aB.below {a b:World} (h:aB a b):Below a.heap.size a b:=h
theorem aB.alloc {a b:World} (h:aB a b) (o:Obj):aB a (b.alloc o):=Below.alloc h (Below.size h) o
theorem aB.drewN {a b:World} (h:aB a b) (n:Nat):aB a (b.drewN n):=Below.trans h ⟨rfl,rfl,rfl,EA _,fun _ _=>rfl⟩
theorem aB.drew {a b:World} (h:aB a b):aB a b.drew:=Below.drew h
theorem aB.setCell {a b:World} (h:aB a b) {p:Addr} (hp:a.heap.size<=p.block) (u:Value):aB a (b.setCell p u):=Below.setCell h hp u
theorem aB.cell {a b:World} (h:aB a b) {k o:Nat} {v:Value} (hk:k<a.heap.size) (hc:a.cell? ⟨k,o,none⟩=some v):b.cell? ⟨k,o,none⟩=some v :=
 (Below.cell h (p:=⟨k,o,none⟩) hk).trans hc
theorem aB.size {a b:World} (h:aB a b):a.heap.size<=b.heap.size:=Below.size h
abbrev EZ:=@aB.size
theorem aB.frozen {a b:World} (h:aB a b) {k o:Nat} {v:Bool} (hk:k<a.heap.size) (hc:a.frozen? ⟨k,o,none⟩=v):b.frozen? ⟨k,o,none⟩=v :=
 (Below.frozen h (p:=⟨k,o,none⟩) hk).trans hc
theorem jC {W:World} {b o:Nat} {v:Value} (h:W.cell? ⟨b,o,none⟩=some v):b<W.heap.size:=World.block_lt_of_cell? _ _ h
theorem jN (W:World) (xs:Array Value) (t:TypeId) (i:Nat):(W.alloc (.cells xs t)).cell? ⟨W.heap.size,i,none⟩=xs[i]?:=by
 simp
theorem Cw (W:World) (o:Obj):(W.alloc o).heap.size=W.heap.size+1:=by simp
def aA (w:World) (b:Nat) (C:Array Value) (t:TypeId):Prop:=w.heap[b]?=some (.cells C t (0,0))
theorem aA.lt {w:World} {b:Nat} {C:Array Value} {t:TypeId} (h:aA w b C t):b<w.heap.size:=by
 rcases Nat.lt_or_ge b w.heap.size with k | k
 . exact k
 . have h':w.heap[b]?=some (.cells C t (0,0)):=h
   rw [Array.getElem?_eq_none k] at h';cases h'
theorem aA.cell {w:World} {b:Nat} {C:Array Value} {t:TypeId} (h:aA w b C t) (i:Nat):w.cell? ⟨b,i,none⟩=C[i]?:=Joins.cell_of_block h i
theorem aA.free {w:World} {b:Nat} {C:Array Value} {t:TypeId} (h:aA w b C t) (i:Nat):w.frozen? ⟨b,i,none⟩=false:=Joins.unfrozen_of_block h i
theorem aA.set {w:World} {b i:Nat} {C:Array Value} {t:TypeId} (h:aA w b C t) (v:Value):aA (w.setCell ⟨b,i,none⟩ v) b (C.setIfInBounds i v) t:=Joins.block_setCell h v
theorem aA.kept {w w':World} {b:Nat} {C:Array Value} {t:TypeId} (h:aA w b C t) (k:aB w w'):aA w' b C t:=(Below.block k b h.lt).trans h
theorem aA.new (w:World) (C:Array Value) (t:TypeId):aA (w.alloc (.cells C t)) w.heap.size C t:=by
 show (w.heap.push _)[w.heap.size]?=_
 simp
abbrev EY:=@aA.new
def bF (w:World):Type:={ u:World // aB w u }
def bF.of {w u:World} (h:aB w u):bF w:=⟨u,h⟩
theorem aJ {P:Program} {id:Nat} {Q:Exit->Act->World->Prop} {a:Act} {w:World} {l:List Oper} (hm:P.follows .mixedOrders=true) (hB:Region.lexB .any l.toArray=true)
 (h:wpQuiet P l.toArray (fun w'=>∃ u:bF w,w'=u.1) (fun a'=>∀ w',(∃ u:bF w,w'=u.1)->Q .normal a' w') l a):(Code.region id l.toArray true).wp P Q a w :=
 wp_region_quiet (C:=fun w'=>∃ u:bF w,w'=u.1) hm hB ⟨⟨{ w with drawn:=w.drawn+1 },⟨rfl,rfl,rfl,EA _,fun _ _=>rfl⟩⟩,rfl⟩ (by simpa using h)
theorem aK {P:Program} {f:FuncId} {args:Array Value} {w:World} {u:bF w} {v:Value}
 (h:Calls P f args u.1 fun e w'=>e=.returned v/\aB u.1 w'):Calls P f args u.1 fun e w''=>e=.returned v/\∃ u':bF w,w''=u'.1 :=
 h.mono fun _ w' ⟨he,hk⟩=>⟨he,⟨⟨w',u.2.trans hk⟩,rfl⟩⟩
theorem aC {w:World} {b o:Nat} {v:Value} (h:w.cell? ⟨b,o,none⟩=some v):∀ u:bF w,u.1.cell? ⟨b,o,none⟩=some v :=
 fun u=>u.2.cell (jC h) h
structure Ez (w:World) (b:Nat) (l:List UInt8):Prop where
 lt:b<w.heap.size
 cell:∀ i (h:i<l.length),w.cell? ⟨b,i,none⟩=some (.int .u8 (l[i].toNat:Int))
 free:∀ i,i<l.length->w.frozen? ⟨b,i,none⟩=false
theorem Ez.kept {w w':World} {b:Nat} {l:List UInt8} (h:Ez w b l) (k:aB w w'):Ez w' b l :=
 ⟨EG h.lt k.size,fun i hi=>k.cell h.lt (h.cell i hi),fun i hi=>k.frozen h.lt (h.free i hi)⟩
theorem Ez.set {w:World} {b:Nat} {l:List UInt8} (h:Ez w b l) (i:Nat) (hi:i<l.length) (x:UInt8):Ez (w.setCell ⟨b,i,none⟩ (.int .u8 (x.toNat:Int))) b (l.set i x):=by
 refine ⟨by simpa using h.lt,fun j hj=>?_,fun j hj=>by rw [World.frozen?_setCell];exact h.free j (by simpa using hj)⟩
 by_cases e:i=j
 . subst e
   rw [World.cell?_setCell_same _ _ _ (h.cell i hi)]
   simp
 . have GW:(⟨b,i,none⟩:Addr)≠⟨b,j,none⟩:=fun h=>e (by cases h;rfl)
   rw [World.cell?_setCell_other (h:=GW),h.cell j (by simpa using hj)]
   simp [e]
theorem Ez.string {P:Program} {w:World} {b:Nat} {l:List UInt8} (h:Ez w b l) (src dst e:TypeId) (hs:P.underlying src=some (.slice e)) (he:P.underlying e=some (.int .u8)) (hd:P.underlying dst=some .string) (cap:Nat) :
 (convert src dst (.slice (some ⟨b,0,none⟩) l.length cap)).run P w=.ok (.string ⟨l.toArray⟩) w:=by
 refine run_convert_bytes_back w src dst e ⟨b,0,none⟩ cap l hs he hd (fun j hj=>?_)
 have e:(⟨b,0,none⟩:Addr).add j=⟨b,j,none⟩:=by unfold Addr.add;split <;> simp_all
 rw [e];exact h.cell j hj
def oA (f:Nat->UInt8->UInt8) (l:List UInt8) (k:Nat):List UInt8:=l.mapIdx fun i x=>if i<k then f i x else x
theorem Bj (f:Nat->UInt8->UInt8) (l:List UInt8) (k:Nat):(oA f l k).length=l.length:=by simp [oA]
theorem Gt (f:Nat->UInt8->UInt8) (l:List UInt8):oA f l 0=l:=by
 apply List.ext_getElem <;> simp [oA]
theorem Jq (f:Nat->UInt8->UInt8) (l:List UInt8) (k:Nat) (hk:k<l.length):(oA f l k).set k (f k l[k])=oA f l (k+1):=by
 apply List.ext_getElem
 . simp [oA]
 . intro i h1 h2
   simp only [oA,List.getElem_set,List.getElem_mapIdx]
   by_cases e:k=i
   . subst e;simp
   . rw [if_neg e]
     by_cases h:i<k
     . rw [if_pos h,if_pos aE]
     . rw [if_neg h,if_neg aE]
theorem Jo (f:Nat->UInt8->UInt8) (l:List UInt8) (k:Nat) (hk:l.length<=k):oA f l k=l.mapIdx f:=by
 apply List.ext_getElem
 . simp [oA]
 . intro i h1 h2
   have:i<k:=by simp [oA] at h1;omega
   simp [oA,this]
theorem Ke {P:Program} {c:Code} {Q:Exit->Act->World->Prop} {a:Act} {w:World} (h:∀ w1,w1=w->c.wp P Q a w1):c.wp P Q a w:=h _ rfl
theorem aB.setRow {a b:World} (h:aB a b) {g:Nat} (hg:a.heap.size<=g) (cs:Array Value):aB a (b.setRow g cs) :=
 Below.trans h ⟨rfl,rfl,rfl,by simp [World.setRow],fun k hk=>setRow_other b g k cs aE⟩
abbrev FC:=@aB.setRow
theorem aA.setRow {w:World} {g:Nat} {C:Array Value} {t:TypeId} (h:aA w g C t) (cs:Array Value):aA (w.setRow g cs) g cs t:=setRow_heap w g C cs t (0,0) h
theorem aA.other {w:World} {g g':Nat} {C:Array Value} {t:TypeId} (h:aA w g C t) (cs:Array Value) (GW:g≠g'):aA (w.setRow g' cs) g C t:=(setRow_other w g' g cs GW).trans h
theorem aA.setOther {w:World} {g g' i:Nat} {C:Array Value} {t:TypeId} (h:aA w g C t) (v:Value) (GW:g≠g'):aA (w.setCell ⟨g',i,none⟩ v) g C t:=(Below.heap_setCell w ⟨g',i,none⟩ v g GW).trans h
theorem aD {P:Program} {ops:Array Oper} {rest:List Oper} {op:Oper} {a:Act} {w:World} {Q:Exit->Act->World->Prop} (hgd:op.guard=none) (ty:TypeId) (x y:Operand) (ho:op.op=.store ty x y)
 (g:Nat) (cells old:Array Value) (t:TypeId) (hx:a.eval x=.pointer (some ⟨g,0,none⟩)) (hy:a.eval y=.agg cells) (hg:aA w g old t) (hi:(P.info? ty).map (·.size)=some cells.size) (IG:old.size=cells.size) (h1:cells.all (·.oneCell')=true)
 (h:wpList P ops Q rest (a.put op.dst undef) (w.setRow g cells)):wpList P ops Q (op :: rest) a w :=
 wpList_plain hgd fun _ hK=>by
  unfold Oper.wp execOp;exact Rh
theorem yZ {P:Program} {t:TypeId} {v:Value} (h:(P.info? t).map (·.zero)=some (some v)) (w:World):(zeroValue t).run P w=.ok v w:=by
 cases hq:P.info? t with
 | none=>simp [hq] at h
 | some i=>simp [hq] at h;simp [zeroValue,typeInfo,hq,h]
theorem aZ {P:Program} {ops:Array Oper} {rest:List Oper} {op:Oper} {a:Act} {w:World} {Q:Exit->Act->World->Prop} (hgd:op.guard=none) (ty:TypeId) (ho:op.op=.alloc ty)
 (z:Array Value) (hz:(P.info? ty).map (·.zero)=some (some (.agg z)))
 (h:wpList P ops Q rest (a.put op.dst (.pointer (some ⟨w.heap.size,0,none⟩))) (w.alloc (.cells z ty))):wpList P ops Q (op :: rest) a w :=
 wpList_plain hgd fun _ hK=>by
  unfold Oper.wp execOp
  have hr:(Instr.alloc ty true (.tuple #[])).run P w=.ok (.pointer (some ⟨w.heap.size,0,none⟩)) (w.alloc (.cells z ty)):=by
   simp [Instr.alloc,yZ hz,Result.andThen,Value.cells,go_sem]
  exact St
theorem gP {P:Program} {ops:Array Oper} {rest:List Oper} {op:Oper} {a:Act} {w:World} {Q:Exit->Act->World->Prop} (hgd:op.guard=none) (ty:TypeId) (ho:op.op=.build ty #[])
 (z:Array Value) (hz:P.built ty []=some z)
 (h:wpList P ops Q rest (a.put op.dst (.agg z)) w):wpList P ops Q (op :: rest) a w :=
 wpList_plain hgd fun _ hK=>by
  unfold Oper.wp execOp;have hr:=run_build w ty #[] z hz;simp only [ho,Array.map_empty,hr,Sem.run_bind,Sem.run_pure,Result.andThen_ok];exact hK _ _ h
theorem Cq {n:Nat} {P:Program} {c:Code} {Q:Exit->Act->World->Prop} {a:Act} {w:World} (h:c.wpIn Fence.wide n P (Exit.noGoto Q) a w):(Code.scope c).wpIn Fence.wide n P Q a w :=
 wpIn_wide.2 (wp_scope_straight (wpIn_wide.1 h))
theorem eS (n:Nat) {P:Program} {c:Code} {Q:Exit->Act->World->Prop} {a:Act} {w:World} (h:c.wpIn Fence.wide n P Q a w):c.wp P Q a w:=wpIn_wide.1 h
theorem uQ {Q:Exit->Act->World->Prop} {a:Act} {w:World} (h:Q .normal a w):Exit.noGoto Q .normal a w:=h
theorem lR {Q:Exit->Act->World->Prop} {a:Act} {w:World} (h:Q .ret a w):Exit.noGoto Q .ret a w:=h
structure aV (R:Nat->Prop) (A B:World):Prop where
 size:A.heap.size<=B.heap.size
 block:∀ k cs t fr,¬ R k->A.heap[k]?=some (.cells cs t fr)->B.heap[k]?=some (.cells cs t fr)
theorem aV.refl (R:Nat->Prop) (A:World):aV R A A:=⟨EA _,fun _ _ _ _ _ h=>h⟩
theorem aV.trans {R:Nat->Prop} {A B C:World} (h:aV R A B) (k:aV R B C):aV R A C :=
 ⟨EF h.size k.size,fun i cs t fr hr hi=>k.block i cs t fr hr (h.block i cs t fr hr hi)⟩
theorem aV.putObj {R:Nat->Prop} {w:World} (W:World) (l:Nat) (o o':Obj) (_:w.heap.size<=l) (h:W.heap[l]?=some o) (hc:o.isCells=false) (_:o.isWalk=false):aV R W (W.putObj l o'):=by
 refine ⟨by simp,fun k cs t fr _ hk=>?_⟩;exact Sb
theorem aV.of_kept {R:Nat->Prop} {A B:World} (h:aB A B):aV R A B :=
 ⟨h.size,fun k cs t fr _ hk=>by
  have FV:k<A.heap.size:=(Array.getElem?_eq_some_iff.1 hk).1
  exact (Below.block h k FV).trans hk⟩
theorem aV.setCell {R:Nat->Prop} {b i:Nat} (A:World) (v:Value) (hR:R b):aV R A (A.setCell ⟨b,i,none⟩ v):=by
 refine ⟨by simp,fun k cs t fr hr hk=>?_⟩
 have GW:k≠b:=fun e=>hr (by rw [e];exact hR)
 exact (Below.heap_setCell A ⟨b,i,none⟩ v k GW).trans hk
theorem aA.but {R:Nat->Prop} {A B:World} {b:Nat} {C:Array Value} {t:TypeId} (h:aA A b C t) (k:aV R A B) (hr:¬ R b):aA B b C t:=k.block b C t (0,0) hr h
theorem uY {A B:World} (h:aB A B):A.grownBy B none :=
 ⟨Below.os h,Below.tape h,Below.output h,Below.size h,fun k hk _=>Below.block h k hk⟩
theorem AbidesFrom.kept {β:Type} {B:Nat} {J:β->World->Prop} (h:AbidesFrom B J) {s:β} {A A':World} (hs:J s A) (k:aB A A'):J s A' :=
 h s A A' none hs (uY k) (fun r e=>by cases e)
theorem Ez.grown {W W':World} {b:Nat} {l:List UInt8} {row:Option Nat} (h:Ez W b l) (hg:W.grownBy W' row) (hr:∀ r,row=some r->∃ o:Obj,W.heap[r]?=some o/\o.isCells=false):Ez W' b l :=
 ⟨EG h.lt hg.size,fun i hi=>cell_kept (h.cell i hi) hg hr,fun i hi=>(frozen_kept (h.cell i hi) hg hr).trans (h.free i hi)⟩
def lU {n:Nat} (l:List { k:Nat // k<n }):List Nat:=l.map (·.1)
theorem dJ {n:Nat} (l:List { k:Nat // k<n }) (k:Nat) (hk:k<n):lU (l++[⟨k,hk⟩])=lU l++[k]:=by simp [lU]
theorem fH {n:Nat} (l:List { k:Nat // k<n }):(lU l).length=l.length:=by simp [lU]
section
variable {F:Fence} {n:Nat} {P:Program} {b:Frame} {a:Act} {k:List Item} {cs:List Frame} {w:World} {Q:Exit->Act->World->Prop}
theorem gI {c:Code}:step P (lone (b.atR a (.code (.scope c) :: k)) cs w)=.next (lone (b.atR a (.code c :: .inScope c :: k)) cs w) :=
 step_lone_go (by simp [stepG,stepG.exec,Frame.atR])
theorem uS {c:Code}:step P (lone (b.atR a (.inScope c :: k)) cs w)=.next (lone (b.atR a k) cs w) :=
 step_lone_go (by simp [stepG,stepG.exec,Frame.atR])
theorem tL {c:Code} (h:c.wpIn F n P (Exit.noGoto Q) a w):(Code.scope c).wpIn F n P Q a w:=by
 intro b k cs hro hb hr
 have h0:(lone (b.atR a (.code (.scope c) :: k)) cs w).fenced P F:=fenced_calm hb hr rfl
 obtain ⟨e,a₁,w₁,hq,aAt⟩:=h b (.inScope c :: k) cs hro hb hr
 cases e with
 | normal=>exact ⟨.normal,a₁,w₁,hq,.head h0 gI (StepsIn.trans aAt (.one (fenced_calm hb hr rfl) uS))⟩
 | exit id =>
  have hx:exitTo id (.inScope c :: k)=exitTo id k:=by simp [exitTo]
  exact ⟨.exit id,a₁,w₁,hq,fun k' hk=>.head h0 gI (aAt.1 k' (by rw [hx];exact hk)),
   fun RU hk=>let ⟨k₁,h1,h2⟩:=aAt.2 RU (by rw [hx];exact hk);⟨k₁,h1,.head h0 gI h2⟩⟩
 | goto l=>exact hq.elim
 | ret=>exact ⟨_,a₁,w₁,hq,.of_steps (.one h0 gI) aAt⟩
 | panic ch=>exact ⟨_,a₁,w₁,hq,.of_steps (.one h0 gI) aAt⟩
 | outgrown=>exact ⟨_,a₁,w₁,hq,.of_steps (.one h0 gI) aAt⟩
end
theorem tI (B:Nat) (W:World):KeepsFrom B W W:=(KeepsOthers.refl W).from B
theorem eI {F:Fence} {n:Nat} {P:Program} {α:Type} {g:Operand} {ps:Array Tmp} {assign body:Code} {Q:Exit->Act->World->Prop} {a:Act} {w:World}
 (hro:F.round=none) (h1:1<=n) {gf:Nat} {lb:Array Value} (hg:a.eval g=.func (.func gf) #[] lb) (hFg:F.fn gf) (eg:∀ args w,(callFunc gf args).run P w=.ok (.enter gf args) w)
 {encs:α->Array Value} {Kp:World->World->Prop} {S Sp:List α->Prop} {N:Nat} {w0:World} (hseq:SeqStopsK F (n - 1) P gf lb encs Kp S Sp N w0)
 (hKr:∀ A:World,Kp A A) (hKt:∀ {A B C:World},Kp A B->Kp B C->Kp A C) (hKb:∀ (W:World) (l:Nat) (o o':Obj),w.heap.size<=l->W.heap[l]?=some o->o.isCells=false->o.isWalk=false->Kp W (W.putObj l o')) (YJ:Below w0.heap.size w0 w) (YO:∀ x,(encs x).size=ps.size)
 (I:List α->World->Prop) (Ix:Code->List α->World->Prop) (hI:OwnFrom w.heap.size I) (hIx:∀ c,OwnFrom w.heap.size (Ix c)) (h0:I [] w)
 (YP:∀ (l:Nat) (x:α) (W:World) (K:Act->World->Prop),(∀ a',(∀ (l:Nat) (pre:List α) (W:World),I pre W->pre.length<N->body.wpIn (F.inRound l) (n - 1 - 1) P (ownPostK Kp I Ix (pre++[x]) W) a' W)->K a' W) ->
  assign.wpIn (F.inRound l) (n - 1 - 1) P (Exit.then K (fun _ _ _=>False)) { tmps:=(ps.zip (encs x)).foldl (fun t (p,v)=>t.setIfInBounds p v) a.tmps,defers:=[] } W)
 (WG:∀ (D:Nat) (xs:List α) (W:World),w.heap.size<=D->S xs->I xs W->W.heap[D]?=some (.deferred (some []))->Q .normal { a with defers:={ target:=.collected D,args:=#[] } :: a.defers } W)
 (hstop:∀ (D:Nat) (c:Code) (pre:List α) (W:World),w.heap.size<=D->Sp pre->Ix c pre W->W.heap[D]?=some (.deferred (some []))->c.wpIn F n P Q { a with defers:={ target:=.collected D,args:=#[] } :: a.defers } W) :
 (Code.rangeFunc g ps assign body).wpIn F n P Q a w:=by
 refine wpIn_rangeFunc_ownH hro h1 hg hFg eg hseq (fun h k=>hKt h k) hKb YJ YO I Ix hI hIx h0
  (fun x a' _=>∀ (l:Nat) (pre:List α) (W:World),I pre W->pre.length<N->body.wpIn (F.inRound l) (n - 1 - 1) P (ownPostK Kp I Ix (pre++[x]) W) a' W)
  (fun x a'=>ownFrom_pure _ (fun _=>∀ (l:Nat) (pre:List α) (W:World),I pre W->pre.length<N->body.wpIn (F.inRound l) (n - 1 - 1) P (ownPostK Kp I Ix (pre++[x]) W) a' W))
  (fun l pre x W K hi hK=>YP l x W K (fun a' hb=>hK a' W (tI _ W) (hKr W) hi hb))
  (fun l pre x a' W _ _ hi hax GM=>wpIn_mono (hax l pre W hi GM) ownPostG_of_ownPostK) WG hstop
end Go.Proofs.YtkfmladhicapeaaGreatDoor
namespace Go.Proofs.YtkfmladhicapeaaGreatDoor
open Go.ChangeShapes Go.WideShapes Go.ChangeAt Go.RowKit Go.Joins
structure bD (W:World) (a:Option Addr) (len:Nat) (ss:List ByteArray):Prop where
 len_eq:ss.length=len
 le:len<=9223372036854775807
 sizes:∀ s∈ss,s.size<=9223372036854775807
 cells:∃ b off,(0<len->a=some ⟨b,off,none⟩)/\∀ i,i<len->b<W.heap.size/\W.cell? ⟨b,off+i,none⟩=some (.string (ss.getD i ByteArray.empty))
theorem bD.kept {W W':World} {a:Option Addr} {len:Nat} {ss:List ByteArray} (h:bD W a len ss) (k:aB W W'):bD W' a len ss:=by
 obtain ⟨b,off,ha,hc⟩:=h.cells;exact ⟨h.len_eq,h.le,h.sizes,b,off,ha,fun i hi=>⟨EG (hc i hi).1 k.size,k.cell (hc i hi).1 (hc i hi).2⟩⟩
theorem bD.size {W:World} {a:Option Addr} {len:Nat} {ss:List ByteArray} (h:bD W a len ss) (i:Nat) (hi:i<len):(ss.getD i ByteArray.empty).size<=9223372036854775807:=by
 have hl:i<ss.length:=by rw [h.len_eq];exact hi
 exact h.sizes _ (by simp [List.getD,hl])
theorem bD.built (W:World) (ss:List ByteArray) (t:TypeId) (hl:ss.length<=9223372036854775807) (hs:∀ s∈ss,s.size<=9223372036854775807) :
 bD (W.alloc (.cells (ss.map Value.string).toArray t)) (some ⟨W.heap.size,0,none⟩) ss.length ss:=by
 refine ⟨rfl,hl,hs,W.heap.size,0,fun _=>rfl,fun i hi=>⟨by simp,?_⟩⟩;rw [Nat.zero_add,jN]
 simp [List.getD,hi]
end Go.Proofs.YtkfmladhicapeaaGreatDoor
namespace Go.Proofs.YtkfmladhicapeaaGreatDoor
open Go.RowKit Go.Shelf
theorem cB {P:Program} {fn:Func} {p u:Tmp} {ty:TypeId} (h:fn.results=#[.cell p ty,.tmp u]) (tmps:Array Value) (w:World) (g:Nat) (t:TypeId) (cs:Array Value) (d:TypeDesc)
 (hp:tmps.getD p undef=.pointer (some ⟨g,0,none⟩)) (hg:aA w g cs t)
 (hu:P.underlying ty=some d) (hd:(match d with | .struct _ | .array _ _=>true | _=>false)=true) (hi:(P.info? ty).map (·.size)=some cs.size) (v:Value) (hv:tmps.getD u undef=v) :
 (results fn tmps).run P w=.ok (.tuple #[.agg cs,v]) w:=by
 have hp':tmps[p]?.getD undef=.pointer (some ⟨g,0,none⟩):=by simpa using hp
 have hv':tmps[u]?.getD undef=v:=by simpa using hv
 have hg':w.heap[g]?=some (.cells cs t (0,0)):=hg
 simp [results,h,hp',hv',asAddr,run_loadVar_row w g t ty cs (0,0) d hg' hu hd hi,Result.andThen]
theorem dI {W:World} {b:Nat} {x y z:Value} {t:TypeId} (h:aA W b #[x,y,z] t):W.cell? ⟨b,0,none⟩=some x/\W.cell? ⟨b,1,none⟩=some y/\W.cell? ⟨b,2,none⟩=some z :=
 ⟨h.cell 0,h.cell 1,h.cell 2⟩
theorem fC {W:World} {b:Nat} {x:Value} {t:TypeId} (h:aA W b #[x] t):W.cell? ⟨b,0,none⟩=some x:=h.cell 0
theorem aA.new1 (w:World) (C:Array Value) (t:TypeId) (o:Obj):aA ((w.alloc o).alloc (.cells C t)) (w.heap.size+1) C t:=by
 have h:=EY (w.alloc o) C t;rw [World.size_alloc] at h;exact h
abbrev FB:=@aA.new1
theorem aA.new2 (w:World) (C:Array Value) (t:TypeId) (o o2:Obj):aA (((w.alloc o).alloc o2).alloc (.cells C t)) (w.heap.size+1+1) C t:=by
 have h:=FB (w.alloc o) C t o2;rw [World.size_alloc] at h;exact h
theorem aA.new3 (w:World) (C:Array Value) (t:TypeId) (o o2 o3:Obj):aA ((((w.alloc o).alloc o2).alloc o3).alloc (.cells C t)) (w.heap.size+1+1+1) C t:=by
 have h:=aA.new2 (w.alloc o) C t o2 o3;rw [World.size_alloc] at h;exact h
theorem cK (W:World) (D:Nat) (o':Obj):W.grownBy (W.putObj D o') (some D):=grownBy_putObj' W D o'
theorem dB (W:World) (g:Nat) (cs:Array Value):W.grownBy (W.setRow g cs) (some g):=⟨rfl,rfl,rfl,by simp [World.setRow],fun k _ GW=>setRow_other W g k cs (fun e=>GW (by rw [e]))⟩
theorem aH {A B:World} {base:Nat} {e:TypeId} {s n:Nat} {v:Value} {xs:List Value} (h:A.ownsRow base e s v n xs) (k:aB A B):B.ownsRow base e s v n xs:=by
 obtain ⟨h1,h2 | ⟨g,cap,cur,hv,hb,hg,h3⟩⟩:=h
 . exact ⟨h1,.inl h2⟩
 . exact ⟨h1,.inr ⟨g,cap,cur,hv,hb,aA.kept (show aA A g cur e from hg) k,h3⟩⟩
theorem aM {w w':World} {b:Nat} {C:Array Value} {t:TypeId} {row:Option Nat} (h:aA w b C t) (g:w.grownBy w' row) (GW:some b≠row):aA w' b C t:=(g.block b h.lt GW).trans h
theorem cF {w w':World} {b:Nat} {C:Array Value} {t:TypeId} {row:Option Nat} (h:aA w b C t) (g:w.grownBy w' row) (hr:∀ k,row=some k->∃ o:Obj,w.heap[k]?=some o/\o.isCells=false):aA w' b C t:=aM h g (fun e=>by
 obtain ⟨o,ho,hc⟩:=hr b e.symm;rw [show w.heap[b]?=_ from h] at ho;cases ho
 cases hc)
theorem rZ {A B:World} {base:Nat} {e:TypeId} {s n:Nat} {v:Value} {xs:List Value} {row:Option Nat} (h:A.ownsRow base e s v n xs) (k:A.grownBy B row) (hr:∀ k,row=some k->∃ o:Obj,A.heap[k]?=some o/\o.isCells=false):B.ownsRow base e s v n xs:=by
 obtain ⟨h1,h2 | ⟨g,cap,cur,hv,hb,hg,h3⟩⟩:=h
 . exact ⟨h1,.inl h2⟩
 . exact ⟨h1,.inr ⟨g,cap,cur,hv,hb,cF (show aA A g cur e from hg) k hr,h3⟩⟩
theorem oD {A B:World} {base:Nat} {e:TypeId} {s n:Nat} {v:Value} {xs:List Value} (h:A.ownsRow base e s v n xs) (g:A.grownBy B v.ownBlock):KeepsOthers A B :=
 KeepsOthers.of_grownBy g (fun j _ e ho=>by
  obtain ⟨h1,h2 | ⟨g,cap,cur,hv,hb,hg,h3⟩⟩:=h
  . rw [h2.1] at e;cases e
  . rw [hv] at e
    cases e;rw [hg] at ho;cases ho
    rfl)
theorem wZ {R:Nat->Prop} {A B:World} {row:Option Nat} (g:A.grownBy B row) (hR:∀ k,row=some k->R k):aV R A B :=
 ⟨g.size,fun i cs t fr hr hi=>by
  have FV:i<A.heap.size:=(Array.getElem?_eq_some_iff.1 hi).1
  exact (g.block i FV (fun e=>hr (hR i e.symm))).trans hi⟩
theorem dR {A B:World} (k:aB A B):KeepsOthers A B:=⟨Below.size k,fun i _ hi _=>(Below.block k i (Array.getElem?_eq_some_iff.1 hi).1).trans hi⟩
theorem Fz {A:World} {base:Nat} {e:TypeId} {s n:Nat} {v:Value} {xs:List Value} (h:A.ownsRow base e s v n xs):∃ a m c,v=.slice a m c:=by
 obtain ⟨_,h2 | ⟨g,cap,cur,hv,_⟩⟩:=h
 . exact ⟨_,_,_,h2.1⟩
 . exact ⟨_,_,_,hv⟩
theorem eC {w:World} {base l:Nat} {e:TypeId} {v:Value} {ss:List ByteArray} (ho:w.ownsRow base e 1 v l (ss.map Value.string)) (hl:ss.length=l) (hs:∀ s∈ss,s.size<=9223372036854775807) :
 ∃ a cap,v=.slice a l cap/\l<=cap/\bD w a l ss:=by
 rcases ho.2 with ⟨rfl,rfl⟩ | ⟨g,cap,cur,rfl,hb,hg,hn,hm,_⟩
 . exact ⟨none,0,rfl,EA _,hl,aE,hs,0,0,fun h=>absurd h (EJ 0),fun i hi=>absurd hi (Nat.not_lt_zero i)⟩
 . refine ⟨_,cap,rfl,hn,hl,by unfold maxLen at hm;omega,hs,g,0,fun _=>rfl,fun i hi=>⟨(ho.lt g rfl).2,?_⟩⟩
   rw [Nat.zero_add,ho.cellAt i aE]
   have hi':i<ss.length:=by omega
   simp [List.getD,hi']
theorem tX {W:World} {D:Nat} {o o':Obj} {a:Option Addr} {l:Nat} {ss:List ByteArray} (h:bD W a l ss) (hD:W.heap[D]?=some o) (hc:o.isCells=false):bD (W.putObj D o') a l ss:=by
 obtain ⟨b,off,ha,JW⟩:=h.cells;refine ⟨h.len_eq,h.le,h.sizes,b,off,ha,fun i hi=>?_⟩;obtain ⟨h1,h2⟩:=JW i hi;refine ⟨by simpa using h1,?_⟩
 have GW:b≠D:=fun e=>by
  subst e;unfold World.cell? at h2;rw [hD] at h2
  cases o <;> first | (cases hc;done) | (simp at h2;done)
 have hb:(W.putObj D o').heap[b]?=W.heap[b]?:=(cK W D o').block b h1 (fun e=>GW (by cases e;rfl))
 unfold World.cell? at h2 ⊢;rw [hb];exact h2
theorem cD {base:Nat} {W a b:World} {row:Option Nat} (h:Below base W a) (g:a.grownBy b row) (hr:∀ k,row=some k->base<=k) (hb:base<=W.heap.size:=by omega):Below base W b :=
 ⟨g.os.trans h.os,g.tape.trans h.tape,g.output.trans h.output,EF h.size g.size,fun k hk=>(g.block k (by have:=h.size;omega) (fun e=>by have:=hr k e.symm;omega)).trans (h.block k hk)⟩
theorem pH {A B:World} {base:Nat} {e:TypeId} {s n:Nat} {v:Value} {xs:List Value} {row:Option Nat} (h:A.ownsRow base e s v n xs) (g:A.grownBy B row) (hr:row≠v.ownBlock):B.ownsRow base e s v n xs :=
 h.kept g (by
  cases hv:v.ownBlock with
  | none=>exact .inl rfl
  | some k=>exact .inr fun e=>hr (by rw [hv,e]))
theorem aP {w:World} {base:Nat} {e:TypeId} {s n:Nat} {v:Value} {xs:List Value} (h:w.ownsRow base e s v n xs):∃ a cap,v=.slice a n cap:=by
 obtain ⟨h1,⟨rfl,rfl⟩ | ⟨g,cap,cur,rfl,hg,_,h3,_⟩⟩:=h
 . exact ⟨none,0,rfl⟩
 . exact ⟨_,cap,rfl⟩
theorem bD.at {W:World} {a:Option Addr} {l:Nat} {ss:List ByteArray} (h:bD W a l ss) (hl:0<l):∃ b off,a=some ⟨b,off,none⟩/\∀ i,i<l->∀ w,aB W w->w.cell? ⟨b,off+i,none⟩=some (.string (ss.getD i ByteArray.empty)):=by
 obtain ⟨b,off,ha,hc⟩:=h.cells;exact ⟨b,off,ha hl,fun i hi w kk=>kk.cell (hc i hi).1 (hc i hi).2⟩
end Go.Proofs.YtkfmladhicapeaaGreatDoor
namespace Go.Proofs.YtkfmladhicapeaaGreatDoor
open Go.ChangeShapes Go.WideShapes Go.ChangeAt Go.RowKit Go.Joins
structure nM (W:World) (k:IntKind) (a:Option Addr) (len:Nat) (zs:List Int):Prop where
 len_eq:zs.length=len
 le:len<=9223372036854775807
 wf:∀ x∈zs,(Lit.int k x).wf=true
 cells:∃ b off,(0<len->a=some ⟨b,off,none⟩)/\∀ i,i<len->b<W.heap.size/\W.cell? ⟨b,off+i,none⟩=some (.int k (zs.getD i 0))
theorem nM.kept {W W':World} {k:IntKind} {a:Option Addr} {len:Nat} {zs:List Int} (h:nM W k a len zs) (hk:aB W W'):nM W' k a len zs:=by
 obtain ⟨b,off,ha,hc⟩:=h.cells;exact ⟨h.len_eq,h.le,h.wf,b,off,ha,fun i hi=>⟨EG (hc i hi).1 hk.size,hk.cell (hc i hi).1 (hc i hi).2⟩⟩
theorem nM.i64 {W:World} {a:Option Addr} {len:Nat} {zs:List Int} (h:nM W .i64 a len zs) (i:Nat) (hi:i<len):-9223372036854775808<=zs.getD i 0/\zs.getD i 0<=9223372036854775807:=by
 have hl:i<zs.length:=by rw [h.len_eq];exact hi
 exact bounds_i64 (h.wf (zs.getD i 0) (by simp [List.getD,hl]))
theorem nM.u8 {W:World} {a:Option Addr} {len:Nat} {zs:List Int} (h:nM W .u8 a len zs) (i:Nat) (hi:i<len):0<=zs.getD i 0/\zs.getD i 0<=255:=by
 have hl:i<zs.length:=by rw [h.len_eq];exact hi
 exact bounds_u8 (h.wf (zs.getD i 0) (by simp [List.getD,hl]))
end Go.Proofs.YtkfmladhicapeaaGreatDoor
namespace Go.Proofs.YtkfmladhicapeaaGreatDoor
open Go.RowKit Go.Shelf
theorem Bx {w a b:World} {v:Value} {e:TypeId} {s n:Nat} {xs:List Value} (h:aB w a) (ho:a.ownsRow w.heap.size e s v n xs) (hg:a.grownBy b v.ownBlock):aB w b :=
 Below.trans h ⟨hg.os,hg.tape,hg.output,hg.size,fun k hk=>hg.block k (EG hk h.size) (fun e=>by have:=(ho.lt k e.symm).1;omega)⟩
theorem tE {α:Type} (l:List α) (p:α->Bool) (k:Nat) (d:α) (h:k<l.length):(l.take (k+1)).all p=((l.take k).all p&&p (l.getD k d)):=by
 exact Sv
theorem uD {α:Type} (l:List α) (p:α->Bool) (k:Nat) (d:α) (h:k<l.length) (hp:p (l.getD k d)=false):l.all p=false:=by
 rw [List.all_eq_false]
 exact ⟨l[k],List.getElem_mem h,by
  have:l.getD k d=l[k]:=by simp [List.getD,h]
  rw [<- this,hp];exact Bool.false_ne_true⟩
def cZ (x y:ByteArray):Bool:=Op.bytesLess x.toList y.toList
theorem kN:∀ x:List UInt8,Op.bytesLess x x=false
 | []=>rfl
 | a :: x=>by
  show (decide (a<a)||(a == a&&Op.bytesLess x x))=false
  rw [kN x]
  simp
theorem mD:∀ x y z:List UInt8,Op.bytesLess x y=true->Op.bytesLess y z=true->Op.bytesLess x z=true
 | [],[],_,h,_=>by simp [Op.bytesLess] at h
 | _ :: _,[],_,h,_=>by simp [Op.bytesLess] at h
 | _,_ :: _,[],_,h=>by simp [Op.bytesLess] at h
 | [],_ :: _,_ :: _,_,_=>rfl
 | a :: x,b :: y,c :: z,h,k=>by
  have h':(decide (a<b)||(a == b&&Op.bytesLess x y))=true:=h;have k':(decide (b<c)||(b == c&&Op.bytesLess y z))=true:=k
  show (decide (a<c)||(a == c&&Op.bytesLess x z))=true
  simp only [Bool.or_eq_true,Bool.and_eq_true,decide_eq_true_eq,beq_iff_eq] at h' k' ⊢
  rcases h' with h1 | ⟨h1,h2⟩
  . rcases k' with k1 | ⟨k1,_⟩
    . exact .inl (UInt8.lt_trans h1 k1)
    . exact .inl (k1 ▸ h1)
  . rcases k' with k1 | ⟨k1,k2⟩
    . exact .inl (h1 ▸ k1)
    . exact .inr ⟨h1.trans k1,mD x y z h2 k2⟩
theorem mB:∀ x y:List UInt8,Op.bytesLess x y=false->Op.bytesLess y x=false->x=y
 | [],[],_,_=>rfl
 | [],_ :: _,h,_=>by simp [Op.bytesLess] at h
 | _ :: _,[],_,h=>by simp [Op.bytesLess] at h
 | a :: x,b :: y,h,k=>by
  have h':(decide (a<b)||(a == b&&Op.bytesLess x y))=false:=h;have k':(decide (b<a)||(b == a&&Op.bytesLess y x))=false:=k;simp only [Bool.or_eq_false_iff,Bool.and_eq_false_iff,decide_eq_false_iff_not,beq_eq_false_iff_ne] at h' k'
  have e:a=b:=by
   rcases Nat.lt_trichotomy a.toNat b.toNat with q | q | q
   . exact absurd (UInt8.lt_iff_toNat_lt.2 q) h'.1
   . exact UInt8.toNat_inj.1 q
   . exact absurd (UInt8.lt_iff_toNat_lt.2 q) k'.1
  subst e;rw [mB x y (h'.2.resolve_left (fun q=>q rfl)) (k'.2.resolve_left (fun q=>q rfl))]
theorem lV {x y:ByteArray} (h:x.toList=y.toList):x=y:=by
 rw [ByteArray.toList_eq,ByteArray.toList_eq] at h;obtain ⟨⟨a⟩⟩:=x;obtain ⟨⟨b⟩⟩:=y
 simp at h
 rw [h]
theorem gH (x:ByteArray):cZ x x=false:=kN _
theorem eV {x y z:ByteArray} (h:cZ x y=true) (k:cZ y z=true):cZ x z=true:=mD _ _ _ h k
theorem wI {x y:ByteArray} (h:cZ x y=false) (k:cZ y x=false):x=y:=lV (mB _ _ h k)
theorem Ha {x y:ByteArray} (h:cZ x y=true):cZ y x=false:=by
 cases k:cZ y x with
 | false=>rfl
 | true=>have:=eV h k;rw [gH] at this;exact this.symm
theorem Jt {x y:ByteArray} (h:cZ x y=true):x≠y:=fun e=>by subst e;rw [gH] at h;cases h
theorem jV {t u:ByteArray} {b:Bool} (h:cZ t u=b) (P:Program) (w:World):∀ T:TypeId,(binOp .geq T (.string t) (.string u)).run P w=.ok (.bool (!b)) w:=by
 unfold cZ at h;intro T
 simp [binOp,Op.stringOp,h]
theorem Hp (t u:ByteArray):(Op.bytesLess t.toList u.toList||t.toList == u.toList)=!cZ u t:=by
 by_cases e:t=u
 . subst e;rw [gH];simp
 . have e2:(t.toList == u.toList)=false:=by
    rw [beq_eq_false_iff_ne];exact fun h=>e (lV h)
   rw [e2,Bool.or_false]
   show cZ t u=!cZ u t
   cases h:cZ u t with
   | true=>rw [Ha h];rfl
   | false =>
    cases k:cZ t u with
    | true=>rfl
    | false=>exact absurd (wI k h) e
theorem rU {t u:ByteArray} {b:Bool} (h:cZ u t=b) (P:Program) (w:World):∀ T:TypeId,(binOp .leq T (.string t) (.string u)).run P w=.ok (.bool (!b)) w:=by
 have:=Hp t u;intro T;rw [h] at this
 simp [binOp,Op.stringOp,Sem.run_pure,this]
def pQ (l:List ByteArray) (i:Nat):ByteArray:=l.getD i ByteArray.empty
def oK (l:List ByteArray):Bool:=l.all fun d=>decide (d.size=32)
def pS (l:List ByteArray) (n:Nat):Bool:=(List.range n).all fun i=>decide (i=0)||cZ (pQ l (i - 1)) (pQ l i)
def gG (l:List ByteArray):Bool:=pS l l.length
theorem zI (l:List ByteArray):pS l 0=true:=rfl
theorem mT (l:List ByteArray) (n:Nat):pS l (n+1)=(pS l n&&(decide (n=0)||cZ (pQ l (n - 1)) (pQ l n))):=by
 unfold pS;rw [List.range_succ,List.all_append]
 simp
theorem Ko {l:List ByteArray} {n i:Nat} (h:pS l n=true) (hi:i<n) (h0:0<i):cZ (pQ l (i - 1)) (pQ l i)=true:=by
 unfold pS at h;rw [List.all_eq_true] at h;have:=h i (List.mem_range.2 hi);rw [Bool.or_eq_true] at this;exact this.resolve_left (fun e=>by have:=of_decide_eq_true e;omega)
theorem kY {l:List ByteArray} {n i:Nat} (hi:i<n) (h0:0<i) (h:cZ (pQ l (i - 1)) (pQ l i)=false):pS l n=false:=by
 cases e:pS l n with
 | false=>rfl
 | true=>have:=Ko e hi h0;rw [h] at this;exact this.symm
theorem nN {l:List ByteArray} {n:Nat} (h:pS l n=true):∀ j i,i<j->j<n->cZ (pQ l i) (pQ l j)=true
 | 0,i,hi,_=>absurd hi (Nat.not_lt_zero i)
 | j+1,i,hi,hj=>by
  have h1:=Ko h hj (Nat.succ_pos j);rw [Nat.add_sub_cancel] at h1
  by_cases e:i=j
  . subst e;exact h1
  . exact eV (nN h j i aE aE) h1
def Ct (l:List ByteArray):Bool:=oK l&&gG l
structure Mf where
 k:Int
 bs:List ByteArray
 us:List ByteArray
def oU (m:Mf):Bool:=decide (m.bs.length+m.us.length<=20)
def lM (m:Mf):Bool:=decide (0<=m.k)&&(decide (m.k<=255)&&(oK m.bs&&oK m.us))
def rY (m:Mf):Bool:=oU m&&(lM m&&(gG m.bs&&gG m.us))
end Go.Proofs.YtkfmladhicapeaaGreatDoor
