import Derived.Test.YtkfmladhicapeaaGreatDoorY9
set_option maxRecDepth 100000
set_option maxHeartbeats 4000000
namespace Go.Proofs.YtkfmladhicapeaaGreatDoor
open Go.RowKit Go.Shelf
theorem mK (g:Nat) (t:TypeId):∀ (vs:List Value) (o:Nat) (w:World) (C:Array Value),aA w g C t ->
 ∃ C':Array Value,aA (w.setCells g o vs) g C' t/\C'.size=C.size/\(∀ j,j<vs.length->o+j<C.size->C'[o+j]?=vs[j]?)/\∀ j,(j<o\/o+vs.length<=j)->C'[j]?=C[j]?
 | [],o,w,C,h=>⟨C,h,rfl,fun j hj=>absurd hj (Nat.not_lt_zero j),fun _ _=>rfl⟩
 | v :: r,o,w,C,h=>by
  obtain ⟨C',h1,h2,h3,h4⟩:=mK g t r (o+1) _ _ (h.set (i:=o) v);refine ⟨C',h1,by rw [h2,Array.size_setIfInBounds],fun j hj hb=>?_,fun j hj=>?_⟩
  . cases j with
    | zero =>
     rw [Nat.add_zero,h4 o aE,Array.getElem?_setIfInBounds,if_pos rfl,if_pos aE];rfl
    | succ j =>
     rw [show o+(j+1)=o+1+j by omega,h3 j (by simpa using hj) (by rw [Array.size_setIfInBounds];omega)];rfl
  . rw [h4 j (by simp at hj;omega),Array.getElem?_setIfInBounds,if_neg (by simp at hj;omega)]
theorem rC (g:Nat):∀ (vs:List Value) (o:Nat) (w:World),w.grownBy (w.setCells g o vs) (some g)
 | [],_,w=>kC w _
 | v :: r,o,w=>bE (iE w g o v) (rC g r (o+1) _)
def bM (w:World) (base:Nat) (e:TypeId) (v:Value) (n:Nat) (xs:List Value):Prop :=
 xs.length=n/\((v=.slice none 0 0/\n=0)\/∃ g off cap cur,v=.slice (some ⟨g,off,none⟩) n cap/\base<=g/\aA w g cur e/\n<=cap/\cap<=maxLen/\off+cap<=cur.size/\∀ j,j<n->cur[off+j]?=xs[j]?)
section
variable {w w':World} {base:Nat} {e:TypeId} {v:Value} {n:Nat} {xs:List Value}
theorem bM.of_own (h:w.ownsRow base e 1 v n xs):bM w base e v n xs:=by
 obtain ⟨h1,h2 | ⟨g,cap,cur,hv,hb,hg,hn,hm,hz,ht⟩⟩:=h
 . exact ⟨aE,.inl h2⟩
 . refine ⟨aE,.inr ⟨g,0,cap,cur,hv,hb,hg,hn,hm,aE,fun j hj=>?_⟩⟩
   rw [<- ht,Nat.zero_add,List.getElem?_take,if_pos aE,Array.getElem?_toList]
theorem bM.slice (h:bM w base e v n xs):∃ a c,v=.slice a n c/\n<=c:=by
 obtain ⟨h1,⟨rfl,rfl⟩ | ⟨g,off,cap,cur,rfl,hb,hg,hn,_⟩⟩:=h
 . exact ⟨_,_,rfl,EA _⟩
 . exact ⟨_,_,rfl,hn⟩
theorem bM.lt (h:bM w base e v n xs):∀ q,v.ownBlock=some q->base<=q/\q<w.heap.size:=by
 intro q hq;obtain ⟨h1,⟨rfl,rfl⟩ | ⟨g,off,cap,cur,rfl,hb,hg,hn,_⟩⟩:=h
 . cases hq
 . cases hq
   exact ⟨hb,hg.lt⟩
theorem bM.gr {row:Option Nat} (h:bM w base e v n xs) (k:w.grownBy w' row) (GW:∀ q C,aA w q C e->v.ownBlock=some q->some q≠row):bM w' base e v n xs:=by
 obtain ⟨h1,h2 | ⟨g,off,cap,cur,rfl,hb,hg,h3⟩⟩:=h
 . exact ⟨h1,.inl h2⟩
 . exact ⟨h1,.inr ⟨g,off,cap,cur,rfl,hb,hg.gr k (GW g cur hg rfl),h3⟩⟩
theorem bM.kept (h:bM w base e v n xs) (k:aB w w'):bM w' base e v n xs:=by
 obtain ⟨h1,h2 | ⟨g,off,cap,cur,rfl,hb,hg,h3⟩⟩:=h
 . exact ⟨h1,.inl h2⟩
 . exact ⟨h1,.inr ⟨g,off,cap,cur,rfl,hb,hg.kept k,h3⟩⟩
theorem bM.cells (h:bM w base e v n xs) (hn:0<n):∃ g off cap,v=.slice (some ⟨g,off,none⟩) n cap/\base<=g/\n<=cap/\∀ j,j<n->∀ wk,aB w wk->wk.cell? ⟨g,off+j,none⟩=xs[j]?:=by
 obtain ⟨h1,⟨rfl,rfl⟩ | ⟨g,off,cap,cur,rfl,hb,hg,hc,_,_,h3⟩⟩:=h
 . omega
 . exact ⟨g,off,cap,rfl,hb,hc,fun j hj wk k=>by rw [(hg.kept k).cell,h3 j hj]⟩
theorem bM.tail {g off cap:Nat} {x:Value} (h:bM w base e (.slice (some ⟨g,off,none⟩) (n+1) cap) (n+1) (x :: xs)):bM w base e (.slice (if cap=1 then some ⟨g,off,none⟩ else some ⟨g,off+1,none⟩) n (cap - 1)) n xs:=by
 obtain ⟨h1,⟨h2,h3⟩ | ⟨g',off',cap',cur,hv,hb,hg,hn,hm,hz,hc⟩⟩:=h
 . omega
 . cases hv
   refine ⟨by simpa using h1,.inr ?_⟩
   by_cases e1:cap=1
   . rw [if_pos e1]
     exact ⟨g,off,cap - 1,cur,rfl,hb,hg,aE,aE,aE,fun j hj=>by omega⟩
   . rw [if_neg e1]
     exact ⟨g,off+1,cap - 1,cur,rfl,hb,hg,aE,aE,aE,fun j hj=>by
      have:=hc (j+1) aE
      rw [show off+1+j=off+(j+1) by omega,this];rfl⟩
end
theorem Nq {a b:World} (h:a.grownBy b none) (row:Option Nat):a.grownBy b row:=⟨h.os,h.tape,h.output,h.size,fun k hk _=>h.block k hk (fun e=>by cases e)⟩
theorem rO {P:Program} {w:World} (base:Nat) (t ty e:TypeId) (i:TypeInfo) (z:Value) (bytes:Nat) (ht:P.underlying t=some (.slice e)) (hi:P.info? e=some i) (hz:i.zero=some z)
 (JT:i.size=1) (XB:i.bytes=bytes) (XH:z.cells.size=1) (v:Value) (n:Nat) (xs:List Value) (FU:bM w base e v n xs)
 (ax:Option Addr) (m c:Nat) (news:List Value) (hU:qB w ax m news) (h63:n+m<=maxLen) (KZ:(n+m)*bytes<=140737488355328) (JI:base<=w.heap.size) :
 ∃ v' w',(Builtin.append_ #[t,t] ty #[v,.slice ax m c]).run P w=.ok v' w'/\bM w' base e v' (n+m) (xs++news)/\w.grownBy w' v.ownBlock/\(∀ q,v'.ownBlock=some q->v.ownBlock=some q\/w.heap.size<=q):=by
 obtain ⟨hl,h1,hn,hc⟩:=hU
 cases ax with
 | none =>
  obtain rfl:=hn rfl;obtain rfl:news=[]:=List.length_eq_zero_iff.1 hl;refine ⟨v,w,?_,by rw [List.append_nil];exact FU,kC w _,fun q h=>.inl h⟩
  rcases FU.2 with ⟨rfl,rfl⟩ | ⟨g,off,cap,cur,rfl,_,_,NJ,_⟩
  . simp [Builtin.append_,run_underlying ht,sizeOf,typeInfo,hi,Builtin.lenOf,Builtin.firstCells]
  . simp [Builtin.append_,run_underlying ht,sizeOf,typeInfo,hi,Builtin.lenOf,Builtin.firstCells,NJ,storeCells]
 | some ad =>
  rcases FU.2 with ⟨rfl,rfl⟩ | ⟨g,off,cap,cur,rfl,hb,hg,NJ,PS,hoc,UA⟩
  . obtain rfl:xs=[]:=List.length_eq_zero_iff.1 FU.1
    obtain ⟨v',w',hr,h2,h3,_,h5⟩:=run_append_own_at (P:=P) (w:=w) base t ty e i z 1 bytes ht hi hz JT XB XH aE (.slice none 0 0) 0 [] (World.ownsRow_nil _ _ _ _) ad m c news aE (hc ad rfl) h1 h63 KZ JI;refine ⟨v',w',hr,bM.of_own h2,h3,fun q hq=>?_⟩
    rcases h5 with h5 | h5
    . rw [h5] at hq;exact .inl hq
    . rw [h5] at hq;cases hq;exact .inr (EA _)
  . by_cases NK:n+m<=cap
    . have hr:=run_append_room_cells (P:=P) w t ty e i ht hi g off n cap ad m c news (by rw [JT];omega) (hc ad rfl) h1 NK
       (fun j hj=>by rw [JT,Nat.mul_one,hg.cell,Array.getElem?_eq_getElem (show off+n+j<cur.size by omega)];rfl) (fun j hj=>hg.free _)
      rw [JT,Nat.mul_one] at hr;obtain ⟨C',k1,k2,k3,k4⟩:=mK g e news (off+n) w cur hg;refine ⟨_,_,hr,⟨by rw [List.length_append,FU.1,hl],.inr ⟨g,off,cap,C',rfl,hb,k1,NK,PS,aE,fun j hj=>?_⟩⟩,rC g news (off+n) w,fun q hq=>.inl hq⟩
      by_cases e1:j<n
      . rw [k4 _ (Or.inl aE),UA j e1,List.getElem?_append_left (by rw [FU.1];exact e1)]
      . have:=k3 (j - n) aE aE
        rw [show off+n+(j - n)=off+j by omega] at this;rw [this,List.getElem?_append_right (by rw [FU.1];omega),FU.1]
    . have KI:∀ j u,xs[j]?=some u->w.cell? ((⟨g,off,none⟩:Addr).add j)=some u:=fun j u hj=>by
       have RS:j<n:=by have:=(List.getElem?_eq_some_iff.1 hj).1;rw [FU.1] at this;exact this
       rw [show (⟨g,off,none⟩:Addr).add j=⟨g,off+j,none⟩ by unfold Addr.add;split <;> simp_all,hg.cell,UA j RS,hj]
      obtain ⟨v',w',hr,h2,h3⟩:=run_append_arg_grows (P:=P) w t ty e i z 1 bytes ht hi hz JT XB XH aE ⟨g,off,none⟩ n cap xs (by rw [FU.1];omega) KI ad m c news aE (hc ad rfl) aE h63 KZ;exact ⟨v',w',hr,bM.of_own (bA h2 JI),Nq h3 _,fun q hq=>.inr (h2.lt q hq).1⟩
theorem jI {P:Program} {w:World} {ops:Array Oper} {rest:List Oper} {o:Oper} {a:Act} {Q:Exit->Act->World->Prop} (hgd:o.guard=none) (s x:Operand) (t:TypeId)
 (ho:o.op=.call { callee:=.builtin .append,args:=#[s,x],argTypes:=#[t,t] })
 (base:Nat) (e:TypeId) (i:TypeInfo) (z:Value) (bytes:Nat) (ht:P.underlying t=some (.slice e)) (hi:P.info? e=some i) (hz:i.zero=some z)
 (JT:i.size=1) (XB:i.bytes=bytes) (XH:z.cells.size=1) (v:Value) (n:Nat) (xs:List Value) (hs:a.eval s=v) (FU:bM w base e v n xs)
 (ax:Option Addr) (m c:Nat) (news:List Value) (hx:a.eval x=.slice ax m c) (hU:qB w ax m news) (h63:n+m<=maxLen) (KZ:(n+m)*bytes<=140737488355328) (JI:base<=w.heap.size)
 (h:∀ v' w',bM w' base e v' (n+m) (xs++news)->w.grownBy w' v.ownBlock->(∀ q,v'.ownBlock=some q->v.ownBlock=some q\/w.heap.size<=q)->wpList P ops Q rest (a.put o.dst v') w') :
 wpList P ops Q (o :: rest) a w:=by
 refine wpList_plain hgd fun K hK=>?_
 obtain ⟨v',w',aCb,h2,h3,h5⟩:=rO (P:=P) (w:=w) base t o.type e i z bytes ht hi hz JT XB XH v n xs FU ax m c news hU h63 KZ JI;exact Rf
end Go.Proofs.YtkfmladhicapeaaGreatDoor
namespace Go.Proofs.YtkfmladhicapeaaGreatDoor
open Go.RowKit Go.Shelf
attribute [local go_sem] Oper.semAt_some
def fX (ts:List Th) (rs:List ByteArray) (i:Nat):Bool:=decide (i∈jZ (oZ ts) (dZ ts.length (kM ts rs)))
def eG (ts:List Th) (rs:List ByteArray):List ByteArray:=((List.range ts.length).filter (fX ts rs)).map (jF ts)
theorem tK (ts:List Th) (rs:List ByteArray) (i:Nat):fX ts rs i=true↔Ci (oZ ts) (kM ts rs) i:=by
 unfold fX;rw [decide_eq_true_iff,<- kB ts];exact Hk (yC ts) (fun r hr=>by rw [kB];exact sH ts rs r hr) i
def Ea:Option Value->Bool
 | some (.bool true)=>true
 | _=>false
def nD (w:World) (b l:Nat):Nat:=(List.range l).countP fun j=>!Ea (w.cell? ⟨b,j,none⟩)
theorem lN {w:World} {b l:Nat} {bs:List Bool} (h:aA w b (vU bs) 4) (hl:bs.length=l):nD w b l=bs.count false:=by
 unfold nD;subst hl
 have e:∀ j,j<bs.length->Ea (w.cell? ⟨b,j,none⟩)=bs.getD j false:=fun j hj=>by
  rw [h.cell,sM _ _ hj];cases bs.getD j false <;> rfl
 have e2:bs.count false=(List.range bs.length).countP fun j=>!(bs.getD j false):=by
  have:bs=(List.range bs.length).map fun j=>bs.getD j false:=by
   refine List.ext_getElem (by simp) (fun i h1 h2=>?_)
   simp [List.getD,h1]
  conv=>lhs;rw [this]
  rw [List.count,List.countP_map]
  congr 1
  funext j
  simp [Function.comp]
 rw [e2];refine List.countP_congr (fun j hj=>?_);rw [e j (List.mem_range.1 hj)]
theorem vO {bs:List Bool} {m:Nat} (hm:m<bs.length) (h:bs.getD m false=false):(bs.set m true).count false+1=bs.count false:=by
 have hv:bs[m]=false:=by simpa [List.getD,hm] using h
 have aBY:0<bs.count false:=List.count_pos_iff.2 (by rw [<- hv];exact List.getElem_mem _);rw [List.count_set hm,hv,if_pos uN,if_neg aF];omega
structure nU (ts:List Th) (rs:List Nat) (is:List Bool) (D:List ByteArray):Prop where
 len:is.length=ts.length
 sound:∀ i,i<ts.length->is.getD i false=true->Ci (oZ ts) rs i
 todo:∀ d∈D,nH ts d=true->Ci (oZ ts) rs (fZ ts d)
 roots:∀ r∈rs,is.getD r false=true\/∃ d∈D,nH ts d=true/\fZ ts d=r
 closed:∀ i,i<ts.length->is.getD i false=true->∀ m∈(oZ ts).getD i [],is.getD m false=true\/∃ d∈D,nH ts d=true/\fZ ts d=m
theorem nU.start (ts:List Th) (rs:List ByteArray):nU ts (kM ts rs) (List.replicate ts.length false) rs:=by
 refine ⟨by simp,fun i hi h=>by simp [List.getD,hi] at h,fun d hd hf=>.root ?_,fun r hr=>.inr ?_,fun i hi h=>by simp [List.getD,hi] at h⟩
 . unfold kM
   exact List.mem_filterMap.2 ⟨d,hd,by rw [if_pos hf]⟩
 . unfold kM at hr
   obtain ⟨d,hd,he⟩:=List.mem_filterMap.1 hr
   split at he
   . rename_i hf
     cases he;exact ⟨d,hd,hf,rfl⟩
   . cases he
theorem nU.none {ts:List Th} {rs:List Nat} {is:List Bool} {d:ByteArray} {D:List ByteArray} (h:nU ts rs is (d :: D)) (hn:nH ts d=false):nU ts rs is D :=
 ⟨h.len,h.sound,fun x hx=>h.todo x (List.mem_cons_of_mem _ hx),fun r hr=>(h.roots r hr).imp id (fun ⟨x,hx,hf,he⟩=>by
  rcases List.mem_cons.1 hx with rfl | q
  . rw [hn] at hf;cases hf
  . exact ⟨x,q,hf,he⟩),fun i hi hs m hm=>(h.closed i hi hs m hm).imp id (fun ⟨x,hx,hf,he⟩=>by
  rcases List.mem_cons.1 hx with rfl | q
  . rw [hn] at hf;cases hf
  . exact ⟨x,q,hf,he⟩)⟩
theorem nU.old {ts:List Th} {rs:List Nat} {is:List Bool} {d:ByteArray} {D:List ByteArray} (h:nU ts rs is (d :: D)) (hn:is.getD (fZ ts d) false=true):nU ts rs is D :=
 ⟨h.len,h.sound,fun x hx=>h.todo x (List.mem_cons_of_mem _ hx),fun r hr=>(h.roots r hr).elim .inl (fun ⟨x,hx,hf,he⟩=>by
  rcases List.mem_cons.1 hx with rfl | q
  . rw [he] at hn;exact .inl hn
  . exact .inr ⟨x,q,hf,he⟩),fun i hi hs m hm=>(h.closed i hi hs m hm).elim .inl (fun ⟨x,hx,hf,he⟩=>by
  rcases List.mem_cons.1 hx with rfl | q
  . rw [he] at hn;exact .inl hn
  . exact .inr ⟨x,q,hf,he⟩)⟩
theorem sB {ts:List Th} {ds:List ByteArray} {m:Nat}:m∈kM ts ds↔∃ d∈ds,nH ts d=true/\fZ ts d=m:=by
 unfold kM;rw [List.mem_filterMap]
 constructor
 . rintro ⟨d,hd,he⟩
   split at he
   . rename_i hf;cases he;exact ⟨d,hd,hf,rfl⟩
   . cases he
 . rintro ⟨d,hd,hf,rfl⟩
   exact ⟨d,hd,by rw [if_pos hf]⟩
theorem nU.next {ts:List Th} {rs:List Nat} {is:List Bool} {d:ByteArray} {D:List ByteArray} (h:nU ts rs is (d :: D)) (hf:nH ts d=true) :
 nU ts rs (is.set (fZ ts d) true) (D++sE (ts.getD (fZ ts d) aX)):=by
 have FV:fZ ts d<ts.length:=by unfold nH at hf;exact (of_decide_eq_true hf).1
 have hR:=h.todo d List.mem_cons_self hf
 have IC:=fun i=>Lj is (fZ ts d) i (by rw [h.len];exact FV)
 have IE:=tA ts (fZ ts d) FV;refine ⟨by rw [List.length_set];exact h.len,fun i hi hs=>?_,fun x hx hfx=>?_,fun r hr=>?_,fun i hi hs m hm=>?_⟩
 . rw [IC,Bool.or_eq_true,decide_eq_true_iff] at hs
   rcases hs with rfl | hs
   . exact hR
   . exact h.sound i hi hs
 . rcases List.mem_append.1 hx with q | q
   . exact h.todo x (List.mem_cons_of_mem _ q) hfx
   . exact .step hR (by rw [IE];exact sB.2 ⟨x,q,hfx,rfl⟩)
 . rw [IC,Bool.or_eq_true,decide_eq_true_iff]
   rcases h.roots r hr with q | ⟨x,hx,h1,h2⟩
   . exact .inl (.inr q)
   . exact If
 . rw [IC,Bool.or_eq_true,decide_eq_true_iff]
   rw [IC,Bool.or_eq_true,decide_eq_true_iff] at hs
   rcases hs with rfl | hs
   . rw [IE] at hm
     obtain ⟨x,hx,h1,h2⟩:=sB.1 hm
     exact .inr ⟨x,List.mem_append.2 (.inr hx),h1,h2⟩
   . rcases h.closed i hi hs m hm with q | ⟨x,hx,h1,h2⟩
     . exact .inl (.inr q)
     . exact If
theorem nU.done {ts:List Th} {rs:List Nat} {is:List Bool} (h:nU ts rs is []) (hrs:∀ r∈rs,r<ts.length) {i:Nat} (hi:i<ts.length):is.getD i false=true↔Ci (oZ ts) rs i:=by
 refine ⟨h.sound i hi,fun hR=>?_⟩
 have key:∀ i,Ci (oZ ts) rs i->i<ts.length/\is.getD i false=true:=fun i hR=>by
  induction hR with
  | root hr=>exact ⟨hrs _ hr,(h.roots _ hr).resolve_right (fun ⟨_,q,_⟩=>by cases q)⟩
  | step hR hm ih =>
   refine ⟨?_,(h.closed _ ih.1 ih.2 _ hm).resolve_right (fun ⟨_,q,_⟩=>by cases q)⟩;have:=yC ts _ (by rw [kB];exact ih.1) _ hm
   rwa [kB] at this
 exact (key i hR).2
theorem Ho (ax:Option Addr) (l cap:Nat) (ts:List Th) (ar:Option Addr) (lr cr:Nat) (rs:List ByteArray) (wo:World) (h:bO wo ax l ts) (hr:bD wo ar lr rs) (hB:fF ts=true) (hlr:lr<=1000000) :
 Calls Tryz.prog 84 #[.slice ax l cap,.slice ar lr cr] wo (qL wo (eG ts rs)):=by
 have HS:=DX h;have OM:=DX hr;have HL:=DX h.len_eq
 have h60:l<=60:=by rw [<- h.len_eq];exact jL hB
 have NX:=DX (iY hB);have MZ:=DX (show ∀ n,(jF ts n).size<=9223372036854775807 from fun n=>by have:=(jE h.sizes n).1;unfold jF;omega);obtain ⟨i0,PI,GV,GJ,GO⟩:=info_parts BD;have HI:=DX (EC PI (EC GV (EC GJ GO)));clear PI GV GJ GO h hr hB
 have hmk:∀ u:World,(Instr.makeSlice 128 (.int .i64 l) (.int .i64 l)).run Tryz.prog u=.ok (.slice (some ⟨u.heap.size,0,none⟩) l l) (u.alloc (.cells (vU (List.replicate l false)) 4)):=Te l aE
 go_enter Tryz.func84,Tryz.ntmps84;go_wp2_with fail;clear hmk;have NL:=DX (EY wo (vU (List.replicate l false)) 4);have IL:=DX ((EX wo).alloc (.cells (vU (List.replicate l false)) 4));generalize wo.alloc (.cells (vU (List.replicate l false)) 4)=w1 at *
 obtain ⟨ib,hib⟩:∃ ib,ib=wo.heap.size:=⟨_,rfl⟩
 rw [<- hib] at NL ⊢;have HIB:=DX hib;clear hib
 refine (lD ar lr cr rs _ (OM.out.kept IL.out) aE).mono ?_
 rintro e w2 ⟨a2,c2,rfl,ZN,FX⟩;have FW:=DX (IL.out.trans FX);have GP:=DX (NL.out.kept FX);have UR:=DX (bM.of_own ZN);have hw12:wo.heap.size<=w1.heap.size:=IL.out.size;have hs12:w1.heap.size<=w2.heap.size:=FX.size;have hibl0:ib<w1.heap.size:=NL.out.lt;clear ZN FX NL;go_wp2_with fail;go_loopw [6] (fun tv wr=>∃ (n:Nat) (is:List Bool) (D:List ByteArray),Hid (nU ts (kM ts rs) is D)/\n<=lr+40*l/\Hid (n+40*is.count false<=lr+40*l)/\D.length=n/\aA wr ib (vU is) 4/\bM wr w1.heap.size 9 tv n (D.map Value.string)/\w1.heap.size<=wr.heap.size/\aB wo wr) (fun tv wr=>41*nD wr ib l+Of tv)
 case atStart =>
  refine ⟨lr,_,rs,DX (nU.start ts rs),aE,DX (by rw [HL.out];simp),OM.out.len_eq,by rw [HL.out];exact GP.out,UR.out,?_,FW.out⟩;exact hs12
 case round =>
  rename Value=>tv
  obtain ⟨n,is,D,HF,hn,HCN,hDn,hb,ht,hsw,IF⟩:=hrel;have HK:=DX IF;have HT:=DX ht;have HB:=DX hb;clear IF hb
  by_cases aBY:0<n
  . obtain ⟨g,off,cp,rfl,hbg,NJ,bP⟩:=ht.cells aBY
    clear ht;have GU:decide (0<n)=true:=DZ aBY
    obtain ⟨d,D',rfl⟩:∃ d D',D=d :: D':=by
     cases D with
     | nil=>simp at hDn;omega
     | cons d D'=>exact ⟨d,D',rfl⟩
    obtain ⟨m,hm⟩:∃ m,n=m+1:=⟨n - 1,aE⟩
    obtain ⟨cq,hcq⟩:∃ cq,cq=cp - 1:=⟨_,rfl⟩
    have ZM:n - 1=m:=by omega
    have HMN:=DX ZM;have HCQ:=DX hcq;have HMM:=DX hm;have c0:=bP 0 aBY _ (EX _);simp only [List.map_cons,List.getElem?_cons_zero,Nat.add_zero] at c0
    have NS:=DX (show bM wr w1.heap.size 9 (.slice (if cp=1 then some ⟨g,off,none⟩ else some ⟨g,off+1,none⟩) m cq) m (D'.map Value.string) by
     have:=HT.out;rw [hm] at this;rw [hcq]
     exact this.tail)
    have JA:=DX (gR ax l cap ts d wr (HS.out.kept HK.out));have HU:=DX (lN HB.out (by rw [HF.out.len,HL.out]));obtain ⟨aAy,hlb2⟩:=qT NX.out d;clear bP hm hcq ZM HT
    cases hf:nH ts d with
    | false =>
     have HZ:=DX (show kR ts d = -1 by
      rw [hf] at aAy;unfold kR
      rw [if_neg (of_decide_eq_false aAy.symm)])
     have PF:=DX (HF.out.none hf);rw [HZ.out] at JA;clear aAy hlb2 hf HZ;go_wp2_with fail
     refine JA.out.mono ?_
     rintro e w3 ⟨rfl,IK⟩;have GC:=DX (HK.out.trans IK);have IU:=DX (HB.out.kept IK);have HT3:=DX (NS.out.kept IK);have hs3:w1.heap.size<=w3.heap.size:=EF hsw IK.size;exact Vq
    | true =>
     have FV:cQ ts d<ts.length:=by rw [hf] at aAy;exact of_decide_eq_true aAy.symm
     have HZ:=DX (show kR ts d=(fZ ts d:Int) by unfold kR;rw [if_pos FV,hlb2 FV])
     have LA:fZ ts d<l:=by rw [hlb2 FV,<- HL.out];exact FV
     have HFD:=DX hf;have HFO:=DX (fun h=>HF.out.old (d:=d) (D:=D') h);have HFN:=DX (HF.out.next hf);rw [HZ.out] at JA;clear aAy hlb2 hf HZ FV;generalize fZ ts d=q at *
     have YJ:wr.cell? ⟨ib,q,none⟩=some (.bool (is.getD q false)):=by rw [HB.out.cell,sM _ _ (by rw [HF.out.len,HL.out];exact LA)]
     cases hs:is.getD q false with
     | true =>
      have PF:=DX (HFO.out hs);rw [hs] at YJ;have MT:=DX YJ;clear YJ hs;go_wp2_with fail
      refine JA.out.mono ?_
      rintro e w3 ⟨rfl,IK⟩;have GC:=DX (HK.out.trans IK);have IU:=DX (HB.out.kept IK);have HT3:=DX (NS.out.kept IK);have hs3:w1.heap.size<=w3.heap.size:=EF hsw IK.size;have TD:=IK.cell HB.out.lt MT.out;exact Vq
     | false =>
      rw [hs] at YJ;have MT:=DX YJ;have HCS:=DX (vO (by rw [HF.out.len,HL.out];exact LA) hs);have XO:=DX (show (is.set q true).length=l by rw [List.length_set,HF.out.len,HL.out]);clear YJ hs;go_wp2_with fail
      refine JA.out.mono ?_
      rintro e w3 ⟨rfl,IK⟩;have GC:=DX (HK.out.trans IK);have IU:=DX (HB.out.kept IK);have HT3:=DX (NS.out.kept IK);have hs3:w1.heap.size<=w3.heap.size:=EF hsw IK.size;have TD:=IK.cell HB.out.lt MT.out;have hf3:=IU.out.free q;clear IK c0
      go_upto_region 6 with (fail)
      rw [HMN.out,<- HCQ.out];generalize (if cp=1 then some (⟨g,off,none⟩:Addr) else some ⟨g,off+1,none⟩)=az at *
      go_upto_region 8 with (fail)
      have KY:=DX (show aA (w3.setCell ⟨ib,q,none⟩ (.bool true)) ib (vU (is.set q true)) 4 by
       have:=IU.out.set (i:=q) (.bool true)
       rwa [Ff] at this)
      have XD:=iE w3 ib q (.bool true);have GQ:=DX (fO GC.out XD (fun r e=>by cases e;rw [HIB.out];exact EA _));have HT4:=DX (HT3.out.gr XD (fun b C hb _=>Pj.Zd IU.out aF b C hb))
      have hs4:w1.heap.size<=(w3.setCell ⟨ib,q,none⟩ (.bool true)).heap.size:=by simpa using hs3
      clear XD TD hf3;generalize w3.setCell ⟨ib,q,none⟩ (.bool true)=w4 at *;obtain ⟨bx,ox,rfl,hc⟩:=HS.out.at aE;obtain ⟨c0,c1,c2⟩:=hc q LA _ GQ.out
      obtain ⟨x,hx⟩:∃ x,x=ts.getD q aX:=⟨_,rfl⟩
      rw [<- hx] at c0 c1 c2 HFN;clear hc hx;have hnf:=xL x;have hna:=sX x w4
      obtain ⟨ns,hns⟩:∃ ns,ns=sE x:=⟨_,rfl⟩
      rw [<- hns] at hnf hna HFN;have HNA:=DX hna;clear hna hns;go_wp2_with fail
      refine HNA.out.mono ?_
      rintro e w5 ⟨an,cn,rfl,GL,GZ⟩;have IQ:=DX (GQ.out.trans GZ);have VK:=DX (KY.out.kept GZ);have HT5:=DX (HT4.out.kept GZ);have UK:w1.heap.size<=w5.heap.size:=EF hs4 GZ.size;have IN:=DX GL;clear GZ GL c0 c1 c2;go_wp2_with (at_builtin;refine jI rfl _ _ 72 rfl w1.heap.size 9 i0 (.string ByteArray.empty) 16 EP HI.out.1 HI.out.2.1 HI.out.2.2.1 HI.out.2.2.2 rfl _ _ _ rfl HT5.out an ns.length cn (ns.map Value.string) rfl (kQ IN.out) ?c1 ?c2 ?c3 ?_)
      case c1=>have:=HMM.out;unfold maxLen;omega
      case c2=>have:=HMM.out;omega
      case c3=>exact UK
      intro v' w6 FU IB _;have hibl:ib<w1.heap.size:=hibl0;have XI:=DX (VK.out.gr IB (fun e=>by have:=(HT5.out.lt ib e.symm).1;omega));have NO:=DX (fO IQ.out IB (fun r e=>by have:=(HT5.out.lt r e).1;omega));have hs6:w1.heap.size<=w6.heap.size:=EF UK IB.size;rw [<- List.map_append] at FU;obtain ⟨a6,c6,rfl,_⟩:=FU.slice;have HO6:=DX FU;clear FU IB;go_wp2_with fail;go_roundw
      case rel=>exact ⟨m+ns.length,is.set q true,D'++ns,HFN,by have:=HCN.out;have:=HCS.out;have:=HMM.out;omega,DX (by have:=HCN.out;have:=HCS.out;have:=HMM.out;omega),by rw [List.length_append];simp at hDn;have:=HMM.out;omega,XI.out,HO6.out,hs6,NO.out⟩
      case measure=>rw [HU.out,lN XI.out XO.out];have:=HCS.out;have:=HMM.out;simp [Of];omega
  . obtain rfl:n=0:=by omega
    obtain rfl:D=[]:=List.length_eq_zero_iff.1 hDn;obtain ⟨av,cv,rfl,_⟩:=ht.slice
    have GU:decide (0<0)=false:=by decide
    have OE:=DX (show ∀ i,i<l->is.getD i false=fX ts rs i from fun i hi=>by
     rw [Bool.eq_iff_iff,tK]
     exact HF.out.done (sH ts rs) (by rw [HL.out];exact hi))
    have HLI:=DX (show is.length=l by rw [HF.out.len,HL.out]);have NG:=DX (show eG ts rs=((List.range l).filter (fX ts rs)).map (jF ts) by unfold eG;rw [HL.out]);generalize eG ts rs=FL at *;clear ht HF hDn HT;go_wp2_with fail;go_loopw [8,9] (fun xv iv wx=>∃ (k:Nat),k<=l/\iv=.int .i64 k/\wx.ownsRow wo.heap.size 9 1 xv ((List.range k).filter (fX ts rs)).length ((((List.range k).filter (fX ts rs)).map (jF ts)).map Value.string)/\aA wx ib (vU is) 4/\aB wo wx) (fun _ iv _=>l - (intOf iv).toNat)
    case atStart=>exact ⟨0,aE,rfl,World.ownsRow_nil _ _ _ _,HB.out,HK.out⟩
    case round =>
     rename Value=>xv
     rename World=>wx
     obtain ⟨k,hk,rfl,PW,ZJ,hkx⟩:=hrel;have XN:=DX hkx;have JK:=DX ZJ;have HOX:=DX PW;clear hkx ZJ
     by_cases FV:k<l
     . have JH:decide (k<l)=true:=DZ FV
       have YJ:wx.cell? ⟨ib,k,none⟩=some (.bool (fX ts rs k)):=by rw [JK.out.cell,sM _ _ (by rw [HLI.out];exact FV),OE.out k FV]
       have IX:=DX (show (List.range (k+1)).filter (fX ts rs)=(List.range k).filter (fX ts rs)++(if fX ts rs k=true then [k] else []) by
        rw [List.range_succ,List.filter_append]
        congr 1
        cases hh:fX ts rs k <;> simp [hh])
       have hfl:((List.range k).filter (fX ts rs)).length<=60:=by have:=List.length_filter_le (fX ts rs) (List.range k);rw [List.length_range] at this;omega
       generalize (List.range k).filter (fX ts rs)=FK at *
       cases hrk:fX ts rs k with
       | false =>
        rw [hrk] at YJ IX;have HE:=DX (show (List.range (k+1)).filter (fX ts rs)=FK by rw [IX.out];simp);clear hrk IX PW;go_wp2_with fail;go_roundw
        case rel=>exact ⟨k+1,aE,by go_num,by rw [HE.out];exact HOX.out,JK.out,XN.out⟩
        case measure=>simp [intOf];omega
       | true =>
        rw [hrk] at YJ IX;have HE:=DX (show (List.range (k+1)).filter (fX ts rs)=FK++[k] by rw [IX.out];simp);obtain ⟨av2,cv2,rfl⟩:=aP PW;obtain ⟨bx,ox,rfl,hc⟩:=HS.out.at aE;obtain ⟨c0,_,_⟩:=hc k FV _ XN.out;rw [show (ts.getD k aX).d=jF ts k from rfl] at c0
        obtain ⟨s9,XG⟩:∃ s9,s9=jF ts k:=⟨_,rfl⟩
        rw [<- XG] at c0;have HS9:=DX XG;have hzx:wo.heap.size<=wx.heap.size:=XN.out.size;clear hrk IX PW hc XG;go_wp2_with (at_builtin;refine dC rfl _ _ 72 rfl wo.heap.size 9 i0 (.string ByteArray.empty) 16 EP HI.out.1 HI.out.2.1 HI.out.2.2.1 HI.out.2.2.2 rfl _ _ _ rfl (aH HOX.out ((EX wx).alloc _)) (some ⟨wx.heap.size,0,none⟩) 1 1 [.string s9] rfl (kP wx _ _ rfl) ?c1 ?c2 ?c3 ?_)
        case c1=>unfold maxLen;omega
        case c2=>omega
        case c3=>rw [World.size_alloc];omega
        intro v' w6 FU IB _
        have ka:=(EX wx).alloc (.cells #[.string s9] 9)
        have ho5:=aH HOX.out ka;have XI:=DX ((JK.out.kept ka).gr IB (Pj.Zs ho5 aF _ _ (JK.out.kept ka)));have NO:=DX (fO (XN.out.trans ka) IB (fun r e=>(ho5.lt r e).1))
        have HD6:=DX (show w6.ownsRow wo.heap.size 9 1 v' (FK++[k]).length (((FK++[k]).map (jF ts)).map Value.string) by
         rw [List.length_append,List.map_append,List.map_append]
         show w6.ownsRow _ _ _ _ _ (_++[Value.string (jF ts k)])
         rw [<- HS9.out,List.map_map];exact FU)
        obtain ⟨av6,cv6,rfl⟩:=aP FU;clear ka ho5 FU IB c0;go_wp2_with fail;go_roundw
        case rel=>exact ⟨k+1,aE,by go_num,by rw [HE.out];exact HD6.out,XI.out,NO.out⟩
        case measure=>simp [intOf];omega
     . obtain rfl:l=k:=by omega
       have JH:decide (l<l)=false:=DY aE;obtain ⟨a',c',rfl,_,GL⟩:=eC PW (by simp) (fun s hs=>by obtain ⟨n,_,rfl⟩:=List.mem_map.1 hs;exact MZ.out n)
       obtain rfl:FL=((List.range l).filter (fX ts rs)).map (jF ts):=NG.out
       have IN:=DX GL;have HPE:=DX (show ((List.range l).filter (fX ts rs)).length=(((List.range l).filter (fX ts rs)).map (jF ts)).length by simp)
       generalize ((List.range l).filter (fX ts rs)).map (jF ts)=FM at *
       generalize ((List.range l).filter (fX ts rs)).length=FN at *
       clear PW GL NG HOX;go_wp2_with fail;go_ret;exact ⟨a',c',by rw [<- HPE.out];rfl,by rw [<- HPE.out];exact IN.out,XN.out⟩
end Go.Proofs.YtkfmladhicapeaaGreatDoor
namespace Go.Proofs.YtkfmladhicapeaaGreatDoor
open Go.RowKit Go.Shelf
def yH (B:Nat) (T:TypeId->Prop) (J:World->Prop):Prop :=
 ∀ A A' row,J A->A.grownBy A' row->(∀ r,row=some r->B<=r/\∃ cs t fr,A.heap[r]?=some (Obj.cells cs t fr)/\T t)->J A'
def Uq (B:Nat) (T:TypeId->Prop) (J:World->Prop):Prop :=
 ∀ A A' row,J A->A.grownBy A' row->(∀ r,row=some r->B<=r/\∃ o:Obj,A.heap[r]?=some o/\∀ cs t fr,o=Obj.cells cs t fr->T t)->J A'
def Yo {α:Type} (F:Fence) (n:Nat) (P:Program) (g:Nat) (lb:Array Value) (encs:α->Array Value) (Kp:World->World->Prop) (T:TypeId->Prop) (S:List α->Prop) (N:Nat) (w:World):Prop :=
 ∀ (l:Nat) (J:List α->World->Prop) (W:World),Below w.heap.size w W->(∀ pre,yH W.heap.size T (J pre)) ->
  (∀ pre x W1,J pre W1->pre.length<N->YieldAt F (n - 1) P l (encs x) W1 fun e W'=>e=.returned (.bool true)/\J (pre++[x]) W'/\Kp W1 W')->J [] W ->
  CallsIn F n P g (#[.func (.yield l) #[] #[]]++lb) W fun e W'=>(∃ v,e=.returned v)/\∃ xs,S xs/\J xs W'
def Tt (Kp:World->World->Prop) (I:World->Prop) (W:World):Exit->Act->World->Prop
 | .normal,_,W'=>KeepsOthers W W'/\Kp W W'/\I W'
 | _,_,_=>False
theorem xW {F:Fence} {n:Nat} {P:Program} {α:Type} {g:Operand} {ps:Array Tmp} {assign body:Code} {Q:Exit->Act->World->Prop} {a:Act} {w:World}
 (hro:F.round=none) (h1:1<=n) {gf:Nat} {lb:Array Value} (hg:a.eval g=.func (.func gf) #[] lb) (hFg:F.fn gf) (eg:∀ args w,(callFunc gf args).run P w=.ok (.enter gf args) w)
 {encs:α->Array Value} {Kp:World->World->Prop} {T:TypeId->Prop} {S:List α->Prop} {N:Nat} {w0:World} (hseq:Yo F (n - 1) P gf lb encs Kp T S N w0)
 (hKt:∀ {A B C:World},Kp A B->Kp B C->Kp A C) (hKb:∀ (W:World) (l:Nat) (o o':Obj),w.heap.size<=l->W.heap[l]?=some o->o.isCells=false->o.isWalk=false->Kp W (W.putObj l o')) (YJ:Below w0.heap.size w0 w) (YO:∀ x,(encs x).size=ps.size)
 (I:List α->World->Prop) (hI:∀ pre,Uq w.heap.size T (I pre)) (h0:I [] w)
 (YP:∀ (l:Nat) (pre:List α) (x:α) (W:World) (K:Act->World->Prop),pre.length<N ->
  (∀ a',(∀ W',I pre W'->body.wpIn (F.inRound l) (n - 1 - 1) P (Tt Kp (I (pre++[x])) W') a' W')->K a' W) ->
  assign.wpIn (F.inRound l) (n - 1 - 1) P (Exit.then K (fun _ _ _=>False)) { tmps:=(ps.zip (encs x)).foldl (fun t (p,v)=>t.setIfInBounds p v) a.tmps,defers:=[] } W)
 (WG:∀ (D:Nat) (xs:List α) (W:World),w.heap.size<=D->S xs->I xs W->W.heap[D]?=some (.deferred (some []))->Q .normal { a with defers:={ target:=.collected D,args:=#[] } :: a.defers } W) :
 (Code.rangeFunc g ps assign body).wpIn F n P Q a w:=by
 refine wpIn_rangeFunc fun fn hfn=>?_
 rw [hro]
 let rc:LoopState->Loop:=fun st=>{ state:=st,pending:=none,fn:=fn,tmps:=a.tmps,params:=ps,assign:=assign,body:=body,defers:=w.heap.size }
 have GJ:(w.alloc (.deferred (some []))).heap.size=w.heap.size+1:=World.size_alloc _ _
 generalize TH:(w.alloc (.deferred (some []))).alloc (.loop (rc .ready))=wb
 have hzb:wb.heap.size=w.heap.size+2:=by rw [<- TH,World.size_alloc,GJ]
 have hrec0:wb.heap[w.heap.size+1]?=some (.loop (rc .ready)):=by
  have:=World.alloc_heap_new (w.alloc (.deferred (some []))) (.loop (rc .ready))
  rwa [GJ,TH] at this
 have hdef0:wb.heap[w.heap.size]?=some (.deferred (some [])):=by
  have h2:=World.alloc_heap_new w (.deferred (some []));have h3:=Below.heap_alloc (w.alloc (.deferred (some []))) (.loop (rc .ready)) w.heap.size aE;rw [TH] at h3;exact h3.trans h2
 have OA:aB w wb:=by rw [<- TH];exact ((EX w).alloc _).alloc _
 have hib:I [] wb:=hI [] w wb none h0 (bN OA none) (fun r e=>by cases e)
 let J:List α->World->Prop:=fun pre W=>I pre W/\W.heap[w.heap.size+1]?=some (.loop (rc .ready))/\W.heap[w.heap.size]?=some (.deferred (some []))
 have hJ:∀ pre,yH wb.heap.size T (J pre):=by
  rintro pre A A' row ⟨i1,i2,i3⟩ IB NW
  have GW:∀ k,k<w.heap.size+2->some k≠row:=fun k hk e=>by
   have:=(NW k e.symm).1
   omega
  refine ⟨hI pre A A' row i1 IB (fun r e=>?_),(IB.block _ (Array.getElem?_eq_some_iff.1 i2).1 (GW _ aE)).trans i2,(IB.block _ (Array.getElem?_eq_some_iff.1 i3).1 (GW _ aE)).trans i3⟩;obtain ⟨hb,cs,t,fr,ho,ht⟩:=NW r e;exact ⟨aE,_,ho,fun cs' t' fr' h=>by cases h;exact ht⟩
 have aCe:∀ pre W st st',I pre W->W.heap[w.heap.size+1]?=some (.loop (rc st))->I pre (W.putObj (w.heap.size+1) (.loop (rc st'))):=fun pre W st st' hi hl =>
  hI pre W _ (some (w.heap.size+1)) hi (grownBy_putObj' W _ _) (fun r e=>by cases e;exact ⟨aE,_,hl,fun cs t fr h=>by cases h⟩)
 refine ⟨w.heap.size+1,[{ target:=.collected w.heap.size,args:=#[] }],wb,{ target:=.fn (.func gf) lb,args:=#[.func (.yield (w.heap.size+1)) #[] #[]] },wb,gf,#[.func (.yield (w.heap.size+1)) #[] #[]]++lb,wb,?_,?_,?_,?_,fun _=>h1,?_⟩
 . rw [<- TH];exact run_enterLoop_outer _ _ _ _ _
 . simp only [resolve,hg]
   simp [go_sem]
 . intro f' hf'
   simp [Target.leads] at hf'
   subst hf';exact hFg
 . simp [invoke,go_sem,eg]
 . refine (hseq (w.heap.size+1) J wb (YJ.trans (OA.below.mono YJ.size)) hJ ?_ ⟨hib,hrec0,hdef0⟩).mono ?_
   . rintro pre x W ⟨i1,i2,i3⟩ GM
     have hyield:=run_yield (P:=P) (args:=encs x) i2 (YO x);refine ⟨fn,_,assign,body,hyield,roundIn_of_wpIn hfn (YP _ pre x W _ GM fun a' hbody=>?_)⟩;refine ⟨_,run_beginRound i2 rfl,?_⟩
     have hL:w.heap.size+1<W.heap.size:=(Array.getElem?_eq_some_iff.1 i2).1
     have b2:(W.putObj (w.heap.size+1) (.loop (rc .busy))).heap[w.heap.size+1]?=some (.loop (rc .busy)):=World.putObj_heap_same hL
     have b3:(W.putObj (w.heap.size+1) (.loop (rc .busy))).heap[w.heap.size]?=some (.deferred (some [])):=(World.putObj_heap_other aE).trans i3
     refine wpIn_mono (hbody _ (aCe pre W _ .busy i1 i2)) ?_
     rintro e a3 W3 hp
     cases e with
     | normal =>
      obtain ⟨hk,hkp,hi3⟩:=hp;have c2:=hk.same _ _ b2 rfl;have c3:=hk.same _ _ b3 rfl;refine ⟨_,_,run_endRound none c2,rfl,⟨aCe (pre++[x]) W3 _ .ready hi3 c2,World.putObj_heap_same (Array.getElem?_eq_some_iff.1 c2).1,(World.putObj_heap_other aE).trans c3⟩,?_⟩;exact hKt (hKt (hKb W _ _ _ aE i2 rfl rfl) hkp) (hKb W3 _ _ _ aE c2 rfl rfl)
     | ret=>exact hp.elim
     | exit id=>exact hp.elim
     | goto t=>exact hp.elim
     | panic ch=>exact hp.elim
     | outgrown=>exact hp.elim
   . rintro e W2 ⟨⟨v,rfl⟩,xs,hS,i1,i2,i3⟩
     exact ⟨none,_,run_endLoop i2 (by simp [rc]),WG _ xs _ (EA _) hS (aCe xs W2 _ .exhausted i1 i2) ((World.putObj_heap_other aE).trans i3)⟩
end Go.Proofs.YtkfmladhicapeaaGreatDoor
