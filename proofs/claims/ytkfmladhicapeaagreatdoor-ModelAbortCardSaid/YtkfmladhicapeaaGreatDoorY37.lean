import Derived.Test.YtkfmladhicapeaaGreatDoorY36
set_option maxRecDepth 100000
set_option maxHeartbeats 8000000
namespace Go.Proofs.YtkfmladhicapeaaGreatDoor
open Go.RowKit Go.Shelf
def Rs (l:List ByteArray):Prop:=l.Pairwise fun a b=>cZ a b=true
theorem nY (l:List ByteArray):gG l=true↔Rs l:=by
 constructor
 . intro h
   rw [Rs,List.pairwise_iff_getElem];intro i j hi hj WH;have:=nN (show pS l l.length=true from h) j i WH hj
   simpa [pQ,List.getD,hi,hj] using this
 . intro h
   unfold gG pS;rw [List.all_eq_true];intro i hi;rw [List.mem_range] at hi;rw [Bool.or_eq_true]
   by_cases h0:i=0
   . exact .inl (DZ h0)
   . right
     have:=List.pairwise_iff_getElem.1 h (i - 1) i aE hi aE
     simpa [pQ,List.getD,hi,show i - 1<l.length by omega] using this
theorem at_i {ts:List Th} (hr:gG (cY ts)=true) {i:Nat} (hi:i<ts.length):cQ ts (jF ts i)=i:=by
 obtain ⟨h1,h2⟩:=qT hr (jF ts i);obtain ⟨h3,h4⟩:=yI hr hi;have h5:cQ ts (jF ts i)<ts.length:=of_decide_eq_true (by rw [<- h1];exact h3);rw [<- h2 h5,h4]
theorem wQ {ts:List Th} {x:Th} (hx:x∈ts):∃ i,i<ts.length/\ts.getD i aX=x:=by
 obtain ⟨i,hi,rfl⟩:=List.mem_iff_getElem.1 hx;exact ⟨i,hi,by simp [List.getD,hi]⟩
theorem Nf {ts:List Th} (hr:gG (cY ts)=true) {x:Th} (hx:x∈ts):iZ ts x.d x.m=true:=by
 obtain ⟨i,hi,rfl⟩:=wQ hx
 have e:cQ ts (ts.getD i aX).d=i:=at_i hr hi
 unfold iZ;rw [e,DZ hi]
 simp
theorem Eh {ts:List Th} (hr:gG (cY ts)=true) {d:ByteArray} {j:Bool}:iZ ts d j=true↔∃ x∈ts,x.d=d/\x.m=j:=by
 constructor
 . intro h
   obtain ⟨h1,h2⟩:=Kg h;exact ⟨_,bY aX h1,uE ts h1,h2⟩
 . rintro ⟨x,hx,rfl,rfl⟩
   exact Nf hr hx
def Up (ts ts':List Th) (d:ByteArray):Prop:=∀ x∈ts,x.d=d->x∈ts'
theorem Ds {ts ts':List Th} (hr:gG (cY ts)=true) (RU:gG (cY ts')=true) {d:ByteArray} {j:Bool} (hu:Up ts ts' d) (h:iZ ts d j=true):iZ ts' d j=true:=by
 obtain ⟨x,hx,h1,h2⟩:=(Eh hr).1 h
 exact (Eh RU).2 ⟨x,hu x hx h1,h1,h2⟩
theorem xD {ts ts':List Th} (hr:gG (cY ts)=true) (RU:gG (cY ts')=true) {t:ByteArray} (hu:∀ d∈sE ⟨ByteArray.empty,t,true⟩,Up ts ts' d) (h:iN ts t=true):iN ts' t=true:=by
 unfold iN at h ⊢;unfold sE at hu
 cases hm:bJ t with
 | none=>rw [hm] at h;cases h
 | some m =>
  rw [hm] at h;simp only [hm,if_true,pR] at hu;simp only [Bool.and_eq_true,List.all_eq_true] at h ⊢;exact ⟨fun d hd=>Ds hr RU (hu d (List.mem_append_left _ hd)) (h.1 d hd),fun d hd=>Ds hr RU (hu d (List.mem_append_right _ hd)) (h.2 d hd)⟩
structure TT (ts:List Th):Prop where
 len:ts.length<=60
 th:∀ x∈ts,sF x=true
 ris:Rs (cY ts)
 dgs:∀ x∈ts,x.d=dg x.t.data.toList
 nm:∀ x∈ts,x.m=true->iN ts x.t=true
theorem TT.r {ts:List Th} (h:TT ts):gG (cY ts)=true:=(nY _).2 h.ris
theorem TT.b {ts:List Th} (h:TT ts):fF ts=true:=by
 unfold fF;rw [DZ h.len,(nY _).2 h.ris,List.all_eq_true.2 h.th];rfl
theorem Ul {ts:List Th}:yR ts=true↔TT ts:=by
 unfold yR;rw [Bool.and_eq_true,List.all_eq_true]
 constructor
 . rintro ⟨h1,h2⟩
   refine ⟨jL h1,Fe h1,(nY _).1 (iY h1),fun x hx=>?_,fun x hx hm=>?_⟩
   . have:=h2 x hx
     unfold oN at this;rw [Bool.and_eq_true] at this;exact of_decide_eq_true this.1
   . have:=h2 x hx
     unfold oN at this;rw [Bool.and_eq_true,hm] at this;exact this.2
 . intro h
   refine ⟨h.b,fun x hx=>?_⟩;unfold oN;rw [DZ (h.dgs x hx)]
   cases hm:x.m with
   | false=>rfl
   | true=>exact h.nm x hx hm
structure GG (ts:List Th) (gs:List Tg):Prop where
 len:gs.length<=40
 nm:∀ x∈gs,dV x.n=true/\iZ ts x.d true=true
 ris:Rs (kL gs)
theorem Tu {ts:List Th} {gs:List Tg}:Cc ts gs=true↔GG ts gs:=by
 unfold Cc;simp only [Bool.and_eq_true,List.all_eq_true,decide_eq_true_eq,nY,rK];exact ⟨fun h=>⟨h.1,h.2.1,h.2.2⟩,fun h=>⟨h.len,h.nm,h.ris⟩⟩
structure SS (ss:List Se) (nx:Int):Prop where
 len:ss.length<=8
 n0:0<=nx
 n1:nx<=1073741824
 ok:∀ x∈ss,0<=x.i/\x.i<nx/\x.t.size<=2000
 ris:(ss.map (·.i)).Pairwise (·<·)
theorem Nv {ss:List Se}:kF ss ss.length=true↔(ss.map (·.i)).Pairwise (·<·):=by
 rw [List.pairwise_iff_getElem]
 constructor
 . intro h i j hi hj WH
   rw [List.length_map] at hi hj;have:=sA h j i WH hj
   have e1:ss.getD i bQ=ss[i]:=by simp [List.getD,hi]
   have e2:ss.getD j bQ=ss[j]:=by simp [List.getD,hj]
   rw [e1,e2] at this;rw [List.getElem_map,List.getElem_map]
   simpa [Ca] using this
 . intro h
   unfold kF;rw [List.all_eq_true];intro i hi;rw [List.mem_range] at hi;rw [Bool.or_eq_true]
   by_cases h0:i=0
   . exact .inl (DZ h0)
   . right
     have:=h (i - 1) i (by rw [List.length_map];omega) (by rw [List.length_map];omega) aE
     apply DZ
     simpa [List.getD,hi,show i - 1<ss.length by omega] using this
theorem Ub {ss:List Se} {nx:Int}:yO ss nx=true↔SS ss nx:=by
 unfold yO;simp only [Bool.and_eq_true,List.all_eq_true,decide_eq_true_eq,Nv,nI];exact ⟨fun h=>⟨h.1,h.2.1.1,h.2.1.2,fun x hx=>⟨(h.2.2.1 x hx).1.1,(h.2.2.1 x hx).1.2,(h.2.2.1 x hx).2⟩,h.2.2.2⟩,fun h=>⟨h.len,⟨h.n0,h.n1⟩,fun x hx=>⟨⟨(h.ok x hx).1,(h.ok x hx).2.1⟩,(h.ok x hx).2.2⟩,h.ris⟩⟩
theorem cU {s:dN}:dP s=true↔TT s.ts/\GG s.ts s.gs/\SS s.ss s.nx:=by
 unfold dP;rw [Bool.and_eq_true,Bool.and_eq_true,Ul,Tu,Ub]
theorem Iz {ts ts':List Th} (h:ts'.Sublist ts) (hr:Rs (cY ts)):Rs (cY ts'):=List.Pairwise.sublist (h.map _) hr
theorem TT.sub {ts ts':List Th} (h:TT ts) (hs:ts'.Sublist ts) (hu:∀ x∈ts',x.m=true->∀ d∈sE x,Up ts ts' d):TT ts':=by
 have RU:=Iz hs h.ris;refine ⟨EF hs.length_le h.len,fun x hx=>h.th x (hs.subset hx),RU,fun x hx=>h.dgs x (hs.subset hx),fun x hx hm=>?_⟩;refine xD h.r ((nY _).2 RU) (fun d hd=>hu x hx hm d ?_) (h.nm x (hs.subset hx) hm);unfold sE at hd ⊢;rw [if_pos hm];exact hd
theorem GG.up {ts ts':List Th} {gs:List Tg} (h:GG ts gs) (hr:gG (cY ts)=true) (RU:gG (cY ts')=true) (hu:∀ g∈gs,Up ts ts' g.d):GG ts' gs :=
 ⟨h.len,fun x hx=>⟨(h.nm x hx).1,Ds hr RU (hu x hx) (h.nm x hx).2⟩,h.ris⟩
theorem Sm (p:ByteArray->Bool):∀ (l:List ByteArray) (x:ByteArray),x∈l.take (l.takeWhile p).length->p x=true
 | [],x,h=>by simp at h
 | y :: r,x,h=>by
  rw [List.takeWhile_cons] at h
  cases hp:p y with
  | false=>rw [hp] at h;simp at h
  | true =>
   rw [hp] at h;simp only [if_true,List.length_cons,List.take_succ_cons,List.mem_cons] at h
   rcases h with rfl | h
   . exact hp
   . exact Sm p r x h
theorem Ev (p:ByteArray->Bool):∀ (l:List ByteArray),match l.drop (l.takeWhile p).length with | []=>True | y :: _=>p y=false
 | []=>trivial
 | y :: r=>by
  rw [List.takeWhile_cons]
  cases hp:p y with
  | false=>simpa using hp
  | true=>simpa using Ev p r
theorem Io {l:List ByteArray} (h:Rs l) {d:ByteArray} (hn:d∉l):Rs (l.take (l.takeWhile fun x=>cZ x d).length++[d]++l.drop (l.takeWhile fun x=>cZ x d).length):=by
 have h1:∀ x∈l.take (l.takeWhile fun x=>cZ x d).length,cZ x d=true:=fun x hx=>Sm _ l x hx
 have hd:=Ev (fun x=>cZ x d) l;have hdr:Rs (l.drop (l.takeWhile fun x=>cZ x d).length):=List.Pairwise.sublist (List.drop_sublist _ _) h
 have h2:∀ x∈l.drop (l.takeWhile fun x=>cZ x d).length,cZ d x=true:=fun x hx=>by
  have IZ:=List.mem_of_mem_drop hx
  have GW:x≠d:=fun e=>hn (e ▸ IZ)
  generalize l.drop (l.takeWhile fun x=>cZ x d).length=R at hx hd hdr
  cases R with
  | nil=>cases hx
  | cons y r =>
   have hy:cZ y d=false:=hd
   have hyn:cZ x d=false:=by
    rcases List.mem_cons.1 hx with rfl | hx
    . exact hy
    . have hyx:cZ y x=true:=List.rel_of_pairwise_cons hdr hx
      cases e:cZ x d with
      | false=>rfl
      | true=>exact absurd (eV hyx e) (by rw [hy];decide)
   cases e:cZ d x with
   | true=>rfl
   | false=>exact absurd (wI hyn e) GW
 have YS:Rs (l.take (l.takeWhile fun x=>cZ x d).length++l.drop (l.takeWhile fun x=>cZ x d).length):=by rw [List.take_append_drop];exact h
 unfold Rs at *;rw [List.pairwise_append] at YS;rw [List.append_assoc,List.pairwise_append,List.pairwise_append];refine ⟨YS.1,⟨List.pairwise_singleton _ _,hdr,fun a ha b hb=>?_⟩,fun a ha b hb=>?_⟩
 . rw [List.mem_singleton] at ha;subst ha;exact h2 b hb
 . rw [List.mem_append,List.mem_singleton] at hb
   rcases hb with rfl | hb
   . exact h1 a ha
   . exact YS.2.2 a ha b hb
theorem Bz {α:Type} (f:α->ByteArray) (p:ByteArray->Bool):∀ l:List α,(l.takeWhile fun x=>p (f x)).length=((l.map f).takeWhile p).length
 | []=>rfl
 | x :: r=>by
  rw [List.takeWhile_cons,List.map_cons,List.takeWhile_cons]
  cases p (f x) with
  | false=>rfl
  | true=>simp only [if_true,List.length_cons];rw [Bz f p r]
theorem Kr (ts:List Th) (t:Th):cY (iR ts t)=(cY ts).take ((cY ts).takeWhile fun x=>cZ x t.d).length++[t.d]++(cY ts).drop ((cY ts).takeWhile fun x=>cZ x t.d).length:=by
 unfold iR cY fZ;rw [Bz (fun x:Th=>x.d) (fun x=>cZ x t.d),List.map_append,List.map_append,List.map_take,List.map_drop];rfl
theorem Pz (gs:List Tg) (g:Tg):kL (mO gs g)=(kL gs).take ((kL gs).takeWhile fun x=>cZ x g.n).length++[g.n]++(kL gs).drop ((kL gs).takeWhile fun x=>cZ x g.n).length:=by
 unfold mO kL rJ;rw [Bz (fun x:Tg=>x.n) (fun x=>cZ x g.n),List.map_append,List.map_append,List.map_take,List.map_drop];rfl
theorem pC {ts:List Th} {t x:Th}:x∈iR ts t↔x∈ts\/x=t:=by
 unfold iR;rw [List.mem_append,List.mem_append,List.mem_singleton]
 conv=>rhs;rw [<- List.take_append_drop (fZ ts t.d) ts,List.mem_append]
 constructor
 . exact Ij
 . exact Ij
theorem Iu {gs:List Tg} {t x:Tg}:x∈mO gs t↔x∈gs\/x=t:=by
 unfold mO;rw [List.mem_append,List.mem_append,List.mem_singleton]
 conv=>rhs;rw [<- List.take_append_drop (rJ gs t.n) gs,List.mem_append]
 constructor
 . exact Ij
 . exact Ij
theorem uG (ts:List Th) (t:Th):(iR ts t).length=ts.length+1:=by
 unfold iR;rw [List.length_append,List.length_append,List.length_take,List.length_drop,List.length_singleton];have:=De ts t.d;omega
theorem sW (gs:List Tg) (t:Tg):(mO gs t).length=gs.length+1:=by
 unfold mO;rw [List.length_append,List.length_append,List.length_take,List.length_drop,List.length_singleton];have:=Ii gs t.n;omega
theorem Hf {ts:List Th} {d:ByteArray} (h:¬ cQ ts d<ts.length):d∉cY ts:=by
 intro hm;obtain ⟨x,hx,rfl⟩:=List.mem_map.1 hm;obtain ⟨i,hi,rfl⟩:=wQ hx
 have h1:cQ ts (ts.getD i aX).d=ts.length:=by have:=Jj ts (ts.getD i aX).d;omega
 exact Cz ts i aE rfl
theorem TT.ins {ts:List Th} (h:TT ts) {t:Th} (hl:¬ ts.length>=60) (hn:¬ cQ ts t.d<ts.length) (hb:sF t=true) (hd:t.d=dg t.t.data.toList) (hm:t.m=true->iN ts t.t=true):TT (iR ts t)/\∀ d,Up ts (iR ts t) d:=by
 have hup:∀ d,Up ts (iR ts t) d:=fun d x hx _=>pC.2 (.inl hx)
 have RU:Rs (cY (iR ts t)):=by rw [Kr];exact Io h.ris (Hf hn)
 refine ⟨⟨by rw [uG];omega,fun x hx=>?_,RU,fun x hx=>?_,fun x hx TI=>?_⟩,hup⟩
 . rcases pC.1 hx with hx | rfl
   . exact h.th x hx
   . exact hb
 . rcases pC.1 hx with hx | rfl
   . exact h.dgs x hx
   . exact hd
 . rcases pC.1 hx with hx | rfl
   . exact xD h.r ((nY _).2 RU) (fun d _=>hup d) (h.nm x hx TI)
   . exact xD h.r ((nY _).2 RU) (fun d _=>hup d) (hm TI)
theorem SS.sub {ss ss':List Se} {nx:Int} (h:SS ss nx) (hs:ss'.Sublist ss):SS ss' nx :=
 ⟨EF hs.length_le h.len,h.n0,h.n1,fun x hx=>h.ok x (hs.subset hx),List.Pairwise.sublist (hs.map _) h.ris⟩
theorem Ge {s:dN} (h:dP s=true):dP (eF s).1=true:=by
 unfold eF
 split
 . exact h
 . rename_i hq
   obtain ⟨h1,h2,h3⟩:=cU.1 h
   have hl:¬ s.ss.length>=8:=fun q=>hq (.inl q)
   have hx:¬ s.nx=1073741824:=fun q=>hq (.inr q)
   refine cU.2 ⟨h1,h2,?_⟩;refine ⟨by simp only [List.length_append,List.length_singleton];omega,by have:=h3.n0;show 0<=s.nx+1;omega,by have:=h3.n1;show s.nx+1<=_;omega,fun x hx=>?_,?_⟩
   . rcases List.mem_append.1 hx with hx | hx
     . have:=h3.ok x hx
       exact ⟨this.1,by show x.i<s.nx+1;omega,this.2.2⟩
     . rw [List.mem_singleton] at hx
       subst hx;exact ⟨h3.n0,by show s.nx<s.nx+1;omega,by show (0:Nat)<=2000;omega⟩
   . rw [List.map_append,List.pairwise_append]
     refine ⟨h3.ris,List.pairwise_singleton _ _,fun a ha b hb=>?_⟩;obtain ⟨x,hx,rfl⟩:=List.mem_map.1 ha;simp only [List.map_cons,List.map_nil,List.mem_singleton] at hb;subst hb
     exact (h3.ok x hx).2.1
theorem Gj {s:dN} (h:dP s=true) (id:Int):dP (eZ s id).1=true:=by
 unfold eZ
 split
 . obtain ⟨h1,h2,h3⟩:=cU.1 h
   exact cU.2 ⟨h1,h2,h3.sub (List.eraseIdx_sublist _ _)⟩
 . exact h
theorem Gd {s:dN} (h:dP s=true) (id:Int) (t:ByteArray):dP (eW s id t).1=true:=by
 unfold eW
 split
 . rename_i GA
   split
   . exact h
   . rename_i hz
     obtain ⟨h1,h2,h3⟩:=cU.1 h;refine cU.2 ⟨h1,h2,?_⟩;generalize fR s.ss id=k at *;have hx:=h3.ok _ (bY bQ GA);refine ⟨by simp only [List.length_set];exact h3.len,h3.n0,h3.n1,fun x TI=>?_,?_⟩
     . rcases List.mem_or_eq_of_mem_set TI with TI | rfl
       . exact h3.ok x TI
       . refine ⟨hx.1,hx.2.1,?_⟩
         show ((s.ss.getD k bQ).t++t).size<=2000
         rw [ByteArray.size_append];omega
     . have e:(s.ss.set k ⟨(s.ss.getD k bQ).i,(s.ss.getD k bQ).t++t⟩).map (·.i)=s.ss.map (·.i):=by
        exact Ms
       show ((s.ss.set k ⟨(s.ss.getD k bQ).i,(s.ss.getD k bQ).t++t⟩).map (·.i)).Pairwise (·<·)
       rw [e];exact h3.ris
 . exact h
theorem Uy {d t:ByteArray} (hz:t.size<=2000) (hd:dg t.data.toList=d):sF ⟨d,t,false⟩=true:=by
 unfold sF;rw [<- hd,DZ (Eu _),DZ hz];rfl
theorem Dl {s:dN} (h:dP s=true) (id:Int) (d:ByteArray):dP (eD s id d).1=true:=by
 unfold eD;obtain ⟨h1,h2,h3⟩:=cU.1 h
 split
 . rename_i GA
   split
   . rename_i hd
     have hz:=(h3.ok _ (bY bQ GA)).2.2
     split
     . exact cU.2 ⟨h1,h2,h3.sub (List.eraseIdx_sublist _ _)⟩
     . rename_i hn
       split
       . exact h
       . rename_i hl
         obtain ⟨k1,k2⟩:=h1.ins (t:=⟨d,(s.ss.getD (fR s.ss id) bQ).t,false⟩) hl hn (Uy hz hd) hd.symm (fun q=>by cases q);exact cU.2 ⟨k1,h2.up h1.r k1.r (fun g _=>k2 _),h3.sub (List.eraseIdx_sublist _ _)⟩
   . exact h
 . exact h
theorem Gn (s:dN) (k:Int) (d:ByteArray) (n m:Int):(cW s k d n m).1=s:=by
 unfold cW
 repeat' split
 all_goals rfl
theorem Ai {ts:List Th} {k:Nat} {d:ByteArray} (GW:(ts.getD k aX).d≠d):Up ts (ts.eraseIdx k) d:=fun x hx hd=>by
 obtain ⟨i,hi,rfl⟩:=wQ hx
 have hik:i≠k:=fun e=>by subst e;exact GW hd
 rw [List.mem_eraseIdx_iff_getElem?];exact ⟨i,hik,by simp [List.getD,hi]⟩
theorem Dh {ts:List Th} {d:ByteArray} (h:¬ (fS ts d).length>0) {x:Th} (hx:x∈ts):d∉sE x:=fun hd=>by
 refine h ?_
 unfold fS;rw [List.length_map];exact List.length_pos_of_mem (List.mem_filter.2 ⟨hx,lB.2 hd⟩)
theorem Dx {s:dN} (h:dP s=true) (d:ByteArray):dP (eE s d).1=true:=by
 unfold eE
 split
 . rename_i GA
   split
   . exact h
   . rename_i hq
     obtain ⟨h1,h2,h3⟩:=cU.1 h
     have hu:¬ (fS s.ts d).length>0:=fun q=>hq (.inl q)
     have hg:∀ g∈s.gs,g.d≠d:=fun g hg e=>hq (.inr (List.any_eq_true.2 ⟨g,hg,DZ e⟩))
     have hd:=uE s.ts GA;have k1:TT (s.ts.eraseIdx (cQ s.ts d)):=h1.sub (List.eraseIdx_sublist _ _) (fun x hx hm y hy=>Ai (fun e=>Dh hu ((List.eraseIdx_sublist _ _).subset hx) (by rw [<- hd,e];exact hy)));exact cU.2 ⟨k1,h2.up h1.r k1.r (fun g hg2=>Ai (fun e=>hg g hg2 (by rw [<- hd,e]))),h3⟩
 . exact h
theorem Lt {s:dN} (h:dP s=true) (t:ByteArray):dP (iC s t).1=true:=by
 unfold iC;obtain ⟨h1,h2,h3⟩:=cU.1 h
 split
 . rename_i ht
   split
   . rename_i UH
     split
     . exact h
     . rename_i hn
       split
       . exact h
       . rename_i hl
         have hz:t.size<=2000:=by
          unfold bJ at ht
          split at ht
          . rename_i q;omega
          . cases ht
         have hb:sF ⟨dg t.data.toList,t,true⟩=true:=by
          unfold sF;simp only [Eu,hz,ht];decide
         obtain ⟨k1,k2⟩:=h1.ins (t:=⟨dg t.data.toList,t,true⟩) hl hn hb rfl (fun _=>UH);exact cU.2 ⟨k1,h2.up h1.r k1.r (fun g _=>k2 _),h3⟩
   . exact h
 . exact h
theorem Nr {gs:List Tg} {n:ByteArray} (h:¬ gK gs n<gs.length):n∉kL gs:=by
 intro hm;obtain ⟨x,hx,rfl⟩:=List.mem_map.1 hm;obtain ⟨i,hi,rfl⟩:=List.mem_iff_getElem.1 hx
 have h1:gK gs gs[i].n=gs.length:=by have:=Mp gs gs[i].n;omega
 exact wW (d:=gs[i].n) gs i aE (by simp [List.getD,hi])
theorem Ox {s:dN} (h:dP s=true) (n d:ByteArray):dP (mC s n d).1=true:=by
 unfold mC;obtain ⟨h1,h2,h3⟩:=cU.1 h
 split
 . rename_i hn
   split
   . rename_i hd
     split
     . rename_i GA
       refine cU.2 ⟨h1,?_,h3⟩;generalize gK s.gs n=k at *;have hx:=h2.nm _ (bY bL GA);refine ⟨by simp only [List.length_set];exact h2.len,fun x TI=>?_,?_⟩
       . rcases List.mem_or_eq_of_mem_set TI with TI | rfl
         . exact h2.nm x TI
         . exact ⟨hx.1,hd⟩
       . have e:kL (s.gs.set k ⟨(s.gs.getD k bL).n,d⟩)=kL s.gs:=by
          unfold kL;exact Ms
         show Rs (kL (s.gs.set k ⟨(s.gs.getD k bL).n,d⟩))
         rw [e];exact h2.ris
     . rename_i GA
       split
       . exact h
       . rename_i hl
         refine cU.2 ⟨h1,⟨by rw [sW];omega,fun x hx=>?_,by rw [Pz];exact Io h2.ris (Nr GA)⟩,h3⟩
         rcases Iu.1 hx with hx | rfl
         . exact h2.nm x hx
         . exact ⟨hn,hd⟩
   . exact h
 . exact h
theorem Gc (s:dN) (n:ByteArray):(gQ s n).1=s:=by
 unfold gQ
 split <;> rfl
theorem Fx {s:dN} (h:dP s=true) (n:ByteArray):dP (eY s n).1=true:=by
 unfold eY
 split
 . obtain ⟨h1,h2,h3⟩:=cU.1 h
   exact cU.2 ⟨h1,⟨EF (List.eraseIdx_sublist _ _).length_le h2.len,fun x hx=>h2.nm x ((List.eraseIdx_sublist _ _).subset hx),List.Pairwise.sublist ((List.eraseIdx_sublist _ _).map _) h2.ris⟩,h3⟩
 . exact h
theorem pX {s:dN} {x:Th}:x∈qO s↔x∈s.ts/\x.d∈eG s.ts (s.gs.map (·.d)):=by
 unfold qO;rw [List.mem_filter,lB]
theorem Uf {ts:List Th} (hr:gG (cY ts)=true) {x:Th} (hx:x∈ts):¬ kR ts x.d<0:=by
 obtain ⟨i,hi,rfl⟩:=wQ hx;have:=Ty hr hi
 show ¬ kR ts (jF ts i)<0
 omega
theorem Kn {s:dN} (h1:TT s.ts) {g:Tg} (hg:g∈s.gs) {x:Th} (hx:x∈s.ts) (hd:x.d=g.d):x.d∈eG s.ts (s.gs.map (·.d)):=by
 obtain ⟨i,hi,rfl⟩:=wQ hx;exact qK.2 ⟨i,hi,.root (sB.2 ⟨jF s.ts i,List.mem_map.2 ⟨g,hg,hd.symm⟩,(yI h1.r hi).1,(yI h1.r hi).2⟩),rfl⟩
theorem Hv {s:dN} (h:dP s=true):dP (nE s).1=true:=by
 obtain ⟨h1,h2,h3⟩:=cU.1 h
 have hs:(qO s).Sublist s.ts:=List.filter_sublist
 have k1:TT (qO s):=h1.sub hs (fun x hx hm d hd y hy e=>by
  obtain ⟨hx1,TI⟩:=pX.1 hx;obtain ⟨i,hi,rfl⟩:=wQ hx1;refine pX.2 ⟨hy,?_⟩;rw [e]
  exact Cb h1.b hi TI hd (by rw [<- e];exact Uf h1.r hy))
 exact cU.2 ⟨k1,h2.up h1.r k1.r (fun g hg x hx hd=>pX.2 ⟨hx,Kn h1 hg hx hd⟩),h3⟩
theorem sweep_again {s:dN} (h:dP s=true):qO (nE s).1=qO s:=by
 have hm:=Hv h;obtain ⟨h1,h2,h3⟩:=cU.1 h;obtain ⟨k1,k2,k3⟩:=cU.1 hm
 have RK:(nE s).1.ts=qO s:=rfl
 have SF:(nE s).1.gs=s.gs:=rfl
 rw [RK] at k1
 have key:∀ i,Ci (oZ s.ts) (kM s.ts (s.gs.map (·.d))) i->i<s.ts.length->jF s.ts i∈eG (qO s) (s.gs.map (·.d)):=fun i hr=>by
  induction hr with
  | @root n hn =>
   intro hi;obtain ⟨d,hd,hf,rfl⟩:=sB.1 hn;have hx:s.ts.getD (fZ s.ts d) aX∈qO s:=pX.2 ⟨bY aX hi,qK.2 ⟨_,hi,.root hn,rfl⟩⟩;obtain ⟨j,hj,ej⟩:=wQ hx
   have e2:jF (qO s) j=d:=by
    unfold jF;rw [ej]
    exact (Sj hf).2
   refine qK.2 ⟨j,hj,.root (sB.2 ⟨d,hd,?_,?_⟩),?_⟩
   . rw [<- e2];exact (yI k1.r hj).1
   . rw [<- e2];exact (yI k1.r hj).2
   . rw [e2];exact (Sj hf).2.symm
  | @step n m hn hm ih =>
   intro hi
   have hnl:n<s.ts.length:=by
    rcases Nat.lt_or_ge n s.ts.length with q | q
    . exact q
    . rw [List.getD_eq_getElem?_getD,List.getElem?_eq_none (by rw [kB];exact q)] at hm
      cases hm
   have ihn:=ih hnl;rw [tA s.ts n hnl] at hm;obtain ⟨y,hy,hf,rfl⟩:=sB.1 hm;have hxn:s.ts.getD n aX∈qO s:=pX.2 ⟨bY aX hnl,qK.2 ⟨n,hnl,hn,rfl⟩⟩;obtain ⟨j,hj,ej⟩:=wQ hxn
   have e2:jF (qO s) j=jF s.ts n:=by unfold jF;rw [ej]
   have hym:s.ts.getD (fZ s.ts y) aX∈qO s:=pX.2 ⟨bY aX hi,qK.2 ⟨_,hi,.step hn (by rw [tA s.ts n hnl];exact hm),rfl⟩⟩
   have ey:jF s.ts (fZ s.ts y)=y:=(Sj hf).2
   rw [ey]
   refine Cb k1.b hj (by rw [e2];exact ihn) (by rw [ej];exact hy) ?_
   have:=Uf k1.r hym
   rwa [show (s.ts.getD (fZ s.ts y) aX).d=y from ey] at this
 show (qO s).filter (fun x=>iS x.d (eG (qO s) (s.gs.map (·.d))))=qO s
 rw [List.filter_eq_self];intro x hx;obtain ⟨hx1,TI⟩:=pX.1 hx;obtain ⟨i,hi,hr,e⟩:=qK.1 TI;rw [lB,<- e];exact key i hr hi
theorem Ue {s:dN} (h:dP s=true) (o:fV):dP (dK s o).1=true:=by
 unfold dK
 split
 . exact Ge h
 split
 . exact Gd h _ _
 split
 . exact Dl h _ _
 split
 . rw [Gn];exact h
 split
 . exact Dx h _
 split
 . exact Lt h _
 split
 . exact Ox h _ _
 split
 . rw [Gc];exact h
 split
 . exact Fx h _
 split
 . exact Hv h
 . exact Gj h _
def Er (s:dN) (x:dN × rN):Prop:=x.2.e≠0->x.1=s/\x.2=aY x.2.e
theorem Wm (s:dN) (e:Int):Er s (s,aY e):=fun _=>⟨rfl,rfl⟩
theorem er_0 (s x:dN):Er s (x,fT):=fun h=>absurd rfl h
theorem er_n (s x:dN) (n:Int):Er s (x,dY n):=fun h=>absurd rfl h
theorem er_t (s x:dN) (t:ByteArray):Er s (x,eT t):=fun h=>absurd rfl h
theorem Vi {c:Prop} [Decidable c] {s:dN} {x y:dN × rN} (h1:Er s x) (h2:Er s y):Er s (if c then x else y):=by
 by_cases h:c
 . rw [if_pos h];exact h1
 . rw [if_neg h];exact h2
theorem Lm (s:dN) (o:fV):Er s (dK s o):=by
 unfold dK eF eW eD cW eE iC mC gQ eY nE eZ
 repeat' apply Vi
 all_goals first
  | exact Wm _ _
  | exact er_0 _ _
  | exact er_n _ _ _
  | exact er_t _ _ _
end Go.Proofs.YtkfmladhicapeaaGreatDoor
namespace Go.Proofs.YtkfmladhicapeaaGreatDoor
open Go.RowKit Go.Shelf
attribute [local go_sem] Oper.semAt_some
theorem uH (d:ByteArray):∀ (ts:List Th) (q:Nat),q<fZ ts d->cZ (ts.getD q aX).d d=true
 | [],q,h=>by unfold fZ at h;simp at h
 | x :: r,q,h=>by
  unfold fZ at h;rw [List.takeWhile_cons] at h
  cases hx:cZ x.d d with
  | false=>rw [hx] at h;simp at h
  | true =>
   rw [hx] at h
   cases q with
   | zero=>simpa [List.getD] using hx
   | succ q =>
    have:=uH d r q (by unfold fZ;simpa using h)
    simpa [List.getD] using this
theorem vF (d:ByteArray):∀ (ts:List Th),fZ ts d<ts.length->cZ (ts.getD (fZ ts d) aX).d d=false
 | [],h=>by simp at h
 | x :: r,h=>by
  unfold fZ at h ⊢;rw [List.takeWhile_cons] at h ⊢
  cases hx:cZ x.d d with
  | false=>simpa [List.getD] using hx
  | true =>
   rw [hx] at h;have:=vF d r (by unfold fZ;simpa using h);unfold fZ at this
   simpa [List.getD] using this
theorem Ac (base:Nat) (ax:Option Addr) (l cx:Nat) (ts:List Th) (xd xt:ByteArray) (xm:Bool) (w:World) (ho:w.ownsRow base 62 3 (.slice ax l cx) l (ts.flatMap dW)) (GM:ts.length=l) (hz:∀ x∈ts,x.d.size<=140737488351232/\x.t.size<=140737488351232) (hl:l<=1000) :
 Calls Tryz.prog 82 #[.slice ax l cx,.agg (LT xd xt xm)] w fun e w'=>∃ a' c',e=.returned (.slice a' (l+1) c')/\w'.ownsRow w.heap.size 62 3 (.slice a' (l+1) c') (l+1) ((iR ts ⟨xd,xt,xm⟩).flatMap dW)/\aB w w':=by
 obtain ⟨_,_,hv,h⟩:=cI ho GM aE hz;cases hv
 have hlc:l<=cx:=by
  rcases ho.2 with ⟨h',h0⟩ | ⟨g,cap,cur,h',_,_,NJ,_⟩
  . omega
  . simp only [Value.slice.injEq] at h'
    omega
 have KV:=DX ho;have HS:=DX h;have HL:=DX h.len_eq;obtain ⟨i0,hi,GV,GJ,GO⟩:=gD Tryz.prog BA;have HI:=DX (EC hi (EC GV (EC GJ GO)));have HB:=DX (EY w (LT xd xt xm) 62);have HK:=DX ((EX w).alloc ((KT xd xt xm)))
 obtain ⟨P,hP⟩:∃ P,P=fZ ts xd:=⟨_,rfl⟩
 have hPn:P<=l:=by rw [hP,<- HL.out];exact De ts xd
 have ZB:=DX (show ∀ q,q<P->cZ (ts.getD q aX).d xd=true from fun q hq=>uH xd ts q (by rw [<- hP];exact hq));have HPA:=DX (show P<l->cZ (ts.getD P aX).d xd=false from fun hq=>by have:=vF xd ts (by rw [<- hP,HL.out];exact hq);rw [<- hP] at this;exact this);have HPU:=DX (show iR ts ⟨xd,xt,xm⟩=ts.take P++[⟨xd,xt,xm⟩]++ts.drop P by unfold iR;rw [hP]);clear hP h ho hz hi GV GJ GO;go_enter Tryz.func82,Tryz.ntmps82
 go_upto_region 1 with (fail)
 generalize w.alloc ((KT xd xt xm))=w1 at *;go_wp2_with fail;go_loopw [5] (fun kv wx=>∃ k:Nat,k<=P/\kv=.int .i64 k/\aB w1 wx) (fun kv _=>l - (intOf kv).toNat)
 case atStart=>exact ⟨0,aE,rfl,EX _⟩
 case round =>
  rename World=>wx
  obtain ⟨k,hk,rfl,hkx⟩:=hrel;have XN:=DX hkx;obtain ⟨a0,a1,a2⟩:=dI (HB.out.kept hkx);clear hkx
  by_cases JE:k<l
  . have hdk:decide (k<l)=true:=DZ JE
    obtain ⟨bx,ox,hax,hcx⟩:=HS.out.at aE;obtain ⟨c0,c1,c2⟩:=hcx k JE _ (HK.out.trans XN.out)
    obtain ⟨u,hu⟩:∃ u,u=(ts.getD k aX).d:=⟨_,rfl⟩
    rw [<- hu] at c0
    by_cases hkP:k<P
    . have hq:cZ u xd=true:=by rw [hu];exact ZB.out k hkP
      have ZO:Op.bytesLess u.toList xd.toList=true:=hq;subst hax;clear hq hcx hu;go_wp2_with fail;go_quiet (fail);go_wp2;go_roundw
      case rel=>exact ⟨k+1,aE,by go_num,XN.out.drewN nq⟩
      case measure=>simp [intOf];omega
    . obtain rfl:k=P:=by omega
      have hq:cZ u xd=false:=by rw [hu];exact HPA.out JE
      have ZO:Op.bytesLess u.toList xd.toList=false:=hq;have hax2:=DX hax;subst hax;clear hq hcx hu;go_wp2_with fail;go_quiet (fail);have HKN:=DX (XN.out.drewN nq);generalize wx.drewN nq=wq at *;clear ZO c0 c1 c2 a0 a1 a2 hax2;generalize hax2:(some ⟨bx,ox,none⟩:Option Addr)=ax at *;clear hax2;exact MX3
  . obtain rfl:k=P:=by omega
    have hdk:decide (k<l)=false:=DY JE;go_wp2_with fail;go_quiet (fail);have HKN:=DX (XN.out.drewN nq);generalize wx.drewN nq=wq at *;clear a0 a1 a2;exact MX3
theorem Cv (base p:Nat) (hp:base<=p) (s:dN) (o:fV) (wo:World) (Q:eX base wo p s) (hs:dP s=true) (hk:o.k=13) :
 Calls Tryz.prog 80 (PO p o.k o.id o.n o.m o.name o.d o.t) wo (iD base p wo (eZ s o.id)):=by
 obtain ⟨ts,gs,ss,nx⟩:=s;obtain ⟨ok,oi,on,om,GE,od,ot⟩:=o;dsimp only at *;subst hk;have HQ:=DX Q;obtain ⟨aT,cT,aG,cG,aS,cS,hb,oT,oG,oS⟩:=Q.rows;dsimp only at *
 have GY:base<=wo.heap.size:=by have:=hb.lt;omega
 have MG:p<wo.heap.size:=hb.lt;have HP:=DX hb;have LB:=DX (bR hs)
 obtain ⟨XX,GR⟩:∃ XX,XX=(eZ ⟨ts,gs,ss,nx⟩ oi):=⟨_,rfl⟩
 rw [<- GR];have HX:=DX GR;clear GR;obtain ⟨lT,rT,zT,lG,rG,zG,lS,rS,zS,n0,n1⟩:=bR hs;dsimp only at *;have HB:=DX ((EY wo (LO 13 oi on om GE od ot) 35).kept ((EX _).alloc (KR)));have HR:=DX (FB wo LR 47 ((KO 13 oi on om GE od ot)));have HK:=DX (((EX wo).alloc ((KO 13 oi on om GE od ot))).alloc (KR));obtain ⟨_,_,hv,hI⟩:=gO oS rfl aE (fun x hx=>EF (zS x hx) aF);cases hv;have WX:=DX (fun w9 (k:aB wo w9)=>gY (mJ aS cS ss oi w9 (hI.kept k) aE));have OK:=DX oS;have VR:=DX oT;have WW:=DX oG
 by_cases GA:fR ss oi<ss.length
 . rw [show uX ss oi=((fR ss oi:Nat):Int) from if_pos GA] at WX
   have GI:=DX (show eZ ⟨ts,gs,ss,nx⟩ oi=(⟨ts,gs,ss.eraseIdx (fR ss oi),nx⟩,fT) from if_pos GA);clear rT zT rG zG rS zS oT oG oS Q hb hI;clear hs;generalize fR ss oi=z at *;go_enter Tryz.func80,Tryz.ntmps80
   go_upto_region 1 with (fail)
   generalize (wo.alloc ((KO 13 oi on om GE od ot))).alloc (KR)=w1 at *
   have b0:w1.cell? ⟨wo.heap.size,0,none⟩=some (.int .i64 13):=HB.out.cell 0;have b1:w1.cell? ⟨wo.heap.size,1,none⟩=some (.int .i64 oi):=HB.out.cell 1;obtain ⟨r0,r1,r2,r3⟩:=aI (HP.out.kept HK.out)
   go_upto_region 7 with (fail)
   clear b0;replace r0:=aC r0;replace r1:=aC r1;replace r2:=aC r2;replace r3:=aC r3;replace b1:=aC b1;have GX:=DX (fun u:bF w1=>WX.out u.1 (HK.out.trans u.2))
   refine aJ aW aW ?_
   repeat (go_big_quiet_step ((go_at_call 111;exact aK (GX.out _))))
   refine wpQuiet_nil ?_
   intro _ GD;obtain ⟨nq,FT⟩:=GD;subst FT;have FW:=DX (HK.out.trans nq.2);have GK:=DX (HR.out.kept nq.2);have GP:=DX (HB.out.kept nq.2);clear r0 r1 r2 r3 b1 GX;generalize nq.1=w2 at *;have b0:w2.cell? ⟨wo.heap.size,0,none⟩=some (.int .i64 13):=GP.out.cell 0;have hd:decide ((z:Int)<0)=false:=DY aE;have QY:=DX (HQ.out.kept FW.out);obtain ⟨aT4,cT4,aG4,cG4,aS4,cS4,IM,oT4,oG4,oS4⟩:=QY.out.rows;dsimp only at IM oT4 oG4 oS4;have KF:=DX IM;have PG:=DX oS4;obtain ⟨i0,IY,GV,GJ,GO⟩:=kA Tryz.prog BE;have HI:=DX (EC IY (EC GV (EC GJ GO)));obtain ⟨_,_,hv,TA⟩:=gO oS4 rfl aE (fun x hx=>EF (LB.out.zS x hx) aF);cases hv
   obtain ⟨m,hm⟩:∃ m,m=z+1:=⟨_,rfl⟩
   have ZM:m<=ss.length:=by omega
   have HZW:=DX (show IntKind.i64.wrap ((z:Int)+1)=(m:Int) by rw [IntWalk.i64_in _ aE];omega);have NJ:ss.length<=cS4:=iJ oS4;obtain ⟨aq,UU,SQ,NS⟩:=iL oS4 m ZM;rw [eB fJ 2 Ep] at NS;have MK:=DX (fun w9 (kk:aB w2 w9)=>rQ aS4 z cS4 (ss.take z) w9 (uI (TA.kept kk) aE));have JU:=DX (show z+(ss.length - m)=(ss.eraseIdx z).length by rw [List.length_eraseIdx_of_lt aE];omega);have NG:=DX (show (ss.take z).flatMap fJ++(ss.drop m).flatMap fJ=(ss.eraseIdx z).flatMap fJ by rw [List.eraseIdx_eq_take_drop_succ,List.flatMap_append,hm]);have OP:=DX (show base<=w2.heap.size by have:=IM.lt;omega)
   have hzc:z<=cS4:=by omega
   clear hm IY GV GJ GO IM oT4 oG4 oS4 TA;go_wp2_with fail
   have mixed:Tryz.prog.follows Departure.mixedOrders=true:=by kernel_rfl
   have ZQ:=UU.out;have hzw:=HZW.out;obtain ⟨d0,d1,d2,d3⟩:=aI KF.out;go_region_law_o (first | (rw [if_pos (Pj.Ze rfl _)];go_simp;refine (MK.out _ ((EX w2).drew)).mono ?_;rintro e y5 ⟨a5,c5,rfl,JF,OG⟩;have GZ:=((EX w2).drew).trans OG;have IP:=bA JF (EZ ((EX w2).drew));have hp5:=KF.out.kept GZ;obtain ⟨d0,d1,d2,d3⟩:=aI hp5;have LX:=NS.out y5 GZ;try dsimp only) | (refine fG rfl (.tmp 161) (.tmp 168) 24 rfl w2.heap.size 65 i0 (.agg #[.int .i64 0,.string ByteArray.empty]) 2 24 EU HI.out.1 HI.out.2.1 HI.out.2.2.1 HI.out.2.2.2 rfl aF (.slice a5 z c5) z ((ss.take z).flatMap fJ) rfl IP aq (ss.length - m) (cS4 - m) ((ss.drop m).flatMap fJ) rfl SQ.out LX.1 LX.2 (fun u hu=>oQ _ u hu) aE aF GZ.size ?_;intro v9 y9 GS ND;obtain ⟨a6,c6,rfl⟩:=aP GS;have GF:=cD GZ ND (fun q e=>(IP.lt q e).1) (EA _);have KW:=KF.out.kept GF;obtain ⟨d0,d1,d2,d3⟩:=aI KW;have f9:=KW.free 2))
   all_goals
    have QN:=GS;rw [JU.out,NG.out] at QN
    have JB:=(QY.out.kept GF).putS hp (ss.eraseIdx z) (row:=none) ⟨rfl,rfl,rfl,EA _,fun _ _ _=>rfl⟩ dX.none (bA QN OP.out)
    rw [<- JU.out] at JB;have SC:=DX JB.1;have OJ:=DX ((FA GF OP.out).trans JB.2);clear QN JB GS ND IP KW f9 d0 d1 d2 d3;generalize y9.setCell ⟨p,2,none⟩ (.slice a6 (z+(ss.length - m)) c6)=w5 at *;have LC:=DX ((FA FW.out GY).trans OJ.out);have KE:=DX (OJ.out.blk _ _ _ GK.out aE aF aF aF);go_wp2_with (refine aD rfl 47 (.tmp 4) (.tmp 173) rfl (wo.heap.size+1) (bB (fT)) LR 47 rfl rfl KE.out AX rfl (aL _) ?_);exact Ll
 . have GI:=DX (show eZ ⟨ts,gs,ss,nx⟩ oi=(⟨ts,gs,ss,nx⟩,aY 3) from if_neg GA)
   rw [show uX ss oi = -1 from if_neg GA] at WX;clear rT zT rG zG rS zS oT oG oS Q hb hI;clear hs GA;go_enter Tryz.func80,Tryz.ntmps80
   go_upto_region 1 with (fail)
   generalize (wo.alloc ((KO 13 oi on om GE od ot))).alloc (KR)=w1 at *
   have b0:w1.cell? ⟨wo.heap.size,0,none⟩=some (.int .i64 13):=HB.out.cell 0;have b1:w1.cell? ⟨wo.heap.size,1,none⟩=some (.int .i64 oi):=HB.out.cell 1;obtain ⟨r0,r1,r2,r3⟩:=aI (HP.out.kept HK.out)
   go_upto_region 7 with (fail)
   clear b0;replace r0:=aC r0;replace r1:=aC r1;replace r2:=aC r2;replace r3:=aC r3;replace b1:=aC b1;have GX:=DX (fun u:bF w1=>WX.out u.1 (HK.out.trans u.2))
   refine aJ aW aW ?_
   repeat (go_big_quiet_step ((go_at_call 111;exact aK (GX.out _))))
   refine wpQuiet_nil ?_
   intro _ GD;obtain ⟨nq,FT⟩:=GD;subst FT;have FW:=DX (HK.out.trans nq.2);have GK:=DX (HR.out.kept nq.2);have GP:=DX (HB.out.kept nq.2);clear r0 r1 r2 r3 b1 GX;generalize nq.1=w2 at *;have b0:w2.cell? ⟨wo.heap.size,0,none⟩=some (.int .i64 13):=GP.out.cell 0
   have hd:decide ((-1:Int)<0)=true:=by decide
   go_wp2_with (refine aD rfl 47 (.tmp 4) (.tmp 61) rfl (wo.heap.size+1) (bB (aY 3)) LR 47 rfl rfl GK.out AX rfl (aL _) ?_)
   refine EI (v:=bW (aY 3)) ?_ rfl ?_
   . exact xT
   . exact vN
end Go.Proofs.YtkfmladhicapeaaGreatDoor
