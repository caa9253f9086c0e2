import Derived.Test.YtkfmladhicapeaaGreatDoorY14
set_option maxRecDepth 100000
set_option maxHeartbeats 4000000
namespace Go.Proofs.YtkfmladhicapeaaGreatDoor
open Go.RowKit Go.Shelf Go.ChangeShapes Go.WideShapes Go.ChangeAt Go.Joins Go.Deep
attribute [local go_sem] Oper.semAt_some
structure Tg where
 n:ByteArray
 d:ByteArray
def bL:Tg:=⟨ByteArray.empty,ByteArray.empty⟩
structure cJ (W:World) (a:Option Addr) (len:Nat) (ts:List Tg):Prop where
 len_eq:ts.length=len
 le:len<=4398046511104
 sizes:∀ x∈ts,x.n.size<=140737488351232/\x.d.size<=140737488351232
 cells:∃ b off,(0<len->a=some ⟨b,off,none⟩)/\∀ i,i<len->b<W.heap.size/\W.cell? ⟨b,off+i*2,none⟩=some (.string (ts.getD i bL).n)/\W.cell? ⟨b,off+i*2+1,none⟩=some (.string (ts.getD i bL).d)
theorem cJ.kept {W W':World} {a:Option Addr} {len:Nat} {ts:List Tg} (h:cJ W a len ts) (k:aB W W'):cJ W' a len ts:=by
 exact Qd
theorem cJ.size {W:World} {a:Option Addr} {len:Nat} {ts:List Tg} (h:cJ W a len ts) (i:Nat) (hi:i<len):(ts.getD i bL).n.size<=140737488351232/\(ts.getD i bL).d.size<=140737488351232:=by
 exact Rg
theorem cJ.at {W:World} {a:Option Addr} {l:Nat} {ts:List Tg} (h:cJ W a l ts) (hl:0<l):∃ b off,a=some ⟨b,off,none⟩/\∀ i,i<l->∀ w,aB W w ->
 w.cell? ⟨b,off+i*2,none⟩=some (.string (ts.getD i bL).n)/\w.cell? ⟨b,off+i*2+1,none⟩=some (.string (ts.getD i bL).d):=by
 exact Tc
theorem lK (W:World) (a:Option Addr):cJ W a 0 []:=⟨rfl,aE,(fun x hx=>by cases hx),0,0,fun h=>absurd h (EJ 0),fun i hi=>absurd hi (Nat.not_lt_zero i)⟩
def eN (x:Tg):List Value:=[.string x.n,.string x.d]
theorem DB:Tryz.prog.bytesOf 68=32:=by kernel_rfl
theorem CX:Tryz.prog.cellsOf 68=2:=by kernel_rfl
theorem oB:∀ (ts:List Tg) (i:Nat),i<ts.length->(ts.flatMap eN)[i*2]?=some (.string (ts.getD i bL).n)/\(ts.flatMap eN)[i*2+1]?=some (.string (ts.getD i bL).d)
 | [],i,h=>by simp at h
 | x :: r,0,_=>⟨rfl,rfl⟩
 | x :: r,i+1,h=>by
  have:=oB r i (by simpa using h);rw [show (i+1)*2=i*2+2 by omega]
  simpa [List.flatMap_cons,eN,List.getD] using this
theorem pB (ts:List Tg):(ts.flatMap eN).length=ts.length*2:=by
 induction ts with
 | nil=>rfl
 | cons x r ih=>rw [List.flatMap_cons,List.length_append,ih];simp [eN];omega
theorem lP (ts:List Tg):∀ u∈ts.flatMap eN,u.oneCell'=true:=fun u hu=>by
 obtain ⟨x,_,hx⟩:=List.mem_flatMap.1 hu
 simp [eN] at hx
 rcases hx with rfl | rfl <;> rfl
theorem eA {w:World} {base l:Nat} {v:Value} {ts:List Tg} (ho:w.ownsRow base 68 2 v l (ts.flatMap eN)) (hl:ts.length=l) (hf:l<=4398046511104) (hs:∀ x∈ts,x.n.size<=140737488351232/\x.d.size<=140737488351232) :
 ∃ a cap,v=.slice a l cap/\cJ w a l ts:=by
 rcases ho.2 with ⟨rfl,rfl⟩ | ⟨g,cap,cur,rfl,hb,hg,hn,hm,_⟩
 . exact Wi
 . refine ⟨_,cap,rfl,hl,hf,hs,g,0,fun _=>rfl,fun i hi=>?_⟩
   obtain ⟨h0,h1⟩:=oB ts i aE;refine ⟨(ho.lt g rfl).2,?_,?_⟩
   . exact Qh
   . exact Ro
theorem Ji (ts:List Tg) (k:Nat) (h:k<ts.length):(ts.take (k+1)).flatMap eN=(ts.take k).flatMap eN++eN (ts.getD k bL):=by
 exact zV
theorem BC:(Tryz.prog.info? 68).map (fun i=>(i.zero,i.size,i.bytes))=some (some (.agg LE),2,32):=by kernel_rfl
theorem iH (P:Program) (h:(P.info? 68).map (fun i=>(i.zero,i.size,i.bytes))=some (some (.agg LE),2,32)) :
 ∃ i0,P.info? 68=some i0/\i0.zero=some (.agg LE)/\i0.size=2/\i0.bytes=32:=by
 exact Qg
theorem Nn (w:World) (x:Tg) (t:TypeId):∀ j u,(eN x)[j]?=some u->(w.alloc (.cells #[.string x.n,.string x.d] t)).cell? ((⟨w.heap.size,0,none⟩:Addr).add j)=some u:=by
 intro j u hj;rw [show (⟨w.heap.size,0,none⟩:Addr).add j=⟨w.heap.size,j,none⟩ by unfold Addr.add;split <;> simp_all,jN]
 match j,hj with
 | 0,hj=>exact hj
 | 1,hj=>exact hj
 | j+2,hj=>simp [eN] at hj
theorem Wt {H:Type} {enc:TypeId × Value->H} {W:World} {fuel:Nat} {v:Value} {y:DataW H × List MemPlace}
 (h0:DataW.trod enc Tryz.prog W 0 (fun _=>true) true fuel 23 [v]=some y) (hz:∀ n∈y.1.weights Tryz.prog 23,n<=reachBytes):∃ a len cap ts,v=.slice a len cap/\cJ W a len ts:=by
 rcases iW ET Tryz.underlying68 aW CX h0 with ⟨JW,_⟩ | ⟨a,len,cap,m,D,Pl,JW,_,hl,hm,WI,hx,hf⟩
 . simp only [List.cons.injEq,and_true] at JW
   exact ⟨none,0,0,[],JW,lK _ _⟩
 . simp only [List.cons.injEq,and_true] at JW
   simp only [if_true] at WI;subst WI;unfold maxLen at hm
   by_cases hp:0<len
   . obtain ⟨b,off,spot⟩:=a
     have RJ:spot=none:=by
      exact Ph
     subst RJ
     obtain ⟨ts,hrl,hr⟩:=oM bL len (fun i r=>(r.n.size<=140737488351232/\r.d.size<=140737488351232)/\b<W.heap.size/\W.cell? ⟨b,off+i*2,none⟩=some (.string r.n)/\W.cell? ⟨b,off+i*2+1,none⟩=some (.string r.d)) (fun i hi=>by
      obtain ⟨ys,n,hD,_,_,UC⟩:=hf i aE;obtain ⟨v0,y0,RQ,VJ,ht0⟩:=UC 0 _ rfl;obtain ⟨v1,y1,YK,MW,ht1⟩:=UC 1 _ rfl
      have hW:∀ (j:Nat) (t:TypeId) (d:DataW H),(ys.map (·.1))[j]?=some d->(∀ q∈d.weights Tryz.prog t,q∈DataW.weights Tryz.prog 68 (.agg (ys.map (·.1))))->∀ q∈d.weights Tryz.prog t,q<=reachBytes:=fun j t d _ JN q hq=>by
       refine hz q ?_
       rw [hx];simp only [DataW.weights,ET,List.mem_cons,List.mem_append];exact Pw
      have w0:=hW 0 9 y0.1 (by rw [List.getElem?_map,VJ];rfl) (fun q hq=>by
       simp only [DataW.weights,Tryz.underlying68]
       exact DataW.weights_mem_each (j:=0) (t:=9) (d:=y0.1) uN (by rw [List.getElem?_map,VJ];rfl) q hq)
      obtain ⟨f0,KU,hq0,_⟩:=DataW.trod_string EN ht0;rw [hq0] at w0;have s0:=w0 f0.data.toList.length (by simp [DataW.weights]);unfold reachBytes at s0
      have w1:=hW 1 9 y1.1 (by rw [List.getElem?_map,MW];rfl) (fun q hq=>by
       simp only [DataW.weights,Tryz.underlying68]
       exact DataW.weights_mem_each (j:=1) (t:=9) (d:=y1.1) uN (by rw [List.getElem?_map,MW];rfl) q hq)
      obtain ⟨f1,RV,WN,_⟩:=DataW.trod_string EN ht1;rw [WN] at w1;have s1:=w1 f1.data.toList.length (by simp [DataW.weights]);unfold reachBytes at s1;simp only [List.cons.injEq,and_true] at KU RV;subst KU;subst RV;rw [add_plain] at RQ YK;simp only [List.size_toArray,List.length_cons,List.length_nil,Nat.reduceAdd,Nat.add_zero,<- Nat.add_assoc] at RQ YK
      exact ⟨⟨f0,f1⟩,⟨s0,s1⟩,World.block_lt_of_cell? _ _ RQ,RQ,YK⟩)
     have ZH:len*32<=reachBytes:=by
      have:=jY ET (a:=some ⟨b,off,none⟩) (l:=len) (cap:=m) (by rw [<- JW];exact h0) hz;rw [DB] at this;exact this
     exact Ol
   . obtain rfl:len=0:=by omega
     exact ⟨_,0,m,[],JW,lK _ _⟩
theorem Xr (a a':Option Addr) (l cap cap':Nat) (ts:List Tg) (w:World) (h:cJ w a l ts) (h':cJ w a' l ts) :
 Calls Tryz.prog 35 #[.slice a l cap,.slice a' l cap'] w fun e w'=>e=.returned (.bool true)/\aB w w':=by
 have OH:=h.le;have HS:=DX h;have HS':=DX h';clear h h';go_enter Tryz.func35,Tryz.ntmps35;go_wp2_with fail;go_loopw [5] (fun i wr=>∃ k:Nat,k<=l/\i=.int .i64 k/\aB w wr) (fun i _=>l - (intOf i).toNat)
 case atStart=>exact ⟨0,aE,rfl,EX _⟩
 case round =>
  obtain ⟨k,hk,rfl,hK⟩:=hrel;have HK:=DX hK;clear hK
  by_cases FV:k<l
  . have GU:decide (k<l)=true:=DZ FV
    obtain ⟨b,off,rfl,hc⟩:=HS.out.at aE;obtain ⟨b',off',rfl,XC⟩:=HS'.out.at aE;obtain ⟨c0,c1⟩:=hc k FV _ HK.out;obtain ⟨c0',c1'⟩:=XC k FV _ HK.out;generalize ts.getD k bL=x at c0 c0' c1 c1';obtain ⟨x0,x1⟩:=x;dsimp only at c0 c0' c1 c1';clear hc XC
    have hs0:(x0.toList == x0.toList)=true:=by simp
    have VF:(x1.toList == x1.toList)=true:=by simp
    exact Je
  . exact Rq
theorem sD (a:Option Addr) (l cap:Nat) (ts:List Tg) (w:World) (h:cJ w a l ts) :
 Calls Tryz.prog 40 #[.slice a l cap] w fun e w'=>∃ a' cap',e=.returned (.slice a' l cap')/\w'.ownsRow w.heap.size 68 2 (.slice a' l cap') l (ts.flatMap eN)/\aB w w':=by
 obtain ⟨i0,hi,GV,GJ,GO⟩:=iH Tryz.prog BC;have OH:=h.le;have HS:=DX h;have HL:=DX h.len_eq;have HI:=DX (EC hi (EC GV (EC GJ GO)));clear h hi GV GJ GO;go_enter Tryz.func40,Tryz.ntmps40;go_wp2_with fail;go_loopw [3,4] (fun v i wr=>∃ k:Nat,k<=l/\i=.int .i64 k/\wr.ownsRow w.heap.size 68 2 v k ((ts.take k).flatMap eN)/\aB w wr) (fun _ i _=>l - (intOf i).toNat)
 case atStart=>exact Rp
 case round =>
  rename Value=>v3
  obtain ⟨k,hk,rfl,ho,IF⟩:=hrel;have HK:=DX IF;have HO:=DX ho;clear IF
  by_cases FV:k<l
  . have GU:decide (k<l)=true:=DZ FV
    obtain ⟨av,cv,rfl⟩:=aP ho;obtain ⟨b,off,rfl,hc⟩:=HS.out.at aE;obtain ⟨c0,c1⟩:=hc k FV _ HK.out;have IX:=DX (Ji ts k (by rw [HL.out];exact FV))
    obtain ⟨x,hx⟩:∃ x,x=ts.getD k bL:=⟨_,rfl⟩
    rw [<- hx] at c0 c1 IX;have IG:w.heap.size<=wr.heap.size:=HK.out.size;clear hc hx ho;go_wp2_with (at_builtin;refine wpList_append_own_at _ rfl _ _ 23 rfl w.heap.size 68 i0 (.agg LE) 2 32 ET HI.out.1 HI.out.2.1 HI.out.2.2.1 HI.out.2.2.2 rfl aF _ _ _ rfl (aH HO.out ((EX wr).alloc _)) ⟨wr.heap.size,0,none⟩ 1 1 (eN x) rfl rfl ?c1 ?c2 ?c3 ?c4 ?c5 ?_)
    case c1=>exact Nn wr x _
    case c2=>intro u hu;simp [eN] at hu;rcases hu with rfl | rfl <;> rfl
    case c3=>unfold maxLen;omega
    case c4=>omega
    case c5=>simp;omega
    exact Ut
  . obtain rfl:l=k:=by omega
    have GU:decide (l<l)=false:=DY aE;obtain ⟨av,cv,rfl⟩:=aP ho;have HE:=DX (show (ts.take l).flatMap eN=ts.flatMap eN by rw [EE (by rw [HL.out];omega)]);exact In
structure Se where
 i:Int
 t:ByteArray
def bQ:Se:=⟨0,ByteArray.empty⟩
structure cP (W:World) (a:Option Addr) (len:Nat) (ts:List Se):Prop where
 len_eq:ts.length=len
 le:len<=5864062014805
 sizes:∀ x∈ts,x.t.size<=140737488351232
 cells:∃ b off,(0<len->a=some ⟨b,off,none⟩)/\∀ i,i<len->b<W.heap.size/\W.cell? ⟨b,off+i*2,none⟩=some (.int .i64 (ts.getD i bQ).i)/\W.cell? ⟨b,off+i*2+1,none⟩=some (.string (ts.getD i bQ).t)
theorem cP.kept {W W':World} {a:Option Addr} {len:Nat} {ts:List Se} (h:cP W a len ts) (k:aB W W'):cP W' a len ts:=by
 exact Qd
theorem cP.size {W:World} {a:Option Addr} {len:Nat} {ts:List Se} (h:cP W a len ts) (i:Nat) (hi:i<len):(ts.getD i bQ).t.size<=140737488351232:=by
 exact Rg
theorem cP.at {W:World} {a:Option Addr} {l:Nat} {ts:List Se} (h:cP W a l ts) (hl:0<l):∃ b off,a=some ⟨b,off,none⟩/\∀ i,i<l->∀ w,aB W w ->
 w.cell? ⟨b,off+i*2,none⟩=some (.int .i64 (ts.getD i bQ).i)/\w.cell? ⟨b,off+i*2+1,none⟩=some (.string (ts.getD i bQ).t):=by
 exact Tc
theorem jH (W:World) (a:Option Addr):cP W a 0 []:=⟨rfl,aE,(fun x hx=>by cases hx),0,0,fun h=>absurd h (EJ 0),fun i hi=>absurd hi (Nat.not_lt_zero i)⟩
def fJ (x:Se):List Value:=[.int .i64 x.i,.string x.t]
theorem DL:Tryz.prog.bytesOf 65=24:=by kernel_rfl
theorem DC:Tryz.prog.cellsOf 65=2:=by kernel_rfl
theorem nP:∀ (ts:List Se) (i:Nat),i<ts.length->(ts.flatMap fJ)[i*2]?=some (.int .i64 (ts.getD i bQ).i)/\(ts.flatMap fJ)[i*2+1]?=some (.string (ts.getD i bQ).t)
 | [],i,h=>by simp at h
 | x :: r,0,_=>⟨rfl,rfl⟩
 | x :: r,i+1,h=>by
  have:=nP r i (by simpa using h);rw [show (i+1)*2=i*2+2 by omega]
  simpa [List.flatMap_cons,fJ,List.getD] using this
theorem rP (ts:List Se):(ts.flatMap fJ).length=ts.length*2:=by
 induction ts with
 | nil=>rfl
 | cons x r ih=>rw [List.flatMap_cons,List.length_append,ih];simp [fJ];omega
theorem oQ (ts:List Se):∀ u∈ts.flatMap fJ,u.oneCell'=true:=fun u hu=>by
 obtain ⟨x,_,hx⟩:=List.mem_flatMap.1 hu
 simp [fJ] at hx
 rcases hx with rfl | rfl <;> rfl
theorem gO {w:World} {base l:Nat} {v:Value} {ts:List Se} (ho:w.ownsRow base 65 2 v l (ts.flatMap fJ)) (hl:ts.length=l) (hf:l<=5864062014805) (hs:∀ x∈ts,x.t.size<=140737488351232) :
 ∃ a cap,v=.slice a l cap/\cP w a l ts:=by
 rcases ho.2 with ⟨rfl,rfl⟩ | ⟨g,cap,cur,rfl,hb,hg,hn,hm,_⟩
 . exact Wi
 . refine ⟨_,cap,rfl,hl,hf,hs,g,0,fun _=>rfl,fun i hi=>?_⟩
   obtain ⟨h0,h1⟩:=nP ts i aE;refine ⟨(ho.lt g rfl).2,?_,?_⟩
   . exact Qh
   . exact Ro
theorem Kf (ts:List Se) (k:Nat) (h:k<ts.length):(ts.take (k+1)).flatMap fJ=(ts.take k).flatMap fJ++fJ (ts.getD k bQ):=by
 exact zV
theorem BE:(Tryz.prog.info? 65).map (fun i=>(i.zero,i.size,i.bytes))=some (some (.agg #[.int .i64 0,.string ByteArray.empty]),2,24):=by kernel_rfl
theorem kA (P:Program) (h:(P.info? 65).map (fun i=>(i.zero,i.size,i.bytes))=some (some (.agg #[.int .i64 0,.string ByteArray.empty]),2,24)) :
 ∃ i0,P.info? 65=some i0/\i0.zero=some (.agg #[.int .i64 0,.string ByteArray.empty])/\i0.size=2/\i0.bytes=24:=by
 exact Qg
theorem yB (w:World) (x:Se) (t:TypeId):∀ j u,(fJ x)[j]?=some u->(w.alloc (.cells #[.int .i64 x.i,.string x.t] t)).cell? ((⟨w.heap.size,0,none⟩:Addr).add j)=some u:=by
 intro j u hj;rw [show (⟨w.heap.size,0,none⟩:Addr).add j=⟨w.heap.size,j,none⟩ by unfold Addr.add;split <;> simp_all,jN]
 match j,hj with
 | 0,hj=>exact hj
 | 1,hj=>exact hj
 | j+2,hj=>simp [fJ] at hj
theorem Xl {H:Type} {enc:TypeId × Value->H} {W:World} {fuel:Nat} {v:Value} {y:DataW H × List MemPlace}
 (h0:DataW.trod enc Tryz.prog W 0 (fun _=>true) true fuel 24 [v]=some y) (hz:∀ n∈y.1.weights Tryz.prog 24,n<=reachBytes):∃ a len cap ts,v=.slice a len cap/\cP W a len ts:=by
 rcases iW EU Tryz.underlying65 aW DC h0 with ⟨JW,_⟩ | ⟨a,len,cap,m,D,Pl,JW,_,hl,hm,WI,hx,hf⟩
 . simp only [List.cons.injEq,and_true] at JW
   exact ⟨none,0,0,[],JW,jH _ _⟩
 . simp only [List.cons.injEq,and_true] at JW
   simp only [if_true] at WI;subst WI;unfold maxLen at hm
   by_cases hp:0<len
   . obtain ⟨b,off,spot⟩:=a
     have RJ:spot=none:=by
      exact Ph
     subst RJ
     obtain ⟨ts,hrl,hr⟩:=oM bQ len (fun i r=>(r.t.size<=140737488351232)/\b<W.heap.size/\W.cell? ⟨b,off+i*2,none⟩=some (.int .i64 r.i)/\W.cell? ⟨b,off+i*2+1,none⟩=some (.string r.t)) (fun i hi=>by
      obtain ⟨ys,n,hD,_,_,UC⟩:=hf i aE;obtain ⟨v0,y0,RQ,VJ,ht0⟩:=UC 0 _ rfl;obtain ⟨v1,y1,YK,MW,ht1⟩:=UC 1 _ rfl
      have hW:∀ (j:Nat) (t:TypeId) (d:DataW H),(ys.map (·.1))[j]?=some d->(∀ q∈d.weights Tryz.prog t,q∈DataW.weights Tryz.prog 65 (.agg (ys.map (·.1))))->∀ q∈d.weights Tryz.prog t,q<=reachBytes:=fun j t d _ JN q hq=>by
       refine hz q ?_
       rw [hx];simp only [DataW.weights,EU,List.mem_cons,List.mem_append];exact Pw
      obtain ⟨f0,KU,_,_⟩:=DataW.trod_int EK ht0
      have w1:=hW 1 9 y1.1 (by rw [List.getElem?_map,MW];rfl) (fun q hq=>by
       simp only [DataW.weights,Tryz.underlying65]
       exact DataW.weights_mem_each (j:=1) (t:=9) (d:=y1.1) uN (by rw [List.getElem?_map,MW];rfl) q hq)
      obtain ⟨f1,RV,WN,_⟩:=DataW.trod_string EN ht1;rw [WN] at w1;have s1:=w1 f1.data.toList.length (by simp [DataW.weights]);unfold reachBytes at s1;simp only [List.cons.injEq,and_true] at KU RV;subst KU;subst RV;rw [add_plain] at RQ YK;simp only [List.size_toArray,List.length_cons,List.length_nil,Nat.reduceAdd,Nat.add_zero,<- Nat.add_assoc] at RQ YK
      exact ⟨⟨f0,f1⟩,s1,World.block_lt_of_cell? _ _ RQ,RQ,YK⟩)
     have ZH:len*24<=reachBytes:=by
      have:=jY EU (a:=some ⟨b,off,none⟩) (l:=len) (cap:=m) (by rw [<- JW];exact h0) hz;rw [DL] at this;exact this
     exact Ol
   . obtain rfl:len=0:=by omega
     exact ⟨_,0,m,[],JW,jH _ _⟩
theorem Wn (a a':Option Addr) (l cap cap':Nat) (ts:List Se) (w:World) (h:cP w a l ts) (h':cP w a' l ts) :
 Calls Tryz.prog 54 #[.slice a l cap,.slice a' l cap'] w fun e w'=>e=.returned (.bool true)/\aB w w':=by
 have OH:=h.le;have HS:=DX h;have HS':=DX h';clear h h';go_enter Tryz.func54,Tryz.ntmps54;go_wp2_with fail;go_loopw [5] (fun i wr=>∃ k:Nat,k<=l/\i=.int .i64 k/\aB w wr) (fun i _=>l - (intOf i).toNat)
 case atStart=>exact ⟨0,aE,rfl,EX _⟩
 case round =>
  obtain ⟨k,hk,rfl,hK⟩:=hrel;have HK:=DX hK;clear hK
  by_cases FV:k<l
  . have GU:decide (k<l)=true:=DZ FV
    obtain ⟨b,off,rfl,hc⟩:=HS.out.at aE;obtain ⟨b',off',rfl,XC⟩:=HS'.out.at aE;obtain ⟨c0,c1⟩:=hc k FV _ HK.out;obtain ⟨c0',c1'⟩:=XC k FV _ HK.out;generalize ts.getD k bQ=x at c0 c0' c1 c1';obtain ⟨x0,x1⟩:=x;dsimp only at c0 c0' c1 c1';clear hc XC
    have hs0:(x0 == x0)=true:=by simp
    have VF:(x1.toList == x1.toList)=true:=by simp
    exact Je
  . exact Rq
theorem rQ (a:Option Addr) (l cap:Nat) (ts:List Se) (w:World) (h:cP w a l ts) :
 Calls Tryz.prog 41 #[.slice a l cap] w fun e w'=>∃ a' cap',e=.returned (.slice a' l cap')/\w'.ownsRow w.heap.size 65 2 (.slice a' l cap') l (ts.flatMap fJ)/\aB w w':=by
 obtain ⟨i0,hi,GV,GJ,GO⟩:=kA Tryz.prog BE;have OH:=h.le;have HS:=DX h;have HL:=DX h.len_eq;have HI:=DX (EC hi (EC GV (EC GJ GO)));clear h hi GV GJ GO;go_enter Tryz.func41,Tryz.ntmps41;go_wp2_with fail;go_loopw [3,4] (fun v i wr=>∃ k:Nat,k<=l/\i=.int .i64 k/\wr.ownsRow w.heap.size 65 2 v k ((ts.take k).flatMap fJ)/\aB w wr) (fun _ i _=>l - (intOf i).toNat)
 case atStart=>exact Rp
 case round =>
  rename Value=>v3
  obtain ⟨k,hk,rfl,ho,IF⟩:=hrel;have HK:=DX IF;have HO:=DX ho;clear IF
  by_cases FV:k<l
  . have GU:decide (k<l)=true:=DZ FV
    obtain ⟨av,cv,rfl⟩:=aP ho;obtain ⟨b,off,rfl,hc⟩:=HS.out.at aE;obtain ⟨c0,c1⟩:=hc k FV _ HK.out;have IX:=DX (Kf ts k (by rw [HL.out];exact FV))
    obtain ⟨x,hx⟩:∃ x,x=ts.getD k bQ:=⟨_,rfl⟩
    rw [<- hx] at c0 c1 IX;have IG:w.heap.size<=wr.heap.size:=HK.out.size;clear hc hx ho;go_wp2_with (at_builtin;refine wpList_append_own_at _ rfl _ _ 24 rfl w.heap.size 65 i0 (.agg #[.int .i64 0,.string ByteArray.empty]) 2 24 EU HI.out.1 HI.out.2.1 HI.out.2.2.1 HI.out.2.2.2 rfl aF _ _ _ rfl (aH HO.out ((EX wr).alloc _)) ⟨wr.heap.size,0,none⟩ 1 1 (fJ x) rfl rfl ?c1 ?c2 ?c3 ?c4 ?c5 ?_)
    case c1=>exact yB wr x _
    case c2=>intro u hu;simp [fJ] at hu;rcases hu with rfl | rfl <;> rfl
    case c3=>unfold maxLen;omega
    case c4=>omega
    case c5=>simp;omega
    exact Ut
  . obtain rfl:l=k:=by omega
    have GU:decide (l<l)=false:=DY aE;obtain ⟨av,cv,rfl⟩:=aP ho;have HE:=DX (show (ts.take l).flatMap fJ=ts.flatMap fJ by rw [EE (by rw [HL.out];omega)]);exact In
structure fV where
 k:Int
 id:Int
 n:Int
 m:Int
 name:ByteArray
 d:ByteArray
 t:ByteArray
def jA:fV:=⟨0,0,0,0,ByteArray.empty,ByteArray.empty,ByteArray.empty⟩
structure iG (W:World) (a:Option Addr) (len:Nat) (ts:List fV):Prop where
 len_eq:ts.length=len
 le:len<=1759218604441
 sizes:∀ x∈ts,x.name.size<=140737488351232/\x.d.size<=140737488351232/\x.t.size<=140737488351232
 cells:∃ b off,(0<len->a=some ⟨b,off,none⟩)/\∀ i,i<len->b<W.heap.size/\W.cell? ⟨b,off+i*7,none⟩=some (.int .i64 (ts.getD i jA).k)/\W.cell? ⟨b,off+i*7+1,none⟩=some (.int .i64 (ts.getD i jA).id)/\W.cell? ⟨b,off+i*7+2,none⟩=some (.int .i64 (ts.getD i jA).n)/\W.cell? ⟨b,off+i*7+3,none⟩=some (.int .i64 (ts.getD i jA).m)/\W.cell? ⟨b,off+i*7+4,none⟩=some (.string (ts.getD i jA).name)/\W.cell? ⟨b,off+i*7+5,none⟩=some (.string (ts.getD i jA).d)/\W.cell? ⟨b,off+i*7+6,none⟩=some (.string (ts.getD i jA).t)
theorem iG.kept {W W':World} {a:Option Addr} {len:Nat} {ts:List fV} (h:iG W a len ts) (k:aB W W'):iG W' a len ts:=by
 obtain ⟨b,off,ha,hc⟩:=h.cells;refine ⟨h.len_eq,h.le,h.sizes,b,off,ha,fun i hi=>?_⟩;obtain ⟨h0,c0,c1,c2,c3,c4,c5,c6⟩:=hc i hi;exact ⟨EG h0 k.size,k.cell h0 c0,k.cell h0 c1,k.cell h0 c2,k.cell h0 c3,k.cell h0 c4,k.cell h0 c5,k.cell h0 c6⟩
theorem iG.size {W:World} {a:Option Addr} {len:Nat} {ts:List fV} (h:iG W a len ts) (i:Nat) (hi:i<len):(ts.getD i jA).name.size<=140737488351232/\(ts.getD i jA).d.size<=140737488351232/\(ts.getD i jA).t.size<=140737488351232:=by
 exact Rg
theorem iG.at {W:World} {a:Option Addr} {l:Nat} {ts:List fV} (h:iG W a l ts) (hl:0<l):∃ b off,a=some ⟨b,off,none⟩/\∀ i,i<l->∀ w,aB W w ->
 w.cell? ⟨b,off+i*7,none⟩=some (.int .i64 (ts.getD i jA).k)/\w.cell? ⟨b,off+i*7+1,none⟩=some (.int .i64 (ts.getD i jA).id)/\w.cell? ⟨b,off+i*7+2,none⟩=some (.int .i64 (ts.getD i jA).n)/\w.cell? ⟨b,off+i*7+3,none⟩=some (.int .i64 (ts.getD i jA).m)/\w.cell? ⟨b,off+i*7+4,none⟩=some (.string (ts.getD i jA).name)/\w.cell? ⟨b,off+i*7+5,none⟩=some (.string (ts.getD i jA).d)/\w.cell? ⟨b,off+i*7+6,none⟩=some (.string (ts.getD i jA).t):=by
 obtain ⟨b,off,ha,hc⟩:=h.cells;refine ⟨b,off,ha hl,fun i hi w kk=>?_⟩;obtain ⟨h0,c0,c1,c2,c3,c4,c5,c6⟩:=hc i hi;exact ⟨kk.cell h0 c0,kk.cell h0 c1,kk.cell h0 c2,kk.cell h0 c3,kk.cell h0 c4,kk.cell h0 c5,kk.cell h0 c6⟩
theorem Mu (W:World) (a:Option Addr):iG W a 0 []:=⟨rfl,aE,(fun x hx=>by cases hx),0,0,fun h=>absurd h (EJ 0),fun i hi=>absurd hi (Nat.not_lt_zero i)⟩
def opC (x:fV):List Value:=[.int .i64 x.k,.int .i64 x.id,.int .i64 x.n,.int .i64 x.m,.string x.name,.string x.d,.string x.t]
theorem CM:Tryz.prog.bytesOf 35=80:=by kernel_rfl
theorem CS:Tryz.prog.cellsOf 35=7:=by kernel_rfl
theorem opC_at:∀ (ts:List fV) (i:Nat),i<ts.length->(ts.flatMap opC)[i*7]?=some (.int .i64 (ts.getD i jA).k)/\(ts.flatMap opC)[i*7+1]?=some (.int .i64 (ts.getD i jA).id)/\(ts.flatMap opC)[i*7+2]?=some (.int .i64 (ts.getD i jA).n)/\(ts.flatMap opC)[i*7+3]?=some (.int .i64 (ts.getD i jA).m)/\(ts.flatMap opC)[i*7+4]?=some (.string (ts.getD i jA).name)/\(ts.flatMap opC)[i*7+5]?=some (.string (ts.getD i jA).d)/\(ts.flatMap opC)[i*7+6]?=some (.string (ts.getD i jA).t)
 | [],i,h=>by simp at h
 | x :: r,0,_=>⟨rfl,rfl,rfl,rfl,rfl,rfl,rfl⟩
 | x :: r,i+1,h=>by
  have:=opC_at r i (by simpa using h);rw [show (i+1)*7=i*7+7 by omega]
  simpa [List.flatMap_cons,opC,List.getD] using this
theorem opC_one (ts:List fV):∀ u∈ts.flatMap opC,u.oneCell'=true:=fun u hu=>by
 obtain ⟨x,_,hx⟩:=List.mem_flatMap.1 hu
 simp [opC] at hx
 rcases hx with rfl | rfl | rfl | rfl | rfl | rfl | rfl <;> rfl
theorem op_own {w:World} {base l:Nat} {v:Value} {ts:List fV} (ho:w.ownsRow base 35 7 v l (ts.flatMap opC)) (hl:ts.length=l) (hf:l<=1759218604441) (hs:∀ x∈ts,x.name.size<=140737488351232/\x.d.size<=140737488351232/\x.t.size<=140737488351232) :
 ∃ a cap,v=.slice a l cap/\iG w a l ts:=by
 rcases ho.2 with ⟨rfl,rfl⟩ | ⟨g,cap,cur,rfl,hb,hg,hn,hm,_⟩
 . exact Wi
 . refine ⟨_,cap,rfl,hl,hf,hs,g,0,fun _=>rfl,fun i hi=>?_⟩
   obtain ⟨h0,h1,h2,h3,h4,h5,h6⟩:=opC_at ts i aE;refine ⟨(ho.lt g rfl).2,?_,?_,?_,?_,?_,?_,?_⟩
   . exact Qh
   . exact Ro
   . rw [Nat.zero_add,ho.cellAt _ aE,h2]
   . rw [Nat.zero_add,ho.cellAt _ aE,h3]
   . rw [Nat.zero_add,ho.cellAt _ aE,h4]
   . rw [Nat.zero_add,ho.cellAt _ aE,h5]
   . rw [Nat.zero_add,ho.cellAt _ aE,h6]
theorem DE:(Tryz.prog.info? 35).map (fun i=>(i.zero,i.size,i.bytes))=some (some (.agg (LO 0 0 0 0 ByteArray.empty ByteArray.empty ByteArray.empty)),7,80):=by kernel_rfl
theorem info_op (P:Program) (h:(P.info? 35).map (fun i=>(i.zero,i.size,i.bytes))=some (some (.agg (LO 0 0 0 0 ByteArray.empty ByteArray.empty ByteArray.empty)),7,80)) :
 ∃ i0,P.info? 35=some i0/\i0.zero=some (.agg (LO 0 0 0 0 ByteArray.empty ByteArray.empty ByteArray.empty))/\i0.size=7/\i0.bytes=80:=by
 exact Qg
theorem opC_new (w:World) (x:fV) (t:TypeId):∀ j u,(opC x)[j]?=some u->(w.alloc (.cells (LO x.k x.id x.n x.m x.name x.d x.t) t)).cell? ((⟨w.heap.size,0,none⟩:Addr).add j)=some u:=by
 intro j u hj;rw [show (⟨w.heap.size,0,none⟩:Addr).add j=⟨w.heap.size,j,none⟩ by unfold Addr.add;split <;> simp_all,jN]
 match j,hj with
 | 0,hj=>exact hj
 | 1,hj=>exact hj
 | 2,hj=>exact hj
 | 3,hj=>exact hj
 | 4,hj=>exact hj
 | 5,hj=>exact hj
 | 6,hj=>exact hj
 | j+7,hj=>simp [opC] at hj
theorem Yq {H:Type} {enc:TypeId × Value->H} {W:World} {fuel:Nat} {v:Value} {y:DataW H × List MemPlace}
 (h0:DataW.trod enc Tryz.prog W 0 (fun _=>true) true fuel 27 [v]=some y) (hz:∀ n∈y.1.weights Tryz.prog 27,n<=reachBytes):∃ a len cap ts,v=.slice a len cap/\iG W a len ts:=by
 rcases iW Tryz.underlying27 Tryz.underlying35 aW CS h0 with ⟨JW,_⟩ | ⟨a,len,cap,m,D,Pl,JW,_,hl,hm,WI,hx,hf⟩
 . simp only [List.cons.injEq,and_true] at JW
   exact ⟨none,0,0,[],JW,Mu _ _⟩
 . simp only [List.cons.injEq,and_true] at JW
   simp only [if_true] at WI;subst WI;unfold maxLen at hm
   by_cases hp:0<len
   . obtain ⟨b,off,spot⟩:=a
     have RJ:spot=none:=by
      exact Ph
     subst RJ
     obtain ⟨ts,hrl,hr⟩:=oM jA len (fun i r=>(r.name.size<=140737488351232/\r.d.size<=140737488351232/\r.t.size<=140737488351232)/\b<W.heap.size/\W.cell? ⟨b,off+i*7,none⟩=some (.int .i64 r.k)/\W.cell? ⟨b,off+i*7+1,none⟩=some (.int .i64 r.id)/\W.cell? ⟨b,off+i*7+2,none⟩=some (.int .i64 r.n)/\W.cell? ⟨b,off+i*7+3,none⟩=some (.int .i64 r.m)/\W.cell? ⟨b,off+i*7+4,none⟩=some (.string r.name)/\W.cell? ⟨b,off+i*7+5,none⟩=some (.string r.d)/\W.cell? ⟨b,off+i*7+6,none⟩=some (.string r.t)) (fun i hi=>by
      obtain ⟨ys,n,hD,_,_,UC⟩:=hf i aE;obtain ⟨v0,y0,RQ,VJ,ht0⟩:=UC 0 _ rfl;obtain ⟨v1,y1,YK,MW,ht1⟩:=UC 1 _ rfl;obtain ⟨v2,y2,hc2,hy2,ht2⟩:=UC 2 _ rfl;obtain ⟨v3,y3,PR,hy3,ht3⟩:=UC 3 _ rfl;obtain ⟨v4,y4,hc4,hy4,ht4⟩:=UC 4 _ rfl;obtain ⟨v5,y5,hc5,hy5,ht5⟩:=UC 5 _ rfl;obtain ⟨v6,y6,VA,hy6,ht6⟩:=UC 6 _ rfl
      have hW:∀ (j:Nat) (t:TypeId) (d:DataW H),(ys.map (·.1))[j]?=some d->(∀ q∈d.weights Tryz.prog t,q∈DataW.weights Tryz.prog 35 (.agg (ys.map (·.1))))->∀ q∈d.weights Tryz.prog t,q<=reachBytes:=fun j t d _ JN q hq=>by
       refine hz q ?_
       rw [hx];simp only [DataW.weights,Tryz.underlying27,List.mem_cons,List.mem_append];exact Pw
      obtain ⟨f0,KU,_,_⟩:=DataW.trod_int EK ht0;obtain ⟨f1,RV,_,_⟩:=DataW.trod_int EK ht1;obtain ⟨f2,VG,_,_⟩:=DataW.trod_int EK ht2;obtain ⟨f3,hv3,_,_⟩:=DataW.trod_int EK ht3
      have w4:=hW 4 9 y4.1 (by rw [List.getElem?_map,hy4];rfl) (fun q hq=>by
       simp only [DataW.weights,Tryz.underlying35]
       exact DataW.weights_mem_each (j:=4) (t:=9) (d:=y4.1) uN (by rw [List.getElem?_map,hy4];rfl) q hq)
      obtain ⟨f4,hv4,MB,_⟩:=DataW.trod_string EN ht4;rw [MB] at w4;have s4:=w4 f4.data.toList.length (by simp [DataW.weights]);unfold reachBytes at s4
      have w5:=hW 5 9 y5.1 (by rw [List.getElem?_map,hy5];rfl) (fun q hq=>by
       simp only [DataW.weights,Tryz.underlying35]
       exact DataW.weights_mem_each (j:=5) (t:=9) (d:=y5.1) uN (by rw [List.getElem?_map,hy5];rfl) q hq)
      obtain ⟨f5,VH,UJ,_⟩:=DataW.trod_string EN ht5;rw [UJ] at w5;have s5:=w5 f5.data.toList.length (by simp [DataW.weights]);unfold reachBytes at s5
      have w6:=hW 6 9 y6.1 (by rw [List.getElem?_map,hy6];rfl) (fun q hq=>by
       simp only [DataW.weights,Tryz.underlying35]
       exact DataW.weights_mem_each (j:=6) (t:=9) (d:=y6.1) uN (by rw [List.getElem?_map,hy6];rfl) q hq)
      obtain ⟨f6,hv6,hq6,_⟩:=DataW.trod_string EN ht6;rw [hq6] at w6;have s6:=w6 f6.data.toList.length (by simp [DataW.weights]);unfold reachBytes at s6;simp only [List.cons.injEq,and_true] at KU RV VG hv3 hv4 VH hv6;subst KU;subst RV;subst VG;subst hv3;subst hv4;subst VH;subst hv6;rw [add_plain] at RQ YK hc2 PR hc4 hc5 VA;simp only [List.size_toArray,List.length_cons,List.length_nil,Nat.reduceAdd,Nat.add_zero,<- Nat.add_assoc] at RQ YK hc2 PR hc4 hc5 VA
      exact ⟨⟨f0,f1,f2,f3,f4,f5,f6⟩,⟨s4,s5,s6⟩,World.block_lt_of_cell? _ _ RQ,RQ,YK,hc2,PR,hc4,hc5,VA⟩)
     have ZH:len*80<=reachBytes:=by
      have:=jY Tryz.underlying27 (a:=some ⟨b,off,none⟩) (l:=len) (cap:=m) (by rw [<- JW];exact h0) hz;rw [CM] at this;exact this
     exact Ol
   . obtain rfl:len=0:=by omega
     exact ⟨_,0,m,[],JW,Mu _ _⟩
end Go.Proofs.YtkfmladhicapeaaGreatDoor
namespace Go.Proofs.YtkfmladhicapeaaGreatDoor
open Go.RowKit Go.Shelf
attribute [local go_sem] Oper.semAt_some
noncomputable def qP (s:ByteArray):Value:=if dV s=true then .tuple (LT (aR s) (gJ s) true) else .tuple #[.string ⟨#[]⟩,.string ⟨#[]⟩,.bool false]
theorem pY (s:ByteArray) (h:dV s=false):qP s=.tuple #[.string ⟨#[]⟩,.string ⟨#[]⟩,.bool false]:=by unfold qP;rw [h];rfl
theorem sQ (s:ByteArray) (h:dV s=true):qP s=.tuple (LT (aR s) (gJ s) true):=by unfold qP;rw [if_pos h]
theorem gT {W:World} {b:Nat} {x v:Value} {t:TypeId} (h:aA W b #[x] t):aA (W.setCell ⟨b,0,none⟩ v) b #[v] t:=by have:=h.set (i:=0) v;simpa using this
theorem cV {W:World} {b b':Nat} {v:Value} {C:Array Value} {t:TypeId} (h:aA W b C t) (GW:b≠b'):aA (W.setCell ⟨b',0,none⟩ v) b C t :=
 (Below.heap_setCell W ⟨b',0,none⟩ v b GW).trans h
structure cE (wo:World) (p:Nat) (a b:ByteArray) (c:Bool) (W:World):Prop where
 x:aA W p #[.string a] 9
 y:aA W (p+1) #[.string b] 9
 z:aA W (p+2) #[.bool c] 4
 k:aB wo W
 p:wo.heap.size<=p
theorem cE.kept {wo W W':World} {p:Nat} {a b:ByteArray} {c:Bool} (h:cE wo p a b c W) (k:aB W W'):cE wo p a b c W':=⟨h.x.kept k,h.y.kept k,h.z.kept k,h.k.trans k,h.p⟩
theorem cE.setX {wo W:World} {p:Nat} {a b:ByteArray} {c:Bool} (h:cE wo p a b c W) (a':ByteArray):cE wo p a' b c (W.setCell ⟨p,0,none⟩ (.string a')) :=
 ⟨gT h.x,cV h.y aE,cV h.z aE,h.k.setCell (p:=⟨p,0,none⟩) h.p _,h.p⟩
theorem cE.setY {wo W:World} {p:Nat} {a b:ByteArray} {c:Bool} (h:cE wo p a b c W) (b':ByteArray):cE wo p a b' c (W.setCell ⟨p+1,0,none⟩ (.string b')) :=
 ⟨cV h.x aE,gT h.y,cV h.z aE,h.k.setCell (p:=⟨p+1,0,none⟩) (by have:=h.p;show wo.heap.size<=p+1;omega) _,h.p⟩
theorem cE.setZ {wo W:World} {p:Nat} {a b:ByteArray} {c:Bool} (h:cE wo p a b c W) (c':Bool):cE wo p a b c' (W.setCell ⟨p+2,0,none⟩ (.bool c')) :=
 ⟨cV h.x aE,cV h.y aE,gT h.z,h.k.setCell (p:=⟨p+2,0,none⟩) (by have:=h.p;show wo.heap.size<=p+2;omega) _,h.p⟩
theorem cE.cells {wo W:World} {p:Nat} {a b:ByteArray} {c:Bool} (h:cE wo p a b c W):(W.cell? ⟨p,0,none⟩=some (.string a)/\W.cell? ⟨p+1,0,none⟩=some (.string b)/\W.cell? ⟨p+2,0,none⟩=some (.bool c))/\(W.frozen? ⟨p,0,none⟩=false/\W.frozen? ⟨p+1,0,none⟩=false/\W.frozen? ⟨p+2,0,none⟩=false) :=
 ⟨⟨fC h.x,fC h.y,fC h.z⟩,h.x.free 0,h.y.free 0,h.z.free 0⟩
theorem cE.new (wo:World):cE wo wo.heap.size ⟨#[]⟩ ⟨#[]⟩ false (((wo.alloc (.cells #[.string ⟨#[]⟩] 9)).alloc (.cells #[.string ⟨#[]⟩] 9)).alloc (.cells #[.bool false] 4)) :=
 ⟨(EY wo _ _).kept (((EX _).alloc _).alloc _),(FB wo #[.string ⟨#[]⟩] 9 _).kept ((EX _).alloc _),by
  have h:=FB (wo.alloc (.cells #[.string ⟨#[]⟩] 9)) #[.bool false] 4 (.cells #[.string ⟨#[]⟩] 9)
  simpa using h,(((EX wo).alloc _).alloc _).alloc _,EA _⟩
theorem tT (s:ByteArray) (m:Int) (wo:World) (hs:s.size<=1000000) (hm:wo.cell? ⟨2,0,none⟩=some (.int .i64 m)) (hg:2<wo.heap.size) (hb:dV s=false) (hw:40<s.size\/(kU s=true/\fQ (iO s).data.toList=false)) :
 Calls Tryz.prog 121 #[.string s] wo fun e w'=>e=.returned (qP s)/\aB wo w':=by
 rw [pY s hb];have HG:=DX (fun w (k:aB wo w)=>show w.cell? ⟨2,0,none⟩=some (.int .i64 m) from k.cell hg hm);have RP:=DX (fun w=>tQ (iO s) w (by have:=qD s;omega));have HC1:=DX (cE.new wo);clear hm hg;go_enter Tryz.func121,Tryz.ntmps121
 go_upto_region 1 with (fail)
 generalize ((wo.alloc (.cells #[.string ⟨#[]⟩] 9)).alloc (.cells #[.string ⟨#[]⟩] 9)).alloc (.cells #[.bool false] 4)=w1 at *
 have aBU:wo.heap.size+1+1=wo.heap.size+2:=rfl;rw [aBU];clear aBU;generalize hp:wo.heap.size=p at HC1 ⊢;clear hp;go_wp2_with fail
 refine (Lk s m _ aE (HG.out _ HC1.out.k)).mono ?_
 rintro e w2 ⟨rfl,FX⟩;have YY:=DX (HC1.out.kept FX);clear FX;obtain ⟨⟨c0,c1,c2⟩,f0,f1,f2⟩:=YY.out.cells
 go_upto_region 2 with (fail)
 have TP:=DX ((YY.out.setX (aR s)).setY (iO s));clear c0 c1 c2 f0 f1 f2
 generalize (w2.setCell ⟨p,0,none⟩ (.string (aR s))).setCell ⟨p+1,0,none⟩ (.string (iO s))=w3 at *
 by_cases ZH:s.size<=40
 . have GU:decide ((40:Int)<s.size)=false:=DY aE
   obtain ⟨hh,hv⟩:kU s=true/\fQ (iO s).data.toList=false:=by
    rcases hw with h | h
    . omega
    . exact h
   rw [hh];obtain ⟨⟨c0,c1,c2⟩,f0,f1,f2⟩:=TP.out.cells;go_wp2_with fail
   refine (RP.out _).mono ?_
   rintro e w4 ⟨rfl,rfl⟩;rw [hv];exact zU
 . have GU:decide ((40:Int)<s.size)=true:=DZ aE
   obtain ⟨⟨c0,c1,c2⟩,f0,f1,f2⟩:=TP.out.cells;exact zU
end Go.Proofs.YtkfmladhicapeaaGreatDoor
