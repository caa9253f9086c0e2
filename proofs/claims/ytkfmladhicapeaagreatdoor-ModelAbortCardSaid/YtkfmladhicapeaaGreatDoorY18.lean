import Derived.Test.YtkfmladhicapeaaGreatDoorY17
set_option maxRecDepth 1000000
set_option maxHeartbeats 4000000
namespace Go.Proofs.YtkfmladhicapeaaGreatDoor
open Go.RowKit Go.Shelf
attribute [local go_sem] Oper.semAt_some
theorem fI {P:Program} (w:World) (dT sT ty elem:TypeId) (K:Nat) (i:TypeInfo) (hu:P.underlying dT=some (.slice elem)) (hi:P.info? elem=some i) (hs:i.size=K) (b o dLen dCap:Nat) (a:Addr) (sLen sCap:Nat) (cs:List Value)
 (hn:cs.length=Nat.min sLen dLen*K) (YT:∀ j v,cs[j]?=some v->w.cell? (a.add j)=some v) (hc:∀ j,j<cs.length->(w.cell? ⟨b,o+j,none⟩).isSome=true) (hf:∀ j,j<cs.length->w.frozen? ⟨b,o+j,none⟩=false) (h1:∀ v∈cs,v.oneCell'=true) :
 (Builtin.copy_ #[dT,sT] ty #[.slice (some ⟨b,o,none⟩) dLen dCap,.slice (some a) sLen sCap]).run P w=.ok (goInt (Nat.min sLen dLen)) (w.setCells b o cs):=by
 have hfc:=run_firstCells_some (P:=P) w K (Nat.min sLen dLen) a sLen sCap cs hn YT;have GL:=run_storeCells_cells (P:=P) b o cs 0 w (by simpa using hc) (by simpa using hf) h1;simp only [Nat.add_zero] at GL
 simp [Builtin.copy_,run_underlying hu,Builtin.lenOf,sizeOf,typeInfo,hi,hs,hfc,GL]
theorem qR {w:World} {b:Nat} {C:Array Value} {t:TypeId} (h:aA w b C t):w.shape? b=some (t,C.size):=by
 have hg:w.heap[b]?=some (.cells C t (0,0)):=h
 simp [World.shape?,hg]
theorem wL {w:World} {base:Nat} {e:TypeId} {k g n cap:Nat} {xs:List Value} (h:w.ownsRow base e k (.slice (some ⟨g,0,none⟩) n cap) n xs):w.shape? g=some (e,cap*k):=by
 rcases h.2 with ⟨h',_⟩ | ⟨g',cap',cur,h',hb,hg,NJ,PS,JW,htake⟩
 . simp at h'
 . simp only [Value.slice.injEq,Option.some.injEq,Addr.mk.injEq,and_true,true_and] at h'
   obtain ⟨rfl,rfl⟩:=h'
   simp [World.shape?,hg,JW]
theorem tZ {w:World} {base:Nat} {e:TypeId} {k g n cap:Nat} {xs:List Value} (h:w.ownsRow base e k (.slice (some ⟨g,0,none⟩) n cap) n xs) (hr:n+1<=cap) :
 ∃ rest:List Value,rest.length=k/\w.ownsRow base e k (.slice (some ⟨g,0,none⟩) (n+1) cap) (n+1) (xs++rest):=by
 have hx:=h.1
 rcases h.2 with ⟨h',_⟩ | ⟨g',cap',cur,h',hb,hg,NJ,PS,JW,htake⟩
 . simp at h'
 . simp only [Value.slice.injEq,Option.some.injEq,Addr.mk.injEq,and_true,true_and] at h'
   obtain ⟨rfl,rfl⟩:=h';have OH:(n+1)*k<=cap*k:=Nat.mul_le_mul_right _ hr;have e1:(n+1)*k=n*k+k:=Nat.succ_mul n k
   have e2:cur.toList.take ((n+1)*k)=xs++(cur.toList.drop (n*k)).take k:=by
    rw [e1,List.take_add,htake]
   have hl:((cur.toList.drop (n*k)).take k).length=k:=by
    rw [List.length_take,List.length_drop,Array.length_toList,JW];omega
   exact ⟨_,hl,by rw [List.length_append,hx,hl,e1],.inr ⟨g,cap,cur,rfl,hb,hg,hr,PS,JW,e2⟩⟩
theorem Nw (w:World):(zeroValue 62).run Tryz.prog w=.ok (.agg (LT ByteArray.empty ByteArray.empty false)) w:=by
 obtain ⟨i0,IY,GV,_,_⟩:=gD Tryz.prog BA;unfold zeroValue
 simp [typeInfo,IY,GV]
theorem Oy (w:World):(Go.sizeOf 62).run Tryz.prog w=.ok 3 w:=by
 obtain ⟨i0,IY,_,GJ,_⟩:=gD Tryz.prog BA;unfold Go.sizeOf
 simp [typeInfo,IY,GJ]
theorem xY (base g n c i vb:Nat) (xs vs:List Value) (w:World) (h:w.ownsRow base 62 3 (.slice (some ⟨g,0,none⟩) n c) n xs) (h1:∀ u∈xs,u.oneCell'=true) (hi:i<n) (hn:n<=1000000) (NK:n+1<=c)
 (hv:aA w vb vs.toArray 62) (NF:vs.length=3) (PQ:∀ u∈vs,u.oneCell'=true) (ZR:vb≠g) :
 Calls Tryz.prog 128 #[.slice (some ⟨g,0,none⟩) n c,.int .i64 i,.slice (some ⟨vb,0,none⟩) 1 1] w fun e w'=>e=.returned (.slice (some ⟨g,0,none⟩) (n+1) c) /\
  w'.ownsRow base 62 3 (.slice (some ⟨g,0,none⟩) (n+1) c) (n+1) (xs.take (i*3)++vs++xs.drop (i*3))/\w.grownBy w' (some g):=by
 have mixed:Tryz.prog.follows Departure.mixedOrders=true:=by kernel_rfl
 obtain ⟨i0,IY,GV,GJ,GO⟩:=gD Tryz.prog BA;obtain ⟨_,PS,_⟩:=iK h;unfold maxLen at PS;have IZ:=h.1;obtain ⟨rest,hrl,hX⟩:=tZ h NK
 have YI:(xs++rest).length=(n+1)*3:=hX.1
 have hov:∀ lb cb,(callFunc 157 #[.slice (some ⟨vb,0,none⟩) 1 1,.slice (some ⟨g,(i+1)*3,none⟩) lb cb]).run Tryz.prog w=.ok (.value (.bool false)) w:=fun lb cb=>by
  rw [run_callFunc_extern Tryz.func157 aW aW aW (e:=Extern.SlicesOverlaps.overlaps #[22,22] #[4]) aW,
   Lib.run_overlaps_apart w 22 4 62 ER 3 Oy ⟨vb,0,none⟩ ⟨g,(i+1)*3,none⟩ 1 1 lb cb ZR 62 62 vs.toArray.size (c*3) (qR hv) (wL h) aE (hv.free 0) (hv.free _)]
  rfl
 obtain ⟨news,GN⟩:∃ news,news=xs.drop (i*3):=⟨_,rfl⟩
 have MM:news.length=(n - i)*3:=by rw [GN,List.length_drop,IZ];omega
 obtain ⟨W1,OF⟩:∃ W1,W1=w.drew.setCells g ((i+1)*3) news:=⟨_,rfl⟩
 have NC:=bZ news ((i+1)*3) w.drew (xs++rest) hX.drew (by rw [YI,MM];omega);rw [<- OF] at NC
 have h1n:∀ u∈news,u.oneCell'=true:=fun u hu=>h1 u (by rw [GN] at hu;exact List.mem_of_mem_drop hu)
 have TE:Nat.min (n+1 - i) (n - i)=n - i:=Nat.min_eq_right aE;have PJ:Nat.min 1 (n+1 - i)=1:=Nat.min_eq_left aE
 have hcp1:∀ ty dc sc,(Builtin.copy_ #[22,22] ty #[.slice (some ⟨g,(i+1)*3,none⟩) (n - i) dc,.slice (some ⟨g,i*3,none⟩) (n+1 - i) sc]).run Tryz.prog w.drew=.ok (goInt ((n - i:Nat):Int)) W1:=fun ty dc sc=>by
  rw [OF];have:=fI (P:=Tryz.prog) w.drew 22 22 ty 62 3 i0 ER IY GJ g ((i+1)*3) (n - i) dc ⟨g,i*3,none⟩ (n+1 - i) sc news (by rw [MM,TE])
   (fun j v hj=>by
    have FV:j<(n - i)*3:=by rw [<- MM];exact (List.getElem?_eq_some_iff.1 hj).1
    rw [Addr.add_lit];rw [GN,List.getElem?_drop] at hj
    exact (h.cellAt (i*3+j) aE).trans hj)
   (fun j hj=>(bK h _ aE).1) (fun j hj=>(bK h _ aE).2) h1n
  rwa [TE] at this
 have PH:=bZ vs (i*3) W1 _ NC.1 (by rw [NF];simp [YI,MM];omega)
 have hcp2:∀ (W:World),(∀ x,W.cell? x=W1.cell? x)->(∀ x,W.frozen? x=W1.frozen? x)->∀ ty dc,(Builtin.copy_ #[22,22] ty #[.slice (some ⟨g,i*3,none⟩) (n+1 - i) dc,.slice (some ⟨vb,0,none⟩) 1 1]).run Tryz.prog W=.ok (goInt 1) (W.setCells g (i*3) vs):=fun W WD hWf ty dc=>by
  have hvW:=aM (show aA w.drew vb vs.toArray 62 from hv) NC.2 (fun e=>ZR (by cases e;rfl));have:=fI (P:=Tryz.prog) W 22 22 ty 62 3 i0 ER IY GJ g (i*3) (n+1 - i) dc ⟨vb,0,none⟩ 1 1 vs (by rw [NF,PJ])
   (fun j v hj=>by
    rw [Addr.add_lit,WD,Nat.zero_add,hvW.cell j]
    simpa using hj)
   (fun j hj=>by rw [WD];exact (bK NC.1 _ aE).1) (fun j hj=>by rw [hWf];exact (bK NC.1 _ aE).2) PQ
  rwa [PJ] at this
 have HR:=DX (EC PH (EC NC.2 (EC GN (EC MM (EC IZ YI)))))
 have YV:¬ ((i:Int)=(n:Int)):=by omega
 have hz2b:((i:Int) == (n:Int))=false:=by simpa using YV
 have IM:¬ (c=i):=by omega
 have ZI:¬ (c=i+1):=by omega
 have hlt1:decide (c<n+1)=false:=DY aE;have hlt2:decide ((c:Int)<(n:Int)+1)=false:=DY aE;have KK:IntKind.i64.wrap ((i:Int)+1)=(i:Int)+1:=IntWalk.i64_in _ aE
 have PA:(0:Int)<=(i:Int)+1:=by omega
 have QG:(i:Int)+1<=(n:Int)+1:=by omega
 have htn:((i:Int)+1).toNat=i+1:=by omega
 have TD:(i:Int)<=(n:Int)+1:=by omega
 have RP:=DX NF;clear NC PH hX YI hrl IZ MM GN h hv GV GJ GO h1 h1n PQ NF TE PJ;go_enter Tryz.func128,Tryz.ntmps128;go_wp2_with (simp only [hov]);go_region_law_o (refine step_copy_runI rfl _ _ 22 22 rfl _ _ (by simp [Act.eval,Act.put]) (by simp [Act.eval,Act.put]) (hcp1 _ _ _) ?_);go_wp2_with (at_builtin;refine wpList_copy_runI _ rfl _ _ 22 22 rfl _ _ rfl rfl (hcp2 _ (fun _=>rfl) (fun _=>rfl) _ _) ?_);go_ret;obtain ⟨⟨o2,g2⟩,g1,GN,MM,IZ,YI⟩:=HR.out
 have e1:(xs++rest).drop ((i+1)*3+news.length)=[]:=by
  rw [List.drop_eq_nil_iff,YI,MM];omega
 have e2:((xs++rest).take ((i+1)*3)).length=(i+1)*3:=by rw [List.length_take,YI];omega
 have e3:(xs++rest).take ((i+1)*3)=xs.take ((i+1)*3):=List.take_append_of_le_length (by rw [IZ];omega)
 rw [e1,List.append_nil,RP.out,List.take_append_of_le_length (by rw [e2];omega),e3,List.take_take,Nat.min_eq_left aE,show i*3+3=(xs.take ((i+1)*3)).length by rw [<- e3,e2];omega,List.drop_left,GN] at o2;exact Qy
theorem Ck (base n c vb:Nat) (a:Option Addr) (xs vs:List Value) (w:World) (h:w.ownsRow base 62 3 (.slice a n c) n xs) (hn:n<=1000000) (GY:base<=w.heap.size)
 (hv:aA w vb vs.toArray 62) (NF:vs.length=3) (PQ:∀ u∈vs,u.oneCell'=true) :
 Calls Tryz.prog 128 #[.slice a n c,.int .i64 n,.slice (some ⟨vb,0,none⟩) 1 1] w fun e w'=>∃ a' c',e=.returned (.slice a' (n+1) c') /\
  w'.ownsRow base 62 3 (.slice a' (n+1) c') (n+1) (xs++vs)/\w.grownBy w' (Value.slice a n c).ownBlock:=by
 obtain ⟨i0,IY,GV,GJ,GO⟩:=gD Tryz.prog BA;have HI:=DX (EC IY (EC GV (EC GJ GO)))
 have NJ:n<=c:=by
  exact Tj
 have HO:=DX h
 have HV:=DX (show ∀ j u,vs[j]?=some u->w.cell? ((⟨vb,0,none⟩:Addr).add j)=some u from fun j u hj=>by
  rw [show (⟨vb,0,none⟩:Addr).add j=⟨vb,j,none⟩ by unfold Addr.add;split <;> simp_all,hv.cell j]
  simpa using hj)
 have RP:=DX NF;have H1V:=DX PQ
 obtain ⟨aa,haa⟩:∃ aa,(if c=n then a else Option.map (fun x=>x.add (n*3)) a)=aa:=⟨_,rfl⟩
 clear h hv NF PQ IY GV GJ GO;go_enter Tryz.func128,Tryz.ntmps128;go_wp2_with (at_builtin;refine wpList_append_own_at _ rfl _ _ 22 rfl base 62 i0 (.agg (LT ByteArray.empty ByteArray.empty false)) 3 40 ER HI.out.1 HI.out.2.1 HI.out.2.2.1 HI.out.2.2.2 rfl aF _ _ _ rfl HO.out ⟨vb,0,none⟩ 1 1 vs rfl (by rw [RP.out]) HV.out H1V.out ?c3 ?c4 ?c5 ?_)
 case c3=>unfold maxLen;omega
 case c4=>omega
 case c5=>exact GY
 exact Qu
theorem Ba (base g n c i vb:Nat) (xs vs:List Value) (w:World) (h:w.ownsRow base 62 3 (.slice (some ⟨g,0,none⟩) n c) n xs) (h1:∀ u∈xs,u.oneCell'=true) (hi:i<n) (hn:n<=1000000) (NK:c<n+1) (GY:base<=w.heap.size)
 (hv:aA w vb vs.toArray 62) (NF:vs.length=3) (PQ:∀ u∈vs,u.oneCell'=true) :
 Calls Tryz.prog 128 #[.slice (some ⟨g,0,none⟩) n c,.int .i64 i,.slice (some ⟨vb,0,none⟩) 1 1] w fun e w'=>∃ a' c',e=.returned (.slice a' (n+1) c') /\
  w'.ownsRow base 62 3 (.slice a' (n+1) c') (n+1) (xs.take (i*3)++vs++xs.drop (i*3))/\w.grownBy w' none:=by
 have mixed:Tryz.prog.follows Departure.mixedOrders=true:=by kernel_rfl
 obtain ⟨i0,IY,GV,GJ,GO⟩:=gD Tryz.prog BA;obtain ⟨NJ,PS,_⟩:=iK h;have IZ:=h.1
 have hgw:g<w.heap.size:=(h.lt g rfl).2
 have hvw:vb<w.heap.size:=hv.lt
 obtain ⟨olds,KI⟩:∃ olds,olds=xs.take (i*3):=⟨_,rfl⟩
 have RF:olds.length=i*3:=by rw [KI,List.length_take,IZ];omega
 obtain ⟨news,GN⟩:∃ news,news=xs.drop (i*3):=⟨_,rfl⟩
 have MM:news.length=(n - i)*3:=by rw [GN,List.length_drop,IZ];omega
 have h1n:∀ u∈news,u.oneCell'=true:=fun u hu=>h1 u (by rw [GN] at hu;exact List.mem_of_mem_drop hu)
 have aBT:(Builtin.firstCells i0.size i (.slice (some ⟨g,0,none⟩) i c)).run Tryz.prog w.drew=.ok olds.toArray w.drew:=by
  rw [GJ]
  exact run_firstCells_some w.drew 3 i ⟨g,0,none⟩ i c olds RF (fun j v hj=>by
   have FV:j<i*3:=by rw [<- RF];exact (List.getElem?_eq_some_iff.1 hj).1
   rw [Addr.add_lit,Nat.zero_add];rw [KI,List.getElem?_take,if_pos FV] at hj
   exact (h.cellAt j aE).trans hj)
 have hik:i+(n+1 - i)=n+1:=by omega
 have hkk:(n:Int)+1 - (i:Int)=((n+1 - i:Nat):Int):=by omega
 have hrz:∀ ty,(Builtin.append_ #[22,3] ty #[.slice (some ⟨g,0,none⟩) i c,.int .i64 ((n:Int)+1 - (i:Int))]).run Tryz.prog w =
  .ok (.slice (some ⟨w.heap.size,0,none⟩) (n+1) (grownCap w (n+1) c 62)) (w.drew.alloc (.cells (olds.toArray++Builtin.zeroCells (Value.cells (.agg (LT ByteArray.empty ByteArray.empty false))) (n+1 - i)++Builtin.zeroCells (Value.cells (.agg (LT ByteArray.empty ByteArray.empty false))) (grownCap w (n+1) c 62 - (n+1))) 62)):=fun ty=>by
  have h:=Lib.run_append_grow_zeros w 22 3 ty 62 i0 (.agg (LT ByteArray.empty ByteArray.empty false)) .i64 .i64 ER EK IY GV (some ⟨g,0,none⟩) i c olds aBT (n+1 - i) aE aE aE aE (by rw [GO];omega) (by rw [GO,hik];exact growslice_fits NK aE)
  rw [hik] at h;rw [hkk];exact h
 obtain ⟨G,hG⟩:∃ G,G=grownCap w (n+1) c 62:=⟨_,rfl⟩
 have hGn:n+1<=G:=by rw [hG];exact grownCap_ge w _ _ _
 have hGm:G<=maxLen:=by rw [hG];exact grownCap_le_maxLen w (n+1) c 62 (by unfold maxLen;omega)
 obtain ⟨Z1,hZ1⟩:∃ Z1,Z1=Builtin.zeroCells (Value.cells (.agg (LT ByteArray.empty ByteArray.empty false))) (n+1 - i):=⟨_,rfl⟩
 obtain ⟨Z2,hZ2⟩:∃ Z2,Z2=Builtin.zeroCells (Value.cells (.agg (LT ByteArray.empty ByteArray.empty false))) (G - (n+1)):=⟨_,rfl⟩
 have MS:Z1.size=(n+1 - i)*3:=by rw [hZ1];simp [Builtin.zeroCells,Value.cells]
 have hz2s:Z2.size=(G - (n+1))*3:=by rw [hZ2];simp [Builtin.zeroCells,Value.cells]
 rw [<- hG,<- hZ1,<- hZ2] at hrz
 obtain ⟨ROW,YH⟩:∃ ROW,ROW=olds.toArray++Z1++Z2:=⟨_,rfl⟩
 rw [<- YH] at hrz
 obtain ⟨W1,OF⟩:∃ W1,W1=w.drew.alloc (.cells ROW 62):=⟨_,rfl⟩
 rw [<- OF] at hrz
 have hOX:W1.ownsRow base 62 3 (.slice (some ⟨w.heap.size,0,none⟩) (n+1) G) (n+1) (olds++Z1.toList):=by
  exact Yj
 have hK1:aB w W1:=by rw [OF];exact ((EX w).drew).alloc _
 have PH:=bZ vs (i*3) W1 _ hOX (by rw [NF,List.length_append,RF,Array.length_toList,MS];omega)
 have hO3:=bZ news ((i+1)*3) (W1.setCells w.heap.size (i*3) vs).drew _ PH.1.drew (by rw [MM];simp [RF,MS,NF];omega)
 have PJ:Nat.min 1 (n+1 - i)=1:=Nat.min_eq_left aE;have ZL:Nat.min (n - i) (n - i)=n - i:=Nat.min_self _
 have hcpA:∀ (W:World),(∀ x,W.cell? x=W1.cell? x)->(∀ x,W.frozen? x=W1.frozen? x)->∀ ty dc,(Builtin.copy_ #[22,22] ty #[.slice (some ⟨w.heap.size,i*3,none⟩) (n+1 - i) dc,.slice (some ⟨vb,0,none⟩) 1 1]).run Tryz.prog W=.ok (goInt 1) (W.setCells w.heap.size (i*3) vs):=fun W WD hWf ty dc=>by
  have:=fI (P:=Tryz.prog) W 22 22 ty 62 3 i0 ER IY GJ w.heap.size (i*3) (n+1 - i) dc ⟨vb,0,none⟩ 1 1 vs (by rw [NF,PJ])
   (fun j v hj=>by
    rw [Addr.add_lit,WD,Nat.zero_add,(hv.kept hK1).cell j]
    simpa using hj)
   (fun j hj=>by rw [WD];exact (bK hOX _ aE).1) (fun j hj=>by rw [hWf];exact (bK hOX _ aE).2) PQ
  rwa [PJ] at this
 have hcpB:∀ (W:World),(∀ x,W.cell? x=(W1.setCells w.heap.size (i*3) vs).cell? x)->(∀ x,W.frozen? x=(W1.setCells w.heap.size (i*3) vs).frozen? x)->∀ ty dc sc,(Builtin.copy_ #[22,22] ty #[.slice (some ⟨w.heap.size,(i+1)*3,none⟩) (n - i) dc,.slice (some ⟨g,i*3,none⟩) (n - i) sc]).run Tryz.prog W=.ok (goInt ((n - i:Nat):Int)) (W.setCells w.heap.size ((i+1)*3) news):=fun W WD hWf ty dc sc=>by
  have:=fI (P:=Tryz.prog) W 22 22 ty 62 3 i0 ER IY GJ w.heap.size ((i+1)*3) (n - i) dc ⟨g,i*3,none⟩ (n - i) sc news (by rw [MM,ZL])
   (fun j v hj=>by
    have FV:j<(n - i)*3:=by rw [<- MM];exact (List.getElem?_eq_some_iff.1 hj).1
    rw [Addr.add_lit,WD,World.cell?_setCells_out _ _ _ _ _ (fun e _=>absurd (show g=w.heap.size from e) aE)];rw [GN,List.getElem?_drop] at hj
    exact hK1.cell hgw ((h.cellAt (i*3+j) aE).trans hj))
   (fun j hj=>by rw [WD];exact (bK PH.1 _ aE).1) (fun j hj=>by rw [hWf];exact (bK PH.1 _ aE).2) h1n
  rwa [ZL] at this
 have HR:=DX (EC hO3 (EC PH.2 (EC hK1 (EC KI (EC GN (EC RF (EC MM MS)))))));have RP:=DX NF
 have YV:¬ ((i:Int)=(n:Int)):=by omega
 have hz2b:((i:Int) == (n:Int))=false:=by simpa using YV
 have hci:¬ (c=i):=by omega
 have hGi:¬ (G=i):=by omega
 have hGi1:¬ (G=i+1):=by omega
 have hlt1:decide (c<n+1)=true:=DZ aE;have hlt2:decide ((c:Int)<(n:Int)+1)=true:=DZ aE
 have hlt3:(c:Int)<(n:Int)+1:=by omega
 have KK:IntKind.i64.wrap ((i:Int)+1)=(i:Int)+1:=IntWalk.i64_in _ aE
 have PA:(0:Int)<=(i:Int)+1:=by omega
 have QG:(i:Int)+1<=(n:Int)+1:=by omega
 have htn:((i:Int)+1).toNat=i+1:=by omega
 have TD:(i:Int)<=(n:Int)+1:=by omega
 have JN:(i:Int)<=(n:Int):=by omega
 have hG63:G<=9223372036854775807:=by unfold maxLen at hGm;omega
 subst OF
 have hE1:∀ x,((w.alloc (.cells ROW 62)).drew).cell? x=(w.drew.alloc (.cells ROW 62)).cell? x:=fun x=>rfl
 have hE2:∀ x,((w.alloc (.cells ROW 62)).drew).frozen? x=(w.drew.alloc (.cells ROW 62)).frozen? x:=fun x=>rfl
 have hF1:∀ x,(((w.alloc (.cells ROW 62)).drew.setCells w.heap.size (i*3) vs).drew).cell? x=((w.drew.alloc (.cells ROW 62)).setCells w.heap.size (i*3) vs).cell? x:=fun x=>rfl
 have hF2:∀ x,(((w.alloc (.cells ROW 62)).drew.setCells w.heap.size (i*3) vs).drew).frozen? x=((w.drew.alloc (.cells ROW 62)).setCells w.heap.size (i*3) vs).frozen? x:=fun x=>rfl
 clear PH hO3 hOX hK1 RF MM GN KI h hv GV GJ GO h1 h1n PQ NF PJ ZL hkk hik aBT hG hZ1 hZ2 MS hz2s IZ PS hGm YH;go_enter Tryz.func128,Tryz.ntmps128
 go_wp2_with (first
  | (at_builtin;refine Lib.wpList_append_run _ rfl _ _ _ _ rfl _ _ rfl rfl _ _ (hrz _) ?_)
  | (at_builtin;refine wpList_copy_runI _ rfl _ _ 22 22 rfl _ _ rfl rfl (hcpA _ hE1 hE2 _ _) ?_))
 go_region_law_o (refine step_copy_runI rfl _ _ 22 22 rfl (.slice (some ⟨w.heap.size,(i+1)*3,none⟩) (n - i) (G - (i+1))) (.slice (some ⟨g,i*3,none⟩) (n - i) (c - i)) (by simp [Act.eval,Act.put]) (by simp [Act.eval,Act.put]) (hcpB _ hF1 hF2 3 (G - (i+1)) (c - i)) ?_);go_wp2;go_ret;obtain ⟨⟨o3,g3⟩,g2,k1,KI,GN,RF,MM,MS⟩:=HR.out
 have e0:(olds++Z1.toList).take (i*3)=olds:=by rw [List.take_append_of_le_length aE,EE aE]
 have e1:((olds++vs++(olds++Z1.toList).drop (i*3+vs.length))).drop ((i+1)*3+news.length)=[]:=by
  rw [List.drop_eq_nil_iff];simp [RF,MS,RP.out,MM];omega
 have e2:(olds++vs++(olds++Z1.toList).drop (i*3+vs.length)).take ((i+1)*3)=olds++vs:=by
  rw [show (i+1)*3=(olds++vs).length by rw [List.length_append,RF,RP.out];omega];exact List.take_left
 rw [e0,e1,e2,List.append_nil] at o3;rw [<- KI,<- GN];have gk:w.grownBy (w.drew.alloc (.cells ROW 62)) none:=⟨Below.os k1,Below.tape k1,Below.output k1,Below.size k1,fun k hk _=>Below.block k1 k hk⟩;refine ⟨_,_,rfl,o3,?_⟩;have g4:=fN g2 (show (World.setCells _ w.heap.size (i*3) vs).grownBy (World.setCells _ w.heap.size (i*3) vs).drew (some w.heap.size) from ⟨rfl,rfl,rfl,EA _,fun _ _ _=>rfl⟩);exact Ku
theorem Ns (w:World):(Go.sizeOf 68).run Tryz.prog w=.ok 2 w:=by
 obtain ⟨i0,IY,_,GJ,_⟩:=iH Tryz.prog BC;unfold Go.sizeOf
 simp [typeInfo,IY,GJ]
theorem yN (base g n c i vb:Nat) (xs vs:List Value) (w:World) (h:w.ownsRow base 68 2 (.slice (some ⟨g,0,none⟩) n c) n xs) (h1:∀ u∈xs,u.oneCell'=true) (hi:i<n) (hn:n<=1000000) (NK:n+1<=c)
 (hv:aA w vb vs.toArray 68) (NF:vs.length=2) (PQ:∀ u∈vs,u.oneCell'=true) (ZR:vb≠g) :
 Calls Tryz.prog 105 #[.slice (some ⟨g,0,none⟩) n c,.int .i64 i,.slice (some ⟨vb,0,none⟩) 1 1] w fun e w'=>e=.returned (.slice (some ⟨g,0,none⟩) (n+1) c) /\
  w'.ownsRow base 68 2 (.slice (some ⟨g,0,none⟩) (n+1) c) (n+1) (xs.take (i*2)++vs++xs.drop (i*2))/\w.grownBy w' (some g):=by
 have mixed:Tryz.prog.follows Departure.mixedOrders=true:=by kernel_rfl
 obtain ⟨i0,IY,GV,GJ,GO⟩:=iH Tryz.prog BC;obtain ⟨_,PS,_⟩:=iK h;unfold maxLen at PS;have IZ:=h.1;obtain ⟨rest,hrl,hX⟩:=tZ h NK
 have YI:(xs++rest).length=(n+1)*2:=hX.1
 have hov:∀ lb cb,(callFunc 137 #[.slice (some ⟨vb,0,none⟩) 1 1,.slice (some ⟨g,(i+1)*2,none⟩) lb cb]).run Tryz.prog w=.ok (.value (.bool false)) w:=fun lb cb=>by
  rw [run_callFunc_extern Tryz.func137 aW aW aW (e:=Extern.SlicesOverlaps.overlaps #[23,23] #[4]) aW,
   Lib.run_overlaps_apart w 23 4 68 ET 2 Ns ⟨vb,0,none⟩ ⟨g,(i+1)*2,none⟩ 1 1 lb cb ZR 68 68 vs.toArray.size (c*2) (qR hv) (wL h) aE (hv.free 0) (hv.free _)]
  rfl
 obtain ⟨news,GN⟩:∃ news,news=xs.drop (i*2):=⟨_,rfl⟩
 have MM:news.length=(n - i)*2:=by rw [GN,List.length_drop,IZ];omega
 obtain ⟨W1,OF⟩:∃ W1,W1=w.drew.setCells g ((i+1)*2) news:=⟨_,rfl⟩
 have NC:=bZ news ((i+1)*2) w.drew (xs++rest) hX.drew (by rw [YI,MM];omega);rw [<- OF] at NC
 have h1n:∀ u∈news,u.oneCell'=true:=fun u hu=>h1 u (by rw [GN] at hu;exact List.mem_of_mem_drop hu)
 have TE:Nat.min (n+1 - i) (n - i)=n - i:=Nat.min_eq_right aE;have PJ:Nat.min 1 (n+1 - i)=1:=Nat.min_eq_left aE
 have hcp1:∀ ty dc sc,(Builtin.copy_ #[23,23] ty #[.slice (some ⟨g,(i+1)*2,none⟩) (n - i) dc,.slice (some ⟨g,i*2,none⟩) (n+1 - i) sc]).run Tryz.prog w.drew=.ok (goInt ((n - i:Nat):Int)) W1:=fun ty dc sc=>by
  rw [OF];have:=fI (P:=Tryz.prog) w.drew 23 23 ty 68 2 i0 ET IY GJ g ((i+1)*2) (n - i) dc ⟨g,i*2,none⟩ (n+1 - i) sc news (by rw [MM,TE])
   (fun j v hj=>by
    have FV:j<(n - i)*2:=by rw [<- MM];exact (List.getElem?_eq_some_iff.1 hj).1
    rw [Addr.add_lit];rw [GN,List.getElem?_drop] at hj
    exact (h.cellAt (i*2+j) aE).trans hj)
   (fun j hj=>(bK h _ aE).1) (fun j hj=>(bK h _ aE).2) h1n
  rwa [TE] at this
 have PH:=bZ vs (i*2) W1 _ NC.1 (by rw [NF];simp [YI,MM];omega)
 have hcp2:∀ (W:World),(∀ x,W.cell? x=W1.cell? x)->(∀ x,W.frozen? x=W1.frozen? x)->∀ ty dc,(Builtin.copy_ #[23,23] ty #[.slice (some ⟨g,i*2,none⟩) (n+1 - i) dc,.slice (some ⟨vb,0,none⟩) 1 1]).run Tryz.prog W=.ok (goInt 1) (W.setCells g (i*2) vs):=fun W WD hWf ty dc=>by
  have hvW:=aM (show aA w.drew vb vs.toArray 68 from hv) NC.2 (fun e=>ZR (by cases e;rfl));have:=fI (P:=Tryz.prog) W 23 23 ty 68 2 i0 ET IY GJ g (i*2) (n+1 - i) dc ⟨vb,0,none⟩ 1 1 vs (by rw [NF,PJ])
   (fun j v hj=>by
    rw [Addr.add_lit,WD,Nat.zero_add,hvW.cell j]
    simpa using hj)
   (fun j hj=>by rw [WD];exact (bK NC.1 _ aE).1) (fun j hj=>by rw [hWf];exact (bK NC.1 _ aE).2) PQ
  rwa [PJ] at this
 have HR:=DX (EC PH (EC NC.2 (EC GN (EC MM (EC IZ YI)))))
 have YV:¬ ((i:Int)=(n:Int)):=by omega
 have hz2b:((i:Int) == (n:Int))=false:=by simpa using YV
 have IM:¬ (c=i):=by omega
 have ZI:¬ (c=i+1):=by omega
 have hlt1:decide (c<n+1)=false:=DY aE;have hlt2:decide ((c:Int)<(n:Int)+1)=false:=DY aE;have KK:IntKind.i64.wrap ((i:Int)+1)=(i:Int)+1:=IntWalk.i64_in _ aE
 have PA:(0:Int)<=(i:Int)+1:=by omega
 have QG:(i:Int)+1<=(n:Int)+1:=by omega
 have htn:((i:Int)+1).toNat=i+1:=by omega
 have TD:(i:Int)<=(n:Int)+1:=by omega
 have RP:=DX NF;clear NC PH hX YI hrl IZ MM GN h hv GV GJ GO h1 h1n PQ NF TE PJ;go_enter Tryz.func105,Tryz.ntmps105;go_wp2_with (simp only [hov]);go_region_law_o (refine step_copy_runI rfl _ _ 23 23 rfl _ _ (by simp [Act.eval,Act.put]) (by simp [Act.eval,Act.put]) (hcp1 _ _ _) ?_);go_wp2_with (at_builtin;refine wpList_copy_runI _ rfl _ _ 23 23 rfl _ _ rfl rfl (hcp2 _ (fun _=>rfl) (fun _=>rfl) _ _) ?_);go_ret;obtain ⟨⟨o2,g2⟩,g1,GN,MM,IZ,YI⟩:=HR.out
 have e1:(xs++rest).drop ((i+1)*2+news.length)=[]:=by
  rw [List.drop_eq_nil_iff,YI,MM];omega
 have e2:((xs++rest).take ((i+1)*2)).length=(i+1)*2:=by rw [List.length_take,YI];omega
 have e3:(xs++rest).take ((i+1)*2)=xs.take ((i+1)*2):=List.take_append_of_le_length (by rw [IZ];omega)
 rw [e1,List.append_nil,RP.out,List.take_append_of_le_length (by rw [e2];omega),e3,List.take_take,Nat.min_eq_left aE,show i*2+2=(xs.take ((i+1)*2)).length by rw [<- e3,e2];omega,List.drop_left,GN] at o2;exact Qy
theorem Bw (base n c vb:Nat) (a:Option Addr) (xs vs:List Value) (w:World) (h:w.ownsRow base 68 2 (.slice a n c) n xs) (hn:n<=1000000) (GY:base<=w.heap.size)
 (hv:aA w vb vs.toArray 68) (NF:vs.length=2) (PQ:∀ u∈vs,u.oneCell'=true) :
 Calls Tryz.prog 105 #[.slice a n c,.int .i64 n,.slice (some ⟨vb,0,none⟩) 1 1] w fun e w'=>∃ a' c',e=.returned (.slice a' (n+1) c') /\
  w'.ownsRow base 68 2 (.slice a' (n+1) c') (n+1) (xs++vs)/\w.grownBy w' (Value.slice a n c).ownBlock:=by
 obtain ⟨i0,IY,GV,GJ,GO⟩:=iH Tryz.prog BC;have HI:=DX (EC IY (EC GV (EC GJ GO)))
 have NJ:n<=c:=by
  exact Tj
 have HO:=DX h
 have HV:=DX (show ∀ j u,vs[j]?=some u->w.cell? ((⟨vb,0,none⟩:Addr).add j)=some u from fun j u hj=>by
  rw [show (⟨vb,0,none⟩:Addr).add j=⟨vb,j,none⟩ by unfold Addr.add;split <;> simp_all,hv.cell j]
  simpa using hj)
 have RP:=DX NF;have H1V:=DX PQ
 obtain ⟨aa,haa⟩:∃ aa,(if c=n then a else Option.map (fun x=>x.add (n*2)) a)=aa:=⟨_,rfl⟩
 clear h hv NF PQ IY GV GJ GO;go_enter Tryz.func105,Tryz.ntmps105;go_wp2_with (at_builtin;refine wpList_append_own_at _ rfl _ _ 23 rfl base 68 i0 (.agg LE) 2 32 ET HI.out.1 HI.out.2.1 HI.out.2.2.1 HI.out.2.2.2 rfl aF _ _ _ rfl HO.out ⟨vb,0,none⟩ 1 1 vs rfl (by rw [RP.out]) HV.out H1V.out ?c3 ?c4 ?c5 ?_)
 case c3=>unfold maxLen;omega
 case c4=>omega
 case c5=>exact GY
 exact Qu
theorem zB (base g n c i vb:Nat) (xs vs:List Value) (w:World) (h:w.ownsRow base 68 2 (.slice (some ⟨g,0,none⟩) n c) n xs) (h1:∀ u∈xs,u.oneCell'=true) (hi:i<n) (hn:n<=1000000) (NK:c<n+1) (GY:base<=w.heap.size)
 (hv:aA w vb vs.toArray 68) (NF:vs.length=2) (PQ:∀ u∈vs,u.oneCell'=true) :
 Calls Tryz.prog 105 #[.slice (some ⟨g,0,none⟩) n c,.int .i64 i,.slice (some ⟨vb,0,none⟩) 1 1] w fun e w'=>∃ a' c',e=.returned (.slice a' (n+1) c') /\
  w'.ownsRow base 68 2 (.slice a' (n+1) c') (n+1) (xs.take (i*2)++vs++xs.drop (i*2))/\w.grownBy w' none:=by
 have mixed:Tryz.prog.follows Departure.mixedOrders=true:=by kernel_rfl
 obtain ⟨i0,IY,GV,GJ,GO⟩:=iH Tryz.prog BC;obtain ⟨NJ,PS,_⟩:=iK h;have IZ:=h.1
 have hgw:g<w.heap.size:=(h.lt g rfl).2
 have hvw:vb<w.heap.size:=hv.lt
 obtain ⟨olds,KI⟩:∃ olds,olds=xs.take (i*2):=⟨_,rfl⟩
 have RF:olds.length=i*2:=by rw [KI,List.length_take,IZ];omega
 obtain ⟨news,GN⟩:∃ news,news=xs.drop (i*2):=⟨_,rfl⟩
 have MM:news.length=(n - i)*2:=by rw [GN,List.length_drop,IZ];omega
 have h1n:∀ u∈news,u.oneCell'=true:=fun u hu=>h1 u (by rw [GN] at hu;exact List.mem_of_mem_drop hu)
 have aBT:(Builtin.firstCells i0.size i (.slice (some ⟨g,0,none⟩) i c)).run Tryz.prog w.drew=.ok olds.toArray w.drew:=by
  rw [GJ]
  exact run_firstCells_some w.drew 2 i ⟨g,0,none⟩ i c olds RF (fun j v hj=>by
   have FV:j<i*2:=by rw [<- RF];exact (List.getElem?_eq_some_iff.1 hj).1
   rw [Addr.add_lit,Nat.zero_add];rw [KI,List.getElem?_take,if_pos FV] at hj
   exact (h.cellAt j aE).trans hj)
 have hik:i+(n+1 - i)=n+1:=by omega
 have hkk:(n:Int)+1 - (i:Int)=((n+1 - i:Nat):Int):=by omega
 have hrz:∀ ty,(Builtin.append_ #[23,3] ty #[.slice (some ⟨g,0,none⟩) i c,.int .i64 ((n:Int)+1 - (i:Int))]).run Tryz.prog w =
  .ok (.slice (some ⟨w.heap.size,0,none⟩) (n+1) (grownCap w (n+1) c 68)) (w.drew.alloc (.cells (olds.toArray++Builtin.zeroCells (Value.cells (.agg LE)) (n+1 - i)++Builtin.zeroCells (Value.cells (.agg LE)) (grownCap w (n+1) c 68 - (n+1))) 68)):=fun ty=>by
  have h:=Lib.run_append_grow_zeros w 23 3 ty 68 i0 (.agg LE) .i64 .i64 ET EK IY GV (some ⟨g,0,none⟩) i c olds aBT (n+1 - i) aE aE aE aE (by rw [GO];omega) (by rw [GO,hik];exact growslice_fits NK aE)
  rw [hik] at h;rw [hkk];exact h
 obtain ⟨G,hG⟩:∃ G,G=grownCap w (n+1) c 68:=⟨_,rfl⟩
 have hGn:n+1<=G:=by rw [hG];exact grownCap_ge w _ _ _
 have hGm:G<=maxLen:=by rw [hG];exact grownCap_le_maxLen w (n+1) c 68 (by unfold maxLen;omega)
 obtain ⟨Z1,hZ1⟩:∃ Z1,Z1=Builtin.zeroCells (Value.cells (.agg LE)) (n+1 - i):=⟨_,rfl⟩
 obtain ⟨Z2,hZ2⟩:∃ Z2,Z2=Builtin.zeroCells (Value.cells (.agg LE)) (G - (n+1)):=⟨_,rfl⟩
 have MS:Z1.size=(n+1 - i)*2:=by rw [hZ1];simp [Builtin.zeroCells,Value.cells]
 have hz2s:Z2.size=(G - (n+1))*2:=by rw [hZ2];simp [Builtin.zeroCells,Value.cells]
 rw [<- hG,<- hZ1,<- hZ2] at hrz
 obtain ⟨ROW,YH⟩:∃ ROW,ROW=olds.toArray++Z1++Z2:=⟨_,rfl⟩
 rw [<- YH] at hrz
 obtain ⟨W1,OF⟩:∃ W1,W1=w.drew.alloc (.cells ROW 68):=⟨_,rfl⟩
 rw [<- OF] at hrz
 have hOX:W1.ownsRow base 68 2 (.slice (some ⟨w.heap.size,0,none⟩) (n+1) G) (n+1) (olds++Z1.toList):=by
  exact Yj
 have hK1:aB w W1:=by rw [OF];exact ((EX w).drew).alloc _
 have PH:=bZ vs (i*2) W1 _ hOX (by rw [NF,List.length_append,RF,Array.length_toList,MS];omega)
 have hO3:=bZ news ((i+1)*2) (W1.setCells w.heap.size (i*2) vs).drew _ PH.1.drew (by rw [MM];simp [RF,MS,NF];omega)
 have PJ:Nat.min 1 (n+1 - i)=1:=Nat.min_eq_left aE;have ZL:Nat.min (n - i) (n - i)=n - i:=Nat.min_self _
 have hcpA:∀ (W:World),(∀ x,W.cell? x=W1.cell? x)->(∀ x,W.frozen? x=W1.frozen? x)->∀ ty dc,(Builtin.copy_ #[23,23] ty #[.slice (some ⟨w.heap.size,i*2,none⟩) (n+1 - i) dc,.slice (some ⟨vb,0,none⟩) 1 1]).run Tryz.prog W=.ok (goInt 1) (W.setCells w.heap.size (i*2) vs):=fun W WD hWf ty dc=>by
  have:=fI (P:=Tryz.prog) W 23 23 ty 68 2 i0 ET IY GJ w.heap.size (i*2) (n+1 - i) dc ⟨vb,0,none⟩ 1 1 vs (by rw [NF,PJ])
   (fun j v hj=>by
    rw [Addr.add_lit,WD,Nat.zero_add,(hv.kept hK1).cell j]
    simpa using hj)
   (fun j hj=>by rw [WD];exact (bK hOX _ aE).1) (fun j hj=>by rw [hWf];exact (bK hOX _ aE).2) PQ
  rwa [PJ] at this
 have hcpB:∀ (W:World),(∀ x,W.cell? x=(W1.setCells w.heap.size (i*2) vs).cell? x)->(∀ x,W.frozen? x=(W1.setCells w.heap.size (i*2) vs).frozen? x)->∀ ty dc sc,(Builtin.copy_ #[23,23] ty #[.slice (some ⟨w.heap.size,(i+1)*2,none⟩) (n - i) dc,.slice (some ⟨g,i*2,none⟩) (n - i) sc]).run Tryz.prog W=.ok (goInt ((n - i:Nat):Int)) (W.setCells w.heap.size ((i+1)*2) news):=fun W WD hWf ty dc sc=>by
  have:=fI (P:=Tryz.prog) W 23 23 ty 68 2 i0 ET IY GJ w.heap.size ((i+1)*2) (n - i) dc ⟨g,i*2,none⟩ (n - i) sc news (by rw [MM,ZL])
   (fun j v hj=>by
    have FV:j<(n - i)*2:=by rw [<- MM];exact (List.getElem?_eq_some_iff.1 hj).1
    rw [Addr.add_lit,WD,World.cell?_setCells_out _ _ _ _ _ (fun e _=>absurd (show g=w.heap.size from e) aE)];rw [GN,List.getElem?_drop] at hj
    exact hK1.cell hgw ((h.cellAt (i*2+j) aE).trans hj))
   (fun j hj=>by rw [WD];exact (bK PH.1 _ aE).1) (fun j hj=>by rw [hWf];exact (bK PH.1 _ aE).2) h1n
  rwa [ZL] at this
 have HR:=DX (EC hO3 (EC PH.2 (EC hK1 (EC KI (EC GN (EC RF (EC MM MS)))))));have RP:=DX NF
 have YV:¬ ((i:Int)=(n:Int)):=by omega
 have hz2b:((i:Int) == (n:Int))=false:=by simpa using YV
 have hci:¬ (c=i):=by omega
 have hGi:¬ (G=i):=by omega
 have hGi1:¬ (G=i+1):=by omega
 have hlt1:decide (c<n+1)=true:=DZ aE;have hlt2:decide ((c:Int)<(n:Int)+1)=true:=DZ aE
 have hlt3:(c:Int)<(n:Int)+1:=by omega
 have KK:IntKind.i64.wrap ((i:Int)+1)=(i:Int)+1:=IntWalk.i64_in _ aE
 have PA:(0:Int)<=(i:Int)+1:=by omega
 have QG:(i:Int)+1<=(n:Int)+1:=by omega
 have htn:((i:Int)+1).toNat=i+1:=by omega
 have TD:(i:Int)<=(n:Int)+1:=by omega
 have JN:(i:Int)<=(n:Int):=by omega
 have hG63:G<=9223372036854775807:=by unfold maxLen at hGm;omega
 subst OF
 have hE1:∀ x,((w.alloc (.cells ROW 68)).drew).cell? x=(w.drew.alloc (.cells ROW 68)).cell? x:=fun x=>rfl
 have hE2:∀ x,((w.alloc (.cells ROW 68)).drew).frozen? x=(w.drew.alloc (.cells ROW 68)).frozen? x:=fun x=>rfl
 have hF1:∀ x,(((w.alloc (.cells ROW 68)).drew.setCells w.heap.size (i*2) vs).drew).cell? x=((w.drew.alloc (.cells ROW 68)).setCells w.heap.size (i*2) vs).cell? x:=fun x=>rfl
 have hF2:∀ x,(((w.alloc (.cells ROW 68)).drew.setCells w.heap.size (i*2) vs).drew).frozen? x=((w.drew.alloc (.cells ROW 68)).setCells w.heap.size (i*2) vs).frozen? x:=fun x=>rfl
 clear PH hO3 hOX hK1 RF MM GN KI h hv GV GJ GO h1 h1n PQ NF PJ ZL hkk hik aBT hG hZ1 hZ2 MS hz2s IZ PS hGm YH;go_enter Tryz.func105,Tryz.ntmps105
 go_wp2_with (first
  | (at_builtin;refine Lib.wpList_append_run _ rfl _ _ _ _ rfl _ _ rfl rfl _ _ (hrz _) ?_)
  | (at_builtin;refine wpList_copy_runI _ rfl _ _ 23 23 rfl _ _ rfl rfl (hcpA _ hE1 hE2 _ _) ?_))
 go_region_law_o (refine step_copy_runI rfl _ _ 23 23 rfl (.slice (some ⟨w.heap.size,(i+1)*2,none⟩) (n - i) (G - (i+1))) (.slice (some ⟨g,i*2,none⟩) (n - i) (c - i)) (by simp [Act.eval,Act.put]) (by simp [Act.eval,Act.put]) (hcpB _ hF1 hF2 3 (G - (i+1)) (c - i)) ?_);go_wp2;go_ret;obtain ⟨⟨o3,g3⟩,g2,k1,KI,GN,RF,MM,MS⟩:=HR.out
 have e0:(olds++Z1.toList).take (i*2)=olds:=by rw [List.take_append_of_le_length aE,EE aE]
 have e1:((olds++vs++(olds++Z1.toList).drop (i*2+vs.length))).drop ((i+1)*2+news.length)=[]:=by
  rw [List.drop_eq_nil_iff];simp [RF,MS,RP.out,MM];omega
 have e2:(olds++vs++(olds++Z1.toList).drop (i*2+vs.length)).take ((i+1)*2)=olds++vs:=by
  rw [show (i+1)*2=(olds++vs).length by rw [List.length_append,RF,RP.out];omega];exact List.take_left
 rw [e0,e1,e2,List.append_nil] at o3;rw [<- KI,<- GN];have gk:w.grownBy (w.drew.alloc (.cells ROW 68)) none:=⟨Below.os k1,Below.tape k1,Below.output k1,Below.size k1,fun k hk _=>Below.block k1 k hk⟩;refine ⟨_,_,rfl,o3,?_⟩;have g4:=fN g2 (show (World.setCells _ w.heap.size (i*2) vs).grownBy (World.setCells _ w.heap.size (i*2) vs).drew (some w.heap.size) from ⟨rfl,rfl,rfl,EA _,fun _ _ _=>rfl⟩);exact Ku
end Go.Proofs.YtkfmladhicapeaaGreatDoor
