import Derived.Test.YtkfmladhicapeaaGreatDoorY20
set_option maxRecDepth 100000
set_option maxHeartbeats 4000000
namespace Go.Proofs.YtkfmladhicapeaaGreatDoor
open Go.RowKit Go.Shelf
attribute [local go_sem] Oper.semAt_some
def mI:Array Value:=cw (List.replicate 16 0)
def z8:Array Value:=cw (List.replicate 8 0)
theorem BL:(Tryz.prog.info? 145).map (·.zero)=some (some (.agg mI)):=by kernel_rfl
theorem BK:(Tryz.prog.info? 102).map (·.zero)=some (some (.agg z8)):=by kernel_rfl
theorem BY:Tryz.prog.built 145 []=some mI:=by kernel_rfl
theorem BH:(Tryz.prog.info? 145).map (·.size)=some 16:=by kernel_rfl
theorem AZ:(Tryz.prog.info? 102).map (·.size)=some 8:=by kernel_rfl
theorem Fd:mI.all (·.oneCell')=true:=iT _
theorem sI:mI.size=16:=by simp [mI,cw]
theorem xK:z8.size=8:=by simp [z8,cw]
theorem qJ {v:List Nat} (h:Bl.W 16 v):(cw v).size=16:=by rw [yA];exact h.len
theorem eL {v:List Nat} (h:Bl.W 8 v):(cw v).size=8:=by rw [yA];exact h.len
structure V8 (w:World) (g:Nat) (v:List Nat) (W:World):Prop where
 row:aA W g (cw v) 102
 grown:w.grownBy W (some g)
 ok:Bl.W 8 v
theorem V8.cell {w W:World} {g:Nat} {v:List Nat} (h:V8 w g v W) (i:Nat) (hi:i<8):W.cell? ⟨g,i,none⟩=some (.int .u32 (v.getD i 0:Nat)):=by
 rw [h.row.cell];exact cR v i (by rw [h.ok.len];exact hi)
theorem V8.free {w W:World} {g:Nat} {v:List Nat} (h:V8 w g v W) (i:Nat):W.frozen? ⟨g,i,none⟩=false:=h.row.free i
theorem V8.put {w W:World} {g:Nat} {v:List Nat} (h:V8 w g v W) (nq i:Nat) {x:Nat} (hx:x<4294967296):V8 w g (v.set i x) ((W.drewN nq).setCell ⟨g,i,none⟩ (.int .u32 (x:Int))):=by
 refine ⟨?_,kH h.grown nq i _,h.ok.set i hx⟩;have hb:aA (W.drewN nq) g (cw v) 102:=h.row;rw [<- Ls];exact hb.set _
theorem V8.put0 {w W:World} {g:Nat} {v:List Nat} (h:V8 w g v W) (i:Nat) {x:Nat} (hx:x<4294967296):V8 w g (v.set i x) (W.setCell ⟨g,i,none⟩ (.int .u32 (x:Int))):=h.put 0 i hx
theorem eH.put0 {w W:World} {g:Nat} {v:List Nat} (h:eH w g v W) (i:Nat) {x:Nat} (hx:x<4294967296):eH w g (v.set i x) (W.setCell ⟨g,i,none⟩ (.int .u32 (x:Int))):=h.put 0 i hx
theorem eH.here {w:World} {g:Nat} {v:List Nat} (h:aA w g (cw v) 145) (k:Bl.W 16 v):eH w g v w:=⟨h,kC _ _,k⟩
theorem V8.here {w:World} {g:Nat} {v:List Nat} (h:aA w g (cw v) 102) (k:Bl.W 8 v):V8 w g v w:=⟨h,kC _ _,k⟩
theorem eH.kept {wo w W:World} {g:Nat} {v:List Nat} (h:eH w g v W) (k:aB wo w) (hg:wo.heap.size<=g):aB wo W:=k.gr h.grown (fun _ e=>by cases e;exact hg)
theorem V8.kept {wo w W:World} {g:Nat} {v:List Nat} (h:V8 w g v W) (k:aB wo w) (hg:wo.heap.size<=g):aB wo W:=k.gr h.grown (fun _ e=>by cases e;exact hg)
theorem aU {w W:World} {g b:Nat} {C:Array Value} {t:TypeId} (h:aA w b C t) (g':w.grownBy W (some g)) (GW:b≠g):aA W b C t:=aM h g' (fun e=>GW (by cases e;rfl))
theorem We (x r:Nat):((x:Int)*2 ^ (8*r)) % 4294967296=((x*2 ^ (8*r) % 4294967296:Nat):Int):=by
 rw [show (x:Int)*2 ^ (8*r)=((x*2 ^ (8*r):Nat):Int) by simp];generalize x*2 ^ (8*r)=y;omega
theorem Xt (x r:Nat):((x:Int)*2 ^ (r*8)) % 4294967296=((x*2 ^ (8*r) % 4294967296:Nat):Int):=by
 rw [Nat.mul_comm r 8];exact We x r
theorem zL (s:ByteArray) (k:Nat) (h:k<s.size):Bl.words s.data.toList (k+1)=Bl.wd (Bl.words s.data.toList k) k s[k].toNat:=by
 show Bl.wd _ _ _=_
 congr 1
 have h':k<s.data.toList.length:=by simpa using h
 rw [List.getD_eq_getElem?_getD,List.getElem?_eq_getElem h'];rfl
theorem Gu (s:ByteArray) (hs:s.size<=64) (w:World) :
 Calls Tryz.prog 171 #[.string s] w fun e w'=>e=.returned (.agg (cw (Bl.words s.data.toList s.size)))/\aB w w':=by
 have HBK:=DX (EY (w.alloc (.cells mI 145)) mI 145);go_enter Tryz.func171,Tryz.ntmps171
 go_wp2_with (first
  | (with_reducible refine aZ rfl 145 rfl mI BL ?_)
  | (with_reducible refine gP rfl 145 rfl mI BY ?_)
  | (refine aD rfl 145 (.tmp 3) (.tmp 5) rfl (w.alloc (.cells mI 145)).heap.size mI mI 145 rfl rfl HBK.out BH rfl Fd ?_))
 refine Ke (fun w1 KK=>?_)
 have hk:aB w w1:=by rw [KK];exact (((EX w).alloc _).alloc _).setRow aE _
 have QG:aA w1 (w.heap.size+1) mI 145:=by
  have h:=HBK.out.setRow mI;rw [World.size_alloc] at h;rw [KK];exact h
 have PA:aA w1 w.heap.size mI 145:=by
  rw [KK]
  exact ((EY w mI 145).kept ((EX _).alloc _)).other _ aE
 clear KK
 obtain ⟨p,hp⟩:∃ p,p=w.heap.size+1:=⟨_,rfl⟩
 obtain ⟨p0,PX⟩:∃ p0,p0=w.heap.size:=⟨_,rfl⟩
 rw [<- hp] at QG ⊢;rw [<- PX] at PA ⊢;have HP:=DX hp;have VX:=DX PX;have RV:eH w1 p (List.replicate 16 0) w1:=eH.here QG (Bl.W.zeros 16);have NL:=DX PA;have HK:=DX hk;have NI:=DX RV
 have hpp:p0≠p:=by omega
 clear hp PX PA QG hk RV;go_wp2_with fail;go_loopw [4,8] (fun a i wr=>∃ k:Nat,k<=s.size/\i=.int .i64 k/\eH w1 p (Bl.words s.data.toList k) wr) (fun _ i _=>s.size - (intOf i).toNat)
 case atStart=>exact ⟨0,aE,rfl,NI.out⟩
 case round =>
  obtain ⟨k,hk,rfl,hv⟩:=hrel;have HV:=DX hv;clear hv
  by_cases FV:k<s.size
  . have HS:=DX (zL s k FV)
    obtain ⟨q,hq⟩:∃ q,q=k / 4:=⟨_,rfl⟩
    obtain ⟨r,hr⟩:∃ r,r=k % 4:=⟨_,rfl⟩
    have hq16:q<16:=by omega
    have hr4:r<4:=by omega
    have c1:=HV.out.cell q hq16;have f1:=HV.out.free q
    have LA:(Bl.words s.data.toList k).getD q 0<4294967296:=HV.out.ok.at q
    obtain ⟨u,hu⟩:∃ u,u=(Bl.words s.data.toList k).getD q 0:=⟨_,rfl⟩
    rw [<- hu] at c1 LA;have hx:=UInt8.toNat_lt s[k]
    have e1:=Xt s[k].toNat r
    have e2:=o32 u (s[k].toNat*2 ^ (8*r) % 4294967296) LA (Nat.mod_lt _ aF)
    have GL:∀ nq,eH w1 p (Bl.wd (Bl.words s.data.toList k) k s[k].toNat) ((wr.drewN nq).setCell ⟨p,q,none⟩ (.int .u32 ((u ||| s[k].toNat*2 ^ (8*r) % 4294967296:Nat):Int))):=fun nq=>by
     have h:=HV.out.put nq q (Bl.or_lt LA (Nat.mod_lt (s[k].toNat*2 ^ (8*r)) aF));unfold Bl.wd;rw [<- hq,<- hr,<- hu];exact h
    have IN:=DX GL
    have XF:(k:Int) / 4=(q:Int):=by omega
    have hr2:(k:Int) % 4=(r:Int):=by omega
    clear GL hq hr hu LA
    generalize u ||| s[k].toNat*2 ^ (8*r) % 4294967296=z at *
    generalize s[k].toNat*2 ^ (8*r) % 4294967296=y at *
    go_wp2_with fail
    refine (wpIn_wide (n:=0)).1 ?_
    refine wpIn_region_quiet_tail_lit 14 aW aW aW ?_
    exact Mr
  . obtain rfl:k=s.size:=by omega
    have SA:=DX (HV.out.kept HK.out (by have:=HP.out;omega));have NW:=aU NL.out HV.out.grown hpp;have HR:=DX NW;clear NW
    go_wp2_with (first
     | (refine wpList_load_row rfl 145 (.tmp 3) rfl p rfl 145 (cw (Bl.words s.data.toList s.size)) (0,0) _ HV.out.row Tryz.underlying145 rfl (by rw [qJ HV.out.ok];exact BH) ?_)
     | (refine aD rfl 145 (.tmp 2) (.tmp 26) rfl p0 (cw (Bl.words s.data.toList s.size)) mI 145 rfl rfl HR.out (by rw [qJ HV.out.ok];exact BH) (by rw [qJ HV.out.ok];exact sI) (iT _) ?_))
    refine EI (v:=.agg (cw (Bl.words s.data.toList s.size))) ?_ rfl ⟨rfl,SA.out.setRow (by have:=VX.out;omega) _⟩
    exact EH rfl _ _ p0 145 (cw (Bl.words s.data.toList s.size)) (0,0) _ rfl (HR.out.setRow _) Tryz.underlying145 rfl (by rw [qJ HV.out.ok];exact BH)
theorem vC {P:Program} (w:World) (a:Addr) (ty:TypeId) (cs:Array Value) (d:TypeDesc) (hc:∀ j v,cs.toList[j]?=some v->w.cell? (a.add j)=some v)
 (hu:P.underlying ty=some d) (hd:(match d with | .struct _ | .array _ _=>true | _=>false)=true) (hi:(P.info? ty).map (·.size)=some cs.size) :
 (loadVar ty a).run P w=.ok (.agg cs) w:=by
 have hl:(loadCells a cs.toList.length).run P w=.ok cs.toList.toArray w:=run_loadCells_list (P:=P) w a cs.toList hc
 cases hq:P.info? ty with
 | none=>simp [hq] at hi
 | some i =>
  have hs:i.size=cs.size:=by simpa [hq] using hi
  have hagg:(isAgg ty).run P w=.ok true w:=by
   unfold isAgg;rw [Sem.run_bind,run_underlying hu w];cases d <;> simp_all
  simp only [Array.length_toList,Array.toArray_toList] at hl
  simp [loadVar,Sem.run_bind,hagg,sizeOf,typeInfo,hq,hs,hl]
theorem dE {P:Program} {ops:Array Oper} {rest:List Oper} {o:Oper} {a:Act} {w:World} {Q:Exit->Act->World->Prop} (hgd:o.guard=none) (ty:TypeId) (x:Operand) (ho:o.op=.load ty x)
 (p:Addr) (hx:a.eval x=.pointer (some p)) (cs:Array Value) (d:TypeDesc) (hc:∀ j v,cs.toList[j]?=some v->w.cell? (p.add j)=some v)
 (hu:P.underlying ty=some d) (hd:(match d with | .struct _ | .array _ _=>true | _=>false)=true) (hi:(P.info? ty).map (·.size)=some cs.size)
 (h:wpList P ops Q rest (a.put o.dst (.agg cs)) w):wpList P ops Q (o :: rest) a w :=
 wpList_plain hgd fun _ hK=>by
  unfold Oper.wp execOp;exact Ru
theorem bX {P:Program} {ops:Array Oper} {rest:List Oper} {o:Oper} {a:Act} {w:World} {Q:Exit->Act->World->Prop} (hgd:o.guard=none) (ty:TypeId) (parts:Array (Nat × Operand)) (ho:o.op=.build ty parts) (cells:Array Value)
 (hf:P.built ty (parts.map fun (i,x)=>(i,a.eval x)).toList=some cells) (h:wpList P ops Q rest (a.put o.dst (.agg cells)) w):wpList P ops Q (o :: rest) a w :=
 wpList_plain hgd fun _ hK=>by
  have hr:=run_build (P:=P) w ty (parts.map fun (i,x)=>(i,a.eval x)) cells hf;unfold Oper.wp execOp;exact St
theorem jQ (b o j:Nat):(⟨b,o,none⟩:Addr).add j=⟨b,o+j,none⟩:=by unfold Addr.add;split <;> simp_all
theorem rF (w:World):Calls Tryz.prog 92 #[] w fun e w'=>e=.returned (.agg (cw Bl.begins))/\aB w w':=by
 go_enter Tryz.func92,Tryz.ntmps92
 go_wp2_with (first
  | (with_reducible refine aZ rfl 102 rfl z8 BK ?_)
  | (refine aD rfl 102 (.tmp 0) (.tmp 1) rfl w.heap.size (cw Bl.begins) z8 102 rfl aW (EY _ _ _) AZ rfl (iT _) ?_))
 refine EI (v:=.agg (cw Bl.begins)) ?_ rfl ⟨rfl,((EX w).alloc _).setRow (EA _) _⟩
 exact EH rfl _ _ w.heap.size 102 (cw Bl.begins) (0,0) _ rfl ((EY w z8 _).setRow _) ES rfl AZ
def mG:Array Value:=(Bl.orders.flatten.map fun (n:Nat)=>Value.int .i64 (n:Int)).toArray
def pI:Array Value:=Array.replicate 160 (.int .i64 0)
def gX (r:Nat):Array Value:=((Bl.orders.getD r []).map fun (n:Nat)=>Value.int .i64 (n:Int)).toArray
def yM:Array Value:=Array.replicate 16 (.int .i64 0)
theorem BQ:(Tryz.prog.info? 147).map (·.zero)=some (some (.agg pI)):=by kernel_rfl
theorem BO:(Tryz.prog.info? 147).map (·.size)=some 160:=by kernel_rfl
theorem BW:(Tryz.prog.info? 146).map (·.zero)=some (some (.agg yM)):=by kernel_rfl
theorem BN:(Tryz.prog.info? 146).map (·.size)=some 16:=by kernel_rfl
theorem tW:mG.all (·.oneCell')=true:=by kernel_rfl
theorem iF:mG.size=160:=by kernel_rfl
theorem yW (r:Nat):(gX r).all (·.oneCell')=true:=by
 rw [Array.all_eq_true];intro i h
 simp [gX,Value.oneCell']
theorem gZ (r:Nat) (h:r<10):(gX r).size=16:=by
 have h2:∀ r,r<10->(Bl.orders.getD r []).length=16:=by decide
 simp only [gX,List.size_toArray,List.length_map];exact h2 r h
theorem Pe:∀ r,r<10->∀ j,j<16->mG[16*r+j]?=(gX r)[j]?:=by
 have h:∀ r,r<10->∀ j,j<16->(Bl.orders.flatten)[16*r+j]?=(Bl.orders.getD r [])[j]?:=by decide
 intro r hr j hj;simp only [mG,gX,List.getElem?_toArray,List.getElem?_map,h r hr j hj]
theorem cL (r j:Nat) (h:r<10) (hj:j<16):(gX r)[j]?=some (.int .i64 ((Bl.orders.getD r []).getD j 0:Nat)):=by
 have h2:∀ r,r<10->(Bl.orders.getD r []).length=16:=by decide
 have h3:=h2 r h
 have h4:j<(Bl.orders.getD r []).length:=by omega
 rw [List.getD_eq_getElem?_getD (l:=Bl.orders.getD r []),List.getElem?_eq_getElem h4];simp only [gX,List.getElem?_toArray,List.getElem?_map,List.getElem?_eq_getElem h4,Option.map_some,Option.getD_some]
theorem wN (w:World):Calls Tryz.prog 122 #[] w fun e w'=>e=.returned (.agg mG)/\aB w w':=by
 go_enter Tryz.func122,Tryz.ntmps122
 go_wp2_with (first
  | (with_reducible refine aZ rfl 147 rfl pI BQ ?_)
  | (with_reducible refine bX (o:=⟨some 1,_,_,_,_,_⟩) rfl 146 _ rfl (gX 0) aW ?_)
  | (with_reducible refine bX (o:=⟨some 2,_,_,_,_,_⟩) rfl 146 _ rfl (gX 1) aW ?_)
  | (with_reducible refine bX (o:=⟨some 3,_,_,_,_,_⟩) rfl 146 _ rfl (gX 2) aW ?_)
  | (with_reducible refine bX (o:=⟨some 4,_,_,_,_,_⟩) rfl 146 _ rfl (gX 3) aW ?_)
  | (with_reducible refine bX (o:=⟨some 5,_,_,_,_,_⟩) rfl 146 _ rfl (gX 4) aW ?_)
  | (with_reducible refine bX (o:=⟨some 6,_,_,_,_,_⟩) rfl 146 _ rfl (gX 5) aW ?_)
  | (with_reducible refine bX (o:=⟨some 7,_,_,_,_,_⟩) rfl 146 _ rfl (gX 6) aW ?_)
  | (with_reducible refine bX (o:=⟨some 8,_,_,_,_,_⟩) rfl 146 _ rfl (gX 7) aW ?_)
  | (with_reducible refine bX (o:=⟨some 9,_,_,_,_,_⟩) rfl 146 _ rfl (gX 8) aW ?_)
  | (with_reducible refine bX (o:=⟨some 10,_,_,_,_,_⟩) rfl 146 _ rfl (gX 9) aW ?_)
  | (with_reducible refine bX (o:=⟨some 11,_,_,_,_,_⟩) rfl 147 _ rfl mG aW ?_)
  | (refine aD rfl 147 (.tmp 0) (.tmp 11) rfl w.heap.size mG pI 147 ?a1 ?a2 ?a3 ?a4 ?a5 ?a6 ?a7))
 case a3=>exact EY _ _ _
 case a4=>rw [iF];exact BO
 case a5=>rw [iF,pI,Array.size_replicate]
 case a6=>exact tW
 case a7 =>
  have hb:=(EY w pI 147).setRow mG
  have hk:=((EX w).alloc (.cells pI 147)).setRow (EA _) mG
  have hs:(Tryz.prog.info? 147).map (·.size)=some mG.size:=by rw [iF];exact BO
  generalize mG=V at *;simp only [dO,Act.put]
  refine EI (v:=.agg V) ?_ rfl ⟨rfl,hk⟩
  exact EH rfl _ _ w.heap.size 147 V (0,0) _ rfl hb Tryz.underlying147 rfl hs
end Go.Proofs.YtkfmladhicapeaaGreatDoor
