import Derived.Test.YtkfmladhicapeaaGreatDoorY6
namespace Go.Proofs.YtkfmladhicapeaaGreatDoor.Pj
open Go.RowKit Go.Shelf
theorem PU:(∀ (sl:List (Nat × Nat)) (V:Nat->Value) (a:Act),Zb sl V a=sl.foldl (fun a p=>a.put (some p.1) (V p.2)) a)/\(∀ (f:Act->Nat × Nat->Act) (a:Act) (x:Nat × Nat) (l:List (Nat × Nat)),(x :: l).foldl f a=l.foldl f (f a x)) /\
 (∀ (f:Act->Nat × Nat->Act) (a:Act),([]:List (Nat × Nat)).foldl f a=a)/\(∀ (l:List Value) (i:Nat) (x:Value),l.toArray.setIfInBounds i x=(l.set i x).toArray) /\
 (∀ (x y:Value) (l:List Value),(x :: l).set 0 y=y :: l)/\(∀ (x y:Value) (l:List Value) (n:Nat),(x :: l).set (n+1) y=x :: l.set n y) :=
 ⟨fun _ _ _=>rfl,fun _ _ _ _=>rfl,fun _ _=>rfl,fun _ _ _=>List.setIfInBounds_toArray ..,fun _ _ _=>rfl,fun _ _ _ _=>rfl⟩
def AN (ops:Array Oper) (i j:Nat):Bool:=((ops[i]?).map (fun o=>o.after.any fun e=>e.on == j&&Region.binds .any e)).getD false
def Zr (ops:Array Oper) (n:Nat):Bool:=ops.size == n+1&&(List.range n).all fun i=>(List.range (n+1)).any fun k=>decide (i<k)&&AN ops k i
def Zn (ops:Array Oper) (L:Nat->Prop):Prop:=∀ i j,AN ops i j=true->L i->L j
theorem Zn.all {ops:Array Oper} {n:Nat} {L:Nat->Prop} (h:Zn ops L) (hb:Zr ops n=true) (hn:L n):∀ m i,n - i<=m->i<=n->L i
 | 0,i,hm,hi=>by
  have e:i=n:=by omega
  exact e ▸ hn
 | m+1,i,hm,hi=>by
  by_cases e:i=n
  . exact e ▸ hn
  . unfold Zr at hb
    rw [Bool.and_eq_true] at hb;have h2:=List.all_eq_true.1 hb.2 i (List.mem_range.2 aE);obtain ⟨k,hk,FX⟩:=List.any_eq_true.1 h2;rw [Bool.and_eq_true] at FX;have hik:i<k:=of_decide_eq_true FX.1;have JE:=List.mem_range.1 hk;exact h k i FX.2 (Zn.all h (by unfold Zr;rw [Bool.and_eq_true];exact hb) hn m k aE aE)
theorem Zj {P:Program} {id:Nat} {ops:Array Oper} {Q:Exit->Act->World->Prop} (n:Nat) (J:Act->(Nat->Prop)->Act->World->Prop) (F:Act->Act->World->Prop) {a:Act} {w:World} (hm:P.follows .mixedOrders=true) (hb:Zq ops=true) (hl:Zr ops n=true)
 (h0:∀ L:Nat->Prop,(∀ j,j<n+1->¬ L j)->J a L a w.drew)
 (JP:∀ (L L':Nat->Prop) b w i o K,J a L b w->ops[i]?=some o->¬ L i->(∀ j,(o.after.any fun e=>e.on == j&&Region.binds .any e)=true->L j)->(∀ j,L' j↔(j=i\/L j))->(i<n->∀ a' w',J a L' a' w'->K a' w')->(i=n->∀ a' w',F a a' w'->K a' w')->(i=n->∀ j,j<n->L j) ->
  Za o (yielded ops b.tmps) (Oper.wp P o b w K Q) (K (b.put o.dst undef) w))
 (IT:∀ b w,F a b w->Q .normal b w):(Code.region id ops true).wp P Q a w:=by
 have IG:ops.size=n+1:=by
  exact Re
 refine Zg (fun a L b w=>Zn ops L/\(L n->F a b w)/\(¬ L n->J a L b w)) hm hb (fun L hL=>?_) ?_ ?_
 . exact Ed
 . rintro L L' b w i o K ⟨hC,_,hJ⟩ ho FY FZ hL hK
   have hi:i<ops.size:=(Array.getElem?_eq_some_iff.1 ho).1
   have hn:¬ L n:=fun h=>FY (hC.all hl h n i aE aE)
   have hC':Zn ops L':=by
    exact Ts
   exact JP L L' b w i o K (hJ hn) ho FY FZ hL (fun RR a' w' hj=>hK _ _ ⟨hC',fun h=>absurd (((hL n).1 h).resolve_left aE) hn,fun _=>hj⟩)
    (fun RR a' w' hf=>hK _ _ ⟨hC',fun _=>hf,fun h=>absurd ((hL n).2 (.inl RR.symm)) h⟩) (fun RR j hj=>((hL j).1 (hC'.all hl ((hL n).2 (.inl RR.symm)) n j aE aE)).resolve_left aE)
 . rintro L b w ⟨_,hF,_⟩ GH
   exact IT b w (hF (GH n aE))
end Go.Proofs.YtkfmladhicapeaaGreatDoor.Pj
namespace Go.Proofs.YtkfmladhicapeaaGreatDoor
open Go.RowKit Go.Shelf
theorem fG {P:Program} {ops:Array Oper} {o:Oper} {a:Act} {w:World} {K:Act->World->Prop} {Q:Exit->Act->World->Prop} {E:Prop} (hgd:o.guard=none) (s x:Operand) (t:TypeId)
 (ho:o.op=.call { callee:=.builtin .append,args:=#[s,x],argTypes:=#[t,t] })
 (base:Nat) (e:TypeId) (i:TypeInfo) (z:Value) (size bytes:Nat) (ht:P.underlying t=some (.slice e)) (hi:P.info? e=some i) (hz:i.zero=some z)
 (JT:i.size=size) (XB:i.bytes=bytes) (XH:z.cells.size=size) (IG:0<size)
 (v:Value) (n:Nat) (xs:List Value) (hs:a.eval s=v) (FU:w.ownsRow base e size v n xs)
 (ao:Option Addr) (m c:Nat) (news:List Value) (hx:a.eval x=.slice ao m c) (hno:ao=none->m=0) (hl:news.length=m*size) (hc:∀ ad,ao=some ad->∀ j u,news[j]?=some u->w.cell? (ad.add j)=some u) (h1:∀ u∈news,u.oneCell'=true)
 (hn:n+m<=1000000) (hb:bytes<=1000) (JI:base<=w.heap.size)
 (h:∀ v' w',w'.ownsRow base e size v' (n+m) (xs++news)->w.grownBy w' v.ownBlock->K (a.put o.dst v') w') :
 if Region.wanted o (yielded ops a.tmps)=true then Oper.wp P o a w K Q else E:=by
 rw [if_pos (Pj.Ze hgd _)];exact Pj.Zm s x t ho base e i z size bytes ht hi hz JT XB XH IG v n xs hs FU ao m c news hx hno hl hc h1 hn hb JI h
def wY (x:Int) (n:Nat):Nat:=(IntKind.u64.wrap x % (n:Int)).toNat
theorem xZ (x:Int) {n:Nat} (h:0<n):wY x n<n:=by
 have h1:=Int.emod_nonneg (IntKind.u64.wrap x) (show (n:Int)≠0 by omega);have h2:=Int.emod_lt_of_pos (IntKind.u64.wrap x) (show (0:Int)<(n:Int) by omega);unfold wY;omega
theorem jK (x:Int) (n:Nat) (hn:1<=n/\n<=1099511627776) (w:World):Calls Tryz.prog 45 #[.int .i64 x,.int .i64 n] w fun e w'=>e=.returned (.int .i64 (wY x n:Nat))/\w=w':=by
 have hu:IntKind.u64.wrap (n:Int)=(n:Int):=by rw [IntKind.wrap_u64];omega
 have GW:((n:Int) == 0)=false:=by rw [beq_eq_false_iff_ne];omega
 have h0:0<=IntKind.u64.wrap x:=by rw [IntKind.wrap_u64];omega
 go_enter Tryz.func45,Tryz.ntmps45;go_wp2;go_ret;have h1:=Int.emod_nonneg (IntKind.u64.wrap x) (show (n:Int)≠0 by omega);have h2:=Int.emod_lt_of_pos (IntKind.u64.wrap x) (show (0:Int)<(n:Int) by omega)
 have h3:wrap64 (IntKind.u64.wrap x % (n:Int))=IntKind.u64.wrap x % (n:Int):=by
  unfold wrap64;omega
 refine ⟨?_,rfl⟩;unfold wY;rw [Int.toNat_of_nonneg h1]
 show Ending.returned (.int .i64 (wrap64 (IntKind.u64.wrap x % (n:Int))))=_
 rw [h3]
end Go.Proofs.YtkfmladhicapeaaGreatDoor
namespace Go.Proofs.YtkfmladhicapeaaGreatDoor.Pj
open Go.RowKit Go.Shelf
theorem Zy {P:Program} {id:Nat} {ops:Array Oper} {Q:Exit->Act->World->Prop} (n:Nat) (J:Act->(Nat->Prop)->Act->World->Prop) (F:Act->Act->World->Prop) {a:Act} {w:World} (hm:P.follows .mixedOrders=true) (hb:Zq ops=true) (hl:Zr ops n=true)
 (h0:∀ L:Nat->Prop,(∀ j,j<n+1->¬ L j)->J a L a w.drew)
 (JP:∀ (L L':Nat->Prop) b w i o K,Zn ops L->J a L b w->ops[i]?=some o->¬ L i->(∀ j,(o.after.any fun e=>e.on == j&&Region.binds .any e)=true->L j)->(∀ j,L' j↔(j=i\/L j))->(i<n->∀ a' w',J a L' a' w'->K a' w')->(i=n->∀ a' w',F a a' w'->K a' w')->(i=n->∀ j,j<n->L j) ->
  Za o (yielded ops b.tmps) (Oper.wp P o b w K Q) (K (b.put o.dst undef) w))
 (IT:∀ b w,F a b w->Q .normal b w):(Code.region id ops true).wp P Q a w:=by
 have IG:ops.size=n+1:=by
  exact Re
 refine Zg (fun a L b w=>Zn ops L/\(L n->F a b w)/\(¬ L n->J a L b w)) hm hb (fun L hL=>?_) ?_ ?_
 . exact Ed
 . rintro L L' b w i o K ⟨hC,_,hJ⟩ ho FY FZ hL hK
   have hi:i<ops.size:=(Array.getElem?_eq_some_iff.1 ho).1
   have hn:¬ L n:=fun h=>FY (hC.all hl h n i aE aE)
   have hC':Zn ops L':=by
    exact Ts
   exact JP L L' b w i o K hC (hJ hn) ho FY FZ hL (fun RR a' w' hj=>hK _ _ ⟨hC',fun h=>absurd (((hL n).1 h).resolve_left aE) hn,fun _=>hj⟩)
    (fun RR a' w' hf=>hK _ _ ⟨hC',fun _=>hf,fun h=>absurd ((hL n).2 (.inl RR.symm)) h⟩) (fun RR j hj=>((hL j).1 (hC'.all hl ((hL n).2 (.inl RR.symm)) n j aE aE)).resolve_left aE)
 . rintro L b w ⟨_,hF,_⟩ GH
   exact IT b w (hF (GH n aE))
end Go.Proofs.YtkfmladhicapeaaGreatDoor.Pj
