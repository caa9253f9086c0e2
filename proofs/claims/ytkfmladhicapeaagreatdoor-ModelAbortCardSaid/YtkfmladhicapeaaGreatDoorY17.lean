import Derived.Test.YtkfmladhicapeaaGreatDoorY15
import Derived.Test.YtkfmladhicapeaaGreatDoorY9
set_option maxRecDepth 1000000
set_option maxHeartbeats 4000000
namespace Go.Proofs.YtkfmladhicapeaaGreatDoor
open Go.RowKit Go.Shelf
attribute [local go_sem] Oper.semAt_some
theorem Tz (base g n cap i j:Nat) (hj:j=i+1) (xs:List Value) (w:World) (h:w.ownsRow base 62 3 (.slice (some ⟨g,0,none⟩) n cap) n xs) (h1:∀ u∈xs,u.oneCell'=true) (hi:i<n) (hn:n<=1000000) :
 Calls Tryz.prog 103 #[.slice (some ⟨g,0,none⟩) n cap,.int .i64 i,.int .i64 j] w fun e w'=>e=.returned (.slice (some ⟨g,0,none⟩) (n - 1) cap) /\
  w'.ownsRow base 62 3 (.slice (some ⟨g,0,none⟩) (n - 1) cap) (n - 1) (xs.take (i*3)++xs.drop (j*3))/\w.grownBy w' (some g):=by
 obtain ⟨i0,IY,GV,GJ,GO⟩:=gD Tryz.prog BA
 have mixed:Tryz.prog.follows Departure.mixedOrders=true:=by kernel_rfl
 obtain ⟨NJ,PS,_⟩:=iK h;unfold maxLen at PS;have IZ:=h.1
 obtain ⟨m,hm⟩:∃ m,m=n - j:=⟨_,rfl⟩
 obtain ⟨news,GN⟩:∃ news,news=xs.drop (j*3):=⟨_,rfl⟩
 have GM:news.length=m*3:=by rw [GN,List.length_drop,IZ];omega
 obtain ⟨A,hA,YT⟩:∃ A:Addr,(if cap=j then some (⟨g,0,none⟩:Addr) else some ⟨g,j*3,none⟩)=some A/\Hid (∀ t u,news[t]?=some u->w.drew.cell? (A.add t)=some u):=by
  by_cases hcj:cap=j
  . refine ⟨⟨g,0,none⟩,by simp [hcj],fun t u hu=>?_⟩
    have h0:news.length=0:=by rw [GM];omega
    rw [List.length_eq_zero_iff.1 h0] at hu
    simp at hu
  . refine ⟨⟨g,j*3,none⟩,by simp [hcj],fun t u hu=>?_⟩
    have ht:t<m*3:=by
     have:=(List.getElem?_eq_some_iff.1 hu).1
     rwa [GM] at this
    rw [GN,List.getElem?_drop] at hu;rw [Addr.add_lit]
    exact (h.cellAt (j*3+t) aE).trans hu
 have s1:=DX GM
 have s2:Hid (∀ u∈news,u.oneCell'=true):=fun u hu=>h1 u (by rw [GN] at hu;exact List.mem_of_mem_drop hu)
 have s3:Hid (∀ t,t<news.length->(w.drew.cell? ⟨g,0+i*3+t,none⟩).isSome=true/\w.drew.frozen? ⟨g,0+i*3+t,none⟩=false):=fun t ht=>by
  rw [GM] at ht;exact bK h (0+i*3+t) aE
 obtain ⟨W1,OF⟩:∃ W1,W1=w.drew.setCells g (0+i*3) news:=⟨_,rfl⟩
 have NC:W1.ownsRow base 62 3 (.slice (some ⟨g,0,none⟩) n cap) n (xs.take (i*3)++news++xs.drop (i*3+news.length))/\w.grownBy W1 (some g):=by
  have hh:=bZ news (i*3) w.drew xs h.drew (by rw [GM,IZ];omega);exact Ld
 have e1:n - (i+m)=1:=by omega
 have PB:∀ ty,(Builtin.clear_ #[22] ty #[.slice (some ⟨g,(i+m)*3,none⟩) 1 (cap - (i+m))]).run Tryz.prog W1=.ok (.tuple #[]) (W1.setCells g ((i+m)*3) [.string ByteArray.empty,.string ByteArray.empty,.bool false]):=fun ty =>
  kK W1 22 62 ty (.agg (LT ByteArray.empty ByteArray.empty false)) [.string ByteArray.empty,.string ByteArray.empty,.bool false] ER (fun w=>by unfold zeroValue;simp [typeInfo,IY,GV]) rfl (fun u hu=>by simp at hu;rcases hu with rfl | rfl | rfl <;> rfl) g ((i+m)*3) (cap - (i+m)) (fun t ht=>(bK NC.1 _ (by simp at ht;omega)).1) (fun t ht=>(bK NC.1 _ (by simp at ht;omega)).2)
 have PH:=bZ [.string ByteArray.empty,.string ByteArray.empty,.bool false] ((i+m)*3) W1 _ NC.1 (by simp [GM,IZ];omega);have HO:=DX (EC NC.2 PH);have hW:=DX OF;have HM:=DX hm
 have hic:i<=cap:=by omega
 have hjc:j<=cap:=by omega
 have hjn:j<=n:=by omega
 have WH:i<=j:=by omega
 have GW:¬ (i:Int)=(j:Int):=by omega
 have SI:((i:Int) == (j:Int))=false:=by simpa using GW
 have HX:=DX (EC GN (EC IZ h1))
 have hjm:j+m=n:=by omega
 have hnjm:n - j=m:=by omega
 have him:i+m<=n:=by omega
 clear NC PH OF h GM h1 hm hj;go_enter Tryz.func103,Tryz.ntmps103;go_wp2_with fail;go_region_law_o (refine step_append_room rfl (.tmp 22) (.tmp 25) 22 rfl 62 i0 3 ER IY GJ g 0 i cap (by simp [Act.eval,Act.put]) A m (cap - j) news (by simp [Act.eval,Act.put]) s1.out YT.out s2.out aE s3.out ?_;rw [<- hW.out]);go_wp2;go_ret;obtain ⟨GN,IZ,h1⟩:=HX.out;obtain ⟨g1,o2,g2⟩:=HO.out
 have him1:i+m=n - 1:=by omega
 rw [him1] at o2 g2 ⊢;have o3:=nQ o2 (m:=n - 1) aE
 have hlA:(xs.take (i*3)++news).length=(n - 1)*3:=by rw [List.length_append,List.length_take,s1.out,IZ];omega
 rw [List.append_assoc (List.take ((n - 1)*3) _),List.take_append_of_le_length (by rw [List.length_take,List.append_assoc,List.length_append,List.length_append,List.length_take,s1.out,List.length_drop,IZ];omega),List.take_take,Nat.min_self] at o3;rw [List.take_append_of_le_length aE,EE aE,GN] at o3;exact ⟨rfl,o3,fN g1 g2⟩
theorem Uz (base g n cap i j:Nat) (hj:j=i+1) (xs:List Value) (w:World) (h:w.ownsRow base 68 2 (.slice (some ⟨g,0,none⟩) n cap) n xs) (h1:∀ u∈xs,u.oneCell'=true) (hi:i<n) (hn:n<=1000000) :
 Calls Tryz.prog 106 #[.slice (some ⟨g,0,none⟩) n cap,.int .i64 i,.int .i64 j] w fun e w'=>e=.returned (.slice (some ⟨g,0,none⟩) (n - 1) cap) /\
  w'.ownsRow base 68 2 (.slice (some ⟨g,0,none⟩) (n - 1) cap) (n - 1) (xs.take (i*2)++xs.drop (j*2))/\w.grownBy w' (some g):=by
 obtain ⟨i0,IY,GV,GJ,GO⟩:=iH Tryz.prog BC
 have mixed:Tryz.prog.follows Departure.mixedOrders=true:=by kernel_rfl
 obtain ⟨NJ,PS,_⟩:=iK h;unfold maxLen at PS;have IZ:=h.1
 obtain ⟨m,hm⟩:∃ m,m=n - j:=⟨_,rfl⟩
 obtain ⟨news,GN⟩:∃ news,news=xs.drop (j*2):=⟨_,rfl⟩
 have GM:news.length=m*2:=by rw [GN,List.length_drop,IZ];omega
 obtain ⟨A,hA,YT⟩:∃ A:Addr,(if cap=j then some (⟨g,0,none⟩:Addr) else some ⟨g,j*2,none⟩)=some A/\Hid (∀ t u,news[t]?=some u->w.drew.cell? (A.add t)=some u):=by
  exact Xq
 have s1:=DX GM
 have s2:Hid (∀ u∈news,u.oneCell'=true):=fun u hu=>h1 u (by rw [GN] at hu;exact List.mem_of_mem_drop hu)
 have s3:Hid (∀ t,t<news.length->(w.drew.cell? ⟨g,0+i*2+t,none⟩).isSome=true/\w.drew.frozen? ⟨g,0+i*2+t,none⟩=false):=fun t ht=>by
  rw [GM] at ht;exact bK h (0+i*2+t) aE
 obtain ⟨W1,OF⟩:∃ W1,W1=w.drew.setCells g (0+i*2) news:=⟨_,rfl⟩
 have NC:W1.ownsRow base 68 2 (.slice (some ⟨g,0,none⟩) n cap) n (xs.take (i*2)++news++xs.drop (i*2+news.length))/\w.grownBy W1 (some g):=by
  have hh:=bZ news (i*2) w.drew xs h.drew (by rw [GM,IZ];omega);exact Ld
 have e1:n - (i+m)=1:=by omega
 have PB:∀ ty,(Builtin.clear_ #[23] ty #[.slice (some ⟨g,(i+m)*2,none⟩) 1 (cap - (i+m))]).run Tryz.prog W1=.ok (.tuple #[]) (W1.setCells g ((i+m)*2) [.string ByteArray.empty,.string ByteArray.empty]):=fun ty =>
  kK W1 23 68 ty (.agg LE) [.string ByteArray.empty,.string ByteArray.empty] ET (fun w=>by unfold zeroValue;simp [typeInfo,IY,GV]) rfl (fun u hu=>by simp at hu;rcases hu with rfl | rfl <;> rfl) g ((i+m)*2) (cap - (i+m)) (fun t ht=>(bK NC.1 _ (by simp at ht;omega)).1) (fun t ht=>(bK NC.1 _ (by simp at ht;omega)).2)
 have PH:=bZ [.string ByteArray.empty,.string ByteArray.empty] ((i+m)*2) W1 _ NC.1 (by simp [GM,IZ];omega);have HO:=DX (EC NC.2 PH);have hW:=DX OF;have HM:=DX hm
 have hic:i<=cap:=by omega
 have hjc:j<=cap:=by omega
 have hjn:j<=n:=by omega
 have WH:i<=j:=by omega
 have GW:¬ (i:Int)=(j:Int):=by omega
 have SI:((i:Int) == (j:Int))=false:=by simpa using GW
 have HX:=DX (EC GN (EC IZ h1))
 have hjm:j+m=n:=by omega
 have hnjm:n - j=m:=by omega
 have him:i+m<=n:=by omega
 clear NC PH OF h GM h1 hm hj;go_enter Tryz.func106,Tryz.ntmps106;go_wp2_with fail;go_region_law_o (refine step_append_room rfl (.tmp 22) (.tmp 25) 23 rfl 68 i0 2 ET IY GJ g 0 i cap (by simp [Act.eval,Act.put]) A m (cap - j) news (by simp [Act.eval,Act.put]) s1.out YT.out s2.out aE s3.out ?_;rw [<- hW.out]);exact Yl
theorem Uh (base g n cap i j:Nat) (hj:j=i+1) (xs:List Value) (w:World) (h:w.ownsRow base 65 2 (.slice (some ⟨g,0,none⟩) n cap) n xs) (h1:∀ u∈xs,u.oneCell'=true) (hi:i<n) (hn:n<=1000000) :
 Calls Tryz.prog 98 #[.slice (some ⟨g,0,none⟩) n cap,.int .i64 i,.int .i64 j] w fun e w'=>e=.returned (.slice (some ⟨g,0,none⟩) (n - 1) cap) /\
  w'.ownsRow base 65 2 (.slice (some ⟨g,0,none⟩) (n - 1) cap) (n - 1) (xs.take (i*2)++xs.drop (j*2))/\w.grownBy w' (some g):=by
 obtain ⟨i0,IY,GV,GJ,GO⟩:=kA Tryz.prog BE
 have mixed:Tryz.prog.follows Departure.mixedOrders=true:=by kernel_rfl
 obtain ⟨NJ,PS,_⟩:=iK h;unfold maxLen at PS;have IZ:=h.1
 obtain ⟨m,hm⟩:∃ m,m=n - j:=⟨_,rfl⟩
 obtain ⟨news,GN⟩:∃ news,news=xs.drop (j*2):=⟨_,rfl⟩
 have GM:news.length=m*2:=by rw [GN,List.length_drop,IZ];omega
 obtain ⟨A,hA,YT⟩:∃ A:Addr,(if cap=j then some (⟨g,0,none⟩:Addr) else some ⟨g,j*2,none⟩)=some A/\Hid (∀ t u,news[t]?=some u->w.drew.cell? (A.add t)=some u):=by
  exact Xq
 have s1:=DX GM
 have s2:Hid (∀ u∈news,u.oneCell'=true):=fun u hu=>h1 u (by rw [GN] at hu;exact List.mem_of_mem_drop hu)
 have s3:Hid (∀ t,t<news.length->(w.drew.cell? ⟨g,0+i*2+t,none⟩).isSome=true/\w.drew.frozen? ⟨g,0+i*2+t,none⟩=false):=fun t ht=>by
  rw [GM] at ht;exact bK h (0+i*2+t) aE
 obtain ⟨W1,OF⟩:∃ W1,W1=w.drew.setCells g (0+i*2) news:=⟨_,rfl⟩
 have NC:W1.ownsRow base 65 2 (.slice (some ⟨g,0,none⟩) n cap) n (xs.take (i*2)++news++xs.drop (i*2+news.length))/\w.grownBy W1 (some g):=by
  have hh:=bZ news (i*2) w.drew xs h.drew (by rw [GM,IZ];omega);exact Ld
 have e1:n - (i+m)=1:=by omega
 have PB:∀ ty,(Builtin.clear_ #[24] ty #[.slice (some ⟨g,(i+m)*2,none⟩) 1 (cap - (i+m))]).run Tryz.prog W1=.ok (.tuple #[]) (W1.setCells g ((i+m)*2) [.int .i64 0,.string ByteArray.empty]):=fun ty =>
  kK W1 24 65 ty (.agg #[.int .i64 0,.string ByteArray.empty]) [.int .i64 0,.string ByteArray.empty] EU (fun w=>by unfold zeroValue;simp [typeInfo,IY,GV]) rfl (fun u hu=>by simp at hu;rcases hu with rfl | rfl <;> rfl) g ((i+m)*2) (cap - (i+m)) (fun t ht=>(bK NC.1 _ (by simp at ht;omega)).1) (fun t ht=>(bK NC.1 _ (by simp at ht;omega)).2)
 have PH:=bZ [.int .i64 0,.string ByteArray.empty] ((i+m)*2) W1 _ NC.1 (by simp [GM,IZ];omega);have HO:=DX (EC NC.2 PH);have hW:=DX OF;have HM:=DX hm
 have hic:i<=cap:=by omega
 have hjc:j<=cap:=by omega
 have hjn:j<=n:=by omega
 have WH:i<=j:=by omega
 have GW:¬ (i:Int)=(j:Int):=by omega
 have SI:((i:Int) == (j:Int))=false:=by simpa using GW
 have HX:=DX (EC GN (EC IZ h1))
 have hjm:j+m=n:=by omega
 have hnjm:n - j=m:=by omega
 have him:i+m<=n:=by omega
 clear NC PH OF h GM h1 hm hj;go_enter Tryz.func98,Tryz.ntmps98;go_wp2_with fail;go_region_law_o (refine step_append_room rfl (.tmp 22) (.tmp 25) 24 rfl 65 i0 2 EU IY GJ g 0 i cap (by simp [Act.eval,Act.put]) A m (cap - j) news (by simp [Act.eval,Act.put]) s1.out YT.out s2.out aE s3.out ?_;rw [<- hW.out]);exact Yl
theorem nO (w:World) (e:TypeId) (k:Nat):(w.alloc (.cells #[] e)).ownsRow w.heap.size e k (.slice (some ⟨w.heap.size,0,none⟩) 0 0) 0 [] :=
 ⟨by simp,.inr ⟨w.heap.size,0,#[],rfl,EA _,heap_alloc_new w _,EA _,by unfold maxLen;omega,by simp,by simp⟩⟩
theorem aB.addr {w w':World} (k:aB w w') {a:Addr} {v:Value} (h:w.cell? a=some v):w'.cell? a=some v:=by
 obtain ⟨b,o,s⟩:=a;have hs:s=none:=World.cell?_spot h;subst hs;exact k.cell (jC h) h
theorem Pb {W:World} {b off:Nat} {ts:List Th} (hc:∀ i,i<ts.length->W.cell? ⟨b,off+i*3,none⟩=some (.string (ts.getD i aX).d)/\W.cell? ⟨b,off+i*3+1,none⟩=some (.string (ts.getD i aX).t)/\W.cell? ⟨b,off+i*3+2,none⟩=some (.bool (ts.getD i aX).m)) (j:Nat) (u:Value) (hj:(ts.flatMap dW)[j]?=some u):W.cell? ⟨b,off+j,none⟩=some u:=by
 have FV:j<ts.length*3:=by rw [<- jS];exact (List.getElem?_eq_some_iff.1 hj).1
 obtain ⟨i,r,rfl,hr⟩:∃ i r,j=i*3+r/\r<3:=⟨j / 3,j % 3,aE,aE⟩
 have hi:i<ts.length:=by omega
 obtain ⟨h0,h1,h2⟩:=lW ts i hi;obtain ⟨c0,c1,c2⟩:=hc i hi
 match r,hr with
 | 0,_=>rw [Nat.add_zero] at hj ⊢;rw [h0] at hj;rw [c0,hj]
 | 1,_=>rw [h1] at hj;rw [<- Nat.add_assoc,c1,hj]
 | 2,_=>rw [h2] at hj;rw [<- Nat.add_assoc,c2,hj]
theorem Pq {W:World} {b off:Nat} {ts:List Tg} (hc:∀ i,i<ts.length->W.cell? ⟨b,off+i*2,none⟩=some (.string (ts.getD i bL).n)/\W.cell? ⟨b,off+i*2+1,none⟩=some (.string (ts.getD i bL).d)) (j:Nat) (u:Value) (hj:(ts.flatMap eN)[j]?=some u):W.cell? ⟨b,off+j,none⟩=some u:=by
 have FV:j<ts.length*2:=by rw [<- pB];exact (List.getElem?_eq_some_iff.1 hj).1
 obtain ⟨i,r,rfl,hr⟩:∃ i r,j=i*2+r/\r<2:=⟨j / 2,j % 2,aE,aE⟩
 have hi:i<ts.length:=by omega
 obtain ⟨h0,h1⟩:=oB ts i hi;exact Qp
theorem Pi {W:World} {b off:Nat} {ts:List Se} (hc:∀ i,i<ts.length->W.cell? ⟨b,off+i*2,none⟩=some (.int .i64 (ts.getD i bQ).i)/\W.cell? ⟨b,off+i*2+1,none⟩=some (.string (ts.getD i bQ).t)) (j:Nat) (u:Value) (hj:(ts.flatMap fJ)[j]?=some u):W.cell? ⟨b,off+j,none⟩=some u:=by
 have FV:j<ts.length*2:=by rw [<- rP];exact (List.getElem?_eq_some_iff.1 hj).1
 obtain ⟨i,r,rfl,hr⟩:∃ i r,j=i*2+r/\r<2:=⟨j / 2,j % 2,aE,aE⟩
 have hi:i<ts.length:=by omega
 obtain ⟨h0,h1⟩:=nP ts i hi;exact Qp
theorem lQ (ts:List Th):∀ u∈ts.flatMap dW,u.oneCell'=true:=fun u hu=>by
 obtain ⟨x,_,hx⟩:=List.mem_flatMap.1 hu
 simp [dW] at hx
 rcases hx with rfl | rfl | rfl <;> rfl
theorem Ks (a:Option Addr) (l cap:Nat) (ts:List Th) (w:World) (h:bO w a l ts) (hl:l<=1000000) :
 Calls Tryz.prog 63 #[.slice a l cap] w fun e w'=>∃ a' c',e=.returned (.slice a' l c')/\w'.ownsRow w.heap.size 62 3 (.slice a' l c') l (ts.flatMap dW)/\aB w w':=by
 obtain ⟨i0,IY,GV,GJ,GO⟩:=gD Tryz.prog BA;have HI:=DX (EC IY (EC GV (EC GJ GO)));have HS:=DX h
 cases a with
 | none =>
  obtain ⟨b,off,ha,hc⟩:=h.cells
  have PV:l=0:=by
   exact Tf
  have RK:ts=[]:=List.length_eq_zero_iff.1 (by rw [h.len_eq,PV]);subst PV RK;clear hc ha h HI IY GV GJ GO hl
  have YN:∀ u,(binOp .eql 22 (.slice none 0 cap) (.slice none 0 0)).run Tryz.prog u=.ok (.bool true) u:=fun u=>Lib.run_eql_slice_nil u 22 62 none 0 cap 0 0 ER
  go_enter Tryz.func63,Tryz.ntmps63;exact Ki
 | some ad =>
  have bP:∀ j u,(ts.flatMap dW)[j]?=some u->w.cell? (ad.add j)=some u:=fun j u hj=>by
   have FV:j<ts.length*3:=by rw [<- jS];exact (List.getElem?_eq_some_iff.1 hj).1
   rw [h.len_eq] at FV;obtain ⟨b,off,ha,hc⟩:=h.cells;cases ha aE;have:=Pb (fun i hi=>(hc i (by rw [<- h.len_eq];exact hi)).2) j u hj;exact La
  have HC:=DX bP;have HL:=DX (show (ts.flatMap dW).length=l*3 by rw [jS,h.len_eq]);have HON:=DX (lQ ts);clear bP h IY GV GJ GO HS;generalize ts.flatMap dW=xs at *
  have YN:∀ u,(binOp .eql 22 (.slice (some ad) l cap) (.slice none 0 0)).run Tryz.prog u=.ok (.bool false) u:=fun u=>Lib.run_eql_slice_nil u 22 62 (some ad) l cap 0 0 ER
  go_enter Tryz.func63,Tryz.ntmps63;go_wp2_with (at_builtin;refine wpList_append_own_at _ rfl _ _ 22 rfl w.heap.size 62 i0 (.agg (LT ByteArray.empty ByteArray.empty false)) 3 40 ER HI.out.1 HI.out.2.1 HI.out.2.2.1 HI.out.2.2.2 rfl aF _ _ _ rfl (nO w 62 3) ad l cap xs rfl HL.out ?c1 HON.out ?c3 ?c4 ?c5 ?_)
  case c1=>exact Jb
  case c3=>unfold maxLen;omega
  case c4=>omega
  case c5=>simp
  intro v' w' FU IB _ _;obtain ⟨a',c',rfl⟩:=aP FU;have HO:=DX FU;have HK:=DX (fO ((EX w).alloc (.cells #[] 62)) IB (fun q e=>by cases e;exact EA _));exact To
theorem Jf (a:Option Addr) (l cap:Nat) (ts:List Tg) (w:World) (h:cJ w a l ts) (hl:l<=1000000) :
 Calls Tryz.prog 64 #[.slice a l cap] w fun e w'=>∃ a' c',e=.returned (.slice a' l c')/\w'.ownsRow w.heap.size 68 2 (.slice a' l c') l (ts.flatMap eN)/\aB w w':=by
 obtain ⟨i0,IY,GV,GJ,GO⟩:=iH Tryz.prog BC;have HI:=DX (EC IY (EC GV (EC GJ GO)));have HS:=DX h
 cases a with
 | none =>
  obtain ⟨b,off,ha,hc⟩:=h.cells
  have PV:l=0:=by
   exact Tf
  have RK:ts=[]:=List.length_eq_zero_iff.1 (by rw [h.len_eq,PV]);subst PV RK;clear hc ha h HI IY GV GJ GO hl
  have YN:∀ u,(binOp .eql 23 (.slice none 0 cap) (.slice none 0 0)).run Tryz.prog u=.ok (.bool true) u:=fun u=>Lib.run_eql_slice_nil u 23 68 none 0 cap 0 0 ET
  go_enter Tryz.func64,Tryz.ntmps64;exact Ki
 | some ad =>
  have bP:∀ j u,(ts.flatMap eN)[j]?=some u->w.cell? (ad.add j)=some u:=fun j u hj=>by
   have FV:j<ts.length*2:=by rw [<- pB];exact (List.getElem?_eq_some_iff.1 hj).1
   rw [h.len_eq] at FV;obtain ⟨b,off,ha,hc⟩:=h.cells;cases ha aE;have:=Pq (fun i hi=>(hc i (by rw [<- h.len_eq];exact hi)).2) j u hj;exact La
  have HC:=DX bP;have HL:=DX (show (ts.flatMap eN).length=l*2 by rw [pB,h.len_eq]);have HON:=DX (lP ts);clear bP h IY GV GJ GO HS;generalize ts.flatMap eN=xs at *
  have YN:∀ u,(binOp .eql 23 (.slice (some ad) l cap) (.slice none 0 0)).run Tryz.prog u=.ok (.bool false) u:=fun u=>Lib.run_eql_slice_nil u 23 68 (some ad) l cap 0 0 ET
  go_enter Tryz.func64,Tryz.ntmps64;go_wp2_with (at_builtin;refine wpList_append_own_at _ rfl _ _ 23 rfl w.heap.size 68 i0 (.agg LE) 2 32 ET HI.out.1 HI.out.2.1 HI.out.2.2.1 HI.out.2.2.2 rfl aF _ _ _ rfl (nO w 68 2) ad l cap xs rfl HL.out ?c1 HON.out ?c3 ?c4 ?c5 ?_)
  case c1=>exact Jb
  case c3=>unfold maxLen;omega
  case c4=>omega
  case c5=>simp
  intro v' w' FU IB _ _;obtain ⟨a',c',rfl⟩:=aP FU;have HO:=DX FU;have HK:=DX (fO ((EX w).alloc (.cells #[] 68)) IB (fun q e=>by cases e;exact EA _));exact To
theorem Kv (a:Option Addr) (l cap:Nat) (ts:List Se) (w:World) (h:cP w a l ts) (hl:l<=1000000) :
 Calls Tryz.prog 65 #[.slice a l cap] w fun e w'=>∃ a' c',e=.returned (.slice a' l c')/\w'.ownsRow w.heap.size 65 2 (.slice a' l c') l (ts.flatMap fJ)/\aB w w':=by
 obtain ⟨i0,IY,GV,GJ,GO⟩:=kA Tryz.prog BE;have HI:=DX (EC IY (EC GV (EC GJ GO)));have HS:=DX h
 cases a with
 | none =>
  obtain ⟨b,off,ha,hc⟩:=h.cells
  have PV:l=0:=by
   exact Tf
  have RK:ts=[]:=List.length_eq_zero_iff.1 (by rw [h.len_eq,PV]);subst PV RK;clear hc ha h HI IY GV GJ GO hl
  have YN:∀ u,(binOp .eql 24 (.slice none 0 cap) (.slice none 0 0)).run Tryz.prog u=.ok (.bool true) u:=fun u=>Lib.run_eql_slice_nil u 24 65 none 0 cap 0 0 EU
  go_enter Tryz.func65,Tryz.ntmps65;exact Ki
 | some ad =>
  have bP:∀ j u,(ts.flatMap fJ)[j]?=some u->w.cell? (ad.add j)=some u:=fun j u hj=>by
   have FV:j<ts.length*2:=by rw [<- rP];exact (List.getElem?_eq_some_iff.1 hj).1
   rw [h.len_eq] at FV;obtain ⟨b,off,ha,hc⟩:=h.cells;cases ha aE;have:=Pi (fun i hi=>(hc i (by rw [<- h.len_eq];exact hi)).2) j u hj;exact La
  have HC:=DX bP;have HL:=DX (show (ts.flatMap fJ).length=l*2 by rw [rP,h.len_eq]);have HON:=DX (oQ ts);clear bP h IY GV GJ GO HS;generalize ts.flatMap fJ=xs at *
  have YN:∀ u,(binOp .eql 24 (.slice (some ad) l cap) (.slice none 0 0)).run Tryz.prog u=.ok (.bool false) u:=fun u=>Lib.run_eql_slice_nil u 24 65 (some ad) l cap 0 0 EU
  go_enter Tryz.func65,Tryz.ntmps65;go_wp2_with (at_builtin;refine wpList_append_own_at _ rfl _ _ 24 rfl w.heap.size 65 i0 (.agg #[.int .i64 0,.string ByteArray.empty]) 2 24 EU HI.out.1 HI.out.2.1 HI.out.2.2.1 HI.out.2.2.2 rfl aF _ _ _ rfl (nO w 65 2) ad l cap xs rfl HL.out ?c1 HON.out ?c3 ?c4 ?c5 ?_)
  case c1=>exact Jb
  case c3=>unfold maxLen;omega
  case c4=>omega
  case c5=>simp
  intro v' w' FU IB _ _;obtain ⟨a',c',rfl⟩:=aP FU;have HO:=DX FU;have HK:=DX (fO ((EX w).alloc (.cells #[] 65)) IB (fun q e=>by cases e;exact EA _));exact To
end Go.Proofs.YtkfmladhicapeaaGreatDoor
