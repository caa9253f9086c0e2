import Derived.Test.YtkfmladhicapeaaGreatDoorY42
set_option maxRecDepth 100000
set_option maxHeartbeats 4000000
namespace Go.Proofs.YtkfmladhicapeaaGreatDoor
open Go.RowKit Go.Shelf
attribute [local go_sem] Oper.semAt_some
theorem fP (n:Int) (w:World):Calls Tryz.prog 29 #[.int .i64 n] w fun e w'=>e=.returned (.int .i64 n)/\w=w':=by
 go_enter Tryz.func29,Tryz.ntmps29;go_wp2;go_ret;exact ⟨rfl,rfl⟩
structure sN (bs:List (Option Nat)) (w w':World):Prop where
 os:w'.os=w.os
 tape:w'.tape=w.tape
 output:w'.output=w.output
 size:w.heap.size<=w'.heap.size
 block:∀ k,k<w.heap.size->(∀ r∈bs,some k≠r)->w'.heap[k]?=w.heap[k]?
theorem sN.of_kept {bs:List (Option Nat)} {w w':World} (k:aB w w'):sN bs w w':=⟨k.os,k.tape,k.output,k.size,fun i hi _=>k.block i hi⟩
theorem sN.of_grown {bs:List (Option Nat)} {w w':World} {row:Option Nat} (g:w.grownBy w' row) (h:row∈bs):sN bs w w':=⟨g.os,g.tape,g.output,g.size,fun i hi hn=>g.block i hi (hn row h)⟩
theorem sN.trans {bs:List (Option Nat)} {a b c:World} (h:sN bs a b) (k:sN bs b c):sN bs a c :=
 ⟨k.os.trans h.os,k.tape.trans h.tape,k.output.trans h.output,EF h.size k.size,fun i hi hn=>(k.block i (EG hi h.size) hn).trans (h.block i hi hn)⟩
theorem sN.below {bs:List (Option Nat)} {w w':World} (h:sN bs w w') {base:Nat} (hb:base<=w.heap.size) (hn:∀ r∈bs,∀ g,r=some g->base<=g):Below base w w' :=
 ⟨h.os,h.tape,h.output,h.size,fun k hk=>h.block k aE (fun r hr e=>by have:=hn r hr k e.symm;omega)⟩
theorem sN.own {bs:List (Option Nat)} {w w':World} (h:sN bs w w') {base:Nat} (hn:∀ r∈bs,∀ g,r=some g->g<base) {e:TypeId} {k n:Nat} {v:Value} {xs:List Value} (ho:w.ownsRow base e k v n xs):w'.ownsRow base e k v n xs:=by
 obtain ⟨h1,h2 | ⟨q,cap,cur,hv,hb,hg,h3⟩⟩:=ho
 . exact ⟨h1,.inl h2⟩
 . have FV:q<w.heap.size:=(show aA w q cur e from hg).lt
   refine ⟨h1,.inr ⟨q,cap,cur,hv,hb,?_,h3⟩⟩;rw [h.block q FV (fun r hr e2=>by have:=hn r hr q e2.symm;omega)];exact hg
theorem sN.blk {bs:List (Option Nat)} {w w':World} (h:sN bs w w') {b:Nat} {C:Array Value} {t:TypeId} (hb:aA w b C t) (hn:∀ r∈bs,some b≠r):aA w' b C t:=by
 show w'.heap[b]?=_
 rw [h.block b hb.lt hn];exact hb
structure Ow (base:Nat) (x1 x2 x3:Option Addr) (n1 n2 n3 y1 y2 y3:Nat) (w:World):Prop where
 oT:∃ xs,w.ownsRow base 62 3 (.slice x1 n1 y1) n1 xs
 oG:∃ xs,w.ownsRow base 68 2 (.slice x2 n2 y2) n2 xs
 oS:∃ xs,w.ownsRow base 65 2 (.slice x3 n3 y3) n3 xs
theorem Ow.kept {base:Nat} {x1 x2 x3:Option Addr} {n1 n2 n3 y1 y2 y3:Nat} {w w':World} (h:Ow base x1 x2 x3 n1 n2 n3 y1 y2 y3 w) (k:aB w w'):Ow base x1 x2 x3 n1 n2 n3 y1 y2 y3 w':=by
 obtain ⟨⟨a,ha⟩,⟨b,hb⟩,⟨c,hc⟩⟩:=h;exact ⟨⟨a,aH ha k⟩,⟨b,aH hb k⟩,⟨c,aH hc k⟩⟩
theorem Fg (P:Program) (t:TypeId) (z:Value) (k b:Nat) (h:(P.info? t).map (fun i=>(i.zero,i.size,i.bytes))=some (some z,k,b)):(P.info? t).map (·.size)=some k:=by
 obtain ⟨i0,hi,he⟩:=Option.map_eq_some_iff.1 h;simp only [Prod.mk.injEq] at he;rw [hi]
 simp [he.2.1]
theorem mR (base:Nat) (x1 x2 x3:Option Addr) (n1 n2 n3 y1 y2 y3:Nat) (nx:Int) (wo:World) (h:Ow base x1 x2 x3 n1 n2 n3 y1 y2 y3 wo) (hl:n1<=1000000/\n2<=1000000/\n3<=1000000) :
 Calls Tryz.prog 44 #[.agg (LS x1 n1 y1 x2 n2 y2 x3 n3 y3 nx)] wo fun e w'=>(∃ u,e=.returned u)/\sN [(Value.slice x1 n1 y1).ownBlock,(Value.slice x2 n2 y2).ownBlock,(Value.slice x3 n3 y3).ownBlock] wo w':=by
 obtain ⟨hl1,hl2,hl3⟩:=hl;have HT:=DX (Fg Tryz.prog _ _ _ _ BA);have HG:=DX (Fg Tryz.prog _ _ _ _ BC);have HS:=DX (Fg Tryz.prog _ _ _ _ BE);have HB:=DX (EY wo (LS x1 n1 y1 x2 n2 y2 x3 n3 y3 nx) 26)
 have hk:=(EX wo).alloc ((KS x1 n1 y1 x2 n2 y2 x3 n3 y3 nx))
 have HO:=DX (h.kept hk);have HK:=DX (sN.of_kept (bs:=[(Value.slice x1 n1 y1).ownBlock,(Value.slice x2 n2 y2).ownBlock,(Value.slice x3 n3 y3).ownBlock]) hk);clear h hk
 obtain ⟨bs,hbs⟩:∃ bs,bs=[(Value.slice x1 n1 y1).ownBlock,(Value.slice x2 n2 y2).ownBlock,(Value.slice x3 n3 y3).ownBlock]:=⟨_,rfl⟩
 rw [<- hbs] at HK ⊢;have RL:=DX hbs;clear hbs;go_enter Tryz.func44,Tryz.ntmps44
 go_upto_region 1 with (fail)
 generalize wo.alloc ((KS x1 n1 y1 x2 n2 y2 x3 n3 y3 nx))=w1 at *;generalize wo.heap.size=q at *
 go_upto_region 2 with (fail)
 go_loopw [2] (fun kv wr=>∃ k:Nat,k<=n1/\kv=.int .i64 k/\aA wr q (LS x1 n1 y1 x2 n2 y2 x3 n3 y3 nx) 26/\Ow base x1 x2 x3 n1 n2 n3 y1 y2 y3 wr/\sN bs wo wr) (fun kv _=>n1 - (intOf kv).toNat)
 case atStart=>exact Sl
 case round =>
  rename World=>wr
  obtain ⟨k,hk,rfl,hb,ho,hs⟩:=hrel;obtain ⟨r0,r1,r2,r3⟩:=aI hb
  by_cases IE:k<n1
  . have GU:decide (k<n1)=true:=DZ IE
    have KG:decide ((k:Int)<(n1:Int))=true:=DZ aE;obtain ⟨⟨xA,hA⟩,⟨xB,hB⟩,⟨xC,hC⟩⟩:=ho;obtain ⟨g,hX⟩:=cA hA aE;have HX:=DX hX;rw [hX] at hA r0
    have LF:=(mZ hA).2
    obtain ⟨cur,LF⟩:=LF;have hcap:=iJ hA;have GM:=hA.1
    have hth:wr.there g (k*3) 3:=fun t ht=>bK hA (k*3+t) aE
    obtain ⟨FU,IB⟩:=bZ [.string { data:=#[] },.string { data:=#[115,112,111,105,108,116] },.bool false] (k*3) wr _ hA (by rw [GM];simp only [List.length_cons,List.length_nil];omega);have hbn:=aM hb IB (fun e=>by cases e;have e2:=Eq.trans (Eq.symm (show wr.heap[_]?=_ from hb)) (show wr.heap[_]?=_ from LF);cases e2);have PL:=hs.trans (sN.of_grown IB (show some g∈bs by rw [RL.out,HX.out];simp [Value.ownBlock]));have HON:=DX (show Ow base x1 x2 x3 n1 n2 n3 y1 y2 y3 (wr.setCells g (k*3) [.string { data:=#[] },.string { data:=#[115,112,111,105,108,116] },.bool false]) from ⟨⟨_,by rw [HX.out];exact FU⟩,⟨_,bI hB LF aF IB⟩,⟨_,bI hC LF aF IB⟩⟩);have HBN:=DX hbn;have IX:=DX PL;clear FU IB hbn PL LF GM hA hB hC hX hs hb;go_wp2_with (refine fM rfl 62 (.tmp 16) (.tmp 15) rfl g (k*3) #[.string { data:=#[] },.string { data:=#[115,112,111,105,108,116] },.bool false] (by simp [Act.eval]) (by simp [Act.eval]) hth HT.out (by simp [Value.oneCell']) ?_);generalize wr.setCells g (k*3) _=w9 at *;exact Rz
  . have GU:decide (k<n1)=false:=DY IE
    have KG:decide ((k:Int)<(n1:Int))=false:=DY aE;have HB:=DX hb;have HO:=DX ho;have HK:=DX hs;clear hb ho hs IE hk
    go_upto_region 6 with (fail)
    go_loopw [3] (fun kv wr=>∃ k:Nat,k<=n2/\kv=.int .i64 k/\aA wr q (LS x1 n1 y1 x2 n2 y2 x3 n3 y3 nx) 26/\Ow base x1 x2 x3 n1 n2 n3 y1 y2 y3 wr/\sN bs wo wr) (fun kv _=>n2 - (intOf kv).toNat)
    case atStart=>exact Sl
    case round =>
     rename World=>wr
     obtain ⟨k,hk,rfl,hb,ho,hs⟩:=hrel;obtain ⟨r0,r1,r2,r3⟩:=aI hb
     by_cases IE:k<n2
     . have GU:decide (k<n2)=true:=DZ IE
       have KG:decide ((k:Int)<(n2:Int))=true:=DZ aE;obtain ⟨⟨xA,hA⟩,⟨xB,hB⟩,⟨xC,hC⟩⟩:=ho;obtain ⟨g,hX⟩:=cA hB aE;have HX:=DX hX;rw [hX] at hB r1
       have LF:=(mZ hB).2
       obtain ⟨cur,LF⟩:=LF;have hcap:=iJ hB;have GM:=hB.1
       have hth:wr.there g (k*2) 2:=fun t ht=>bK hB (k*2+t) aE
       obtain ⟨FU,IB⟩:=bZ [.string { data:=#[] },.string { data:=#[] }] (k*2) wr _ hB (by rw [GM];simp only [List.length_cons,List.length_nil];omega);have hbn:=aM hb IB (fun e=>by cases e;have e2:=Eq.trans (Eq.symm (show wr.heap[_]?=_ from hb)) (show wr.heap[_]?=_ from LF);cases e2);have PL:=hs.trans (sN.of_grown IB (show some g∈bs by rw [RL.out,HX.out];simp [Value.ownBlock]));have HON:=DX (show Ow base x1 x2 x3 n1 n2 n3 y1 y2 y3 (wr.setCells g (k*2) [.string { data:=#[] },.string { data:=#[] }]) from ⟨⟨_,bI hA LF aF IB⟩,⟨_,by rw [HX.out];exact FU⟩,⟨_,bI hC LF aF IB⟩⟩);have HBN:=DX hbn;have IX:=DX PL;clear FU IB hbn PL LF GM hA hB hC hX hs hb;go_wp2_with (refine fM rfl 68 (.tmp 28) (.tmp 27) rfl g (k*2) #[.string { data:=#[] },.string { data:=#[] }] (by simp [Act.eval]) (by simp [Act.eval]) hth HG.out (by simp [Value.oneCell']) ?_);generalize wr.setCells g (k*2) _=w9 at *;exact Rz
     . have GU:decide (k<n2)=false:=DY IE
       have KG:decide ((k:Int)<(n2:Int))=false:=DY aE;have HB:=DX hb;have HO:=DX ho;have HK:=DX hs;clear hb ho hs IE hk
       go_upto_region 10 with (fail)
       go_loopw [4] (fun kv wr=>∃ k:Nat,k<=n3/\kv=.int .i64 k/\aA wr q (LS x1 n1 y1 x2 n2 y2 x3 n3 y3 nx) 26/\Ow base x1 x2 x3 n1 n2 n3 y1 y2 y3 wr/\sN bs wo wr) (fun kv _=>n3 - (intOf kv).toNat)
       case atStart=>exact Sl
       case round =>
        rename World=>wr
        obtain ⟨k,hk,rfl,hb,ho,hs⟩:=hrel;obtain ⟨r0,r1,r2,r3⟩:=aI hb
        by_cases IE:k<n3
        . have GU:decide (k<n3)=true:=DZ IE
          have KG:decide ((k:Int)<(n3:Int))=true:=DZ aE;obtain ⟨⟨xA,hA⟩,⟨xB,hB⟩,⟨xC,hC⟩⟩:=ho;obtain ⟨g,hX⟩:=cA hC aE;have HX:=DX hX;rw [hX] at hC r2
          have LF:=(mZ hC).2
          obtain ⟨cur,LF⟩:=LF;have hcap:=iJ hC;have GM:=hC.1
          have hth:wr.there g (k*2) 2:=fun t ht=>bK hC (k*2+t) aE
          obtain ⟨FU,IB⟩:=bZ [.int .i64 (-9),.string { data:=#[] }] (k*2) wr _ hC (by rw [GM];simp only [List.length_cons,List.length_nil];omega);have hbn:=aM hb IB (fun e=>by cases e;have e2:=Eq.trans (Eq.symm (show wr.heap[_]?=_ from hb)) (show wr.heap[_]?=_ from LF);cases e2);have PL:=hs.trans (sN.of_grown IB (show some g∈bs by rw [RL.out,HX.out];simp [Value.ownBlock]));have HON:=DX (show Ow base x1 x2 x3 n1 n2 n3 y1 y2 y3 (wr.setCells g (k*2) [.int .i64 (-9),.string { data:=#[] }]) from ⟨⟨_,bI hA LF aF IB⟩,⟨_,bI hB LF aF IB⟩,⟨_,by rw [HX.out];exact FU⟩⟩);have HBN:=DX hbn;have IX:=DX PL;clear FU IB hbn PL LF GM hA hB hC hX hs hb;go_wp2_with (refine fM rfl 65 (.tmp 40) (.tmp 39) rfl g (k*2) #[.int .i64 (-9),.string { data:=#[] }] (by simp [Act.eval]) (by simp [Act.eval]) hth HS.out (by simp [Value.oneCell']) ?_);generalize wr.setCells g (k*2) _=w9 at *;exact Rz
        . have GU:decide (k<n3)=false:=DY IE
          have KG:decide ((k:Int)<(n3:Int))=false:=DY aE;have HB:=DX hb;have HO:=DX ho;have HK:=DX hs;clear hb ho hs IE hk;go_wp2;go_end0;exact ⟨⟨_,rfl⟩,HK.out⟩
structure Bd (ts:List Th) (gs:List Tg) (ss:List Se):Prop where
 t:ts.length<=12000
 g:gs.length<=12000
 s:ss.length<=12000
 n:∀ x∈gs,x.n.size<=12000
def BdO (os:List fV):Prop:=os.length<=9000/\∀ i,i<os.length->(os.getD i jA).name.size<=9000
theorem Kz (aT aG aS:Option Addr) (cT cG cS:Nat) (ts:List Th) (gs:List Tg) (ss:List Se) (nx:Int) (wo:World) (hT:bO wo aT ts.length ts) (hG:cJ wo aG gs.length gs) (hS:cP wo aS ss.length ss) :
 Calls Tryz.prog 37 #[.agg (LS aT ts.length cT aG gs.length cG aS ss.length cS nx)] wo fun e w'=>∃ R:Int,e=.returned (.int .i64 R)/\0<=R/\(R<=12000->Bd ts gs ss)/\aB wo w':=by
 have JV:=DX hT;have NN:=DX hG;have MN:=DX hS;have FV:=hT.le;have hlg:=hG.le;have hls:=hS.le;obtain ⟨KK,UO⟩:=hT.wt
 obtain ⟨W0,hW0⟩:∃ W0,W0=Vk ts:=⟨_,rfl⟩
 have HWT:=DX (fun w9 (k:aB wo w9)=>show Calls Tryz.prog 57 #[.slice aT ts.length cT] w9 fun e w'=>e=.returned (.int .i64 W0)/\aB w9 w' by rw [hW0];exact Ga aT ts.length cT ts w9 (hT.kept k));rw [<- hW0] at KK UO;clear hW0 hT hG hS;have HB:=DX (EY wo (LS aT ts.length cT aG gs.length cG aS ss.length cS nx) 26);have HK:=DX ((EX wo).alloc ((KS aT ts.length cT aG gs.length cG aS ss.length cS nx)));go_enter Tryz.func37,Tryz.ntmps37
 go_upto_region 1 with (fail)
 generalize wo.alloc ((KS aT ts.length cT aG gs.length cG aS ss.length cS nx))=w1 at *;have JK:=DX (fun w9 (k:aB w1 w9)=>aI (HB.out.kept k));generalize wo.heap.size=q at *;clear HB;obtain ⟨r0,r1,r2,r3⟩:=JK.out _ (EX _);replace r0:=aC r0;replace r1:=aC r1;replace r2:=aC r2;replace r3:=aC r3
 obtain ⟨N0,hN0⟩:∃ N0,N0=W0+(gs.length:Int):=⟨_,rfl⟩
 obtain ⟨N1,hN1⟩:∃ N1,N1=N0+(ss.length:Int):=⟨_,rfl⟩
 have SL:IntKind.i64.wrap (W0+(gs.length:Int))=N0:=by rw [IntWalk.i64_in _ aE];exact hN0.symm
 have hx1:IntKind.i64.wrap (N0+(ss.length:Int))=N1:=by rw [IntWalk.i64_in _ aE];exact hN1.symm
 have YJ:(ts.length:Int)<=N1:=by omega
 have PA:(gs.length:Int)<=N1:=by omega
 have QG:(ss.length:Int)<=N1:=by omega
 have TD:N1<=1125899906842624:=by omega
 clear hN0 hN1;have GX:=DX (fun u:bF w1=>HWT.out u.1 (HK.out.trans u.2))
 refine aJ aW aW ?_
 repeat (go_big_quiet_step ((go_at_call 57;exact aK (GX.out _))))
 refine wpQuiet_nil ?_
 intro _ GD;obtain ⟨nq,FT⟩:=GD;subst FT;have FW:=DX nq.2;clear r0 r1 r2 r3 GX HWT SL hx1;generalize nq.1=w2 at *;go_wp2_with fail;go_loopw [3,4] (fun nv kv wr=>∃ (k:Nat) (n:Int),k<=gs.length/\kv=.int .i64 k/\nv=.int .i64 n/\N1<=n/\n<=1125899906842624/\Hid (∀ i,i<k->((gs.getD i bL).n.size:Int)<=n)/\aB w1 wr) (fun _ kv _=>gs.length - (intOf kv).toNat)
 case atStart=>exact ⟨0,N1,aE,rfl,rfl,Int.le_refl _,TD,DX (fun i hi=>absurd hi (Nat.not_lt_zero i)),FW.out⟩
 case round =>
  rename World=>wr
  obtain ⟨k,n,hk,rfl,rfl,WJ,NV,HA,IF⟩:=hrel;have IA:=DX IF;obtain ⟨r0,r1,r2,r3⟩:=JK.out _ IF;clear IF
  by_cases IE:k<gs.length/\n<1048576
  . obtain ⟨IE,hn⟩:=IE
    have GU:decide (k<gs.length)=true:=DZ IE;have KG:decide ((k:Int)<(gs.length:Int))=true:=DZ aE;have JH:decide (n<1048576)=true:=DZ hn;have IG:=NN.out.size k IE;obtain ⟨bt,of,rfl,JC⟩:=NN.out.at aE;obtain ⟨c0,c1⟩:=JC k IE wr (HK.out.trans IA.out);have HXN:=DX (fun i (hi:i<k+1) (z:Int) (h1:n<=z) (h2:((gs.getD k bL).n.size:Int)<=z)=>show ((gs.getD i bL).n.size:Int)<=z from by rcases Nat.lt_or_ge i k with q | q;exact Int.le_trans (HA.out i q) h1;rw [show i=k by omega];exact h2);clear JC;generalize gs.getD k bL=x at *
    obtain ⟨n1,WN⟩:∃ n1,n1=n+(x.n.size:Int):=⟨_,rfl⟩
    obtain ⟨n2,XF⟩:∃ n2,n2=n1+(x.d.size:Int):=⟨_,rfl⟩
    have SL:IntKind.i64.wrap (n+(x.n.size:Int))=n1:=by rw [IntWalk.i64_in _ aE];exact WN.symm
    have hx1:IntKind.i64.wrap (n1+(x.d.size:Int))=n2:=by rw [IntWalk.i64_in _ aE];exact XF.symm
    have IM:N1<=n2/\n2<=1125899906842624/\n<=n2/\(x.n.size:Int)<=n2:=by omega
    obtain ⟨IM,ZI,RD,hb7⟩:=IM;clear WN XF;go_wp2_with fail;go_quiet (fail);have JQ:=DX (IA.out.drewN nq);clear SL hx1;go_wp2_with fail;go_roundw
    case rel=>exact ⟨k+1,n2,aE,by go_num,rfl,IM,ZI,DX (fun i hi=>HXN.out i hi n2 RD hb7),JQ.out⟩
    case measure=>simp [intOf];omega
  . have VL:=DX (show n<=12000->Bd ts gs ss from fun h=>⟨aE,aE,aE,fun x hx=>by obtain ⟨i,hi,rfl⟩:=List.mem_iff_getElem.1 hx;have:=HA.out i aE;rw [List.getD_eq_getElem?_getD,List.getElem?_eq_getElem hi,Option.getD_some] at this;omega⟩)
    obtain ⟨C,hC⟩:∃ C,C=decide (k<gs.length):=⟨_,rfl⟩
    have hCi:decide ((k:Int)<(gs.length:Int))=C:=by rw [hC];simp
    have hE:C=true->decide (n<1048576)=false:=fun h=>DY (fun q=>IE ⟨of_decide_eq_true (hC.symm.trans h),q⟩)
    have hCn:=hC.symm;clear hC IE hk HA
    cases C with
    | false =>
     exact Xa
    | true =>
     have JH:=hE rfl;exact Xa
theorem Ve (a:Option Addr) (c:Nat) (os:List fV) (wo:World) (h:iG wo a os.length os) :
 Calls Tryz.prog 38 #[.slice a os.length c] wo fun e w'=>∃ R:Int,e=.returned (.int .i64 R)/\(R<=9000->BdO os)/\aB wo w':=by
 have OK:=DX h;have hl:=h.le;clear h;go_enter Tryz.func38,Tryz.ntmps38
 go_upto_region 3 with (fail)
 go_loopw [3,4] (fun nv kv wr=>∃ (k:Nat) (n:Int),k<=os.length/\kv=.int .i64 k/\nv=.int .i64 n/\(os.length:Int)<=n/\n<=1125899906842624/\Hid (∀ i,i<k->((os.getD i jA).name.size:Int)<=n)/\aB wo wr) (fun _ kv _=>os.length - (intOf kv).toNat)
 case atStart=>exact ⟨0,_,aE,rfl,rfl,Int.le_refl _,aE,DX (fun i hi=>absurd hi (Nat.not_lt_zero i)),EX _⟩
 case round =>
  rename World=>wr
  obtain ⟨k,n,hk,rfl,rfl,WJ,NV,HA,IF⟩:=hrel;have IA:=DX IF;clear IF
  by_cases IE:k<os.length/\n<1048576
  . obtain ⟨IE,hn⟩:=IE
    have GU:decide (k<os.length)=true:=DZ IE;have KG:decide ((k:Int)<(os.length:Int))=true:=DZ aE;have JH:decide (n<1048576)=true:=DZ hn;have IG:=OK.out.size k IE;obtain ⟨bt,of,rfl,JC⟩:=OK.out.at aE;obtain ⟨_,_,_,_,c4,c5,c6⟩:=JC k IE wr IA.out;have HXN:=DX (fun i (hi:i<k+1) (z:Int) (h1:n<=z) (h2:((os.getD k jA).name.size:Int)<=z)=>show ((os.getD i jA).name.size:Int)<=z from by rcases Nat.lt_or_ge i k with q | q;exact Int.le_trans (HA.out i q) h1;rw [show i=k by omega];exact h2);clear JC;generalize os.getD k jA=x at *
    obtain ⟨n1,WN⟩:∃ n1,n1=n+(x.name.size:Int):=⟨_,rfl⟩
    obtain ⟨n2,XF⟩:∃ n2,n2=n1+(x.d.size:Int):=⟨_,rfl⟩
    obtain ⟨n3,hq3⟩:∃ n3,n3=n2+(x.t.size:Int):=⟨_,rfl⟩
    have SL:IntKind.i64.wrap (n+(x.name.size:Int))=n1:=by rw [IntWalk.i64_in _ aE];exact WN.symm
    have hx1:IntKind.i64.wrap (n1+(x.d.size:Int))=n2:=by rw [IntWalk.i64_in _ aE];exact XF.symm
    have TI:IntKind.i64.wrap (n2+(x.t.size:Int))=n3:=by rw [IntWalk.i64_in _ aE];exact hq3.symm
    have IM:(os.length:Int)<=n3/\n3<=1125899906842624/\n<=n3/\(x.name.size:Int)<=n3:=by omega
    obtain ⟨IM,ZI,RD,hb7⟩:=IM;clear WN XF hq3;go_wp2_with fail;go_quiet (fail);have JQ:=DX (IA.out.drewN nq);clear SL hx1 TI;go_wp2_with fail;go_roundw
    case rel=>exact ⟨k+1,n3,aE,by go_num,rfl,IM,ZI,DX (fun i hi=>HXN.out i hi n3 RD hb7),JQ.out⟩
    case measure=>simp [intOf];omega
  . have VL:=DX (show n<=9000->BdO os from fun h=>⟨aE,fun i hi=>by have:=HA.out i aE;omega⟩)
    obtain ⟨C,hC⟩:∃ C,C=decide (k<os.length):=⟨_,rfl⟩
    have hCi:decide ((k:Int)<(os.length:Int))=C:=by rw [hC];simp
    have hE:C=true->decide (n<1048576)=false:=fun h=>DY (fun q=>IE ⟨of_decide_eq_true (hC.symm.trans h),q⟩)
    have hCn:=hC.symm;clear hC IE hk HA
    cases C with
    | false =>
     clear hE;go_wp2_with fail;go_ret;exact ⟨_,rfl,VL.out,IA.out⟩
    | true =>
     have JH:=hE rfl;clear hE;go_wp2_with fail;go_ret;exact ⟨_,rfl,VL.out,IA.out⟩
theorem vD {W:World} {b:Nat} {x0 x1 x2 x3 x4:Value} {t:TypeId} (h:aA W b #[x0,x1,x2,x3,x4] t):W.cell? ⟨b,0,none⟩=some x0/\W.cell? ⟨b,1,none⟩=some x1/\W.cell? ⟨b,2,none⟩=some x2/\W.cell? ⟨b,3,none⟩=some x3/\W.cell? ⟨b,4,none⟩=some x4 :=
 ⟨h.cell 0,h.cell 1,h.cell 2,h.cell 3,h.cell 4⟩
theorem Bo (aT aG aS aO:Option Addr) (cT cG cS cO:Nat) (ts:List Th) (gs:List Tg) (ss:List Se) (nx:Int) (os:List fV) (wo:World) (hT:bO wo aT ts.length ts) (hG:cJ wo aG gs.length gs) (hS:cP wo aS ss.length ss) (hO:iG wo aO os.length os) :
 Calls Tryz.prog 22 #[.agg (L5 aT ts.length cT aG gs.length cG aS ss.length cS nx aO os.length cO)] wo fun e w'=>∃ H:Bool,e=.returned (.bool H)/\(H=false->Bd ts gs ss/\BdO os)/\aB wo w':=by
 have HB:=DX (EY wo (L5 aT ts.length cT aG gs.length cG aS ss.length cS nx aO os.length cO) 29);have HK:=DX ((EX wo).alloc (.cells (L5 aT ts.length cT aG gs.length cG aS ss.length cS nx aO os.length cO) 29));have HWT:=DX (fun w9 (k:aB wo w9)=>Kz aT aG aS cT cG cS ts gs ss nx w9 (hT.kept k) (hG.kept k) (hS.kept k));have VR:=DX (fun w9 (k:aB wo w9)=>Ve aO cO os w9 (hO.kept k));clear hT hG hS hO;go_enter Tryz.func22,Tryz.ntmps22
 go_upto_region 1 with (fail)
 generalize wo.alloc (.cells (L5 aT ts.length cT aG gs.length cG aS ss.length cS nx aO os.length cO) 29)=w1 at *;obtain ⟨r0,r1,r2,r3,r4⟩:=vD HB.out;go_wp2_with fail
 refine (HWT.out w1 HK.out).mono ?_
 rintro e w2 ⟨R,rfl,_,hR,FX⟩;have HR:=DX hR;have FW:=DX (HK.out.trans FX);clear r0 r1 r2 r3 r4;obtain ⟨r0,r1,r2,r3,r4⟩:=vD (HB.out.kept FX);clear FX HWT hR
 by_cases hb:12000<R
 . have hd:decide (12000<R)=true:=DZ hb
   go_wp2_with fail;go_ret;exact ⟨_,rfl,(fun h=>by cases h),FW.out⟩
 . have hd:decide (12000<R)=false:=DY hb
   go_wp2_with fail
   refine (VR.out w2 FW.out).mono ?_
   rintro e w3 ⟨R2,rfl,hR2,IK⟩;have GK:=DX hR2;have GC:=DX (FW.out.trans IK);clear IK hR2 VR r0 r1 r2 r3 r4
   obtain ⟨B,hB⟩:∃ B,B=decide (9000<R2):=⟨_,rfl⟩
   have hBd:=hB.symm;have RX:=DX hB;clear hB;go_wp2_with fail;go_ret;exact ⟨B,rfl,(fun h=>⟨HR.out aE,GK.out (by have:=of_decide_eq_false (RX.out.symm.trans h);omega)⟩),GC.out⟩
end Go.Proofs.YtkfmladhicapeaaGreatDoor
