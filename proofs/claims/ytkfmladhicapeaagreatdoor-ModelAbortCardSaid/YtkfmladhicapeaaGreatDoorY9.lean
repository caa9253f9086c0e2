import Derived.Test.YtkfmladhicapeaaGreatDoorY8
set_option maxRecDepth 100000
set_option maxHeartbeats 4000000
namespace Go.Proofs.YtkfmladhicapeaaGreatDoor
open Go.RowKit Go.Shelf
attribute [local go_sem] Oper.semAt_some
def zC (n:Nat):Value:=.int .i64 (n:Int)
def kM (ts:List Th) (ds:List ByteArray):List Nat:=ds.filterMap fun d=>if nH ts d=true then some (fZ ts d) else none
def oZ (ts:List Th):List (List Nat):=ts.map fun x=>kM ts (sE x)
theorem tA (ts:List Th) (i:Nat) (h:i<ts.length):(oZ ts).getD i []=kM ts (sE (ts.getD i aX)):=by
 simp [oZ,List.getD,h]
theorem Au (ts:List Th) (ds:List ByteArray) (k:Nat) (h:k<ds.length):kM ts (ds.take (k+1))=kM ts (ds.take k)++(if nH ts (ds.getD k ByteArray.empty)=true then [fZ ts (ds.getD k ByteArray.empty)] else []):=by
 unfold kM;rw [List.take_succ_eq_append_getElem h,List.filterMap_append]
 have:ds.getD k ByteArray.empty=ds[k]:=by simp [List.getD,h]
 rw [this]
 congr 1
 by_cases e:nH ts ds[k]=true
 . simp [e]
 . simp [e]
theorem Ej (ts:List Th) (ds:List ByteArray):(kM ts ds).length<=ds.length:=List.length_filterMap_le _ _
theorem xL (x:Th):(sE x).length<=40:=by
 unfold sE
 split
 . rw [List.length_append];exact wV _ _ rfl
 . exact Nat.zero_le _
def lY (W:World) (g:Nat) (C:Array Value) (ll:List (List Nat)) (k:Nat):Prop :=
 ∀ j,j<k->∃ v,C[j]?=some v/\W.ownsRow (g+1) 3 1 v (ll.getD j []).length ((ll.getD j []).map zC)
theorem lY.kept {W W':World} {g:Nat} {C:Array Value} {ll:List (List Nat)} {k:Nat} (h:lY W g C ll k) (q:aB W W'):lY W' g C ll k:=fun j hj=>by
 obtain ⟨v,h1,h2⟩:=h j hj;exact ⟨v,h1,aH h2 q⟩
theorem lY.gr {W W':World} {g:Nat} {C C':Array Value} {ll:List (List Nat)} {k:Nat} (h:lY W g C ll k) (q:W.grownBy W' (some g)) (hC:∀ j,j<k->C'[j]?=C[j]?):lY W' g C' ll k:=fun j hj=>by
 obtain ⟨v,h1,h2⟩:=h j hj;exact ⟨v,(hC j hj).trans h1,pH h2 q (fun e=>by have:=(h2.lt g e.symm).1;omega)⟩
def gN (W:World) (a:Option Addr) (l:Nat) (ll:List (List Nat)):Prop:=∃ g C,a=some ⟨g,0,none⟩/\aA W g C 78/\C.size=l/\ll.length=l/\lY W g C ll l
theorem gN.kept {W W':World} {a:Option Addr} {l:Nat} {ll:List (List Nat)} (h:gN W a l ll) (q:aB W W'):gN W' a l ll:=by
 obtain ⟨g,C,h1,h2,h3,h4,h5⟩:=h;exact ⟨g,C,h1,h2.kept q,h3,h4,h5.kept q⟩
theorem DN:(Tryz.prog.info? 78).map (fun i=>(i.zero,i.size,i.bytes))=some (some (.slice none 0 0),1,24):=by kernel_rfl
theorem Ui (n:Nat) (hn:n<=1000000):∀ u:World,(Instr.makeSlice 183 (.int .i64 n) (.int .i64 n)).run Tryz.prog u =
 .ok (.slice (some ⟨u.heap.size,0,none⟩) n n) (u.alloc (.cells (madeCells #[.slice none 0 0] n) 78)):=fun u=>by
 obtain ⟨i0,hi,GV,GJ,GO⟩:=info_parts DN
 have h:=run_make (P:=Tryz.prog) u 183 78 i0 (.slice none 0 0) Tryz.underlying183 hi GV .i64 .i64 (n:Int) (n:Int) aE (Int.le_refl _) (by rw [GO];omega) aE
 simpa [GJ,Value.cells] using h
theorem Eg (z:Value) (n i:Nat) (h:i<n):(madeCells #[z] n)[i]?=some z:=by simp [madeCells,h,Nat.mod_one]
theorem vZ (z:Value) (n:Nat):(madeCells #[z] n).size=n:=by simp [madeCells]
def Tx (w:World) (ll:List (List Nat)) (l:Nat) (e:Ending) (w':World):Prop:=∃ c,e=.returned (.slice (some ⟨w.heap.size,0,none⟩) l c)/\gN w' (some ⟨w.heap.size,0,none⟩) l ll/\aB w w'
theorem Ft (C:Array Value) (g:Nat) (W:World) (ll:List (List Nat)) (k l:Nat) (h1:lY W g C ll k) (h2:∀ j,k<=j->j<l->C[j]?=some (.slice none 0 0)) (hz:C.size=l):∀ (i:Nat) (x:ByteArray),C[i]?≠some (Value.string x):=fun i x e=>by
 have hi:i<l:=by rw [<- hz];exact (Array.getElem?_eq_some_iff.1 e).1
 by_cases hk:i<k
 . obtain ⟨v,hv,ho⟩:=h1 i hk
   rw [e] at hv;cases hv;obtain ⟨a,m,c,hv⟩:=Fz ho;cases hv
 . rw [h2 i aE hi] at e
   cases e
theorem Lc (a:Option Addr) (l cap:Nat) (ts:List Th) (w:World) (h:bO w a l ts) (hr:gG (cY ts)=true) (h60:l<=60) :
 Calls Tryz.prog 165 #[.slice a l cap] w (Tx w (oZ ts) l):=by
 obtain ⟨i0,hi,GV,GJ,GO⟩:=info_parts CK;have HI:=DX (EC hi (EC GV (EC GJ GO)));have HS:=DX h;have HL:=DX h.len_eq;have HR:=DX hr;clear h hr hi GV GJ GO
 have hmk:∀ u:World,(Instr.makeSlice 183 (.int .i64 l) (.int .i64 l)).run Tryz.prog u=.ok (.slice (some ⟨u.heap.size,0,none⟩) l l) (u.alloc (.cells (madeCells #[.slice none 0 0] l) 78)):=Ui l aE
 have MT:=DX (EY w (madeCells #[.slice none 0 0] l) 78);have QT:=DX ((EX w).alloc (.cells (madeCells #[.slice none 0 0] l) 78));go_enter Tryz.func165,Tryz.ntmps165;go_wp2_with fail;clear hmk;generalize w.alloc (.cells (madeCells #[.slice none 0 0] l) 78)=w1 at *
 obtain ⟨g,hg⟩:∃ g,g=w.heap.size:=⟨_,rfl⟩
 rw [<- hg] at MT ⊢;have HG:=DX hg;clear hg;go_loopw [15] (fun i wr=>∃ (k:Nat) (C:Array Value),k<=l/\i=.int .i64 k/\C.size=l/\aA wr g C 78/\Hid (lY wr g C (oZ ts) k)/\Hid (∀ j,k<=j->j<l->C[j]?=some (.slice none 0 0))/\aB w wr) (fun i _=>l - (intOf i).toNat)
 case atStart=>exact ⟨0,_,aE,rfl,vZ _ _,MT.out,DX (fun j hj=>absurd hj (Nat.not_lt_zero j)),DX (fun j _ hj=>Eg _ _ _ hj),QT.out⟩
 case round =>
  obtain ⟨i,C,hi,rfl,hC,hB,XV,HNL,IF⟩:=hrel;have HK:=DX IF;have HB:=DX hB;have ZX:=DX hC;have SF:g<wr.heap.size:=hB.lt;clear IF hB hC
  by_cases FV:i<l
  . have GU:decide (i<l)=true:=DZ FV
    obtain ⟨b,off,rfl,hc⟩:=HS.out.at aE;obtain ⟨c0,c1,c2⟩:=hc i FV _ HK.out;have HLK:=DX (tA ts i (by rw [HL.out];exact FV))
    obtain ⟨x,hx⟩:∃ x,x=ts.getD i aX:=⟨_,rfl⟩
    rw [<- hx] at c0 c1 c2 HLK;clear hc hx
    go_upto_region 5 with (fail)
    have JK:=DX (EY wr (LT x.d x.t x.m) 62)
    have kx:=(EX wr).alloc ((KT x.d x.t x.m))
    have FW:=DX (HK.out.trans kx);have GP:=DX (HB.out.kept kx);have HRW2:=DX (XV.out.kept kx);clear c0 c1 c2 kx HB XV;generalize wr.alloc ((KT x.d x.t x.m))=w2 at *;obtain ⟨a0,a1,a2⟩:=dI JK.out;have hnf:=xL x;have hna:=vX x w2
    obtain ⟨ns,hns⟩:∃ ns,ns=sE x:=⟨_,rfl⟩
    rw [<- hns] at hnf hna HLK;have HNA:=DX hna;clear hna hns;go_wp2_with fail
    refine HNA.out.mono ?_
    rintro e w3 ⟨an,cn,rfl,GL,IK⟩;have GC:=DX (FW.out.trans IK);have IU:=DX (GP.out.kept IK);have HRW3:=DX (HRW2.out.kept IK);have hg3:g<w3.heap.size:=IU.out.lt;have IN:=DX GL;clear a0 a1 a2 IK GL GP HRW2 HNA JK;have SQ:=DX (Ft C g w3 (oZ ts) i l HRW3.out HNL.out ZX.out)
    obtain ⟨ln,LW⟩:∃ ln,ln=ns.length:=⟨_,rfl⟩
    rw [<- LW] at hnf IN ⊢;have JU:=DX LW;clear LW;go_wp2_with fail;go_loopw [23] (fun kv wx=>∃ (k:Nat) (v:Value),k<=ln/\kv=.int .i64 k/\aA wx g (C.setIfInBounds i v) 78/\wx.ownsRow w3.heap.size 3 1 v (kM ts (ns.take k)).length ((kM ts (ns.take k)).map zC)/\w3.grownBy wx (some g)) (fun kv _=>ln - (intOf kv).toNat)
    case atStart =>
     refine ⟨0,.slice none 0 0,aE,rfl,?_,?_,kC _ _⟩
     . have e:C.setIfInBounds i (.slice none 0 0)=C:=by
        have hn:=HNL.out i (EA _) FV
        apply Array.ext_getElem?
        intro j;rw [Array.getElem?_setIfInBounds]
        split
        . rename_i e;subst e;rw [if_pos (by rw [ZX.out];exact FV),hn]
        . rfl
       rw [e];exact IU.out
     . exact World.ownsRow_nil _ _ _ _
    case round =>
     rename World=>wx
     obtain ⟨k,v,hk,rfl,ZJ,PW,hgx⟩:=hrel;have JK:=DX ZJ;have HOX:=DX PW;have HGX:=DX hgx;have hgx3:w3.heap.size<=wx.heap.size:=hgx.size;have XN:=DX (show aB w wx from fO GC.out hgx (fun q e=>by cases e;rw [HG.out];exact EA _));clear ZJ PW hgx
     by_cases PC:k<ln
     . have JH:decide (k<ln)=true:=DZ PC
       have HSX:=DX (kW IN.out IU.out SQ.out HGX.out);obtain ⟨bn,on,rfl,hcn⟩:=HSX.out.at aE;have n0:=hcn k PC _ (EX _);have IX:=DX (Au ts ns k (by rw [<- JU.out];exact PC))
       obtain ⟨d,hd⟩:∃ d,d=ns.getD k ByteArray.empty:=⟨_,rfl⟩
       rw [<- hd] at n0 IX;clear hcn hd;have JA:=DX (Ir (some ⟨b,off,none⟩) l cap ts d wx (HS.out.kept XN.out) HR.out);generalize fZ ts d=nn at *
       cases hf:nH ts d with
       | false =>
        rw [hf] at JA IX;clear hf;have HE:=DX (show kM ts (ns.take (k+1))=kM ts (ns.take k) by rw [IX.out];simp);go_wp2_with fail
        refine JA.out.mono ?_
        rintro e wy ⟨rfl,hky⟩;have VK:=DX (JK.out.kept hky);have US:=DX (aH HOX.out hky);have HG5:=DX (bE HGX.out (bN hky (some g)));clear hky n0;go_wp2_with fail;go_roundw
        case rel=>exact ⟨k+1,v,aE,by go_num,VK.out,by rw [HE.out];exact US.out,HG5.out⟩
        case measure=>simp [intOf];omega
       | true =>
        rw [hf] at JA IX;clear hf;have HE:=DX (show kM ts (ns.take (k+1))=kM ts (ns.take k)++[nn] by rw [IX.out];simp)
        have QI:(kM ts (ns.take k)).length<=40:=by have:=Ej ts (ns.take k);rw [List.length_take] at this;omega
        generalize kM ts (ns.take k)=L at HE HOX QI;go_wp2_with fail
        refine JA.out.mono ?_
        rintro e wy ⟨rfl,hky⟩;have VK:=DX (JK.out.kept hky);have US:=DX (aH HOX.out hky);have HG5:=DX (bE HGX.out (bN hky (some g)));have hgy:w3.heap.size<=wy.heap.size:=HG5.out.size;clear hky n0 HSX JA
        have hci:wy.cell? ⟨g,i,none⟩=some v:=by
         rw [VK.out.cell i,Array.getElem?_setIfInBounds]
         simp [ZX.out,FV]
        obtain ⟨av,cv,rfl⟩:=aP US.out;go_wp2_with (at_builtin;refine dC rfl _ _ 78 rfl w3.heap.size 3 i0 (.int .i64 0) 8 Tryz.underlying78 HI.out.1 HI.out.2.1 HI.out.2.2.1 HI.out.2.2.2 rfl _ _ _ rfl (aH US.out ((EX wy).alloc _)) (some ⟨wy.heap.size,0,none⟩) 1 1 [.int .i64 (nn:Int)] rfl (kP wy _ _ rfl) ?c1 ?c2 ?c3 ?_)
        case c1=>unfold maxLen;omega
        case c2=>omega
        case c3=>simp;omega
        intro v' wz FU IB _;obtain ⟨av2,cv2,rfl⟩:=aP FU
        have ka:=(EX wy).alloc (.cells #[.int .i64 (nn:Int)] 3)
        have GW:some g≠(Value.slice av L.length cv).ownBlock:=fun e=>by have:=(US.out.lt g e.symm).1;omega
        have XI:=DX ((VK.out.kept ka).gr IB GW);have HG6:=DX (Mz (bE HG5.out (bN ka (some g))) IB (fun q e=>(US.out.lt q e).1));have HO6:=DX FU;clear ka GW hci FU IB
        have hci:wz.cell? ⟨g,i,none⟩=some (.slice av L.length cv):=by
         rw [XI.out.cell i,Array.getElem?_setIfInBounds]
         simp [ZX.out,FV]
        have hfi:=XI.out.free i;go_wp2_with fail;go_roundw
        case rel =>
         refine ⟨k+1,.slice av2 (L.length+1) cv2,aE,by go_num,?_,?_,bE HG6.out (iE wz g i _)⟩
         . have:=XI.out.set (i:=i) (.slice av2 (L.length+1) cv2)
           rwa [Array.setIfInBounds_setIfInBounds] at this
         . rw [HE.out,List.length_append,List.map_append]
           exact pH HO6.out (iE wz g i _) (fun e=>by have:=(HO6.out.lt g e.symm).1;omega)
        case measure=>simp [intOf];omega
     . obtain rfl:ln=k:=by omega
       have JH:decide (ln<ln)=false:=DY aE;have HE:=DX (show kM ts (ns.take ln)=(oZ ts).getD i [] by rw [HLK.out,EE (by rw [JU.out];exact EA _)]);go_wp2_with fail;go_roundw
       case rel =>
        refine ⟨i+1,C.setIfInBounds i v,aE,by go_num,by rw [Array.size_setIfInBounds];exact ZX.out,JK.out,DX (fun j hj=>?_),DX (fun j h1 h2=>?_),XN.out⟩
        . by_cases e:j=i
          . subst e
            refine ⟨v,by rw [Array.getElem?_setIfInBounds];simp [ZX.out,FV],?_⟩;rw [<- HE.out];exact bA HOX.out aE
          . exact HRW3.out.gr HGX.out (C':=C.setIfInBounds i v) (fun j hj=>by rw [Array.getElem?_setIfInBounds,if_neg aE]) j aE
        . rw [Array.getElem?_setIfInBounds,if_neg aE]
          exact HNL.out j aE h2
       case measure=>simp [intOf];omega
  . obtain rfl:l=i:=by omega
    have GU:decide (l<l)=false:=DY aE;have HLL:=DX (show (oZ ts).length=l by unfold oZ;rw [List.length_map];exact HL.out);go_wp2_with fail;go_ret;exact ⟨_,by rw [<- HG.out];rfl,⟨g,C,by rw [<- HG.out],HB.out,ZX.out,HLL.out,XV.out⟩,HK.out⟩
def vU (bs:List Bool):Array Value:=(bs.map Value.bool).toArray
theorem sM (bs:List Bool) (i:Nat) (h:i<bs.length):(vU bs)[i]?=some (.bool (bs.getD i false)):=by simp [vU,List.getD,h]
theorem Ff (bs:List Bool) (i:Nat) (x:Bool):(vU bs).setIfInBounds i (.bool x)=vU (bs.set i x):=by
 unfold vU;rw [List.setIfInBounds_toArray,List.map_set]
theorem Mo (n:Nat):madeCells #[.bool false] n=vU (List.replicate n false):=by
 apply Array.ext_getElem?
 intro i
 by_cases h:i<n
 . rw [Eg _ _ _ h,sM _ _ (by simpa using h)]
   simp [List.getD,h]
 . rw [Array.getElem?_eq_none (by rw [vZ];omega),Array.getElem?_eq_none (by simp [vU];omega)]
def Gi (ll:List (List Nat)):Prop:=∀ i,i<ll.length->∀ m∈ll.getD i [],m<ll.length
theorem gN.row {W:World} {a:Option Addr} {l:Nat} {ll:List (List Nat)} (h:gN W a l ll):∃ g,a=some ⟨g,0,none⟩/\∀ i,i<l->∃ b cap,(∀ w,aB W w->w.cell? ⟨g,i,none⟩=some (.slice b (ll.getD i []).length cap)) /\
 ∀ k,k<(ll.getD i []).length->∃ q,b=some ⟨q,0,none⟩/\∀ w,aB W w->w.cell? ⟨q,k,none⟩=some (.int .i64 (((ll.getD i []).getD k 0:Nat):Int)):=by
 obtain ⟨g,C,h1,h2,h3,h4,h5⟩:=h;refine ⟨g,h1,fun i hi=>?_⟩;obtain ⟨v,hv,ho⟩:=h5 i hi;obtain ⟨b,cap,rfl⟩:=aP ho;refine ⟨b,cap,fun w k=>by rw [(h2.kept k).cell,hv],fun k hk=>?_⟩
 rcases ho.2 with ⟨e,e2⟩ | ⟨q,cap',cur,e,hb,hg,hn,hm,_⟩
 . omega
 . cases e
   refine ⟨q,rfl,fun w kk=>kk.cell (ho.lt q rfl).2 ?_⟩;exact Qk
def jF (ts:List Th) (n:Nat):ByteArray:=(ts.getD n aX).d
def Vl (w:World) (ss:List ByteArray) (E:Int) (e:Ending) (w':World):Prop:=∃ a c,e=.returned (.tuple #[.slice a ss.length c,.int .i64 E])/\bD w' a ss.length ss/\aB w w'
theorem De (ts:List Th) (d:ByteArray):fZ ts d<=ts.length:=by
 unfold fZ
 exact (List.takeWhile_sublist _).length_le
theorem sH (ts:List Th) (ds:List ByteArray):∀ m∈kM ts ds,m<ts.length:=by
 intro m hm;unfold kM at hm;obtain ⟨d,_,he⟩:=List.mem_filterMap.1 hm
 split at he
 . rename_i hf
   cases he;unfold nH at hf
   exact (of_decide_eq_true hf).1
 . cases he
theorem kB (ts:List Th):(oZ ts).length=ts.length:=by unfold oZ;rw [List.length_map]
theorem yC (ts:List Th):Gi (oZ ts):=fun i hi m hm=>by
 rw [kB] at hi ⊢;rw [tA ts i hi] at hm;exact sH ts _ m hm
theorem Ot (ts:List Th) (i:Nat) (h:i<ts.length):((oZ ts).getD i []).length<=40:=by
 rw [tA ts i h];exact EF (Ej ts _) (xL _)
theorem gN.gr {W W':World} {a:Option Addr} {l:Nat} {ll:List (List Nat)} {row:Option Nat} (h:gN W a l ll) (q:W.grownBy W' row) (h1:∀ b C,aA W b C 78->some b≠row) (h2:∀ b C,aA W b C 3->some b≠row):gN W' a l ll:=by
 obtain ⟨g,C,e,hb,hs,hl,hr⟩:=h;refine ⟨g,C,e,hb.gr q (h1 g C hb),hs,hl,fun j hj=>?_⟩;obtain ⟨v,hv,ho⟩:=hr j hj;exact ⟨v,hv,Pj.AH ho q h2⟩
theorem DO:(Tryz.prog.info? 4).map (fun i=>(i.zero,i.size,i.bytes))=some (some (.bool false),1,1):=by kernel_rfl
theorem Te (n:Nat) (hn:n<=1000000):∀ u:World,(Instr.makeSlice 128 (.int .i64 n) (.int .i64 n)).run Tryz.prog u =
 .ok (.slice (some ⟨u.heap.size,0,none⟩) n n) (u.alloc (.cells (vU (List.replicate n false)) 4)):=fun u=>by
 obtain ⟨i0,hi,GV,GJ,GO⟩:=info_parts DO
 have h:=run_make (P:=Tryz.prog) u 128 4 i0 (.bool false) Tryz.underlying128 hi GV .i64 .i64 (n:Int) (n:Int) aE (Int.le_refl _) (by rw [GO];omega) aE
 rw [<- Mo]
 simpa [GJ,Value.cells] using h
theorem nG (w:World) (e:TypeId):(w.alloc (.cells #[] e)).ownsRow w.heap.size e 1 (.slice (some ⟨w.heap.size,0,none⟩) 0 0) 0 [] :=
 ⟨rfl,.inr ⟨w.heap.size,0,#[],rfl,EA _,EY w #[] e,EA _,by unfold maxLen;omega,rfl,rfl⟩⟩
theorem wK {ts:List Th} (hr:gG (cY ts)=true) {i j:Nat} (h:i<j) (hj:j<ts.length):cZ (jF ts i) (jF ts j)=true:=by
 have:=nN (show pS (cY ts) (cY ts).length=true from hr) j i h (by unfold cY;rw [List.length_map];exact hj)
 rwa [gA,gA] at this
theorem Nx {ts:List Th} (hr:gG (cY ts)=true) {i j:Nat} (hi:i<ts.length) (hj:j<ts.length) (h:jF ts i=jF ts j):i=j:=by
 rcases Nat.lt_trichotomy i j with q | q | q
 . exact absurd h (Jt (wK hr q hj))
 . exact q
 . exact absurd h.symm (Jt (wK hr q hi))
theorem qT {ts:List Th} (hr:gG (cY ts)=true) (d:ByteArray):nH ts d=decide (cQ ts d<ts.length)/\(cQ ts d<ts.length->fZ ts d=cQ ts d):=by
 by_cases h:cQ ts d<ts.length
 . have hd:=uE ts h
   have e:fZ ts d=cQ ts d:=uB ts _ aE (fun i hi=>by have:=wK hr hi h;unfold jF at this;rwa [hd] at this) (fun _=>by rw [hd];exact gH d);refine ⟨?_,fun _=>e⟩;unfold nH;rw [e,DZ h,DZ ⟨h,hd⟩]
 . refine ⟨?_,fun q=>absurd q h⟩
   rw [DY h];unfold nH;refine DY (fun q=>h ?_)
   rcases Nat.lt_or_ge (fZ ts d) (cQ ts d) with k | k
   . exact absurd q.2 (Cz ts _ k)
   . omega
theorem Pu (ts:List Th) (d:ByteArray):decide (kR ts d<0)=!decide (cQ ts d<ts.length):=by
 unfold kR
 split
 . rename_i h;rw [DZ h];simp
 . rename_i h;rw [DY h];simp
def Of:Value->Nat
 | .slice _ n _=>n
 | _=>0
end Go.Proofs.YtkfmladhicapeaaGreatDoor
namespace Go.Proofs.YtkfmladhicapeaaGreatDoor
open Go.RowKit Go.Shelf
abbrev Sq:=List Bool × List Nat
def gS (s:Sq) (m:Nat):Sq:=if s.1.getD m false=true then s else (s.1.set m true,s.2++[m])
def fY (s:Sq) (ms:List Nat):Sq:=ms.foldl gS s
theorem tC (s:Sq) (ms:List Nat) (m:Nat):fY s (ms++[m])=gS (fY s ms) m:=by simp [fY]
theorem lF {s:Sq} {m:Nat} (h:s.1.getD m false=true):gS s m=s:=by unfold gS;rw [if_pos h]
theorem jX {s:Sq} {m:Nat} (h:s.1.getD m false=false):gS s m=(s.1.set m true,s.2++[m]):=by unfold gS;rw [if_neg (by rw [h];exact Bool.false_ne_true)]
def fB (ll:List (List Nat)) (s0:Sq):Nat->List Nat × Sq
 | 0=>([],s0)
 | k+1=>match (fB ll s0 k).2.2 with
  | []=>fB ll s0 k
  | n :: r=>((fB ll s0 k).1++[n],fY ((fB ll s0 k).2.1,r) (ll.getD n []))
inductive Ci (ll:List (List Nat)) (rs:List Nat):Nat->Prop
 | root {n:Nat}:n∈rs->Ci ll rs n
 | step {n m:Nat}:Ci ll rs n->m∈ll.getD n []->Ci ll rs m
theorem Lj (l:List Bool) (m i:Nat) (hm:m<l.length):(l.set m true).getD i false=(decide (i=m)||l.getD i false):=by
 by_cases e:m=i
 . subst e;simp [List.getD,hm]
 . have e2:i≠m:=fun q=>e q.symm
   simp [List.getD,List.getElem?_set_ne e,e2]
structure gV (L:Nat) (y:List Nat) (s:Sq):Prop where
 len:s.1.length=L
 nodup:(y++s.2).Nodup
 seen:∀ i,i<L->(s.1.getD i false=true↔i∈y++s.2)
 lt:∀ i∈y++s.2,i<L
theorem gV.mark {L:Nat} {y:List Nat} {s:Sq} (h:gV L y s) (m:Nat) (hm:m<L):gV L y (gS s m):=by
 cases e:s.1.getD m false with
 | true=>rw [lF e];exact h
 | false =>
  rw [jX e]
  have hn:m∉y++s.2:=fun q=>by rw [(h.seen m hm).2 q] at e;cases e
  refine ⟨by rw [List.length_set];exact h.len,?_,fun i hi=>?_,fun i hi=>?_⟩
  . rw [<- List.append_assoc,List.nodup_append]
    exact ⟨h.nodup,by simp,fun a ha b hb e2=>by rw [List.mem_singleton] at hb;subst hb;subst e2;exact hn ha⟩
  . have e3:i∈y++(s.2++[m])↔(i∈y++s.2\/i=m):=by simp [or_assoc]
    show _↔i∈y++(s.2++[m])
    rw [Lj _ _ _ (by rw [h.len];exact hm),Bool.or_eq_true,decide_eq_true_iff,h.seen i hi,e3];exact or_comm
  . rw [<- List.append_assoc] at hi
    rcases List.mem_append.1 hi with q | q
    . exact h.lt i q
    . rw [List.mem_singleton] at q;rw [q];exact hm
theorem gV.marks {L:Nat} {y:List Nat}:∀ {s:Sq} (ms:List Nat),gV L y s->(∀ m∈ms,m<L)->gV L y (fY s ms)
 | _,[],h,_=>h
 | s,m :: r,h,hm=>gV.marks (s:=gS s m) r (h.mark m (hm m (List.mem_cons_self))) (fun q hq=>hm q (List.mem_cons_of_mem _ hq))
theorem gV.pop {L n:Nat} {y r:List Nat} {sn:List Bool} (h:gV L y (sn,n :: r)):gV L (y++[n]) (sn,r):=by
 have e:y++[n]++r=y++n :: r:=by simp
 refine ⟨h.len,?_,fun i hi=>?_,fun i hi=>?_⟩
 . show (y++[n]++r).Nodup
   rw [e];exact h.nodup
 . show _↔i∈y++[n]++r
   rw [e];exact h.seen i hi
 . have:i∈y++[n]++r:=hi
   rw [e] at this;exact h.lt i this
theorem gV.start (L:Nat):gV L [] (List.replicate L false,[]) :=
 ⟨by simp,by simp,fun i hi=>by simp [List.getD,hi],fun i hi=>by cases hi⟩
theorem pP {ll:List (List Nat)} {s0:Sq} (JR:Gi ll) (h0:gV ll.length [] s0):∀ k,gV ll.length (fB ll s0 k).1 (fB ll s0 k).2
 | 0=>h0
 | k+1=>by
  have ih:=pP JR h0 k;unfold fB;generalize fB ll s0 k=st at ih ⊢;obtain ⟨y,sn,nx⟩:=st
  cases nx with
  | nil=>exact ih
  | cons n r =>
   have hn:n<ll.length:=ih.lt n (by simp);exact gV.marks _ ih.pop (fun m hm=>JR n hn m hm)
theorem sK:∀ (L:Nat) (l:List Nat),l.Nodup->(∀ i∈l,i<L)->l.length<=L
 | 0,[],_,_=>EA _
 | 0,a :: r,_,h=>absurd (h a List.mem_cons_self) (Nat.not_lt_zero a)
 | L+1,l,hn,h=>by
  by_cases hm:L∈l
  . have:=sK L (l.erase L) (hn.erase L) (fun i hi=>by
     have h1:=(hn.mem_erase_iff).1 hi
     have:=h i h1.2;have:=h1.1
     omega)
    rw [List.length_erase_of_mem hm] at this;omega
  . have:=sK L l hn (fun i hi=>by
     have:=h i hi
     have:i≠L:=fun e=>hm (e ▸ hi)
     omega)
    omega
theorem gV.bound {L:Nat} {y:List Nat} {s:Sq} (h:gV L y s):y.length+s.2.length<=L:=by
 rw [<- List.length_append];exact sK L _ h.nodup h.lt
theorem vK {ll:List (List Nat)} {s0:Sq} {k:Nat} (h:(fB ll s0 k).2.2=[]):∀ j,fB ll s0 (k+j)=fB ll s0 k
 | 0=>rfl
 | j+1=>by
  have ih:=vK h j
  show (match (fB ll s0 (k+j)).2.2 with | []=>fB ll s0 (k+j) | n :: r=>_)=_
  rw [ih,h]
theorem Bs {ll:List (List Nat)} {s0:Sq}:∀ k,(fB ll s0 k).2.2≠[]->(fB ll s0 k).1.length=k
 | 0,_=>rfl
 | k+1,h=>by
  have ih:=Bs (ll:=ll) (s0:=s0) k;unfold fB at h ⊢
  cases e:(fB ll s0 k).2.2 with
  | nil=>rw [e] at h;exact absurd e h
  | cons n r =>
   rw [e] at ih;simp only [];rw [List.length_append,ih (by simp)];rfl
def jZ (ll:List (List Nat)) (s0:Sq):List Nat:=(fB ll s0 ll.length).1
theorem Ik {ll:List (List Nat)} {s0:Sq} {k:Nat} (hk:k<=ll.length) (h:(fB ll s0 k).2.2=[]):jZ ll s0=(fB ll s0 k).1:=by
 unfold jZ;have:=vK h (ll.length - k);rw [show k+(ll.length - k)=ll.length by omega] at this;rw [this]
theorem Jm {ll:List (List Nat)} {s0:Sq} (JR:Gi ll) (h0:gV ll.length [] s0):(fB ll s0 ll.length).2.2=[]:=by
 cases e:(fB ll s0 ll.length).2.2 with
 | nil=>rfl
 | cons n r =>
  have h1:=Bs (ll:=ll) (s0:=s0) ll.length (by rw [e];simp)
  have h2:=(pP JR h0 ll.length).bound
  rw [h1,e] at h2
  simp at h2
  omega
theorem Hj (y:List Nat) (L:Nat) {s:Sq} (h:gV L y s) (m:Nat) (hm:m<L):∀ i,i∈(gS s m).2↔(i∈s.2\/(i=m/\i∉y++s.2)):=by
 intro i
 cases e:s.1.getD m false with
 | true =>
  rw [lF e]
  have:=(h.seen m hm).1 e
  constructor
  . exact .inl
  . rintro (q | ⟨rfl,q⟩)
    . exact q
    . exact absurd this q
 | false =>
  rw [jX e]
  have hn:m∉y++s.2:=fun q=>by rw [(h.seen m hm).2 q] at e;cases e
  show i∈s.2++[m]↔_
  rw [List.mem_append,List.mem_singleton]
  constructor
  . rintro (q | rfl)
    . exact .inl q
    . exact .inr ⟨rfl,hn⟩
  . rintro (q | ⟨q,_⟩)
    . exact .inl q
    . exact .inr q
theorem pU (y:List Nat) (L:Nat):∀ {s:Sq} (ms:List Nat),gV L y s->(∀ m∈ms,m<L)->∀ i,(i∈y++(fY s ms).2↔i∈y++s.2\/i∈ms)
 | s,[],_,_,i=>by simp [fY]
 | s,m :: r,h,hm,i=>by
  have NE:=hm m List.mem_cons_self;have ih:=pU y L r (h.mark m NE) (fun q hq=>hm q (List.mem_cons_of_mem _ hq)) i;have h1:=Hj y L h m NE i
  show i∈y++(fY (gS s m) r).2↔_
  rw [ih,List.mem_append,h1,List.mem_append,List.mem_cons]
  constructor
  . rintro ((q | q | ⟨q,_⟩) | q)
    . exact .inl (.inl q)
    . exact .inl (.inr q)
    . exact .inr (.inl q)
    . exact .inr (.inr q)
  . rintro ((q | q) | q | q)
    . exact .inl (.inl q)
    . exact .inl (.inr (.inl q))
    . by_cases hh:i∈y\/i∈s.2
      . rcases hh with k | k
        . exact .inl (.inl k)
        . exact .inl (.inr (.inl k))
      . exact .inl (.inr (.inr ⟨q,hh⟩))
    . exact .inr q
def dZ (L:Nat) (rs:List Nat):Sq:=fY (List.replicate L false,[]) rs
theorem mY {L:Nat} {rs:List Nat} (h:∀ r∈rs,r<L):gV L [] (dZ L rs):=gV.marks _ (gV.start L) h
structure Told (ll:List (List Nat)) (rs:List Nat) (y:List Nat) (s:Sq):Prop where
 sound:∀ i∈y++s.2,Ci ll rs i
 roots:∀ r∈rs,r∈y++s.2
 closed:∀ i∈y,∀ m∈ll.getD i [],m∈y++s.2
theorem wA {ll:List (List Nat)} {rs:List Nat} (JR:Gi ll) (hrs:∀ r∈rs,r<ll.length):∀ k,Told ll rs (fB ll (dZ ll.length rs) k).1 (fB ll (dZ ll.length rs) k).2
 | 0=>by
  have hm:=pU [] ll.length rs (gV.start ll.length) hrs;refine ⟨fun i hi=>?_,fun r hr=>?_,fun i hi=>by cases hi⟩
  . rcases (hm i).1 hi with q | q
    . cases q
    . exact .root q
  . exact (hm r).2 (.inr hr)
 | k+1=>by
  have ih:=wA JR hrs k;have hk:=pP JR (mY hrs) k;unfold fB;generalize fB ll (dZ ll.length rs) k=st at ih hk ⊢;obtain ⟨y,sn,nx⟩:=st
  cases nx with
  | nil=>exact ih
  | cons n r =>
   have hn:n<ll.length:=hk.lt n (by simp);have hm:=pU (y++[n]) ll.length (ll.getD n []) hk.pop (fun m hm=>JR n hn m hm)
   have e:∀ i,i∈y++[n]++r↔i∈y++n :: r:=fun i=>by simp
   refine ⟨fun i hi=>?_,fun q hq=>?_,fun i hi m WI=>?_⟩
   . rcases (hm i).1 hi with q | q
     . exact ih.sound i ((e i).1 q)
     . exact .step (ih.sound n (by simp)) q
   . exact (hm q).2 (.inl ((e q).2 (ih.roots q hq)))
   . rcases List.mem_append.1 hi with q | q
     . exact (hm m).2 (.inl ((e m).2 (ih.closed i q m WI)))
     . rw [List.mem_singleton] at q;subst q
       exact (hm m).2 (.inr WI)
theorem Hk {ll:List (List Nat)} {rs:List Nat} (JR:Gi ll) (hrs:∀ r∈rs,r<ll.length) (i:Nat):i∈jZ ll (dZ ll.length rs)↔Ci ll rs i:=by
 have hT:=wA JR hrs ll.length;have hE:=Jm JR (mY hrs);unfold jZ;obtain ⟨h1,h2,h3⟩:=hT;rw [hE,List.append_nil] at h1 h2 h3;refine ⟨fun h=>h1 i h,fun h=>?_⟩
 induction h with
 | root hr=>exact h2 _ hr
 | step _ hm ih=>exact h3 _ ih _ hm
theorem Aw {ll:List (List Nat)} {rs:List Nat} (JR:Gi ll) (hrs:∀ r∈rs,r<ll.length):(jZ ll (dZ ll.length rs)).Nodup/\∀ i∈jZ ll (dZ ll.length rs),i<ll.length:=by
 have h:=pP JR (mY hrs) ll.length;exact ⟨(List.nodup_append.1 h.nodup).1,fun i hi=>h.lt i (List.mem_append.2 (.inl hi))⟩
end Go.Proofs.YtkfmladhicapeaaGreatDoor
