import Derived.Test.YtkfmladhicapeaaGreatDoorY33
import Derived.Test.YtkfmladhicapeaaGreatDoorY19
set_option maxRecDepth 100000
set_option maxHeartbeats 4000000
namespace Go.Proofs.YtkfmladhicapeaaGreatDoor
open Go.RowKit Go.Shelf
attribute [local go_sem] Oper.semAt_some
theorem Lg {ss:List ByteArray} (h:∀ k,k+1<ss.length->cZ (ss.getD k ByteArray.empty) (ss.getD (k+1) ByteArray.empty)=true):Ti ss
 | 0,i,hi,_=>absurd hi (Nat.not_lt_zero i)
 | j+1,i,hi,hj=>by
  by_cases e:i=j
  . rw [e];exact h j hj
  . exact eV (Lg h j i aE aE) (h j hj)
theorem Jd (ts:List Th) (rs:List ByteArray):(eG ts rs).length<=ts.length:=by
 unfold eG;rw [List.length_map];have:=List.length_filter_le (fX ts rs) (List.range ts.length)
 simpa using this
theorem Yh {w:World} {q g c:Nat} {ks:List ByteArray} {cs:Array Value} (hq:aA w q #[.slice (some ⟨g,0,none⟩) ks.length c] 72) (hg:aA w g cs 9) (hs:bD w (some ⟨g,0,none⟩) ks.length ks):KSq w q ks:=by
 refine ⟨g,c,cs,hq,hg,fun i hi=>?_⟩;obtain ⟨b,off,ha,hc⟩:=hs.cells;have e:=ha aE;simp only [Option.some.injEq,Addr.mk.injEq,and_true] at e;obtain ⟨rfl,rfl⟩:=e
 have:=(hc i hi).2
 rw [Nat.zero_add,hg.cell i] at this;exact this
def Vh (gs:List Tg) (k:Nat):List Value:=((gs.take k).map (·.d)).map Value.string
theorem zM {gs:List Tg} {k:Nat} (h:k<gs.length):Vh gs (k+1)=Vh gs k++[.string (gs.getD k bL).d]:=by
 have e:gs.getD k bL=gs[k]:=by simp [List.getD,h]
 unfold Vh;rw [e,List.take_succ_eq_append_getElem h,List.map_append,List.map_append];rfl
theorem Fb (gs:List Tg):Vh gs gs.length=(gs.map (·.d)).map Value.string:=by
 unfold Vh;rw [List.take_length]
theorem Qb (base c q:Nat) (a:Option Addr) (ts:List Th) (ks:List ByteArray) (w:World) (h:w.ownsRow base 62 3 (.slice a ts.length c) ts.length (ts.flatMap dW)) (hz:∀ x∈ts,x.d.size<=140737488351232/\x.t.size<=140737488351232) (hl:ts.length<=1000000)
 (hk:KSq w q ks) (PC:ks.length<=1000000) (hkz:∀ s∈ks,s.size<=9223372036854775807) (hr:Ti ks) :
 Calls Tryz.prog 108 #[.slice a ts.length c,.func (.func 109) #[] #[.pointer (some ⟨q,0,none⟩)]] w fun e w'=>∃ row,e=.returned (.slice a (ts.filter (rV ks)).length c) /\
  w'.ownsRow base 62 3 (.slice a (ts.filter (rV ks)).length c) (ts.filter (rV ks)).length ((ts.filter (rV ks)).flatMap dW)/\w.grownBy w' row/\dX base w row 62:=by
 by_cases h0:0<ts.length
 . obtain ⟨g,rfl⟩:=cA h h0
   exact (Py base g c q ts ks w h hz hl hk PC hkz hr).mono fun _ _ ⟨h1,h2,h3⟩=>⟨_,h1,h2,h3,dX.of h⟩
 . obtain rfl:ts=[]:=List.length_eq_zero_iff.1 aE
   obtain ⟨_,_,hv,hI⟩:=cI h rfl (by simp) hz;cases hv;have HIX:=DX (zQ a c q [] ks w hI hl hk PC hkz hr);have HO:=DX h;clear h hk hkz hr hI hz hl h0;dsimp only [List.length_nil,List.filter_nil] at *;go_enter Tryz.func108,Tryz.ntmps108;go_wp2_with fail
   refine HIX.out.mono ?_
   rintro e w1 ⟨⟨hi,rfl⟩ | ⟨hi,rfl⟩,MF⟩
   . exact absurd hi (Nat.not_lt_zero _)
   . have IL:=DX MF
     clear MF HIX hi;go_wp2_with fail;go_ret;exact ⟨none,rfl,aH HO.out IL.out,jO IL.out _,dX.none⟩
theorem Ht (base p:Nat) (hp:base<=p) (s:dN) (w:World) (Q:eX base w p s) (hs:dP s=true) :
 Calls Tryz.prog 77 #[.pointer (some ⟨p,0,none⟩)] w (iD base p w (nE s)):=by
 obtain ⟨i0,PI,GV,GJ,GO⟩:=info_parts BD;have hT:=hs;unfold dP at hT;rw [Bool.and_eq_true] at hT;have hT2:=hT.1;unfold yR at hT2;rw [Bool.and_eq_true] at hT2;have hTB:=hT2.1;obtain ⟨lT,rT,zT,lG,rG,zG,lS,rS,zS,n0,n1⟩:=bR hs;obtain ⟨ts,gs,ss,nx⟩:=s;dsimp only at *;have HQ:=DX Q;obtain ⟨aT,cT,aG,cG,aS,cS,hb,oT,oG,oS⟩:=Q.rows;dsimp only at *
 have GY:base<=w.heap.size:=by have:=hb.lt;omega
 have MG:p<w.heap.size:=hb.lt;have HP:=DX hb
 obtain ⟨KL,NB⟩:∃ KL,KL=eG ts (gs.map (·.d)):=⟨_,rfl⟩
 obtain ⟨XX,GR⟩:∃ XX,XX=nE ⟨ts,gs,ss,nx⟩:=⟨_,rfl⟩
 rw [<- GR];have HX:=DX (show XX=(⟨ts.filter (rV KL),gs,ss,nx⟩,dY ((ts.length - (ts.filter (rV KL)).length:Nat):Int)) by rw [GR,NB];rfl);clear GR;obtain ⟨_,_,hv,hI⟩:=cI oT rfl aE (fun x hx=>by have:=zT x hx;omega);cases hv;obtain ⟨_,_,hv,hJ⟩:=eA oG rfl aE (fun x hx=>by have:=zG x hx;omega);cases hv;have JV:=DX hI;have NN:=DX hJ;have PN:=DX (show ∀ k,k<gs.length->(gs.getD k bL).d.size=32 from fun k hk=>(zG _ (bY bL hk)).2);have VR:=DX oT;have HKL:=DX NB;have VZ:=DX (show Ti KL by rw [NB];exact Lg (fun k hk=>Gw hTB _ k hk))
 have PC:KL.length<=60:=by rw [NB];exact EF (Jd _ _) lT
 have HKZ:=DX (show ∀ s∈KL,s.size<=9223372036854775807 by
  intro s hs;rw [NB] at hs;unfold eG at hs;obtain ⟨n,_,rfl⟩:=List.mem_map.1 hs
  have:=(jE hI.sizes n).1
  unfold jF
  omega)
 have HZT:=DX (show ∀ x∈ts,x.d.size<=140737488351232/\x.t.size<=140737488351232 from fun x hx=>by have:=zT x hx;omega);have HFR:=DX (fun (ar:Option Addr) (cr:Nat) (w':World) (k:aB w w') (hr:bD w' ar gs.length (gs.map (·.d)))=>Gb aT ts.length cT ts ar gs.length cr (gs.map (·.d)) w' (hI.kept k) hr aE hTB);have HI:=DX (EC PI (EC GV (EC GJ GO)));have HR:=DX (EY w LR 47);have HK:=DX ((EX w).alloc (KR));clear hs hT hT2 hTB rT zT rG zG rS zS oT oG oS Q hb hI hJ NB PI GV GJ GO;go_enter Tryz.func77,Tryz.ntmps77
 go_upto_region 1 with (fail)
 generalize w.alloc (KR)=w1 at *
 go_upto_region 2 with (fail)
 have HOE:=DX (nG w1 9);have OS:=DX ((EX w1).alloc (.cells #[] 9));generalize w1.alloc (.cells #[] 9)=w2 at *;obtain ⟨r0,r1,r2,r3⟩:=aI (HP.out.kept (HK.out.trans OS.out));go_wp2_with fail;clear r0 r1 r2 r3;go_loopw [3,15] (fun rv kv wr=>∃ k:Nat,kv=.int .i64 k/\k<=gs.length/\∃ a c,rv=.slice a k c/\Hid (wr.ownsRow w1.heap.size 9 1 (.slice a k c) k (Vh gs k))/\Hid (aB w1 wr)) (fun _ kv _=>gs.length - (intOf kv).toNat)
 case atStart=>exact ⟨0,rfl,aE,_,_,rfl,HOE,OS⟩
 case round =>
  rename World=>wr
  obtain ⟨k,rfl,hk,a,c,rfl,HO,IA⟩:=hrel
  by_cases IE:k<gs.length
  . have GU:decide (k<gs.length)=true:=DZ IE
    obtain ⟨bt,ot,rfl,JC⟩:=NN.out.at aE;obtain ⟨c0,c1⟩:=JC k IE wr (HK.out.trans IA.out);have IX:=DX (zM IE);clear JC
    generalize (gs.getD k bL).n=xn at c0
    generalize (gs.getD k bL).d=xd at c1 IX
    go_upto_region 5 with (fail)
    have HB:=DX (EY wr #[.string xn,.string xd] 68);have GC:=DX (IA.out.alloc (.cells #[.string xn,.string xd] 68));have WV:=DX (aH HO.out ((EX wr).alloc (.cells #[.string xn,.string xd] 68)));clear c0 c1;generalize wr.alloc (.cells #[.string xn,.string xd] 68)=w3 at *;obtain ⟨b0,b1⟩:=oV HB.out;go_wp2_with (at_builtin;refine dC rfl _ _ 72 rfl w1.heap.size 9 i0 (.string ByteArray.empty) 16 EP HI.out.1 HI.out.2.1 HI.out.2.2.1 HI.out.2.2.2 rfl _ _ _ rfl (aH WV.out ((EX w3).alloc _)) (some ⟨w3.heap.size,0,none⟩) 1 1 [.string xd] rfl (kP w3 _ _ rfl) ?c1 ?c2 ?c3 ?_)
    case c1=>unfold maxLen;omega
    case c2=>omega
    case c3=>have:=GC.out.size;simp;omega
    intro v9 w9 FU IB _;obtain ⟨a9,c9,rfl⟩:=aP FU;have XQ:=DX FU;have JQ:=DX (cD (GC.out.alloc (.cells #[.string xd] 9)) IB (fun q e=>(aH WV.out ((EX w3).alloc (.cells #[.string xd] 9))).lt q e |>.1) (EA _));clear FU IB b0 b1;exact Ra
  . obtain rfl:k=gs.length:=by omega
    have GU:decide (gs.length<gs.length)=false:=DY aE;have FU:=HO.out;rw [Fb] at FU
    have hRS:=rD FU (fun s hs=>by
     obtain ⟨x,hx,rfl⟩:=List.mem_map.1 hs;obtain ⟨j,hj,rfl⟩:=List.mem_iff_getElem.1 hx;have:=PN.out j hj;rw [List.getD_eq_getElem?_getD,List.getElem?_eq_getElem hj,Option.getD_some] at this
     omega) (List.length_map _)
    have HFC:=DX (HFR.out a c wr (HK.out.trans IA.out) hRS);rw [<- HKL.out] at HFC;clear FU hRS HO HFR;obtain ⟨r0,r1,r2,r3⟩:=aI (HP.out.kept (HK.out.trans IA.out));go_wp2_with fail
    refine HFC.out.mono ?_
    rintro e w4 ⟨g4,c4,rfl,GL,IV,_,cs4,IM⟩;have GQ:=DX ((HK.out.trans IA.out).trans IV);have IW:=DX ((HR.out.kept IA.out).kept IV);have IN:=DX GL;have KY:=DX IM;clear GL IV IM HFC r0 r1 r2 r3
    go_upto_region 8 with (fail)
    have YZ:=DX ((EX w4).alloc (.cells #[.slice (some ⟨g4,0,none⟩) KL.length c4] 72));have HKS:=DX (Yh (EY w4 #[.slice (some ⟨g4,0,none⟩) KL.length c4] 72) (KY.out.kept YZ.out) (IN.out.kept YZ.out));have IQ:=DX (GQ.out.trans YZ.out);have KE:=DX (IW.out.kept YZ.out);generalize w4.heap.size=q at *;generalize w4.alloc (.cells #[.slice (some ⟨g4,0,none⟩) KL.length c4] 72)=w5 at *;have HDX:=DX (Qb base cT q aT ts KL w5 (aH VR.out IQ.out) HZT.out aE HKS.out aE HKZ.out VZ.out)
    have hfl:(ts.filter (rV KL)).length<=ts.length:=List.length_filter_le _ _
    generalize ts.filter (rV KL)=F at *;obtain ⟨r0,r1,r2,r3⟩:=aI (HP.out.kept IQ.out);go_wp2_with fail
    refine HDX.out.mono ?_
    rintro e w6 ⟨row,rfl,FU,IB,MC⟩;have HP6:=DX (aM (HP.out.kept IQ.out) IB (MC.ne (HP.out.kept IQ.out) aF))
    obtain ⟨hq7,hf7⟩:=(HQ.out.kept IQ.out).putT hp F IB MC FU
    have HQ7:=DX hq7;have HF7:=DX ((FA IQ.out GY).trans hf7);have VY:=DX (hf7.blk _ _ _ KE.out aE aF aF aF);clear r0 r1 r2 r3 FU IB MC hq7 hf7 HDX;obtain ⟨r0,r1,r2,r3⟩:=aI HP6.out;have f0:=HP6.out.free 0
    go_upto_region 10 with (fail)
    generalize w6.setCell ⟨p,0,none⟩ (.slice aT F.length cT)=w7 at *;clear r0 r1 r2 r3 f0;obtain ⟨aT8,cT8,_,_,_,_,hb8,_⟩:=HQ7.out.rows;dsimp only at hb8;obtain ⟨r0,r1,r2,r3⟩:=aI hb8
    obtain ⟨D,hD⟩:∃ D,D=ts.length - F.length:=⟨_,rfl⟩
    have hDi:(ts.length:Int) - (F.length:Int)=(D:Int):=by omega
    rw [<- hD] at HX
    have hDl:D<=60:=by omega
    clear hD hb8;go_wp2_with (refine aD rfl 47 (.tmp 2) (.tmp 55) rfl (w.heap.size) (bB (dY (D:Int))) LR 47 rfl rfl VY.out AX rfl (aL _) ?_)
    refine EI (v:=bW (dY (D:Int))) ?_ rfl ?_
    . exact EH rfl _ _ (w.heap.size) 47 (bB (dY (D:Int))) (0,0) _ rfl (VY.out.setRow _) EV rfl AX
    . rw [HX.out];exact ⟨rfl,HQ7.out.setRow VY.out aF aF aF aF _,HF7.out.setRow (EA _) GY _⟩
theorem tM (aT aG aS:Option Addr) (cT cG cS:Nat) (ts:List Th) (gs:List Tg) (ss:List Se) (nx:Int) (wo:World) (hT:bO wo aT ts.length ts) (hG:cJ wo aG gs.length gs) (hS:cP wo aS ss.length ss) (hl:ts.length<=1000000/\gs.length<=1000000/\ss.length<=1000000) :
 Calls Tryz.prog 47 #[.agg (LS aT ts.length cT aG gs.length cG aS ss.length cS nx)] wo fun e w'=>∃ x1 y1 x2 y2 x3 y3,e=.returned (.agg (LS x1 ts.length y1 x2 gs.length y2 x3 ss.length y3 nx))/\w'.ownsRow wo.heap.size 62 3 (.slice x1 ts.length y1) ts.length (ts.flatMap dW)/\w'.ownsRow wo.heap.size 68 2 (.slice x2 gs.length y2) gs.length (gs.flatMap eN)/\w'.ownsRow wo.heap.size 65 2 (.slice x3 ss.length y3) ss.length (ss.flatMap fJ)/\aB wo w':=by
 have HB:=DX ((EY wo (LS aT ts.length cT aG gs.length cG aS ss.length cS nx) 26).kept ((EX _).alloc (KN)));have HR:=DX (FB wo LN 26 ((KS aT ts.length cT aG gs.length cG aS ss.length cS nx)));have HK:=DX (((EX wo).alloc ((KS aT ts.length cT aG gs.length cG aS ss.length cS nx))).alloc (KN));have HCT:=DX (fun w' (k:aB ((wo.alloc ((KS aT ts.length cT aG gs.length cG aS ss.length cS nx))).alloc (KN)) w')=>Ks aT ts.length cT ts w' (hT.kept (HK.out.trans k)) hl.1);have HCG:=DX (fun w' (k:aB ((wo.alloc ((KS aT ts.length cT aG gs.length cG aS ss.length cS nx))).alloc (KN)) w')=>Jf aG gs.length cG gs w' (hG.kept (HK.out.trans k)) hl.2.1);have HCS:=DX (fun w' (k:aB ((wo.alloc ((KS aT ts.length cT aG gs.length cG aS ss.length cS nx))).alloc (KN)) w')=>Kv aS ss.length cS ss w' (hS.kept (HK.out.trans k)) hl.2.2);clear hT hG hS hl;go_enter Tryz.func47,Tryz.ntmps47
 go_upto_region 1 with (fail)
 generalize (wo.alloc ((KS aT ts.length cT aG gs.length cG aS ss.length cS nx))).alloc (KN)=w1 at *
 refine Pj.Zj 12 (fun az0 L az w=>∃ V:Nat->Value,az=Pj.Zb [(3,0),(4,1),(5,2),(6,3),(7,4),(8,5),(9,6),(10,7),(11,8),(12,9),(13,10),(14,11)] V az0/\Pj.J w1 [Pj.Is (.pointer (some ⟨wo.heap.size,0,none⟩)),Pj.Is (.slice aT ts.length cT),(fun w v=>∃ a c,v=.slice a ts.length c/\w.ownsRow wo.heap.size 62 3 (.slice a ts.length c) ts.length (ts.flatMap dW)),Pj.Is (.pointer (some ⟨wo.heap.size,1,none⟩)),Pj.Is (.slice aG gs.length cG),(fun w v=>∃ a c,v=.slice a gs.length c/\w.ownsRow wo.heap.size 68 2 (.slice a gs.length c) gs.length (gs.flatMap eN)),Pj.Is (.pointer (some ⟨wo.heap.size,2,none⟩)),Pj.Is (.slice aS ss.length cS),(fun w v=>∃ a c,v=.slice a ss.length c/\w.ownsRow wo.heap.size 65 2 (.slice a ss.length c) ss.length (ss.flatMap fJ)),Pj.Is (.pointer (some ⟨wo.heap.size,3,none⟩)),Pj.Is (.int .i64 nx),(fun w v=>∃ a1 c1 a2 c2 a3 c3,v=.agg (LS a1 ts.length c1 a2 gs.length c2 a3 ss.length c3 nx)/\w.ownsRow wo.heap.size 62 3 (.slice a1 ts.length c1) ts.length (ts.flatMap dW)/\w.ownsRow wo.heap.size 68 2 (.slice a2 gs.length c2) gs.length (gs.flatMap eN)/\w.ownsRow wo.heap.size 65 2 (.slice a3 ss.length c3) ss.length (ss.flatMap fJ)),(fun _ _=>True)] L V w) (fun az0 az w=>∃ V:Nat->Value,az=Pj.Zb [(3,0),(4,1),(5,2),(6,3),(7,4),(8,5),(9,6),(10,7),(11,8),(12,9),(13,10),(14,11)] V az0/\(∃ x1 y1 x2 y2 x3 y3,aA w (wo.heap.size+1) (LS x1 ts.length y1 x2 gs.length y2 x3 ss.length y3 nx) 26/\w.ownsRow wo.heap.size 62 3 (.slice x1 ts.length y1) ts.length (ts.flatMap dW)/\w.ownsRow wo.heap.size 68 2 (.slice x2 gs.length y2) gs.length (gs.flatMap eN)/\w.ownsRow wo.heap.size 65 2 (.slice x3 ss.length y3) ss.length (ss.flatMap fJ)/\aB wo w)) nR nR nR ?eh0 ?ehs ?ehe
 case eh0 =>
  intro L hL;exact ⟨_,Pj.Zi _ (fun j=>([3,4,5,6,7,8,9,10,11,12,13,14,0]:List Nat).getD j 0) [0,1,2,3,4,5,6,7,8,9,10,11],Pj.J.none (n:=13) (EA _) hL ((EX _).drew)⟩
 case ehs =>
  rintro L L' az w iz opz Kq ⟨V,rfl,hJ⟩ ho FY FZ hL IH hKz GH;have HP:=DX (show Pj.Zl [Pj.Is (.pointer (some ⟨wo.heap.size,0,none⟩)),Pj.Is (.slice aT ts.length cT),(fun w v=>∃ a c,v=.slice a ts.length c/\w.ownsRow wo.heap.size 62 3 (.slice a ts.length c) ts.length (ts.flatMap dW)),Pj.Is (.pointer (some ⟨wo.heap.size,1,none⟩)),Pj.Is (.slice aG gs.length cG),(fun w v=>∃ a c,v=.slice a gs.length c/\w.ownsRow wo.heap.size 68 2 (.slice a gs.length c) gs.length (gs.flatMap eN)),Pj.Is (.pointer (some ⟨wo.heap.size,2,none⟩)),Pj.Is (.slice aS ss.length cS),(fun w v=>∃ a c,v=.slice a ss.length c/\w.ownsRow wo.heap.size 65 2 (.slice a ss.length c) ss.length (ss.flatMap fJ)),Pj.Is (.pointer (some ⟨wo.heap.size,3,none⟩)),Pj.Is (.int .i64 nx),(fun w v=>∃ a1 c1 a2 c2 a3 c3,v=.agg (LS a1 ts.length c1 a2 gs.length c2 a3 ss.length c3 nx)/\w.ownsRow wo.heap.size 62 3 (.slice a1 ts.length c1) ts.length (ts.flatMap dW)/\w.ownsRow wo.heap.size 68 2 (.slice a2 gs.length c2) gs.length (gs.flatMap eN)/\w.ownsRow wo.heap.size 65 2 (.slice a3 ss.length c3) ss.length (ss.flatMap fJ)),(fun _ _=>True)] from ⟨Pj.Is.stays _,Pj.Is.stays _,(fun _ _ _ ⟨a,c,e,h⟩ q=>⟨a,c,e,aH h q⟩),Pj.Is.stays _,Pj.Is.stays _,(fun _ _ _ ⟨a,c,e,h⟩ q=>⟨a,c,e,aH h q⟩),Pj.Is.stays _,Pj.Is.stays _,(fun _ _ _ ⟨a,c,e,h⟩ q=>⟨a,c,e,aH h q⟩),Pj.Is.stays _,Pj.Is.stays _,(fun _ _ _ ⟨a1,c1,a2,c2,a3,c3,e,h1,h2,h3⟩ q=>⟨a1,c1,a2,c2,a3,c3,e,aH h1 q,aH h2 q,aH h3 q⟩),(fun _ _ _ _ _=>trivial),trivial⟩);have HJ:=DX hJ;clear hJ
  match iz,ho with
  | 0,ho =>
   obtain rfl:=EB ho
   refine Pj.Za.free rfl ?_
   simp only [Pj.PU,Act.put];go_simp;exact IH aF _ _ ⟨Pj.Yz V 0 (.pointer (some ⟨wo.heap.size,0,none⟩)),by simp only [Pj.PU,Act.put,Pj.Yz,Nat.reduceEqDiff,if_true,if_false],HJ.out.more HP.out hL (EX _) (rfl)⟩
  | 1,ho =>
   obtain rfl:=EB ho;have l0:=FZ 0 aW
   have e0:V 0=.pointer (some ⟨wo.heap.size,0,none⟩):=HJ.out.h 0 l0
   obtain ⟨d0,d1,d2,d3⟩:=aI (HB.out.kept HJ.out.kp)
   refine Pj.Za.free rfl ?_
   simp only [Pj.PU,Act.put,e0];go_simp;exact IH aF _ _ ⟨Pj.Yz V 1 (.slice aT ts.length cT),by simp only [Pj.PU,Act.put,Pj.Yz,Nat.reduceEqDiff,if_true,if_false,e0],HJ.out.more HP.out hL (EX _) (rfl)⟩
  | 2,ho =>
   obtain rfl:=EB ho;have l1:=FZ 1 aW
   have e1:V 1=.slice aT ts.length cT:=HJ.out.h 1 l1
   have hso:=HCT.out w HJ.out.kp
   refine Pj.Za.free rfl ?_
   simp only [Pj.PU,Act.put,e1];go_simp
   refine hso.mono ?_
   rintro e w' ⟨a9,c9,rfl,h9',GF⟩;have h9:=bA h9' (EF (EZ HK.out) (EZ HJ.out.kp));exact IH aF _ _ ⟨Pj.Yz V 2 (.slice a9 ts.length c9),by simp only [Pj.PU,Act.put,Pj.Yz,Nat.reduceEqDiff,if_true,if_false,e1],HJ.out.more HP.out hL (GF) (⟨_,_,rfl,h9⟩)⟩
  | 3,ho =>
   obtain rfl:=EB ho
   refine Pj.Za.free rfl ?_
   simp only [Pj.PU,Act.put];go_simp;exact IH aF _ _ ⟨Pj.Yz V 3 (.pointer (some ⟨wo.heap.size,1,none⟩)),by simp only [Pj.PU,Act.put,Pj.Yz,Nat.reduceEqDiff,if_true,if_false],HJ.out.more HP.out hL (EX _) (rfl)⟩
  | 4,ho =>
   obtain rfl:=EB ho;have l3:=FZ 3 aW
   have e3:V 3=.pointer (some ⟨wo.heap.size,1,none⟩):=HJ.out.h 3 l3
   obtain ⟨d0,d1,d2,d3⟩:=aI (HB.out.kept HJ.out.kp)
   refine Pj.Za.free rfl ?_
   simp only [Pj.PU,Act.put,e3];go_simp;exact IH aF _ _ ⟨Pj.Yz V 4 (.slice aG gs.length cG),by simp only [Pj.PU,Act.put,Pj.Yz,Nat.reduceEqDiff,if_true,if_false,e3],HJ.out.more HP.out hL (EX _) (rfl)⟩
  | 5,ho =>
   obtain rfl:=EB ho;have l4:=FZ 4 aW
   have e4:V 4=.slice aG gs.length cG:=HJ.out.h 4 l4
   have hso:=HCG.out w HJ.out.kp
   refine Pj.Za.free rfl ?_
   simp only [Pj.PU,Act.put,e4];go_simp
   refine hso.mono ?_
   rintro e w' ⟨a9,c9,rfl,h9',GF⟩;have h9:=bA h9' (EF (EZ HK.out) (EZ HJ.out.kp));exact IH aF _ _ ⟨Pj.Yz V 5 (.slice a9 gs.length c9),by simp only [Pj.PU,Act.put,Pj.Yz,Nat.reduceEqDiff,if_true,if_false,e4],HJ.out.more HP.out hL (GF) (⟨_,_,rfl,h9⟩)⟩
  | 6,ho =>
   obtain rfl:=EB ho
   refine Pj.Za.free rfl ?_
   simp only [Pj.PU,Act.put];go_simp;exact IH aF _ _ ⟨Pj.Yz V 6 (.pointer (some ⟨wo.heap.size,2,none⟩)),by simp only [Pj.PU,Act.put,Pj.Yz,Nat.reduceEqDiff,if_true,if_false],HJ.out.more HP.out hL (EX _) (rfl)⟩
  | 7,ho =>
   obtain rfl:=EB ho;have l6:=FZ 6 aW
   have e6:V 6=.pointer (some ⟨wo.heap.size,2,none⟩):=HJ.out.h 6 l6
   obtain ⟨d0,d1,d2,d3⟩:=aI (HB.out.kept HJ.out.kp)
   refine Pj.Za.free rfl ?_
   simp only [Pj.PU,Act.put,e6];go_simp;exact IH aF _ _ ⟨Pj.Yz V 7 (.slice aS ss.length cS),by simp only [Pj.PU,Act.put,Pj.Yz,Nat.reduceEqDiff,if_true,if_false,e6],HJ.out.more HP.out hL (EX _) (rfl)⟩
  | 8,ho =>
   obtain rfl:=EB ho;have l7:=FZ 7 aW
   have e7:V 7=.slice aS ss.length cS:=HJ.out.h 7 l7
   have hso:=HCS.out w HJ.out.kp
   refine Pj.Za.free rfl ?_
   simp only [Pj.PU,Act.put,e7];go_simp
   refine hso.mono ?_
   rintro e w' ⟨a9,c9,rfl,h9',GF⟩;have h9:=bA h9' (EF (EZ HK.out) (EZ HJ.out.kp));exact IH aF _ _ ⟨Pj.Yz V 8 (.slice a9 ss.length c9),by simp only [Pj.PU,Act.put,Pj.Yz,Nat.reduceEqDiff,if_true,if_false,e7],HJ.out.more HP.out hL (GF) (⟨_,_,rfl,h9⟩)⟩
  | 9,ho =>
   obtain rfl:=EB ho
   refine Pj.Za.free rfl ?_
   simp only [Pj.PU,Act.put];go_simp;exact IH aF _ _ ⟨Pj.Yz V 9 (.pointer (some ⟨wo.heap.size,3,none⟩)),by simp only [Pj.PU,Act.put,Pj.Yz,Nat.reduceEqDiff,if_true,if_false],HJ.out.more HP.out hL (EX _) (rfl)⟩
  | 10,ho =>
   obtain rfl:=EB ho;have l9:=FZ 9 aW
   have e9:V 9=.pointer (some ⟨wo.heap.size,3,none⟩):=HJ.out.h 9 l9
   obtain ⟨d0,d1,d2,d3⟩:=aI (HB.out.kept HJ.out.kp)
   refine Pj.Za.free rfl ?_
   simp only [Pj.PU,Act.put,e9];go_simp;exact IH aF _ _ ⟨Pj.Yz V 10 (.int .i64 nx),by simp only [Pj.PU,Act.put,Pj.Yz,Nat.reduceEqDiff,if_true,if_false,e9],HJ.out.more HP.out hL (EX _) (rfl)⟩
  | 11,ho =>
   obtain rfl:=EB ho;have l2:=FZ 2 aW;obtain ⟨a2,c2,e2,h2⟩:=HJ.out.h 2 l2;have l5:=FZ 5 aW;obtain ⟨a5,c5,e5,h5⟩:=HJ.out.h 5 l5;have l8:=FZ 8 aW;obtain ⟨a8,c8,e8,h8⟩:=HJ.out.h 8 l8;have l10:=FZ 10 aW
   have e10:V 10=.int .i64 nx:=HJ.out.h 10 l10
   refine Pj.Za.free rfl ?_
   simp only [Pj.PU,Act.put,e2,e5,e8,e10];go_simp;exact IH aF _ _ ⟨Pj.Yz V 11 (.agg (LS a2 ts.length c2 a5 gs.length c5 a8 ss.length c8 nx)),by simp only [Pj.PU,Act.put,Pj.Yz,Nat.reduceEqDiff,if_true,if_false,e2,e5,e8,e10],HJ.out.more HP.out hL (EX _) (⟨_,_,_,_,_,_,rfl,h2,h5,h8⟩)⟩
  | 12,ho =>
   simp only [iU] at ho;subst ho;have l11:=FZ 11 aW;obtain ⟨x1,y1,x2,y2,x3,y3,e11,n1,n2,n3⟩:=HJ.out.h 11 l11;have hR:=HR.out.kept HJ.out.kp
   refine Pj.Za.free rfl ?_
   simp only [Pj.PU,Act.put,e11]
   refine Pj.Zf 26 _ _ rfl (wo.heap.size+1) (LS x1 ts.length y1 x2 gs.length y2 x3 ss.length y3 nx) LN 26 rfl rfl hR aW rfl (by simp [Value.oneCell']) ?_
   simp only [Act.put];have g8:=dB w (wo.heap.size+1) (LS x1 ts.length y1 x2 gs.length y2 x3 ss.length y3 nx);exact hKz rfl _ _ ⟨Pj.Yz V 12 (undef),by simp only [Pj.PU,Act.put,Pj.Yz,Nat.reduceEqDiff,if_false,e11],⟨x1,y1,x2,y2,x3,y3,hR.setRow _,bI n1 hR aF g8,bI n2 hR aF g8,bI n3 hR aF g8,FC (HK.out.trans HJ.out.kp) (ED _) _⟩⟩
  | n+13,ho=>simp at ho
 case ehe =>
  rintro az w ⟨V,rfl,hf⟩;obtain ⟨x1,y1,x2,y2,x3,y3,UZ,n1,n2,n3,GF⟩:=hf;have JM:=DX UZ;have HN1:=DX n1;have TU:=DX n2;have HN3:=DX n3;have JQ:=DX GF;clear UZ n1 n2 n3 GF;simp only [Pj.Zb,dO,Act.put];go_wp2_with fail
  refine EI (v:=.agg (LS x1 ts.length y1 x2 gs.length y2 x3 ss.length y3 nx)) ?_ rfl ⟨x1,y1,x2,y2,x3,y3,rfl,HN1.out,TU.out,HN3.out,JQ.out⟩
  exact EH rfl _ _ (wo.heap.size+1) 26 (LS x1 ts.length y1 x2 gs.length y2 x3 ss.length y3 nx) (0,0) _ rfl JM.out EW rfl AY
end Go.Proofs.YtkfmladhicapeaaGreatDoor
