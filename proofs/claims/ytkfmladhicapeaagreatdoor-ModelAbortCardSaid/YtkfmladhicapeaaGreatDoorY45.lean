import Derived.Test.YtkfmladhicapeaaGreatDoorY44
set_option maxRecDepth 100000
set_option maxHeartbeats 16000000
namespace Go.Proofs.YtkfmladhicapeaaGreatDoor
open Go.RowKit Go.Shelf
attribute [local go_sem] Oper.semAt_some
theorem nV (W:World) (a:Option Addr):bO W a 0 []:=⟨rfl,aE,(fun x hx=>by cases hx),0,0,fun h=>absurd h (EJ 0),fun i hi=>absurd hi (Nat.not_lt_zero i)⟩
theorem Tl {s:dN} (h:dP s=true):Bd s.ts s.gs s.ss:=by
 obtain ⟨lT,_,_,lG,_,zG,lS,_⟩:=bR h;exact ⟨aE,aE,aE,fun x hx=>by have:=(zG x hx).1;omega⟩
theorem zW (aT aG aS:Option Addr) (cT cG cS:Nat) (ts:List Th) (gs:List Tg) (ss:List Se) (nx:Int) (o:fV) (wo:World) (hT:bO wo aT ts.length ts) (hG:cJ wo aG gs.length gs) (hS:cP wo aS ss.length ss) (UE:∀ x∈gs,x.n.size<=1000000) (hE:uR wo) (OB:o.t.size<=140737488351232) (MA:o.name.size<=1000000) (GL:dP ⟨ts,gs,ss,nx⟩=true) (hk:1<=o.k/\o.k<=13) (XX:dN × rN) (GR:XX=dK ⟨ts,gs,ss,nx⟩ o) :
 Calls Tryz.prog 34 (SO aT ts.length cT aG gs.length cG aS ss.length cS nx o.k o.id o.n o.m o.name o.d o.t) wo fun e w' =>
  (∃ x1 y1 x2 y2 x3 y3,e=.returned (.tuple #[.agg (LS x1 XX.1.ts.length y1 x2 XX.1.gs.length y2 x3 XX.1.ss.length y3 XX.1.nx),bW XX.2,.int .i64 0])/\lZ wo.heap.size XX.1.ts XX.1.gs XX.1.ss x1 x2 x3 y1 y2 y3 w')/\aB wo w':=by
 subst GR
 refine (Ew aT aG aS cT cG cS ts gs ss nx o wo hT hG hS UE hE OB MA).mono ?_
 rintro e w' ⟨_,h1,h2⟩;obtain ⟨x1,y1,x2,y2,x3,y3,he,g1,g2,g3⟩:=h1 ⟨hk.1,hk.2,GL⟩;exact ⟨⟨x1,y1,x2,y2,x3,y3,he,g1,g2,g3⟩,h2⟩
theorem Ec (aT aG aS:Option Addr) (cT cG cS:Nat) (ts:List Th) (gs:List Tg) (ss:List Se) (nx:Int) (o:fV) (wo:World) (hT:bO wo aT ts.length ts) (hG:cJ wo aG gs.length gs) (hS:cP wo aS ss.length ss) (UE:∀ x∈gs,x.n.size<=1000000) (hE:uR wo) (OB:o.t.size<=140737488351232) (MA:o.name.size<=1000000) (h:¬ (1<=o.k/\o.k<=13/\dP ⟨ts,gs,ss,nx⟩=true)) :
 Calls Tryz.prog 34 (SO aT ts.length cT aG gs.length cG aS ss.length cS nx o.k o.id o.n o.m o.name o.d o.t) wo fun e w' =>
  e=.returned (.tuple #[.agg LN,.agg LR,.int .i64 1])/\aB wo w':=by
 refine (Ew aT aG aS cT cG cS ts gs ss nx o wo hT hG hS UE hE OB MA).mono ?_
 rintro e w' ⟨h0,_,h2⟩;exact ⟨h0 h,h2⟩
theorem Dv {base:Nat} {ts:List Th} {gs:List Tg} {ss:List Se} {nx:Int} {x1 x2 x3:Option Addr} {y1 y2 y3:Nat} {w:World} (h:lZ base ts gs ss x1 x2 x3 y1 y2 y3 w) (GL:dP ⟨ts,gs,ss,nx⟩=true):bO w x1 ts.length ts/\cJ w x2 gs.length gs/\cP w x3 ss.length ss:=by
 obtain ⟨lT,_,zT,lG,_,zG,lS,_,zS,_,_⟩:=bR GL;dsimp only at *;obtain ⟨_,_,hv,h1⟩:=cI h.oT rfl aE (fun x hx=>by have:=zT x hx;omega);cases hv;obtain ⟨_,_,hv,h2⟩:=eA h.oG rfl aE (fun x hx=>by have:=zG x hx;omega);cases hv;obtain ⟨_,_,hv,h3⟩:=gO h.oS rfl aE (fun x hx=>EF (zS x hx) aF);cases hv;exact ⟨h1,h2,h3⟩
theorem lZ.ow {base:Nat} {ts:List Th} {gs:List Tg} {ss:List Se} {x1 x2 x3:Option Addr} {y1 y2 y3:Nat} {w:World} (h:lZ base ts gs ss x1 x2 x3 y1 y2 y3 w):Ow base x1 x2 x3 ts.length gs.length ss.length y1 y2 y3 w:=⟨⟨_,h.oT⟩,⟨_,h.oG⟩,⟨_,h.oS⟩⟩
theorem lZ.spo {base:Nat} {ts:List Th} {gs:List Tg} {ss:List Se} {x1 x2 x3:Option Addr} {y1 y2 y3:Nat} {w w':World} {bs:List (Option Nat)} (h:lZ base ts gs ss x1 x2 x3 y1 y2 y3 w) (hs:sN bs w w') (hn:∀ r∈bs,∀ g,r=some g->g<base):lZ base ts gs ss x1 x2 x3 y1 y2 y3 w':=⟨hs.own hn h.oT,hs.own hn h.oG,hs.own hn h.oS⟩
structure Mb (ts:List Th) (gs:List Tg) (ss:List Se):Prop where
 t:ts.length<=3518437208883
 g:gs.length<=4398046511104
 s:ss.length<=5864062014805
 zt:∀ x∈ts,x.d.size<=140737488351232/\x.t.size<=140737488351232
 zg:∀ x∈gs,x.n.size<=140737488351232/\x.d.size<=140737488351232
 zs:∀ x∈ss,x.t.size<=140737488351232
theorem Ur {s:dN} (h:dP s=true):Mb s.ts s.gs s.ss:=by
 obtain ⟨lT,_,zT,lG,_,zG,lS,_,zS,_,_⟩:=bR h;exact ⟨aE,aE,aE,fun x hx=>by have:=zT x hx;omega,fun x hx=>by have:=zG x hx;omega,fun x hx=>EF (zS x hx) aF⟩
theorem oO {base:Nat} {ts:List Th} {gs:List Tg} {ss:List Se} {x1 x2 x3:Option Addr} {y1 y2 y3:Nat} {w:World} (h:lZ base ts gs ss x1 x2 x3 y1 y2 y3 w) (hz:Mb ts gs ss):bO w x1 ts.length ts/\cJ w x2 gs.length gs/\cP w x3 ss.length ss:=by
 obtain ⟨_,_,hv,h1⟩:=cI h.oT rfl hz.t hz.zt;cases hv;obtain ⟨_,_,hv,h2⟩:=eA h.oG rfl hz.g hz.zg;cases hv;obtain ⟨_,_,hv,h3⟩:=gO h.oS rfl hz.s hz.zs;cases hv;exact ⟨h1,h2,h3⟩
theorem lZ.base {base base':Nat} {ts:List Th} {gs:List Tg} {ss:List Se} {x1 x2 x3:Option Addr} {y1 y2 y3:Nat} {w:World} (h:lZ base ts gs ss x1 x2 x3 y1 y2 y3 w) (hb:base'<=base):lZ base' ts gs ss x1 x2 x3 y1 y2 y3 w:=⟨bA h.oT hb,bA h.oG hb,bA h.oS hb⟩
def Es (base:Nat) (wo:World) (e:Ending) (w':World):Prop:=∃ (us:List Th) (hs:List Tg) (vs:List Se) (mx:Int) (x1 x2 x3:Option Addr) (y1 y2 y3:Nat),e=.returned (.tuple #[.agg (LS x1 us.length y1 x2 hs.length y2 x3 vs.length y3 mx),.bool true]) /\
 lZ base us hs vs x1 x2 x3 y1 y2 y3 w'/\Mb us hs vs/\Bd us hs vs/\aB wo w'
theorem Uv (aT aG aS:Option Addr) (cT cG cS:Nat) (ts:List Th) (gs:List Tg) (ss:List Se) (nx:Int) (o:fV) (base:Nat) (wo:World) (hO:lZ base ts gs ss aT aG aS cT cG cS wo) (OC:Mb ts gs ss) (JI:base<=wo.heap.size) (JL:Bd ts gs ss) (hE:uR wo) (OB:o.t.size<=140737488351232) (MA:o.name.size<=1000000) (GL:dP ⟨ts,gs,ss,nx⟩=true) (hk:1<=o.k/\o.k<=13) :
 Calls Tryz.prog 24 (SO aT ts.length cT aG gs.length cG aS ss.length cS nx o.k o.id o.n o.m o.name o.d o.t) wo (Es base wo):=by
 obtain ⟨ok,oi,on,om,GE,od,ot⟩:=o;dsimp only at *;obtain ⟨hT,hG,hS⟩:=oO hO OC;have HOO:=DX hO;have HZL:=DX OC;clear hO OC;have JV:=DX hT;have NN:=DX hG;have MN:=DX hS;have HE:=DX hE;have VL:=DX JL;have IN:=DX GL;have PN:=DX (show ∀ x∈gs,x.n.size<=1000000 from fun x hx=>by have:=JL.n x hx;omega)
 have k1:=(EX wo).alloc ((KS aT ts.length cT aG gs.length cG aS ss.length cS nx))
 have k2:=(EX (wo.alloc ((KS aT ts.length cT aG gs.length cG aS ss.length cS nx)))).alloc ((KO ok oi on om GE od ot))
 have k3:=(EX ((wo.alloc ((KS aT ts.length cT aG gs.length cG aS ss.length cS nx))).alloc ((KO ok oi on om GE od ot)))).alloc (KN)
 have QP:=DX (show yL wo.heap.size (LS aT ts.length cT aG gs.length cG aS ss.length cS nx) 26 (wo.heap.size+1) (LO ok oi on om GE od ot) 35 (wo.heap.size+1+1) LN 26 (((wo.alloc ((KS aT ts.length cT aG gs.length cG aS ss.length cS nx))).alloc ((KO ok oi on om GE od ot))).alloc (KN)) from ⟨((EY wo (LS aT ts.length cT aG gs.length cG aS ss.length cS nx) 26).kept k2).kept k3,(FB wo (LO ok oi on om GE od ot) 35 ((KS aT ts.length cT aG gs.length cG aS ss.length cS nx))).kept k3,aA.new2 wo LN 26 ((KS aT ts.length cT aG gs.length cG aS ss.length cS nx)) ((KO ok oi on om GE od ot))⟩);have IL:=DX ((k1.trans k2).trans k3);clear k1 k2 k3
 obtain ⟨XX,GR⟩:∃ XX,XX=dK ⟨ts,gs,ss,nx⟩ ⟨ok,oi,on,om,GE,od,ot⟩:=⟨_,rfl⟩
 have VQ:=DX (fun a1 a2 a3 b1 b2 b3 w9 (k:aB wo w9) h1 h2 h3=>zW a1 a2 a3 b1 b2 b3 ts gs ss nx ⟨ok,oi,on,om,GE,od,ot⟩ w9 h1 h2 h3 PN.out (hE.kept k) OB MA GL hk XX GR);have HRD:=DX (fun w9 (k:aB wo w9)=>show Calls Tryz.prog 42 (SO aT ts.length cT aG gs.length cG aS ss.length cS nx ok oi on om GE od ot) w9 (Yb w9 XX) by rw [GR];exact Oe aT aG aS cT cG cS ts gs ss nx ⟨ok,oi,on,om,GE,od,ot⟩ w9 (hT.kept k) (hG.kept k) (hS.kept k) GL OB MA hk);have HMB:=DX (show dP XX.1=true by rw [GR];exact Ue GL ⟨ok,oi,on,om,GE,od,ot⟩);clear GR;obtain ⟨⟨us,hs,vs,mx⟩,⟨rn,rt,re⟩⟩:=XX;dsimp only at VQ HRD HMB;have XR:=DX (fun w9=>show Calls Tryz.prog 33 #[.agg (LO ok oi on om GE od ot)] w9 fun e w'=>e=.returned (.bool true)/\aB w9 w' by have h:=Mg ⟨ok,oi,on,om,GE,od,ot⟩ w9;rw [show decide (1<=ok/\ok<=13)=true from DZ hk] at h;exact h);have OM:=DX (fun w9 (k:aB wo w9)=>show Calls Tryz.prog 27 #[.agg (LS aT ts.length cT aG gs.length cG aS ss.length cS nx)] w9 fun e w'=>e=.returned (.bool true)/\aB w9 w' by have h:=jM aT aG aS cT cG cS ts gs ss nx w9 (hT.kept k) (hG.kept k) (hS.kept k) PN.out;rw [GL] at h;exact h);have KQ:=DX (fun a1 a2 a3 b1 b2 b3 w9 (k:aB wo w9) h1 h2 h3=>show Calls Tryz.prog 43 #[.agg (LS a1 ts.length b1 a2 gs.length b2 a3 ss.length b3 nx)] w9 fun e w'=>e=.returned (.int .i64 0)/\aB w9 w' by have h:=iQ a1 a2 a3 b1 b2 b3 ts gs ss nx w9 h1 h2 h3 PN.out (hE.kept k);rw [GL] at h;exact h);have MK:=DX (fun w9 (k:aB wo w9)=>gF aT aG aS cT cG cS ts gs ss nx w9 (hT.kept k) (hG.kept k) (hS.kept k));have XM:=DX (fun a1 a2 a3 b1 b2 b3 w9 (k:aB wo w9) h1 h2 h3=>iP a1 a2 a3 aT aG aS b1 b2 b3 cT cG cS ts gs ss nx w9 h1 h2 h3 (hT.kept k) (hG.kept k) (hS.kept k));have aBO:=hT.le;have aAz:=hG.le;have aBP:=hS.le;have ZG:=DX hT.sizes;have HZ2:=DX hG.sizes;have HZ3:=DX hS.sizes;clear hT hG hS hE GL JL hk;go_enter Tryz.func24,Tryz.ntmps24
 go_upto_region 1 with (fail)
 generalize ((wo.alloc ((KS aT ts.length cT aG gs.length cG aS ss.length cS nx))).alloc ((KO ok oi on om GE od ot))).alloc (KN)=w1 at *
 obtain ⟨r0,r1,r2,r3⟩:=aI QP.out.h1;go_wp2_with fail
 refine (MK.out w1 IL.out).mono ?_
 rintro e w2 ⟨i1,j1,i2,j2,i3,j3,rfl,o1,o2,o3,FX⟩;clear r0 r1 r2 r3;obtain ⟨_,_,hv,hI1⟩:=cI o1 rfl aBO ZG.out;cases hv;obtain ⟨_,_,hv,hI2⟩:=eA o2 rfl aAz HZ2.out;cases hv;obtain ⟨_,_,hv,hI3⟩:=gO o3 rfl aBP HZ3.out;cases hv;clear o1 o2 o3
 go_upto_region 2 with (fail)
 have ka:=(EX w2).alloc ((KS i1 ts.length j1 i2 gs.length j2 i3 ss.length j3 nx))
 have IJ:=DX (EC (hI1.kept ka) (EC (hI2.kept ka) (hI3.kept ka)));have H6:=DX (EY w2 (LS i1 ts.length j1 i2 gs.length j2 i3 ss.length j3 nx) 26);have GC:=DX ((IL.out.trans FX).trans ka);have OD:=DX ((QP.out.kept FX).kept ka)
 have hs3:(w2.alloc ((KS i1 ts.length j1 i2 gs.length j2 i3 ss.length j3 nx))).heap.size=w2.heap.size+1:=by simp [World.size_alloc]
 clear hI1 hI2 hI3 FX ka QP IL;generalize w2.alloc ((KS i1 ts.length j1 i2 gs.length j2 i3 ss.length j3 nx))=w3 at *;have QG:=OD.out.h3.lt;generalize w2.heap.size=p6 at *;obtain ⟨r0,r1,r2,r3⟩:=aI H6.out;obtain ⟨b0,b1,b2,b3,b4,b5,b6⟩:=cX OD.out.h2;go_wp2_with fail
 refine (VQ.out i1 i2 i3 j1 j2 j3 w3 GC.out IJ.out.1 IJ.out.2.1 IJ.out.2.2).mono ?_
 rintro e w4 ⟨⟨u1,v1,u2,v2,u3,v3,he,LD⟩,IV⟩
 have he2:e=.returned (.tuple #[.agg (LS u1 us.length v1 u2 hs.length v2 u3 vs.length v3 mx),.agg (LP rn rt re),.int .i64 0]):=he
 subst he2;clear he;have KV:=DX LD;clear LD;have hs4:=IV.size;clear r0 r1 r2 r3 b0 b1 b2 b3 b4 b5 b6 VQ
 go_upto_region 6 with (fail)
 have k1:=(EX w4).alloc ((KS u1 us.length v1 u2 hs.length v2 u3 vs.length v3 mx))
 have k2:=(EX (w4.alloc ((KS u1 us.length v1 u2 hs.length v2 u3 vs.length v3 mx)))).alloc ((KP rn rt re))
 have k3:=(EX ((w4.alloc ((KS u1 us.length v1 u2 hs.length v2 u3 vs.length v3 mx))).alloc ((KP rn rt re)))).alloc (KN)
 have k4:=(EX (((w4.alloc ((KS u1 us.length v1 u2 hs.length v2 u3 vs.length v3 mx))).alloc ((KP rn rt re))).alloc (KN))).alloc (KR)
 have HX5:=DX (show yL w4.heap.size (LS u1 us.length v1 u2 hs.length v2 u3 vs.length v3 mx) 26 (w4.heap.size+1) (LP rn rt re) 47 p6 (LS i1 ts.length j1 i2 gs.length j2 i3 ss.length j3 nx) 26 ((((w4.alloc ((KS u1 us.length v1 u2 hs.length v2 u3 vs.length v3 mx))).alloc ((KP rn rt re))).alloc (KN)).alloc (KR)) from ⟨(((EY w4 (LS u1 us.length v1 u2 hs.length v2 u3 vs.length v3 mx) 26).kept k2).kept k3).kept k4,((FB w4 (LP rn rt re) 47 ((KS u1 us.length v1 u2 hs.length v2 u3 vs.length v3 mx))).kept k3).kept k4,(((((H6.out.kept IV).kept k1).kept k2).kept k3).kept k4)⟩);have RA:=DX (EC (show aA ((((w4.alloc ((KS u1 us.length v1 u2 hs.length v2 u3 vs.length v3 mx))).alloc ((KP rn rt re))).alloc (KN)).alloc (KR)) (w4.heap.size+1+1) LN 26 from (aA.new2 w4 LN 26 ((KS u1 us.length v1 u2 hs.length v2 u3 vs.length v3 mx)) ((KP rn rt re))).kept k4) (show aA ((((w4.alloc ((KS u1 us.length v1 u2 hs.length v2 u3 vs.length v3 mx))).alloc ((KP rn rt re))).alloc (KN)).alloc (KR)) (w4.heap.size+1+1+1) LR 47 by have:=EY (((w4.alloc ((KS u1 us.length v1 u2 hs.length v2 u3 vs.length v3 mx))).alloc ((KP rn rt re))).alloc (KN)) LR 47;simpa [World.size_alloc] using this))
 have ka:=((k1.trans k2).trans k3).trans k4
 have QU:=DX (IV.trans ka);have QQ:=DX ((OD.out.kept IV).kept ka);have VT:=DX (KV.out.kept ka)
 have UK:((((w4.alloc ((KS u1 us.length v1 u2 hs.length v2 u3 vs.length v3 mx))).alloc ((KP rn rt re))).alloc (KN)).alloc (KR)).heap.size=w4.heap.size+1+1+1+1:=by simp [World.size_alloc]
 clear k1 k2 k3 k4 ka OD H6 IV
 generalize (((w4.alloc ((KS u1 us.length v1 u2 hs.length v2 u3 vs.length v3 mx))).alloc ((KP rn rt re))).alloc (KN)).alloc (KR)=w5 at *
 have ZJ:∀ r∈[(Value.slice u1 us.length v1).ownBlock,(Value.slice u2 hs.length v2).ownBlock,(Value.slice u3 vs.length v3).ownBlock],∀ g,r=some g->w3.heap.size<=g/\g<w4.heap.size:=fun r hr g e=>by simp only [List.mem_cons,List.not_mem_nil,or_false] at hr;rcases hr with rfl | rfl | rfl;exact KV.out.oT.lt g e;exact KV.out.oG.lt g e;exact KV.out.oS.lt g e
 have JK:=DX ZJ;clear ZJ;generalize w4.heap.size=p7 at *;clear KV;obtain ⟨r0,r1,r2,r3⟩:=aI QQ.out.h1;go_wp2_with fail
 refine (OM.out w5 (GC.out.trans QU.out)).mono ?_
 rintro e w6 ⟨rfl,JD⟩;clear r0 r1 r2 r3 OM;have RY:=DX (QQ.out.kept JD);have ZF:=DX (HX5.out.kept JD);have VU:=DX (VT.out.kept JD);have SY:=DX (EC (RA.out.1.kept JD) (RA.out.2.kept JD));have VO:=DX (QU.out.trans JD);have hs6:=JD.size;clear QQ HX5 VT RA QU;clear JD;obtain ⟨b0,b1,b2,b3,b4,b5,b6⟩:=cX RY.out.h2;go_wp2_with fail
 refine (XR.out w6).mono ?_
 rintro e w7 ⟨rfl,KD⟩;clear b0 b1 b2 b3 b4 b5 b6 XR;have QR:=DX (RY.out.kept KD);have RC:=DX (ZF.out.kept KD);have VV:=DX (VU.out.kept KD);have SZ:=DX (EC (SY.out.1.kept KD) (SY.out.2.kept KD));have OQ:=DX (VO.out.trans KD);have hs7:=KD.size;clear RY ZF VU SY VO;clear KD;obtain ⟨r0,r1,r2,r3⟩:=aI QR.out.h1;obtain ⟨b0,b1,b2,b3,b4,b5,b6⟩:=cX QR.out.h2;go_wp2_with fail
 refine (HRD.out w7 (GC.out.trans OQ.out)).mono ?_
 rintro e w8 ⟨⟨q1,t1,q2,t2,q3,t3,he,oT,oG,oS⟩,LH⟩
 have he2:e=.returned (.tuple #[.agg (LS q1 us.length t1 q2 hs.length t2 q3 vs.length t3 mx),.agg (LP rn rt re)]):=he
 subst he2;clear he;have HQ8:=DX (show lZ w7.heap.size us hs vs q1 q2 q3 t1 t2 t3 w8 from ⟨oT,oG,oS⟩);clear oT oG oS r0 r1 r2 r3 b0 b1 b2 b3 b4 b5 b6 HRD;have hs87:=LH.size;have TM:=DX (QR.out.kept LH);have WZ:=DX (RC.out.kept LH);have VW:=DX (VV.out.kept LH);have SE:=DX (EC (SZ.out.1.kept LH) (SZ.out.2.kept LH));have MX:=DX (OQ.out.trans LH);have hs8:=LH.size;clear QR RC VV SZ OQ;clear LH
 go_upto_region 10 with (first | (refine aD rfl 26 (.tmp 11) (.tmp 34) rfl (p7+1+1) (LS q1 us.length t1 q2 hs.length t2 q3 vs.length t3 mx) LN 26 rfl rfl SE.out.1 AY rfl (by simp [Value.oneCell']) ?_) | (refine aD rfl 47 (.tmp 12) (.tmp 35) rfl (p7+1+1+1) (LP rn rt re) LR 47 rfl rfl (SE.out.2.other _ aE) AX rfl (by simp [Value.oneCell']) ?_))
 have RZ:=DX ((TM.out.row (x:=(p7+1+1)) (cs:=(LS q1 us.length t1 q2 hs.length t2 q3 vs.length t3 mx)) aE aE aE).row (x:=(p7+1+1+1)) (cs:=(LP rn rt re)) aE aE aE);have UW:=DX ((WZ.out.row (x:=(p7+1+1)) (cs:=(LS q1 us.length t1 q2 hs.length t2 q3 vs.length t3 mx)) aE aE aE).row (x:=(p7+1+1+1)) (cs:=(LP rn rt re)) aE aE aE);have h11:aA (w8.setRow (p7+1+1) (LS q1 us.length t1 q2 hs.length t2 q3 vs.length t3 mx)) (p7+1+1) (LS q1 us.length t1 q2 hs.length t2 q3 vs.length t3 mx) 26:=SE.out.1.setRow _;have h12:aA (w8.setRow (p7+1+1) (LS q1 us.length t1 q2 hs.length t2 q3 vs.length t3 mx)) (p7+1+1+1) LR 47:=SE.out.2.other _ aE;have OZ:=DX (EC (show aA ((w8.setRow (p7+1+1) #[.slice q1 us.length t1,.slice q2 hs.length t2,.slice q3 vs.length t3,.int .i64 mx]).setRow (p7+1+1+1) (LP rn rt re)) (p7+1+1) (LS q1 us.length t1 q2 hs.length t2 q3 vs.length t3 mx) 26 from h11.other _ aE) (show aA ((w8.setRow (p7+1+1) #[.slice q1 us.length t1,.slice q2 hs.length t2,.slice q3 vs.length t3,.int .i64 mx]).setRow (p7+1+1+1) (LP rn rt re)) (p7+1+1+1) (LP rn rt re) 47 from h12.setRow _));have TV:=DX ((VW.out.row SE.out.1 aF aF aF #[.slice q1 us.length t1,.slice q2 hs.length t2,.slice q3 vs.length t3,.int .i64 mx]).row h12 aF aF aF (LP rn rt re));have XU:=DX ((HQ8.out.row SE.out.1 aF aF aF #[.slice q1 us.length t1,.slice q2 hs.length t2,.slice q3 vs.length t3,.int .i64 mx]).row h12 aF aF aF (LP rn rt re));have OR:=DX (FC (FC MX.out (g:=(p7+1+1)) aE (LS q1 us.length t1 q2 hs.length t2 q3 vs.length t3 mx)) (g:=(p7+1+1+1)) aE (LP rn rt re));clear h11 h12 TM WZ SE VW HQ8 MX;generalize ((w8.setRow (p7+1+1) #[.slice q1 us.length t1,.slice q2 hs.length t2,.slice q3 vs.length t3,.int .i64 mx]).setRow (p7+1+1+1) (LP rn rt re))=w9 at *;have JN:=Dv TV.out HMB.out;have hiq:=Dv XU.out HMB.out;have WT:=DX (iP u1 u2 u3 q1 q2 q3 v1 v2 v3 t1 t2 t3 us hs vs mx w9 JN.1 JN.2.1 JN.2.2 hiq.1 hiq.2.1 hiq.2.2);clear JN hiq;obtain ⟨x0,x1,x2,x3⟩:=aI UW.out.h1;obtain ⟨d0,d1,d2⟩:=dI UW.out.h2;obtain ⟨y0,y1,y2,y3⟩:=aI OZ.out.1;obtain ⟨e0,e1,e2⟩:=dI OZ.out.2;go_wp2_with fail
 refine (fP _ _).mono ?_
 rintro e w' ⟨rfl,rfl⟩;go_wp2_with fail
 refine WT.out.mono ?_
 rintro e w10 ⟨rfl,MJ⟩;clear x0 x1 x2 x3 d0 d1 d2 y0 y1 y2 y3 e0 e1 e2 WT;have HQ10:=DX (XU.out.kept MJ);clear XU;have PE:=DX (RZ.out.kept MJ);have YG:=DX (UW.out.kept MJ);have VS:=DX (TV.out.kept MJ);have aAp:=DX (EC (OZ.out.1.kept MJ) (OZ.out.2.kept MJ));have NH:=DX (OR.out.trans MJ);have hs10:=MJ.size;clear RZ UW TV OZ OR;clear MJ;obtain ⟨x0,x1,x2,x3⟩:=aI YG.out.h3;obtain ⟨r0,r1,r2,r3⟩:=aI PE.out.h1;go_wp2_with fail
 refine (XM.out i1 i2 i3 j1 j2 j3 w10 (GC.out.trans NH.out) (IJ.out.1.kept NH.out) (IJ.out.2.1.kept NH.out) (IJ.out.2.2.kept NH.out)).mono ?_
 rintro e w11 ⟨rfl,UF⟩;clear x0 x1 x2 x3 r0 r1 r2 r3;have HQ11:=DX (HQ10.out.kept UF);clear HQ10;have HBK11:=DX (PE.out.kept UF);have HX11:=DX (YG.out.kept UF);have HOW11:=DX (VS.out.kept UF);have HW11:=DX (EC (aAp.out.1.kept UF) (aAp.out.2.kept UF));have SN:=DX (NH.out.trans UF);have hs11:=UF.size;clear PE YG VS aAp NH;clear UF;obtain ⟨x0,x1,x2,x3⟩:=aI HX11.out.h3;go_wp2_with fail
 refine (KQ.out i1 i2 i3 j1 j2 j3 w11 (GC.out.trans SN.out) (IJ.out.1.kept SN.out) (IJ.out.2.1.kept SN.out) (IJ.out.2.2.kept SN.out)).mono ?_
 rintro e w12 ⟨rfl,SG⟩;clear x0 x1 x2 x3 KQ;have HQ12:=DX (HQ11.out.kept SG);clear HQ11;have YX:=DX (HBK11.out.kept SG);have HX12:=DX (HX11.out.kept SG);have HOW12:=DX (HOW11.out.kept SG);have HW12:=DX (EC (HW11.out.1.kept SG) (HW11.out.2.kept SG));have aBj:=DX (SN.out.trans SG);have hs12:=SG.size;clear HBK11 HX11 HOW11 HW11 SN;clear SG;go_wp2_with fail
 refine (fP _ _).mono ?_
 rintro e w' ⟨rfl,rfl⟩;obtain ⟨x0,x1,x2,x3⟩:=aI HX12.out.h1;have HSP:=DX (mR w3.heap.size u1 u2 u3 us.length hs.length vs.length v1 v2 v3 mx w12 HOW12.out.ow (by obtain ⟨g1,g2,g3,_⟩:=Tl HMB.out;dsimp only at g1 g2 g3;omega));go_wp2_with fail
 refine HSP.out.mono ?_
 rintro e w20 ⟨⟨uu,rfl⟩,QO⟩;clear x0 x1 x2 x3 HSP;have hz3:w3.heap.size<=w12.heap.size:=aBj.out.size
 have SF:∀ r∈[(Value.slice u1 us.length v1).ownBlock,(Value.slice u2 hs.length v2).ownBlock,(Value.slice u3 vs.length v3).ownBlock],∀ b,(b<w3.heap.size\/p7<=b)->some b≠r:=fun r hr b hb e=>by have:=JK.out r hr b e.symm;omega
 have ME:=DX (Below.trans aBj.out (QO.below hz3 (fun r hr g e=>(JK.out r hr g e).1)));have SM:=DX (show yL wo.heap.size (LS aT ts.length cT aG gs.length cG aS ss.length cS nx) 26 (wo.heap.size+1) (LO ok oi on om GE od ot) 35 (wo.heap.size+1+1) LN 26 w20 from ⟨QO.blk YX.out.h1 (fun r hr=>SF r hr _ aE),QO.blk YX.out.h2 (fun r hr=>SF r hr _ aE),QO.blk YX.out.h3 (fun r hr=>SF r hr _ aE)⟩);have H620:=DX (QO.blk HX12.out.h3 (fun r hr=>SF r hr _ aE));have aAZ:=DX (QO.blk HW12.out.1 (fun r hr=>SF r hr _ aE));have HQ20:=DX (HQ12.out.spo QO (fun r hr g e=>by have:=(JK.out r hr g e).2;omega));clear HQ12;clear QO SF YX HX12 HOW12 HW12 aBj;obtain ⟨x0,x1,x2,x3⟩:=aI H620.out;obtain ⟨r0,r1,r2,r3⟩:=aI SM.out.h1;go_wp2_with fail
 refine (XM.out i1 i2 i3 j1 j2 j3 w20 (GC.out.trans ME.out) (IJ.out.1.kept ME.out) (IJ.out.2.1.kept ME.out) (IJ.out.2.2.kept ME.out)).mono ?_
 rintro e w21 ⟨rfl,UG⟩;clear x0 x1 x2 x3 r0 r1 r2 r3 XM;have VM:=DX (SM.out.kept UG);have HKw:=DX ((GC.out.trans ME.out).trans UG);have H1121:=DX (aAZ.out.kept UG);have hiq:=Dv (HQ20.out.kept UG) HMB.out;have ZW:=DX (gF q1 q2 q3 t1 t2 t3 us hs vs mx w21 hiq.1 hiq.2.1 hiq.2.2);clear UG hiq;obtain ⟨x0,x1,x2,x3⟩:=aI H1121.out;go_wp2_with fail
 refine ZW.out.mono ?_
 rintro e w22 ⟨c1,f1,c2,f2,c3,f3,rfl,oT,oG,oS,hk22⟩;have KW:=VM.out.h3.kept hk22
 have hfin:=((show lZ w21.heap.size us hs vs c1 c2 c3 f1 f2 f3 w22 from ⟨oT,oG,oS⟩).row KW aF aF aF #[.slice c1 us.length f1,.slice c2 hs.length f2,.slice c3 vs.length f3,.int .i64 mx]).base (show base<=w21.heap.size from EF JI HKw.out.size)
 have HFIN:=DX hfin;have RX:=DX KW;have HKf:=DX (HKw.out.trans hk22);clear oT oG oS hk22 KW hfin x0 x1 x2 x3;go_wp2_with (refine aD rfl 26 (.tmp 4) (.tmp 77) rfl (wo.heap.size+1+1) (LS c1 us.length f1 c2 hs.length f2 c3 vs.length f3 mx) LN 26 rfl rfl RX.out AY rfl (by simp [Value.oneCell']) ?_)
 refine EI (v:=.tuple #[.agg (LS c1 us.length f1 c2 hs.length f2 c3 vs.length f3 mx),.bool true]) ?_ rfl ⟨us,hs,vs,mx,c1,c2,c3,f1,f2,f3,rfl,HFIN.out,Ur HMB.out,Tl HMB.out,FC HKf.out aE _⟩
 exact cB rfl _ _ (wo.heap.size+1+1) 26 (LS c1 us.length f1 c2 hs.length f2 c3 vs.length f3 mx) _ rfl (RX.out.setRow _) EW rfl AY _ rfl
theorem Pa (aT aG aS:Option Addr) (cT cG cS:Nat) (ts:List Th) (gs:List Tg) (ss:List Se) (nx:Int) (o:fV) (base:Nat) (wo:World) (hO:lZ base ts gs ss aT aG aS cT cG cS wo) (OC:Mb ts gs ss) (_:base<=wo.heap.size) (JL:Bd ts gs ss) (hE:uR wo) (OB:o.t.size<=140737488351232) (MA:o.name.size<=1000000) (GL:dP ⟨ts,gs,ss,nx⟩=true) (hk:¬ (1<=o.k/\o.k<=13)) :
 Calls Tryz.prog 24 (SO aT ts.length cT aG gs.length cG aS ss.length cS nx o.k o.id o.n o.m o.name o.d o.t) wo (Es base wo):=by
 obtain ⟨ok,oi,on,om,GE,od,ot⟩:=o;dsimp only at *;obtain ⟨hT,hG,hS⟩:=oO hO OC;have HOO:=DX hO;have HZL:=DX OC;clear hO OC;have JV:=DX hT;have NN:=DX hG;have MN:=DX hS;have HE:=DX hE;have VL:=DX JL;have IN:=DX GL;have PN:=DX (show ∀ x∈gs,x.n.size<=1000000 from fun x hx=>by have:=JL.n x hx;omega)
 have k1:=(EX wo).alloc ((KS aT ts.length cT aG gs.length cG aS ss.length cS nx))
 have k2:=(EX (wo.alloc ((KS aT ts.length cT aG gs.length cG aS ss.length cS nx)))).alloc ((KO ok oi on om GE od ot))
 have k3:=(EX ((wo.alloc ((KS aT ts.length cT aG gs.length cG aS ss.length cS nx))).alloc ((KO ok oi on om GE od ot)))).alloc (KN)
 have QP:=DX (show yL wo.heap.size (LS aT ts.length cT aG gs.length cG aS ss.length cS nx) 26 (wo.heap.size+1) (LO ok oi on om GE od ot) 35 (wo.heap.size+1+1) LN 26 (((wo.alloc ((KS aT ts.length cT aG gs.length cG aS ss.length cS nx))).alloc ((KO ok oi on om GE od ot))).alloc (KN)) from ⟨((EY wo (LS aT ts.length cT aG gs.length cG aS ss.length cS nx) 26).kept k2).kept k3,(FB wo (LO ok oi on om GE od ot) 35 ((KS aT ts.length cT aG gs.length cG aS ss.length cS nx))).kept k3,aA.new2 wo LN 26 ((KS aT ts.length cT aG gs.length cG aS ss.length cS nx)) ((KO ok oi on om GE od ot))⟩);have IL:=DX ((k1.trans k2).trans k3);clear k1 k2 k3;have VQ:=DX (fun a1 a2 a3 b1 b2 b3 w9 (k:aB wo w9) h1 h2 h3=>Ec a1 a2 a3 b1 b2 b3 ts gs ss nx ⟨ok,oi,on,om,GE,od,ot⟩ w9 h1 h2 h3 PN.out (hE.kept k) OB MA (fun q=>hk ⟨q.1,q.2.1⟩));have XR:=DX (fun w9=>show Calls Tryz.prog 33 #[.agg (LO ok oi on om GE od ot)] w9 fun e w'=>e=.returned (.bool false)/\aB w9 w' by have h:=Mg ⟨ok,oi,on,om,GE,od,ot⟩ w9;rw [show decide (1<=ok/\ok<=13)=false from DY hk] at h;exact h);have OM:=DX (fun w9 (k:aB wo w9)=>show Calls Tryz.prog 27 #[.agg (LS aT ts.length cT aG gs.length cG aS ss.length cS nx)] w9 fun e w'=>e=.returned (.bool true)/\aB w9 w' by have h:=jM aT aG aS cT cG cS ts gs ss nx w9 (hT.kept k) (hG.kept k) (hS.kept k) PN.out;rw [GL] at h;exact h);have KQ:=DX (fun a1 a2 a3 b1 b2 b3 w9 (k:aB wo w9) h1 h2 h3=>show Calls Tryz.prog 43 #[.agg (LS a1 ts.length b1 a2 gs.length b2 a3 ss.length b3 nx)] w9 fun e w'=>e=.returned (.int .i64 0)/\aB w9 w' by have h:=iQ a1 a2 a3 b1 b2 b3 ts gs ss nx w9 h1 h2 h3 PN.out (hE.kept k);rw [GL] at h;exact h);have MK:=DX (fun w9 (k:aB wo w9)=>gF aT aG aS cT cG cS ts gs ss nx w9 (hT.kept k) (hG.kept k) (hS.kept k));have XM:=DX (fun a1 a2 a3 b1 b2 b3 w9 (k:aB wo w9) h1 h2 h3=>iP a1 a2 a3 aT aG aS b1 b2 b3 cT cG cS ts gs ss nx w9 h1 h2 h3 (hT.kept k) (hG.kept k) (hS.kept k));have aBO:=hT.le;have aAz:=hG.le;have aBP:=hS.le;have ZG:=DX hT.sizes;have HZ2:=DX hG.sizes;have HZ3:=DX hS.sizes;clear hT hG hS hE GL JL hk;go_enter Tryz.func24,Tryz.ntmps24
 go_upto_region 1 with (fail)
 generalize ((wo.alloc ((KS aT ts.length cT aG gs.length cG aS ss.length cS nx))).alloc ((KO ok oi on om GE od ot))).alloc (KN)=w1 at *
 obtain ⟨r0,r1,r2,r3⟩:=aI QP.out.h1;go_wp2_with fail
 refine (MK.out w1 IL.out).mono ?_
 rintro e w2 ⟨i1,j1,i2,j2,i3,j3,rfl,o1,o2,o3,FX⟩;clear r0 r1 r2 r3;obtain ⟨_,_,hv,hI1⟩:=cI o1 rfl aBO ZG.out;cases hv;obtain ⟨_,_,hv,hI2⟩:=eA o2 rfl aAz HZ2.out;cases hv;obtain ⟨_,_,hv,hI3⟩:=gO o3 rfl aBP HZ3.out;cases hv;clear o1 o2 o3
 go_upto_region 2 with (fail)
 have ka:=(EX w2).alloc ((KS i1 ts.length j1 i2 gs.length j2 i3 ss.length j3 nx))
 have IJ:=DX (EC (hI1.kept ka) (EC (hI2.kept ka) (hI3.kept ka)));have H6:=DX (EY w2 (LS i1 ts.length j1 i2 gs.length j2 i3 ss.length j3 nx) 26);have GC:=DX ((IL.out.trans FX).trans ka);have OD:=DX ((QP.out.kept FX).kept ka)
 have hs3:(w2.alloc ((KS i1 ts.length j1 i2 gs.length j2 i3 ss.length j3 nx))).heap.size=w2.heap.size+1:=by simp [World.size_alloc]
 clear hI1 hI2 hI3 FX ka QP IL;generalize w2.alloc ((KS i1 ts.length j1 i2 gs.length j2 i3 ss.length j3 nx))=w3 at *;have QG:=OD.out.h3.lt;generalize w2.heap.size=p6 at *;obtain ⟨r0,r1,r2,r3⟩:=aI H6.out;obtain ⟨b0,b1,b2,b3,b4,b5,b6⟩:=cX OD.out.h2;go_wp2_with fail
 refine (VQ.out i1 i2 i3 j1 j2 j3 w3 GC.out IJ.out.1 IJ.out.2.1 IJ.out.2.2).mono ?_
 rintro e w4 ⟨rfl,IV⟩;have KV:=DX (show lZ w3.heap.size [] [] [] none none none 0 0 0 w4 from ⟨jU _ _ _ _,jU _ _ _ _,jU _ _ _ _⟩);have hs4:=IV.size;clear r0 r1 r2 r3 b0 b1 b2 b3 b4 b5 b6 VQ
 go_upto_region 6 with (fail)
 have k1:=(EX w4).alloc (KN)
 have k2:=(EX (w4.alloc (KN))).alloc (KR)
 have k3:=(EX ((w4.alloc (KN)).alloc (KR))).alloc (KN)
 have k4:=(EX (((w4.alloc (KN)).alloc (KR)).alloc (KN))).alloc (KR)
 have HX5:=DX (show yL w4.heap.size LN 26 (w4.heap.size+1) LR 47 p6 (LS i1 ts.length j1 i2 gs.length j2 i3 ss.length j3 nx) 26 ((((w4.alloc (KN)).alloc (KR)).alloc (KN)).alloc (KR)) from ⟨(((EY w4 LN 26).kept k2).kept k3).kept k4,((FB w4 LR 47 (KN)).kept k3).kept k4,(((((H6.out.kept IV).kept k1).kept k2).kept k3).kept k4)⟩);have RA:=DX (EC (show aA ((((w4.alloc (KN)).alloc (KR)).alloc (KN)).alloc (KR)) (w4.heap.size+1+1) LN 26 from (aA.new2 w4 LN 26 (KN) (KR)).kept k4) (show aA ((((w4.alloc (KN)).alloc (KR)).alloc (KN)).alloc (KR)) (w4.heap.size+1+1+1) LR 47 by have:=EY (((w4.alloc (KN)).alloc (KR)).alloc (KN)) LR 47;simpa [World.size_alloc] using this))
 have ka:=((k1.trans k2).trans k3).trans k4
 have QU:=DX (IV.trans ka);have QQ:=DX ((OD.out.kept IV).kept ka);have VT:=DX (KV.out.kept ka)
 have UK:((((w4.alloc (KN)).alloc (KR)).alloc (KN)).alloc (KR)).heap.size=w4.heap.size+1+1+1+1:=by simp [World.size_alloc]
 clear k1 k2 k3 k4 ka OD H6 IV
 generalize (((w4.alloc (KN)).alloc (KR)).alloc (KN)).alloc (KR)=w5 at *
 have ZJ:∀ r∈[(Value.slice none ([]:List Th).length 0).ownBlock,(Value.slice none ([]:List Tg).length 0).ownBlock,(Value.slice none ([]:List Se).length 0).ownBlock],∀ g,r=some g->w3.heap.size<=g/\g<w4.heap.size:=fun r hr g e=>by simp only [List.mem_cons,List.not_mem_nil,or_false] at hr;rcases hr with rfl | rfl | rfl;exact KV.out.oT.lt g e;exact KV.out.oG.lt g e;exact KV.out.oS.lt g e
 have JK:=DX ZJ;clear ZJ;generalize w4.heap.size=p7 at *;clear KV;obtain ⟨r0,r1,r2,r3⟩:=aI QQ.out.h1;go_wp2_with fail
 refine (OM.out w5 (GC.out.trans QU.out)).mono ?_
 rintro e w6 ⟨rfl,JD⟩;clear r0 r1 r2 r3 OM;have RY:=DX (QQ.out.kept JD);have ZF:=DX (HX5.out.kept JD);have VU:=DX (VT.out.kept JD);have SY:=DX (EC (RA.out.1.kept JD) (RA.out.2.kept JD));have VO:=DX (QU.out.trans JD);have hs6:=JD.size;clear QQ HX5 VT RA QU;clear JD;obtain ⟨b0,b1,b2,b3,b4,b5,b6⟩:=cX RY.out.h2;go_wp2_with fail
 refine (XR.out w6).mono ?_
 rintro e w7 ⟨rfl,KD⟩;clear b0 b1 b2 b3 b4 b5 b6 XR;have QR:=DX (RY.out.kept KD);have RC:=DX (ZF.out.kept KD);have VV:=DX (VU.out.kept KD);have SZ:=DX (EC (SY.out.1.kept KD) (SY.out.2.kept KD));have OQ:=DX (VO.out.trans KD);have hs7:=KD.size;clear RY ZF VU SY VO;clear KD;have WT:=DX (iP none none none none none none 0 0 0 0 0 0 [] [] [] 0 w7 (nV _ _) (lK _ _) (jH _ _) (nV _ _) (lK _ _) (jH _ _));obtain ⟨x0,x1,x2,x3⟩:=aI RC.out.h1;obtain ⟨d0,d1,d2⟩:=dI RC.out.h2;obtain ⟨y0,y1,y2,y3⟩:=aI SZ.out.1;obtain ⟨e0,e1,e2⟩:=dI SZ.out.2;go_wp2_with fail
 refine (fP _ _).mono ?_
 rintro e w' ⟨rfl,rfl⟩;go_wp2_with fail
 refine WT.out.mono ?_
 rintro e w8 ⟨rfl,LH⟩;clear x0 x1 x2 x3 d0 d1 d2 y0 y1 y2 y3 e0 e1 e2 WT;have TM:=DX (QR.out.kept LH);have WZ:=DX (RC.out.kept LH);have VW:=DX (VV.out.kept LH);have SE:=DX (EC (SZ.out.1.kept LH) (SZ.out.2.kept LH));have MX:=DX (OQ.out.trans LH);have hs8:=LH.size;clear QR RC VV SZ OQ;clear LH;obtain ⟨x0,x1,x2,x3⟩:=aI WZ.out.h3;obtain ⟨r0,r1,r2,r3⟩:=aI TM.out.h1;go_wp2_with fail
 refine (XM.out i1 i2 i3 j1 j2 j3 w8 (GC.out.trans MX.out) (IJ.out.1.kept MX.out) (IJ.out.2.1.kept MX.out) (IJ.out.2.2.kept MX.out)).mono ?_
 rintro e w9 ⟨rfl,GF⟩;clear x0 x1 x2 x3 r0 r1 r2 r3;have RZ:=DX (TM.out.kept GF);have UW:=DX (WZ.out.kept GF);have TV:=DX (VW.out.kept GF);have OZ:=DX (EC (SE.out.1.kept GF) (SE.out.2.kept GF));have OR:=DX (MX.out.trans GF);have XG:=GF.size;clear TM WZ VW SE MX;clear GF;obtain ⟨x0,x1,x2,x3⟩:=aI UW.out.h3;go_wp2_with fail
 refine (KQ.out i1 i2 i3 j1 j2 j3 w9 (GC.out.trans OR.out) (IJ.out.1.kept OR.out) (IJ.out.2.1.kept OR.out) (IJ.out.2.2.kept OR.out)).mono ?_
 rintro e w10 ⟨rfl,MJ⟩;clear x0 x1 x2 x3 KQ;have PE:=DX (RZ.out.kept MJ);have YG:=DX (UW.out.kept MJ);have VS:=DX (TV.out.kept MJ);have aAp:=DX (EC (OZ.out.1.kept MJ) (OZ.out.2.kept MJ));have NH:=DX (OR.out.trans MJ);have hs10:=MJ.size;clear RZ UW TV OZ OR;clear MJ;go_wp2_with fail
 refine (fP _ _).mono ?_
 rintro e w' ⟨rfl,rfl⟩;obtain ⟨x0,x1,x2,x3⟩:=aI YG.out.h1;have HSP:=DX (mR w3.heap.size none none none ([]:List Th).length ([]:List Tg).length ([]:List Se).length 0 0 0 0 w10 VS.out.ow (by simp));go_wp2_with fail
 refine HSP.out.mono ?_
 rintro e w20 ⟨⟨uu,rfl⟩,QO⟩;clear x0 x1 x2 x3 HSP;have hz3:w3.heap.size<=w10.heap.size:=NH.out.size
 have SF:∀ r∈[(Value.slice none ([]:List Th).length 0).ownBlock,(Value.slice none ([]:List Tg).length 0).ownBlock,(Value.slice none ([]:List Se).length 0).ownBlock],∀ b,(b<w3.heap.size\/p7<=b)->some b≠r:=fun r hr b hb e=>by have:=JK.out r hr b e.symm;omega
 have ME:=DX (Below.trans NH.out (QO.below hz3 (fun r hr g e=>(JK.out r hr g e).1)));have SM:=DX (show yL wo.heap.size (LS aT ts.length cT aG gs.length cG aS ss.length cS nx) 26 (wo.heap.size+1) (LO ok oi on om GE od ot) 35 (wo.heap.size+1+1) LN 26 w20 from ⟨QO.blk PE.out.h1 (fun r hr=>SF r hr _ aE),QO.blk PE.out.h2 (fun r hr=>SF r hr _ aE),QO.blk PE.out.h3 (fun r hr=>SF r hr _ aE)⟩);have H620:=DX (QO.blk YG.out.h3 (fun r hr=>SF r hr _ aE));have aAZ:=DX (QO.blk aAp.out.1 (fun r hr=>SF r hr _ aE));clear QO SF PE YG VS aAp NH;exact Yf
theorem Na (aT aG aS:Option Addr) (cT cG cS:Nat) (ts:List Th) (gs:List Tg) (ss:List Se) (nx:Int) (o:fV) (base:Nat) (wo:World) (hO:lZ base ts gs ss aT aG aS cT cG cS wo) (OC:Mb ts gs ss) (_:base<=wo.heap.size) (JL:Bd ts gs ss) (hE:uR wo) (OB:o.t.size<=140737488351232) (MA:o.name.size<=1000000) (GL:dP ⟨ts,gs,ss,nx⟩=false) :
 Calls Tryz.prog 24 (SO aT ts.length cT aG gs.length cG aS ss.length cS nx o.k o.id o.n o.m o.name o.d o.t) wo (Es base wo):=by
 obtain ⟨ok,oi,on,om,GE,od,ot⟩:=o;dsimp only at *;obtain ⟨hT,hG,hS⟩:=oO hO OC;have HOO:=DX hO;have HZL:=DX OC;clear hO OC;have JV:=DX hT;have NN:=DX hG;have MN:=DX hS;have HE:=DX hE;have VL:=DX JL;have IN:=DX GL;have PN:=DX (show ∀ x∈gs,x.n.size<=1000000 from fun x hx=>by have:=JL.n x hx;omega)
 have k1:=(EX wo).alloc ((KS aT ts.length cT aG gs.length cG aS ss.length cS nx))
 have k2:=(EX (wo.alloc ((KS aT ts.length cT aG gs.length cG aS ss.length cS nx)))).alloc ((KO ok oi on om GE od ot))
 have k3:=(EX ((wo.alloc ((KS aT ts.length cT aG gs.length cG aS ss.length cS nx))).alloc ((KO ok oi on om GE od ot)))).alloc (KN)
 have QP:=DX (show yL wo.heap.size (LS aT ts.length cT aG gs.length cG aS ss.length cS nx) 26 (wo.heap.size+1) (LO ok oi on om GE od ot) 35 (wo.heap.size+1+1) LN 26 (((wo.alloc ((KS aT ts.length cT aG gs.length cG aS ss.length cS nx))).alloc ((KO ok oi on om GE od ot))).alloc (KN)) from ⟨((EY wo (LS aT ts.length cT aG gs.length cG aS ss.length cS nx) 26).kept k2).kept k3,(FB wo (LO ok oi on om GE od ot) 35 ((KS aT ts.length cT aG gs.length cG aS ss.length cS nx))).kept k3,aA.new2 wo LN 26 ((KS aT ts.length cT aG gs.length cG aS ss.length cS nx)) ((KO ok oi on om GE od ot))⟩);have IL:=DX ((k1.trans k2).trans k3);clear k1 k2 k3;have VQ:=DX (fun a1 a2 a3 b1 b2 b3 w9 (k:aB wo w9) h1 h2 h3=>Ec a1 a2 a3 b1 b2 b3 ts gs ss nx ⟨ok,oi,on,om,GE,od,ot⟩ w9 h1 h2 h3 PN.out (hE.kept k) OB MA (fun q=>by rw [GL] at q;cases q.2.2));have OM:=DX (fun w9 (k:aB wo w9)=>show Calls Tryz.prog 27 #[.agg (LS aT ts.length cT aG gs.length cG aS ss.length cS nx)] w9 fun e w'=>e=.returned (.bool false)/\aB w9 w' by have h:=jM aT aG aS cT cG cS ts gs ss nx w9 (hT.kept k) (hG.kept k) (hS.kept k) PN.out;rw [GL] at h;exact h);have KQ:=DX (fun a1 a2 a3 b1 b2 b3 w9 (k:aB wo w9) h1 h2 h3=>show Calls Tryz.prog 43 #[.agg (LS a1 ts.length b1 a2 gs.length b2 a3 ss.length b3 nx)] w9 fun e w'=>e=.returned (.int .i64 1)/\aB w9 w' by have h:=iQ a1 a2 a3 b1 b2 b3 ts gs ss nx w9 h1 h2 h3 PN.out (hE.kept k);rw [GL] at h;exact h);have MK:=DX (fun w9 (k:aB wo w9)=>gF aT aG aS cT cG cS ts gs ss nx w9 (hT.kept k) (hG.kept k) (hS.kept k));have XM:=DX (fun a1 a2 a3 b1 b2 b3 w9 (k:aB wo w9) h1 h2 h3=>iP a1 a2 a3 aT aG aS b1 b2 b3 cT cG cS ts gs ss nx w9 h1 h2 h3 (hT.kept k) (hG.kept k) (hS.kept k));have aBO:=hT.le;have aAz:=hG.le;have aBP:=hS.le;have ZG:=DX hT.sizes;have HZ2:=DX hG.sizes;have HZ3:=DX hS.sizes;clear hT hG hS hE GL JL;go_enter Tryz.func24,Tryz.ntmps24
 go_upto_region 1 with (fail)
 generalize ((wo.alloc ((KS aT ts.length cT aG gs.length cG aS ss.length cS nx))).alloc ((KO ok oi on om GE od ot))).alloc (KN)=w1 at *
 obtain ⟨r0,r1,r2,r3⟩:=aI QP.out.h1;go_wp2_with fail
 refine (MK.out w1 IL.out).mono ?_
 rintro e w2 ⟨i1,j1,i2,j2,i3,j3,rfl,o1,o2,o3,FX⟩;clear r0 r1 r2 r3;obtain ⟨_,_,hv,hI1⟩:=cI o1 rfl aBO ZG.out;cases hv;obtain ⟨_,_,hv,hI2⟩:=eA o2 rfl aAz HZ2.out;cases hv;obtain ⟨_,_,hv,hI3⟩:=gO o3 rfl aBP HZ3.out;cases hv;clear o1 o2 o3
 go_upto_region 2 with (fail)
 have ka:=(EX w2).alloc ((KS i1 ts.length j1 i2 gs.length j2 i3 ss.length j3 nx))
 have IJ:=DX (EC (hI1.kept ka) (EC (hI2.kept ka) (hI3.kept ka)));have H6:=DX (EY w2 (LS i1 ts.length j1 i2 gs.length j2 i3 ss.length j3 nx) 26);have GC:=DX ((IL.out.trans FX).trans ka);have OD:=DX ((QP.out.kept FX).kept ka)
 have hs3:(w2.alloc ((KS i1 ts.length j1 i2 gs.length j2 i3 ss.length j3 nx))).heap.size=w2.heap.size+1:=by simp [World.size_alloc]
 clear hI1 hI2 hI3 FX ka QP IL;generalize w2.alloc ((KS i1 ts.length j1 i2 gs.length j2 i3 ss.length j3 nx))=w3 at *;have QG:=OD.out.h3.lt;generalize w2.heap.size=p6 at *;obtain ⟨r0,r1,r2,r3⟩:=aI H6.out;obtain ⟨b0,b1,b2,b3,b4,b5,b6⟩:=cX OD.out.h2;go_wp2_with fail
 refine (VQ.out i1 i2 i3 j1 j2 j3 w3 GC.out IJ.out.1 IJ.out.2.1 IJ.out.2.2).mono ?_
 rintro e w4 ⟨rfl,IV⟩;have KV:=DX (show lZ w3.heap.size [] [] [] none none none 0 0 0 w4 from ⟨jU _ _ _ _,jU _ _ _ _,jU _ _ _ _⟩);have hs4:=IV.size;clear r0 r1 r2 r3 b0 b1 b2 b3 b4 b5 b6 VQ
 go_upto_region 6 with (fail)
 have k1:=(EX w4).alloc (KN)
 have k2:=(EX (w4.alloc (KN))).alloc (KR)
 have k3:=(EX ((w4.alloc (KN)).alloc (KR))).alloc (KN)
 have k4:=(EX (((w4.alloc (KN)).alloc (KR)).alloc (KN))).alloc (KR)
 have HX5:=DX (show yL w4.heap.size LN 26 (w4.heap.size+1) LR 47 p6 (LS i1 ts.length j1 i2 gs.length j2 i3 ss.length j3 nx) 26 ((((w4.alloc (KN)).alloc (KR)).alloc (KN)).alloc (KR)) from ⟨(((EY w4 LN 26).kept k2).kept k3).kept k4,((FB w4 LR 47 (KN)).kept k3).kept k4,(((((H6.out.kept IV).kept k1).kept k2).kept k3).kept k4)⟩);have RA:=DX (EC (show aA ((((w4.alloc (KN)).alloc (KR)).alloc (KN)).alloc (KR)) (w4.heap.size+1+1) LN 26 from (aA.new2 w4 LN 26 (KN) (KR)).kept k4) (show aA ((((w4.alloc (KN)).alloc (KR)).alloc (KN)).alloc (KR)) (w4.heap.size+1+1+1) LR 47 by have:=EY (((w4.alloc (KN)).alloc (KR)).alloc (KN)) LR 47;simpa [World.size_alloc] using this))
 have ka:=((k1.trans k2).trans k3).trans k4
 have QU:=DX (IV.trans ka);have QQ:=DX ((OD.out.kept IV).kept ka);have VT:=DX (KV.out.kept ka)
 have UK:((((w4.alloc (KN)).alloc (KR)).alloc (KN)).alloc (KR)).heap.size=w4.heap.size+1+1+1+1:=by simp [World.size_alloc]
 clear k1 k2 k3 k4 ka OD H6 IV
 generalize (((w4.alloc (KN)).alloc (KR)).alloc (KN)).alloc (KR)=w5 at *
 have ZJ:∀ r∈[(Value.slice none ([]:List Th).length 0).ownBlock,(Value.slice none ([]:List Tg).length 0).ownBlock,(Value.slice none ([]:List Se).length 0).ownBlock],∀ g,r=some g->w3.heap.size<=g/\g<w4.heap.size:=fun r hr g e=>by simp only [List.mem_cons,List.not_mem_nil,or_false] at hr;rcases hr with rfl | rfl | rfl;exact KV.out.oT.lt g e;exact KV.out.oG.lt g e;exact KV.out.oS.lt g e
 have JK:=DX ZJ;clear ZJ;generalize w4.heap.size=p7 at *;clear KV;obtain ⟨r0,r1,r2,r3⟩:=aI QQ.out.h1;go_wp2_with fail
 refine (OM.out w5 (GC.out.trans QU.out)).mono ?_
 rintro e w6 ⟨rfl,JD⟩;clear r0 r1 r2 r3 OM;have RY:=DX (QQ.out.kept JD);have ZF:=DX (HX5.out.kept JD);have VU:=DX (VT.out.kept JD);have SY:=DX (EC (RA.out.1.kept JD) (RA.out.2.kept JD));have VO:=DX (QU.out.trans JD);have hs6:=JD.size;clear QQ HX5 VT RA QU;clear JD;have WT:=DX (iP none none none none none none 0 0 0 0 0 0 [] [] [] 0 w6 (nV _ _) (lK _ _) (jH _ _) (nV _ _) (lK _ _) (jH _ _));obtain ⟨x0,x1,x2,x3⟩:=aI ZF.out.h1;obtain ⟨d0,d1,d2⟩:=dI ZF.out.h2;obtain ⟨y0,y1,y2,y3⟩:=aI SY.out.1;obtain ⟨e0,e1,e2⟩:=dI SY.out.2;go_wp2_with fail
 refine (fP _ _).mono ?_
 rintro e w' ⟨rfl,rfl⟩;go_wp2_with fail
 refine WT.out.mono ?_
 rintro e w7 ⟨rfl,KD⟩;clear x0 x1 x2 x3 d0 d1 d2 y0 y1 y2 y3 e0 e1 e2 WT;have QR:=DX (RY.out.kept KD);have RC:=DX (ZF.out.kept KD);have VV:=DX (VU.out.kept KD);have SZ:=DX (EC (SY.out.1.kept KD) (SY.out.2.kept KD));have OQ:=DX (VO.out.trans KD);have hs7:=KD.size;clear RY ZF VU SY VO;clear KD;obtain ⟨x0,x1,x2,x3⟩:=aI RC.out.h3;obtain ⟨r0,r1,r2,r3⟩:=aI QR.out.h1;go_wp2_with fail
 refine (XM.out i1 i2 i3 j1 j2 j3 w7 (GC.out.trans OQ.out) (IJ.out.1.kept OQ.out) (IJ.out.2.1.kept OQ.out) (IJ.out.2.2.kept OQ.out)).mono ?_
 rintro e w8 ⟨rfl,LH⟩;clear x0 x1 x2 x3 r0 r1 r2 r3;have TM:=DX (QR.out.kept LH);have WZ:=DX (RC.out.kept LH);have VW:=DX (VV.out.kept LH);have SE:=DX (EC (SZ.out.1.kept LH) (SZ.out.2.kept LH));have MX:=DX (OQ.out.trans LH);have hs8:=LH.size;clear QR RC VV SZ OQ;clear LH;obtain ⟨x0,x1,x2,x3⟩:=aI WZ.out.h3;go_wp2_with fail
 refine (KQ.out i1 i2 i3 j1 j2 j3 w8 (GC.out.trans MX.out) (IJ.out.1.kept MX.out) (IJ.out.2.1.kept MX.out) (IJ.out.2.2.kept MX.out)).mono ?_
 rintro e w9 ⟨rfl,GF⟩;clear x0 x1 x2 x3 KQ;have RZ:=DX (TM.out.kept GF);have UW:=DX (WZ.out.kept GF);have TV:=DX (VW.out.kept GF);have OZ:=DX (EC (SE.out.1.kept GF) (SE.out.2.kept GF));have OR:=DX (MX.out.trans GF);have XG:=GF.size;clear TM WZ VW SE MX;clear GF;go_wp2_with fail
 refine (fP _ _).mono ?_
 rintro e w' ⟨rfl,rfl⟩;obtain ⟨x0,x1,x2,x3⟩:=aI UW.out.h1;have HSP:=DX (mR w3.heap.size none none none ([]:List Th).length ([]:List Tg).length ([]:List Se).length 0 0 0 0 w9 TV.out.ow (by simp));go_wp2_with fail
 refine HSP.out.mono ?_
 rintro e w20 ⟨⟨uu,rfl⟩,QO⟩;clear x0 x1 x2 x3 HSP;have hz3:w3.heap.size<=w9.heap.size:=OR.out.size
 have SF:∀ r∈[(Value.slice none ([]:List Th).length 0).ownBlock,(Value.slice none ([]:List Tg).length 0).ownBlock,(Value.slice none ([]:List Se).length 0).ownBlock],∀ b,(b<w3.heap.size\/p7<=b)->some b≠r:=fun r hr b hb e=>by have:=JK.out r hr b e.symm;omega
 have ME:=DX (Below.trans OR.out (QO.below hz3 (fun r hr g e=>(JK.out r hr g e).1)));have SM:=DX (show yL wo.heap.size (LS aT ts.length cT aG gs.length cG aS ss.length cS nx) 26 (wo.heap.size+1) (LO ok oi on om GE od ot) 35 (wo.heap.size+1+1) LN 26 w20 from ⟨QO.blk RZ.out.h1 (fun r hr=>SF r hr _ aE),QO.blk RZ.out.h2 (fun r hr=>SF r hr _ aE),QO.blk RZ.out.h3 (fun r hr=>SF r hr _ aE)⟩);have H620:=DX (QO.blk UW.out.h3 (fun r hr=>SF r hr _ aE));have aAZ:=DX (QO.blk OZ.out.1 (fun r hr=>SF r hr _ aE));clear QO SF RZ UW TV OZ OR;exact Yf
theorem Iv (aT aG aS:Option Addr) (cT cG cS:Nat) (ts:List Th) (gs:List Tg) (ss:List Se) (nx:Int) (o:fV) (base:Nat) (wo:World) (hO:lZ base ts gs ss aT aG aS cT cG cS wo) (OC:Mb ts gs ss) (JI:base<=wo.heap.size) (JL:Bd ts gs ss) (hE:uR wo) (OB:o.t.size<=140737488351232) (MA:o.name.size<=1000000) :
 Calls Tryz.prog 24 (SO aT ts.length cT aG gs.length cG aS ss.length cS nx o.k o.id o.n o.m o.name o.d o.t) wo (Es base wo):=by
 cases GL:dP ⟨ts,gs,ss,nx⟩ with
 | false=>exact Na aT aG aS cT cG cS ts gs ss nx o base wo hO OC JI JL hE OB MA GL
 | true =>
  by_cases hk:1<=o.k/\o.k<=13
  . exact Uv aT aG aS cT cG cS ts gs ss nx o base wo hO OC JI JL hE OB MA GL hk
  . exact Pa aT aG aS cT cG cS ts gs ss nx o base wo hO OC JI JL hE OB MA GL hk
end Go.Proofs.YtkfmladhicapeaaGreatDoor
