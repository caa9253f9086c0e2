import Derived.Test.YtkfmladhicapeaaGreatDoorY39
set_option maxRecDepth 100000
set_option maxHeartbeats 4000000
namespace Go.Proofs.YtkfmladhicapeaaGreatDoor
open Go.RowKit Go.Shelf
attribute [local go_sem] Oper.semAt_some
theorem Nl (base p:Nat) (hp:base<=p) (s:dN) (o:fV) (wo:World) (Q:eX base wo p s) (hs:dP s=true) (hk:o.k=1) :
 Calls Tryz.prog 58 (PO p o.k o.id o.n o.m o.name o.d o.t) wo (iD base p wo (dK s o)):=by
 obtain ⟨ts,gs,ss,nx⟩:=s;obtain ⟨ok,oi,on,om,GE,od,ot⟩:=o;dsimp only at *;subst hk;have HQ:=DX Q;obtain ⟨aT,cT,aG,cG,aS,cS,hb,oT,oG,oS⟩:=Q.rows;dsimp only at *
 have GY:base<=wo.heap.size:=by have:=hb.lt;omega
 have MG:p<wo.heap.size:=hb.lt;have HP:=DX hb;have LB:=DX (bR hs)
 obtain ⟨XX,GR⟩:∃ XX,XX=(dK ⟨ts,gs,ss,nx⟩ ⟨1,oi,on,om,GE,od,ot⟩):=⟨_,rfl⟩
 rw [<- GR];have HX:=DX GR;clear GR;obtain ⟨lT,rT,zT,lG,rG,zG,lS,rS,zS,n0,n1⟩:=bR hs;dsimp only at *;have HB:=DX ((EY wo (LO 1 oi on om GE od ot) 35).kept ((EX _).alloc (KR)));have HR:=DX (FB wo LR 47 ((KO 1 oi on om GE od ot)));have HK:=DX (((EX wo).alloc ((KO 1 oi on om GE od ot))).alloc (KR));clear rT zT rG zG rS zS oT oG oS Q hb;go_enter Tryz.func58,Tryz.ntmps58
 go_upto_region 1 with (fail)
 generalize (wo.alloc ((KO 1 oi on om GE od ot))).alloc (KR)=w1 at *
 have HC:=DX (show Calls Tryz.prog 80 (PO p 1 oi on om GE od ot) w1 (iD base p w1 XX) by rw [HX.out,show dK ⟨ts,gs,ss,nx⟩ ⟨1,oi,on,om,GE,od,ot⟩=eF ⟨ts,gs,ss,nx⟩ by simp [dK]];exact Df base p hp ⟨ts,gs,ss,nx⟩ ⟨1,oi,on,om,GE,od,ot⟩ w1 (HQ.out.kept HK.out) hs rfl);exact Pv
theorem Nt (base p:Nat) (hp:base<=p) (s:dN) (o:fV) (wo:World) (Q:eX base wo p s) (hs:dP s=true) (hk:o.k=2) (OB:o.t.size<=140737488351232) :
 Calls Tryz.prog 58 (PO p o.k o.id o.n o.m o.name o.d o.t) wo (iD base p wo (dK s o)):=by
 obtain ⟨ts,gs,ss,nx⟩:=s;obtain ⟨ok,oi,on,om,GE,od,ot⟩:=o;dsimp only at *;subst hk;have HQ:=DX Q;obtain ⟨aT,cT,aG,cG,aS,cS,hb,oT,oG,oS⟩:=Q.rows;dsimp only at *
 have GY:base<=wo.heap.size:=by have:=hb.lt;omega
 have MG:p<wo.heap.size:=hb.lt;have HP:=DX hb;have LB:=DX (bR hs)
 obtain ⟨XX,GR⟩:∃ XX,XX=(dK ⟨ts,gs,ss,nx⟩ ⟨2,oi,on,om,GE,od,ot⟩):=⟨_,rfl⟩
 rw [<- GR];have HX:=DX GR;clear GR;obtain ⟨lT,rT,zT,lG,rG,zG,lS,rS,zS,n0,n1⟩:=bR hs;dsimp only at *;have HB:=DX ((EY wo (LO 2 oi on om GE od ot) 35).kept ((EX _).alloc (KR)));have HR:=DX (FB wo LR 47 ((KO 2 oi on om GE od ot)));have HK:=DX (((EX wo).alloc ((KO 2 oi on om GE od ot))).alloc (KR));clear rT zT rG zG rS zS oT oG oS Q hb;go_enter Tryz.func58,Tryz.ntmps58
 go_upto_region 1 with (fail)
 generalize (wo.alloc ((KO 2 oi on om GE od ot))).alloc (KR)=w1 at *
 have HC:=DX (show Calls Tryz.prog 80 (PO p 2 oi on om GE od ot) w1 (iD base p w1 XX) by rw [HX.out,show dK ⟨ts,gs,ss,nx⟩ ⟨2,oi,on,om,GE,od,ot⟩=eW ⟨ts,gs,ss,nx⟩ oi ot by simp [dK]];exact Dq base p hp ⟨ts,gs,ss,nx⟩ ⟨2,oi,on,om,GE,od,ot⟩ w1 (HQ.out.kept HK.out) hs rfl OB);exact Pv
theorem My (base p:Nat) (hp:base<=p) (s:dN) (o:fV) (wo:World) (Q:eX base wo p s) (hs:dP s=true) (hk:o.k=3) :
 Calls Tryz.prog 58 (PO p o.k o.id o.n o.m o.name o.d o.t) wo (iD base p wo (dK s o)):=by
 obtain ⟨ts,gs,ss,nx⟩:=s;obtain ⟨ok,oi,on,om,GE,od,ot⟩:=o;dsimp only at *;subst hk;have HQ:=DX Q;obtain ⟨aT,cT,aG,cG,aS,cS,hb,oT,oG,oS⟩:=Q.rows;dsimp only at *
 have GY:base<=wo.heap.size:=by have:=hb.lt;omega
 have MG:p<wo.heap.size:=hb.lt;have HP:=DX hb;have LB:=DX (bR hs)
 obtain ⟨XX,GR⟩:∃ XX,XX=(dK ⟨ts,gs,ss,nx⟩ ⟨3,oi,on,om,GE,od,ot⟩):=⟨_,rfl⟩
 rw [<- GR];have HX:=DX GR;clear GR;obtain ⟨lT,rT,zT,lG,rG,zG,lS,rS,zS,n0,n1⟩:=bR hs;dsimp only at *;have HB:=DX ((EY wo (LO 3 oi on om GE od ot) 35).kept ((EX _).alloc (KR)));have HR:=DX (FB wo LR 47 ((KO 3 oi on om GE od ot)));have HK:=DX (((EX wo).alloc ((KO 3 oi on om GE od ot))).alloc (KR));clear rT zT rG zG rS zS oT oG oS Q hb;go_enter Tryz.func58,Tryz.ntmps58
 go_upto_region 1 with (fail)
 generalize (wo.alloc ((KO 3 oi on om GE od ot))).alloc (KR)=w1 at *
 have HC:=DX (show Calls Tryz.prog 80 (PO p 3 oi on om GE od ot) w1 (iD base p w1 XX) by rw [HX.out,show dK ⟨ts,gs,ss,nx⟩ ⟨3,oi,on,om,GE,od,ot⟩=eD ⟨ts,gs,ss,nx⟩ oi od by simp [dK]];exact Ag base p hp ⟨ts,gs,ss,nx⟩ ⟨3,oi,on,om,GE,od,ot⟩ w1 (HQ.out.kept HK.out) hs rfl);exact Pv
theorem Jz (base p:Nat) (hp:base<=p) (s:dN) (o:fV) (wo:World) (Q:eX base wo p s) (hs:dP s=true) (hk:o.k=13) :
 Calls Tryz.prog 58 (PO p o.k o.id o.n o.m o.name o.d o.t) wo (iD base p wo (dK s o)):=by
 obtain ⟨ts,gs,ss,nx⟩:=s;obtain ⟨ok,oi,on,om,GE,od,ot⟩:=o;dsimp only at *;subst hk;have HQ:=DX Q;obtain ⟨aT,cT,aG,cG,aS,cS,hb,oT,oG,oS⟩:=Q.rows;dsimp only at *
 have GY:base<=wo.heap.size:=by have:=hb.lt;omega
 have MG:p<wo.heap.size:=hb.lt;have HP:=DX hb;have LB:=DX (bR hs)
 obtain ⟨XX,GR⟩:∃ XX,XX=(dK ⟨ts,gs,ss,nx⟩ ⟨13,oi,on,om,GE,od,ot⟩):=⟨_,rfl⟩
 rw [<- GR];have HX:=DX GR;clear GR;obtain ⟨lT,rT,zT,lG,rG,zG,lS,rS,zS,n0,n1⟩:=bR hs;dsimp only at *;have HB:=DX ((EY wo (LO 13 oi on om GE od ot) 35).kept ((EX _).alloc (KR)));have HR:=DX (FB wo LR 47 ((KO 13 oi on om GE od ot)));have HK:=DX (((EX wo).alloc ((KO 13 oi on om GE od ot))).alloc (KR));clear rT zT rG zG rS zS oT oG oS Q hb;go_enter Tryz.func58,Tryz.ntmps58
 go_upto_region 1 with (fail)
 generalize (wo.alloc ((KO 13 oi on om GE od ot))).alloc (KR)=w1 at *
 have HC:=DX (show Calls Tryz.prog 80 (PO p 13 oi on om GE od ot) w1 (iD base p w1 XX) by rw [HX.out,show dK ⟨ts,gs,ss,nx⟩ ⟨13,oi,on,om,GE,od,ot⟩=eZ ⟨ts,gs,ss,nx⟩ oi by simp [dK]];exact Cv base p hp ⟨ts,gs,ss,nx⟩ ⟨13,oi,on,om,GE,od,ot⟩ w1 (HQ.out.kept HK.out) hs rfl);exact Pv
theorem Om (base p:Nat) (hp:base<=p) (s:dN) (o:fV) (wo:World) (Q:eX base wo p s) (hs:dP s=true) (hk:o.k=4) :
 Calls Tryz.prog 58 (PO p o.k o.id o.n o.m o.name o.d o.t) wo (iD base p wo (dK s o)):=by
 obtain ⟨ts,gs,ss,nx⟩:=s;obtain ⟨ok,oi,on,om,GE,od,ot⟩:=o;dsimp only at *;subst hk;have HQ:=DX Q;obtain ⟨aT,cT,aG,cG,aS,cS,hb,oT,oG,oS⟩:=Q.rows;dsimp only at *
 have GY:base<=wo.heap.size:=by have:=hb.lt;omega
 have MG:p<wo.heap.size:=hb.lt;have HP:=DX hb;have LB:=DX (bR hs)
 obtain ⟨XX,GR⟩:∃ XX,XX=(dK ⟨ts,gs,ss,nx⟩ ⟨4,oi,on,om,GE,od,ot⟩):=⟨_,rfl⟩
 rw [<- GR];have HX:=DX GR;clear GR;obtain ⟨lT,rT,zT,lG,rG,zG,lS,rS,zS,n0,n1⟩:=bR hs;dsimp only at *;have HB:=DX ((EY wo (LO 4 oi on om GE od ot) 35).kept ((EX _).alloc (KR)));have HR:=DX (FB wo LR 47 ((KO 4 oi on om GE od ot)));have HK:=DX (((EX wo).alloc ((KO 4 oi on om GE od ot))).alloc (KR));clear rT zT rG zG rS zS oT oG oS Q hb;go_enter Tryz.func58,Tryz.ntmps58
 go_upto_region 1 with (fail)
 generalize (wo.alloc ((KO 4 oi on om GE od ot))).alloc (KR)=w1 at *
 have HC:=DX (show Calls Tryz.prog 81 (PO p 4 oi on om GE od ot) w1 (iD base p w1 XX) by rw [HX.out,show dK ⟨ts,gs,ss,nx⟩ ⟨4,oi,on,om,GE,od,ot⟩=cW ⟨ts,gs,ss,nx⟩ 4 od on om by simp [dK]];exact Im base p hp ⟨ts,gs,ss,nx⟩ ⟨4,oi,on,om,GE,od,ot⟩ w1 (HQ.out.kept HK.out) hs rfl);exact Pk
theorem Px (base p:Nat) (hp:base<=p) (s:dN) (o:fV) (wo:World) (Q:eX base wo p s) (hs:dP s=true) (hk:o.k=5) :
 Calls Tryz.prog 58 (PO p o.k o.id o.n o.m o.name o.d o.t) wo (iD base p wo (dK s o)):=by
 obtain ⟨ts,gs,ss,nx⟩:=s;obtain ⟨ok,oi,on,om,GE,od,ot⟩:=o;dsimp only at *;subst hk;have HQ:=DX Q;obtain ⟨aT,cT,aG,cG,aS,cS,hb,oT,oG,oS⟩:=Q.rows;dsimp only at *
 have GY:base<=wo.heap.size:=by have:=hb.lt;omega
 have MG:p<wo.heap.size:=hb.lt;have HP:=DX hb;have LB:=DX (bR hs)
 obtain ⟨XX,GR⟩:∃ XX,XX=(dK ⟨ts,gs,ss,nx⟩ ⟨5,oi,on,om,GE,od,ot⟩):=⟨_,rfl⟩
 rw [<- GR];have HX:=DX GR;clear GR;obtain ⟨lT,rT,zT,lG,rG,zG,lS,rS,zS,n0,n1⟩:=bR hs;dsimp only at *;have HB:=DX ((EY wo (LO 5 oi on om GE od ot) 35).kept ((EX _).alloc (KR)));have HR:=DX (FB wo LR 47 ((KO 5 oi on om GE od ot)));have HK:=DX (((EX wo).alloc ((KO 5 oi on om GE od ot))).alloc (KR));clear rT zT rG zG rS zS oT oG oS Q hb;go_enter Tryz.func58,Tryz.ntmps58
 go_upto_region 1 with (fail)
 generalize (wo.alloc ((KO 5 oi on om GE od ot))).alloc (KR)=w1 at *
 have HC:=DX (show Calls Tryz.prog 81 (PO p 5 oi on om GE od ot) w1 (iD base p w1 XX) by rw [HX.out,show dK ⟨ts,gs,ss,nx⟩ ⟨5,oi,on,om,GE,od,ot⟩=cW ⟨ts,gs,ss,nx⟩ 5 od on om by simp [dK]];exact Hi base p hp ⟨ts,gs,ss,nx⟩ ⟨5,oi,on,om,GE,od,ot⟩ w1 (HQ.out.kept HK.out) hs rfl);exact Pk
theorem Ob (base p:Nat) (hp:base<=p) (s:dN) (o:fV) (wo:World) (Q:eX base wo p s) (hs:dP s=true) (hk:o.k=6) :
 Calls Tryz.prog 58 (PO p o.k o.id o.n o.m o.name o.d o.t) wo (iD base p wo (dK s o)):=by
 obtain ⟨ts,gs,ss,nx⟩:=s;obtain ⟨ok,oi,on,om,GE,od,ot⟩:=o;dsimp only at *;subst hk;have HQ:=DX Q;obtain ⟨aT,cT,aG,cG,aS,cS,hb,oT,oG,oS⟩:=Q.rows;dsimp only at *
 have GY:base<=wo.heap.size:=by have:=hb.lt;omega
 have MG:p<wo.heap.size:=hb.lt;have HP:=DX hb;have LB:=DX (bR hs)
 obtain ⟨XX,GR⟩:∃ XX,XX=(dK ⟨ts,gs,ss,nx⟩ ⟨6,oi,on,om,GE,od,ot⟩):=⟨_,rfl⟩
 rw [<- GR];have HX:=DX GR;clear GR;obtain ⟨lT,rT,zT,lG,rG,zG,lS,rS,zS,n0,n1⟩:=bR hs;dsimp only at *;have HB:=DX ((EY wo (LO 6 oi on om GE od ot) 35).kept ((EX _).alloc (KR)));have HR:=DX (FB wo LR 47 ((KO 6 oi on om GE od ot)));have HK:=DX (((EX wo).alloc ((KO 6 oi on om GE od ot))).alloc (KR));clear rT zT rG zG rS zS oT oG oS Q hb;go_enter Tryz.func58,Tryz.ntmps58
 go_upto_region 1 with (fail)
 generalize (wo.alloc ((KO 6 oi on om GE od ot))).alloc (KR)=w1 at *
 have HC:=DX (show Calls Tryz.prog 81 (PO p 6 oi on om GE od ot) w1 (iD base p w1 XX) by rw [HX.out,show dK ⟨ts,gs,ss,nx⟩ ⟨6,oi,on,om,GE,od,ot⟩=cW ⟨ts,gs,ss,nx⟩ 6 od on om by simp [dK]];exact Cn base p hp ⟨ts,gs,ss,nx⟩ ⟨6,oi,on,om,GE,od,ot⟩ w1 (HQ.out.kept HK.out) hs rfl);exact Pk
theorem Oo (base p:Nat) (hp:base<=p) (s:dN) (o:fV) (wo:World) (Q:eX base wo p s) (hs:dP s=true) (hk:o.k=7) :
 Calls Tryz.prog 58 (PO p o.k o.id o.n o.m o.name o.d o.t) wo (iD base p wo (dK s o)):=by
 obtain ⟨ts,gs,ss,nx⟩:=s;obtain ⟨ok,oi,on,om,GE,od,ot⟩:=o;dsimp only at *;subst hk;have HQ:=DX Q;obtain ⟨aT,cT,aG,cG,aS,cS,hb,oT,oG,oS⟩:=Q.rows;dsimp only at *
 have GY:base<=wo.heap.size:=by have:=hb.lt;omega
 have MG:p<wo.heap.size:=hb.lt;have HP:=DX hb;have LB:=DX (bR hs)
 obtain ⟨XX,GR⟩:∃ XX,XX=(dK ⟨ts,gs,ss,nx⟩ ⟨7,oi,on,om,GE,od,ot⟩):=⟨_,rfl⟩
 rw [<- GR];have HX:=DX GR;clear GR;obtain ⟨lT,rT,zT,lG,rG,zG,lS,rS,zS,n0,n1⟩:=bR hs;dsimp only at *;have HB:=DX ((EY wo (LO 7 oi on om GE od ot) 35).kept ((EX _).alloc (KR)));have HR:=DX (FB wo LR 47 ((KO 7 oi on om GE od ot)));have HK:=DX (((EX wo).alloc ((KO 7 oi on om GE od ot))).alloc (KR));clear rT zT rG zG rS zS oT oG oS Q hb;go_enter Tryz.func58,Tryz.ntmps58
 go_upto_region 1 with (fail)
 generalize (wo.alloc ((KO 7 oi on om GE od ot))).alloc (KR)=w1 at *
 have HC:=DX (show Calls Tryz.prog 81 (PO p 7 oi on om GE od ot) w1 (iD base p w1 XX) by rw [HX.out,show dK ⟨ts,gs,ss,nx⟩ ⟨7,oi,on,om,GE,od,ot⟩=eE ⟨ts,gs,ss,nx⟩ od by simp [dK]];exact zX base p hp ⟨ts,gs,ss,nx⟩ ⟨7,oi,on,om,GE,od,ot⟩ w1 (HQ.out.kept HK.out) hs rfl);exact Pk
theorem No (base p:Nat) (hp:base<=p) (s:dN) (o:fV) (wo:World) (Q:eX base wo p s) (hs:dP s=true) (hk:o.k=8) (OB:o.t.size<=140737488351232) :
 Calls Tryz.prog 58 (PO p o.k o.id o.n o.m o.name o.d o.t) wo (iD base p wo (dK s o)):=by
 obtain ⟨ts,gs,ss,nx⟩:=s;obtain ⟨ok,oi,on,om,GE,od,ot⟩:=o;dsimp only at *;subst hk;have HQ:=DX Q;obtain ⟨aT,cT,aG,cG,aS,cS,hb,oT,oG,oS⟩:=Q.rows;dsimp only at *
 have GY:base<=wo.heap.size:=by have:=hb.lt;omega
 have MG:p<wo.heap.size:=hb.lt;have HP:=DX hb;have LB:=DX (bR hs)
 obtain ⟨XX,GR⟩:∃ XX,XX=(dK ⟨ts,gs,ss,nx⟩ ⟨8,oi,on,om,GE,od,ot⟩):=⟨_,rfl⟩
 rw [<- GR];have HX:=DX GR;clear GR;obtain ⟨lT,rT,zT,lG,rG,zG,lS,rS,zS,n0,n1⟩:=bR hs;dsimp only at *;have HB:=DX ((EY wo (LO 8 oi on om GE od ot) 35).kept ((EX _).alloc (KR)));have HR:=DX (FB wo LR 47 ((KO 8 oi on om GE od ot)));have HK:=DX (((EX wo).alloc ((KO 8 oi on om GE od ot))).alloc (KR));obtain ⟨_,_,hv,hI⟩:=cI oT rfl aE (fun x hx=>by have:=zT x hx;omega);cases hv;have JV:=DX hI;rw [show dK ⟨ts,gs,ss,nx⟩ ⟨8,oi,on,om,GE,od,ot⟩=iC ⟨ts,gs,ss,nx⟩ ot by simp [dK]] at HX
 obtain ⟨m,hm⟩:∃ m,m=pR (bJ ot):=⟨_,rfl⟩
 cases JR:(bJ ot).isSome with
 | false =>
  replace JR:=JR.symm;have GI:=DX (show iC ⟨ts,gs,ss,nx⟩ ot=(⟨ts,gs,ss,nx⟩,aY 7) from if_neg (by rw [<- JR];decide));have QZ:=DX (fun w9=>jG ot m false hm JR w9);clear hm JR;clear rT zT rG zG rS zS oT oG oS Q hb hI hs;go_enter Tryz.func58,Tryz.ntmps58
  go_upto_region 1 with (fail)
  generalize (wo.alloc ((KO 8 oi on om GE od ot))).alloc (KR)=w1 at *
  have b0:w1.cell? ⟨wo.heap.size,0,none⟩=some (.int .i64 8):=HB.out.cell 0;have b6:w1.cell? ⟨wo.heap.size,6,none⟩=some (.string ot):=HB.out.cell 6;go_wp2_with fail
  refine (QZ.out w1).mono ?_
  rintro e w2 ⟨ab,cb,au,cu,rfl,_,_,FX⟩;clear b0 b6 QZ
  go_upto_region 14 with (fail)
  have GC:=DX (HK.out.trans (FX.alloc ((KM m.k ab m.bs.length cb au m.us.length cu))));have JG:=DX (HR.out.kept (FX.alloc ((KM m.k ab m.bs.length cb au m.us.length cu))));have IU:=DX (HB.out.kept (FX.alloc ((KM m.k ab m.bs.length cb au m.us.length cu))));clear FX;generalize w2.alloc ((KM m.k ab m.bs.length cb au m.us.length cu))=w3 at *;go_wp2_with (refine aD rfl 47 (.tmp 4) (.tmp 48) rfl (wo.heap.size+1) (bB (aY 7)) LR 47 rfl rfl JG.out AX rfl (aL _) ?_)
  refine EI (v:=bW (aY 7)) ?_ rfl ?_
  . exact Qf
  . exact Ie
 | true =>
  replace JR:=JR.symm;have JJ:=DX (show iC ⟨ts,gs,ss,nx⟩ ot=_ from if_pos (by rw [<- JR]));dsimp only at JJ;have QZ:=DX (fun w9=>jG ot m true hm JR w9);clear hm JR
  obtain ⟨NM,UY⟩:∃ NM,NM=iN ts ot:=⟨_,rfl⟩
  have HNC:=DX (fun w9 (k:aB wo w9)=>show Calls Tryz.prog 50 #[.slice aT ts.length cT,.string ot] w9 fun e w'=>e=.returned (.bool NM)/\aB w9 w' by rw [UY];exact sP aT ts.length cT ts ot w9 (JV.out.kept k));rw [<- UY] at JJ;clear rT zT rG zG rS zS oT oG oS Q hb hI hs;go_enter Tryz.func58,Tryz.ntmps58
  go_upto_region 1 with (fail)
  generalize (wo.alloc ((KO 8 oi on om GE od ot))).alloc (KR)=w1 at *
  have b0:w1.cell? ⟨wo.heap.size,0,none⟩=some (.int .i64 8):=HB.out.cell 0;have b6:w1.cell? ⟨wo.heap.size,6,none⟩=some (.string ot):=HB.out.cell 6;go_wp2_with fail
  refine (QZ.out w1).mono ?_
  rintro e w2 ⟨ab,cb,au,cu,rfl,_,_,FX⟩;clear b0 b6 QZ
  go_upto_region 14 with (fail)
  have GC:=DX (HK.out.trans (FX.alloc ((KM m.k ab m.bs.length cb au m.us.length cu))));have JG:=DX (HR.out.kept (FX.alloc ((KM m.k ab m.bs.length cb au m.us.length cu))));have IU:=DX (HB.out.kept (FX.alloc ((KM m.k ab m.bs.length cb au m.us.length cu))));clear FX;generalize w2.alloc ((KM m.k ab m.bs.length cb au m.us.length cu))=w3 at *;obtain ⟨r0,r1,r2,r3⟩:=aI (HP.out.kept GC.out);have b6:w3.cell? ⟨wo.heap.size,6,none⟩=some (.string ot):=IU.out.cell 6
  cases NM with
  | false =>
   have GI:=DX (JJ.out.trans (if_neg aF));clear UY
   go_upto_region 16 with (fail)
   replace r0:=aC r0;replace r1:=aC r1;replace r2:=aC r2;replace r3:=aC r3;replace b6:=aC b6;have GX:=DX (fun u:bF w3=>HNC.out u.1 (GC.out.trans u.2))
   refine aJ aW aW ?_
   repeat (go_big_quiet_step ((go_at_call 50;exact aK (GX.out _))))
   refine wpQuiet_nil ?_
   intro _ GD;obtain ⟨nq,FT⟩:=GD;subst FT;have GQ:=DX (GC.out.trans nq.2);have IW:=DX (JG.out.kept nq.2);have KY:=DX (IU.out.kept nq.2);clear r0 r1 r2 r3 b6 GX;generalize nq.1=w4 at *;clear JG IU;go_wp2_with (refine aD rfl 47 (.tmp 4) (.tmp 57) rfl (wo.heap.size+1) (bB (aY 3)) LR 47 rfl rfl IW.out AX rfl (aL _) ?_)
   refine EI (v:=bW (aY 3)) ?_ rfl ?_
   . exact EH rfl _ _ (wo.heap.size+1) 47 (bB (aY 3)) (0,0) _ rfl (IW.out.setRow _) EV rfl AX
   . rw [HX.out,GI.out];exact ⟨rfl,(HQ.out.kept GQ.out).setRow IW.out aF aF aF aF _,(FA GQ.out GY).setRow (ED _) GY _⟩
  | true =>
   have OI:=DX (JJ.out.trans (if_pos rfl));clear UY JJ
   go_upto_region 16 with (fail)
   replace r0:=aC r0;replace r1:=aC r1;replace r2:=aC r2;replace r3:=aC r3;replace b6:=aC b6;have GX:=DX (fun u:bF w3=>HNC.out u.1 (GC.out.trans u.2))
   refine aJ aW aW ?_
   repeat (go_big_quiet_step ((go_at_call 50;exact aK (GX.out _))))
   refine wpQuiet_nil ?_
   intro _ GD;obtain ⟨nq,FT⟩:=GD;subst FT;have GQ:=DX (GC.out.trans nq.2);have IW:=DX (JG.out.kept nq.2);have KY:=DX (IU.out.kept nq.2);clear r0 r1 r2 r3 b6 GX;generalize nq.1=w4 at *;clear JG IU
   obtain ⟨D,hD⟩:∃ D,D=dg ot.data.toList:=⟨_,rfl⟩
   rw [<- hD] at OI;have SR:=DX (show Calls Tryz.prog 46 #[.string ot] w4 fun e w'=>e=.returned (.string D)/\aB w4 w' by rw [hD];exact nC ot aE w4);clear hD;have b6:w4.cell? ⟨wo.heap.size,6,none⟩=some (.string ot):=KY.out.cell 6;go_wp2_with fail
   refine SR.out.mono ?_
   rintro e w5 ⟨rfl,GZ⟩;have IQ:=DX (GQ.out.trans GZ);have KE:=DX (IW.out.kept GZ);have VK:=DX (KY.out.kept GZ);clear GZ SR b6;obtain ⟨r0,r1,r2,r3⟩:=aI (HP.out.kept IQ.out);have JA:=DX (gR aT ts.length cT ts D w5 (JV.out.kept IQ.out))
   by_cases JN:cQ ts D<ts.length
   . rw [show kR ts D=((cQ ts D:Nat):Int) from if_pos JN] at JA
     have GI:=DX (OI.out.trans (if_pos JN));have hd9:decide (((cQ ts D:Nat):Int)<0)=false:=DY aE;clear OI JN;generalize cQ ts D=y at *;go_wp2_with fail
     refine JA.out.mono ?_
     rintro e w6 ⟨rfl,JD⟩;have NO:=DX (IQ.out.trans JD);have NR:=DX (KE.out.kept JD);have XI:=DX (VK.out.kept JD);clear JD JA r0 r1 r2 r3;go_wp2_with (refine aD rfl 47 (.tmp 4) (.tmp 88) rfl (wo.heap.size+1) (bB (eT D)) LR 47 rfl rfl NR.out AX rfl (aL _) ?_)
     refine EI (v:=bW (eT D)) ?_ rfl ?_
     . exact EH rfl _ _ (wo.heap.size+1) 47 (bB (eT D)) (0,0) _ rfl (NR.out.setRow _) EV rfl AX
     . exact Rm
   . rw [show kR ts D = -1 from if_neg JN] at JA
     have hd9:decide ((-1:Int)<0)=true:=by decide
     go_wp2_with fail
     refine JA.out.mono ?_
     rintro e w6 ⟨rfl,JD⟩;have NO:=DX (IQ.out.trans JD);have NR:=DX (KE.out.kept JD);have XI:=DX (VK.out.kept JD);clear JD JA r0 r1 r2 r3;obtain ⟨r0,r1,r2,r3⟩:=aI (HP.out.kept NO.out)
     by_cases hful:ts.length>=60
     . have hd:decide ((60:Int)<=(ts.length:Int))=true:=DZ aE
       have WF:decide (60<=ts.length)=true:=DZ hful;have GI:=DX ((OI.out.trans (if_neg JN)).trans (if_pos hful));clear OI JN hful;go_wp2_with (refine aD rfl 47 (.tmp 4) (.tmp 74) rfl (wo.heap.size+1) (bB (aY 2)) LR 47 rfl rfl NR.out AX rfl (aL _) ?_)
       refine EI (v:=bW (aY 2)) ?_ rfl ?_
       . exact EH rfl _ _ (wo.heap.size+1) 47 (bB (aY 2)) (0,0) _ rfl (NR.out.setRow _) EV rfl AX
       . exact Rm
     . have hd:decide ((60:Int)<=(ts.length:Int))=false:=DY aE
       have WF:decide (60<=ts.length)=false:=DY hful;have GI:=DX ((OI.out.trans (if_neg JN)).trans (if_neg hful));clear OI JN hful;have HQ6:=DX (HQ.out.kept NO.out)
       go_upto_region 22 with (fail)
       clear r0 r1 r2 r3;obtain ⟨aT4,cT4,aG4,cG4,aS4,cS4,IM,oT4,oG4,oS4⟩:=HQ6.out.rows;dsimp only at IM oT4 oG4 oS4;have KF:=DX IM;have HWI:=DX (fun w9 (kk:aB w6 w9)=>Ac base aT4 ts.length cT4 ts D ot true w9 (aH oT4 kk) rfl (fun x hx=>by have:=LB.out.zT x hx;omega) aE);have HIL:=DX (uG ts ⟨D,ot,true⟩);have OP:=DX (show base<=w6.heap.size by have:=IM.lt;omega);clear IM oT4 oG4 oS4;generalize iR ts ⟨D,ot,true⟩=NT at *;go_wp2_with fail
       have mixed:Tryz.prog.follows Departure.mixedOrders=true:=by kernel_rfl
       obtain ⟨d0,d1,d2,d3⟩:=aI KF.out;obtain ⟨d0w6,d1w6,d2w6,d3w6⟩:=aI (KF.out.kept (EX w6))
       have q9w6:w6.cell? ⟨wo.heap.size,6,none⟩=some (.string ot):=(XI.out.kept (EX w6)).cell 6
       go_region_law_o (rw [if_pos (Pj.Ze rfl _)];go_simp;refine (HWI.out _ ((EX w6).drew)).mono ?_;rintro e y9 ⟨a9,c9,rfl,h9',hk9'⟩;have GF:=((EX w6).drew).trans hk9';have h9:=bA h9' (EZ ((EX w6).drew));rw [<- HIL.out] at h9;have KW:=KF.out.kept GF;obtain ⟨d0,d1,d2,d3⟩:=aI KW;have f9:=KW.free 0;obtain ⟨d0y9,d1y9,d2y9,d3y9⟩:=aI (KF.out.kept (GF));have q9y9:y9.cell? ⟨wo.heap.size,6,none⟩=some (.string ot):=(XI.out.kept (GF)).cell 6;try dsimp only)
       all_goals
        have JB:=(HQ6.out.kept GF).putT hp NT (row:=none) ⟨rfl,rfl,rfl,EA _,fun _ _ _=>rfl⟩ dX.none (bA h9 OP.out)
        rw [HIL.out] at JB;have HQ7:=DX JB.1;have HF7:=DX ((FA GF OP.out).trans JB.2);generalize y9.setCell ⟨p,0,none⟩ (.slice a9 (ts.length+1) c9)=w7 at *;have VY:=DX (HF7.out.blk _ _ _ NR.out aE aF aF aF);have LC:=DX ((FA NO.out GY).trans HF7.out);go_wp2_with (refine aD rfl 47 (.tmp 4) (.tmp 88) rfl (wo.heap.size+1) (bB (eT D)) LR 47 rfl rfl VY.out AX rfl (aL _) ?_)
        refine EI (v:=bW (eT D)) ?_ rfl ?_
        . exact EH rfl _ _ (wo.heap.size+1) 47 (bB (eT D)) (0,0) _ rfl (VY.out.setRow _) EV rfl AX
        . rw [HX.out,GI.out];exact ⟨rfl,HQ7.out.setRow VY.out aF aF aF aF _,LC.out.setRow (ED _) GY _⟩
theorem It (base p:Nat) (hp:base<=p) (s:dN) (o:fV) (wo:World) (Q:eX base wo p s) (hs:dP s=true) (hk:o.k=10) :
 Calls Tryz.prog 58 (PO p o.k o.id o.n o.m o.name o.d o.t) wo (iD base p wo (dK s o)):=by
 obtain ⟨ts,gs,ss,nx⟩:=s;obtain ⟨ok,oi,on,om,GE,od,ot⟩:=o;dsimp only at *;subst hk;have HQ:=DX Q;obtain ⟨aT,cT,aG,cG,aS,cS,hb,oT,oG,oS⟩:=Q.rows;dsimp only at *
 have GY:base<=wo.heap.size:=by have:=hb.lt;omega
 have MG:p<wo.heap.size:=hb.lt;have HP:=DX hb;have LB:=DX (bR hs)
 obtain ⟨XX,GR⟩:∃ XX,XX=(dK ⟨ts,gs,ss,nx⟩ ⟨10,oi,on,om,GE,od,ot⟩):=⟨_,rfl⟩
 rw [<- GR];have HX:=DX GR;clear GR;obtain ⟨lT,rT,zT,lG,rG,zG,lS,rS,zS,n0,n1⟩:=bR hs;dsimp only at *;have HB:=DX ((EY wo (LO 10 oi on om GE od ot) 35).kept ((EX _).alloc (KR)));have HR:=DX (FB wo LR 47 ((KO 10 oi on om GE od ot)));have HK:=DX (((EX wo).alloc ((KO 10 oi on om GE od ot))).alloc (KR));obtain ⟨_,_,hv,hI⟩:=eA oG rfl aE (fun x hx=>by have:=zG x hx;omega);cases hv;have WY:=DX (fun w9 (k:aB wo w9)=>gY (yJ aG cG gs GE w9 (hI.kept k) aE));rw [show dK ⟨ts,gs,ss,nx⟩ ⟨10,oi,on,om,GE,od,ot⟩=gQ ⟨ts,gs,ss,nx⟩ GE by simp [dK]] at HX
 by_cases GA:gK gs GE<gs.length
 . rw [show uW gs GE=((gK gs GE:Nat):Int) from if_pos GA] at WY
   obtain ⟨g,rfl⟩:=cA oG aE;have HC:=DX (fun w9 (k:aB wo w9)=>((aH oG k).cellAt (gK gs GE*2+1) aE).trans (oB gs (gK gs GE) GA).2);have GI:=DX (show gQ ⟨ts,gs,ss,nx⟩ GE=(⟨ts,gs,ss,nx⟩,eT (gs.getD (gK gs GE) bL).d) from if_pos GA);clear rT zT rG zG rS zS oT oG oS Q hb hI hs;generalize gK gs GE=z at *;go_enter Tryz.func58,Tryz.ntmps58
   go_upto_region 1 with (fail)
   generalize (wo.alloc ((KO 10 oi on om GE od ot))).alloc (KR)=w1 at *
   have b0:w1.cell? ⟨wo.heap.size,0,none⟩=some (.int .i64 10):=HB.out.cell 0;have b4:w1.cell? ⟨wo.heap.size,4,none⟩=some (.string GE):=HB.out.cell 4;obtain ⟨r0,r1,r2,r3⟩:=aI (HP.out.kept HK.out)
   go_upto_region 44 with (fail)
   clear b0;replace r0:=aC r0;replace r1:=aC r1;replace r2:=aC r2;replace r3:=aC r3;replace b4:=aC b4;have GX:=DX (fun u:bF w1=>WY.out u.1 (HK.out.trans u.2))
   refine aJ aW aW ?_
   repeat (go_big_quiet_step ((go_at_call 83;exact aK (GX.out _))))
   refine wpQuiet_nil ?_
   intro _ GD;obtain ⟨nq,FT⟩:=GD;subst FT;have FW:=DX (HK.out.trans nq.2);have GK:=DX (HR.out.kept nq.2);have GP:=DX (HB.out.kept nq.2);clear r0 r1 r2 r3 b4 GX;generalize nq.1=w2 at *;have b0:w2.cell? ⟨wo.heap.size,0,none⟩=some (.int .i64 10):=GP.out.cell 0;have hd:decide ((z:Int)<0)=false:=DY aE;have c1:=HC.out w2 FW.out;obtain ⟨r0,r1,r2,r3⟩:=aI (HP.out.kept FW.out)
   generalize (gs.getD z bL).d=D at *
   go_wp2_with (refine aD rfl 47 (.tmp 4) (.tmp 219) rfl (wo.heap.size+1) (bB (eT D)) LR 47 rfl rfl GK.out AX rfl (aL _) ?_)
   refine EI (v:=bW (eT D)) ?_ rfl ?_
   . exact EH rfl _ _ (wo.heap.size+1) 47 (bB (eT D)) (0,0) _ rfl (GK.out.setRow _) EV rfl AX
   . exact vN
 . have GI:=DX (show gQ ⟨ts,gs,ss,nx⟩ GE=(⟨ts,gs,ss,nx⟩,aY 3) from if_neg GA)
   rw [show uW gs GE = -1 from if_neg GA] at WY;clear rT zT rG zG rS zS oT oG oS Q hb hI hs;clear GA;go_enter Tryz.func58,Tryz.ntmps58
   go_upto_region 1 with (fail)
   generalize (wo.alloc ((KO 10 oi on om GE od ot))).alloc (KR)=w1 at *
   have b0:w1.cell? ⟨wo.heap.size,0,none⟩=some (.int .i64 10):=HB.out.cell 0;have b4:w1.cell? ⟨wo.heap.size,4,none⟩=some (.string GE):=HB.out.cell 4;obtain ⟨r0,r1,r2,r3⟩:=aI (HP.out.kept HK.out)
   go_upto_region 44 with (fail)
   clear b0;replace r0:=aC r0;replace r1:=aC r1;replace r2:=aC r2;replace r3:=aC r3;replace b4:=aC b4;have GX:=DX (fun u:bF w1=>WY.out u.1 (HK.out.trans u.2))
   refine aJ aW aW ?_
   repeat (go_big_quiet_step ((go_at_call 83;exact aK (GX.out _))))
   refine wpQuiet_nil ?_
   intro _ GD;obtain ⟨nq,FT⟩:=GD;subst FT;have FW:=DX (HK.out.trans nq.2);have GK:=DX (HR.out.kept nq.2);have GP:=DX (HB.out.kept nq.2);clear r0 r1 r2 r3 b4 GX;generalize nq.1=w2 at *;have b0:w2.cell? ⟨wo.heap.size,0,none⟩=some (.int .i64 10):=GP.out.cell 0
   have hd:decide ((-1:Int)<0)=true:=by decide
   go_wp2_with (refine aD rfl 47 (.tmp 4) (.tmp 207) rfl (wo.heap.size+1) (bB (aY 3)) LR 47 rfl rfl GK.out AX rfl (aL _) ?_)
   refine EI (v:=bW (aY 3)) ?_ rfl ?_
   . exact xT
   . exact vN
theorem Jn (base p:Nat) (hp:base<=p) (s:dN) (o:fV) (wo:World) (Q:eX base wo p s) (hs:dP s=true) (hk:o.k=11) :
 Calls Tryz.prog 58 (PO p o.k o.id o.n o.m o.name o.d o.t) wo (iD base p wo (dK s o)):=by
 obtain ⟨ts,gs,ss,nx⟩:=s;obtain ⟨ok,oi,on,om,GE,od,ot⟩:=o;dsimp only at *;subst hk;have HQ:=DX Q;obtain ⟨aT,cT,aG,cG,aS,cS,hb,oT,oG,oS⟩:=Q.rows;dsimp only at *
 have GY:base<=wo.heap.size:=by have:=hb.lt;omega
 have MG:p<wo.heap.size:=hb.lt;have HP:=DX hb;have LB:=DX (bR hs)
 obtain ⟨XX,GR⟩:∃ XX,XX=(dK ⟨ts,gs,ss,nx⟩ ⟨11,oi,on,om,GE,od,ot⟩):=⟨_,rfl⟩
 rw [<- GR];have HX:=DX GR;clear GR;obtain ⟨lT,rT,zT,lG,rG,zG,lS,rS,zS,n0,n1⟩:=bR hs;dsimp only at *;have HB:=DX ((EY wo (LO 11 oi on om GE od ot) 35).kept ((EX _).alloc (KR)));have HR:=DX (FB wo LR 47 ((KO 11 oi on om GE od ot)));have HK:=DX (((EX wo).alloc ((KO 11 oi on om GE od ot))).alloc (KR));obtain ⟨_,_,hv,hI⟩:=eA oG rfl aE (fun x hx=>by have:=zG x hx;omega);cases hv;have WY:=DX (fun w9 (k:aB wo w9)=>gY (yJ aG cG gs GE w9 (hI.kept k) aE));rw [show dK ⟨ts,gs,ss,nx⟩ ⟨11,oi,on,om,GE,od,ot⟩=eY ⟨ts,gs,ss,nx⟩ GE by simp [dK]] at HX
 by_cases GA:gK gs GE<gs.length
 . rw [show uW gs GE=((gK gs GE:Nat):Int) from if_pos GA] at WY
   obtain ⟨g,rfl⟩:=cA oG aE;have GI:=DX (show eY ⟨ts,gs,ss,nx⟩ GE=(⟨ts,gs.eraseIdx (gK gs GE),ss,nx⟩,fT) from if_pos GA);clear rT zT rG zG rS zS oT oG oS Q hb hI hs;generalize gK gs GE=z at *;go_enter Tryz.func58,Tryz.ntmps58
   go_upto_region 1 with (fail)
   generalize (wo.alloc ((KO 11 oi on om GE od ot))).alloc (KR)=w1 at *
   have b0:w1.cell? ⟨wo.heap.size,0,none⟩=some (.int .i64 11):=HB.out.cell 0;have b4:w1.cell? ⟨wo.heap.size,4,none⟩=some (.string GE):=HB.out.cell 4;obtain ⟨r0,r1,r2,r3⟩:=aI (HP.out.kept HK.out)
   go_upto_region 44 with (fail)
   clear b0;replace r0:=aC r0;replace r1:=aC r1;replace r2:=aC r2;replace r3:=aC r3;replace b4:=aC b4;have GX:=DX (fun u:bF w1=>WY.out u.1 (HK.out.trans u.2))
   refine aJ aW aW ?_
   repeat (go_big_quiet_step ((go_at_call 83;exact aK (GX.out _))))
   refine wpQuiet_nil ?_
   intro _ GD;obtain ⟨nq,FT⟩:=GD;subst FT;have FW:=DX (HK.out.trans nq.2);have GK:=DX (HR.out.kept nq.2);have GP:=DX (HB.out.kept nq.2);clear r0 r1 r2 r3 b4 GX;generalize nq.1=w2 at *;have b0:w2.cell? ⟨wo.heap.size,0,none⟩=some (.int .i64 11):=GP.out.cell 0;have hd:decide ((z:Int)<0)=false:=DY aE;have QY:=DX (HQ.out.kept FW.out)
   go_upto_region 49 with (fail)
   obtain ⟨aT4,cT4,aG4,cG4,aS4,cS4,IM,oT4,oG4,oS4⟩:=QY.out.rows;dsimp only at IM oT4 oG4 oS4;have KF:=DX IM;have PG:=DX oG4;obtain ⟨i0,IY,GV,GJ,GO⟩:=iH Tryz.prog BC;have HI:=DX (EC IY (EC GV (EC GJ GO)));obtain ⟨_,_,hv,TA⟩:=eA oG4 rfl aE (fun x hx=>by have:=LB.out.zG x hx;omega);cases hv
   obtain ⟨m,hm⟩:∃ m,m=z+1:=⟨_,rfl⟩
   have ZM:m<=gs.length:=by omega
   have HZW:=DX (show IntKind.i64.wrap ((z:Int)+1)=(m:Int) by rw [IntWalk.i64_in _ aE];omega);have NJ:gs.length<=cG4:=iJ oG4;obtain ⟨aq,UU,SQ,NS⟩:=iL oG4 m ZM;rw [eB eN 2 rE] at NS;have MK:=DX (fun w9 (kk:aB w2 w9)=>sD aG4 z cG4 (gs.take z) w9 (tV (TA.kept kk) aE));have JU:=DX (show z+(gs.length - m)=(gs.eraseIdx z).length by rw [List.length_eraseIdx_of_lt aE];omega);have NG:=DX (show (gs.take z).flatMap eN++(gs.drop m).flatMap eN=(gs.eraseIdx z).flatMap eN by rw [List.eraseIdx_eq_take_drop_succ,List.flatMap_append,hm]);have OP:=DX (show base<=w2.heap.size by have:=IM.lt;omega)
   have hzc:z<=cG4:=by omega
   clear hm IY GV GJ GO IM oT4 oG4 oS4 TA;go_wp2_with fail
   have mixed:Tryz.prog.follows Departure.mixedOrders=true:=by kernel_rfl
   have ZQ:=UU.out;have hzw:=HZW.out;obtain ⟨d0,d1,d2,d3⟩:=aI KF.out;go_region_law_o (first | (rw [if_pos (Pj.Ze rfl _)];go_simp;refine (MK.out _ ((EX w2).drew)).mono ?_;rintro e y5 ⟨a5,c5,rfl,JF,OG⟩;have GZ:=((EX w2).drew).trans OG;have IP:=bA JF (EZ ((EX w2).drew));have hp5:=KF.out.kept GZ;obtain ⟨d0,d1,d2,d3⟩:=aI hp5;have LX:=NS.out y5 GZ;try dsimp only) | (refine fG rfl (.tmp 227) (.tmp 234) 23 rfl w2.heap.size 68 i0 (.agg LE) 2 32 ET HI.out.1 HI.out.2.1 HI.out.2.2.1 HI.out.2.2.2 rfl aF (.slice a5 z c5) z ((gs.take z).flatMap eN) rfl IP aq (gs.length - m) (cG4 - m) ((gs.drop m).flatMap eN) rfl SQ.out LX.1 LX.2 (fun u hu=>lP _ u hu) aE aF GZ.size ?_;intro v9 y9 GS ND;obtain ⟨a6,c6,rfl⟩:=aP GS;have GF:=cD GZ ND (fun q e=>(IP.lt q e).1) (EA _);have KW:=KF.out.kept GF;obtain ⟨d0,d1,d2,d3⟩:=aI KW;have f9:=KW.free 1))
   all_goals
    have QN:=GS;rw [JU.out,NG.out] at QN
    have JB:=(QY.out.kept GF).putG hp (gs.eraseIdx z) (row:=none) ⟨rfl,rfl,rfl,EA _,fun _ _ _=>rfl⟩ dX.none (bA QN OP.out)
    rw [<- JU.out] at JB;have SC:=DX JB.1;have OJ:=DX ((FA GF OP.out).trans JB.2);clear QN JB GS ND IP KW f9 d0 d1 d2 d3;generalize y9.setCell ⟨p,1,none⟩ (.slice a6 (z+(gs.length - m)) c6)=w5 at *;have LC:=DX ((FA FW.out GY).trans OJ.out);have KE:=DX (OJ.out.blk _ _ _ GK.out aE aF aF aF);go_wp2_with (refine aD rfl 47 (.tmp 4) (.tmp 238) rfl (wo.heap.size+1) (bB (fT)) LR 47 rfl rfl KE.out AX rfl (aL _) ?_);exact Ll
 . have GI:=DX (show eY ⟨ts,gs,ss,nx⟩ GE=(⟨ts,gs,ss,nx⟩,aY 3) from if_neg GA)
   rw [show uW gs GE = -1 from if_neg GA] at WY;clear rT zT rG zG rS zS oT oG oS Q hb hI hs;clear GA;go_enter Tryz.func58,Tryz.ntmps58
   go_upto_region 1 with (fail)
   generalize (wo.alloc ((KO 11 oi on om GE od ot))).alloc (KR)=w1 at *
   have b0:w1.cell? ⟨wo.heap.size,0,none⟩=some (.int .i64 11):=HB.out.cell 0;have b4:w1.cell? ⟨wo.heap.size,4,none⟩=some (.string GE):=HB.out.cell 4;obtain ⟨r0,r1,r2,r3⟩:=aI (HP.out.kept HK.out)
   go_upto_region 44 with (fail)
   clear b0;replace r0:=aC r0;replace r1:=aC r1;replace r2:=aC r2;replace r3:=aC r3;replace b4:=aC b4;have GX:=DX (fun u:bF w1=>WY.out u.1 (HK.out.trans u.2))
   refine aJ aW aW ?_
   repeat (go_big_quiet_step ((go_at_call 83;exact aK (GX.out _))))
   refine wpQuiet_nil ?_
   intro _ GD;obtain ⟨nq,FT⟩:=GD;subst FT;have FW:=DX (HK.out.trans nq.2);have GK:=DX (HR.out.kept nq.2);have GP:=DX (HB.out.kept nq.2);clear r0 r1 r2 r3 b4 GX;generalize nq.1=w2 at *;have b0:w2.cell? ⟨wo.heap.size,0,none⟩=some (.int .i64 11):=GP.out.cell 0
   have hd:decide ((-1:Int)<0)=true:=by decide
   go_wp2_with (refine aD rfl 47 (.tmp 4) (.tmp 207) rfl (wo.heap.size+1) (bB (aY 3)) LR 47 rfl rfl GK.out AX rfl (aL _) ?_)
   refine EI (v:=bW (aY 3)) ?_ rfl ?_
   . exact xT
   . exact vN
end Go.Proofs.YtkfmladhicapeaaGreatDoor
