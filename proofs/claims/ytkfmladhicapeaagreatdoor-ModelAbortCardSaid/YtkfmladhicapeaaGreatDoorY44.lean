import Derived.Test.YtkfmladhicapeaaGreatDoorY43
set_option maxRecDepth 100000
set_option maxHeartbeats 8000000
namespace Go.Proofs.YtkfmladhicapeaaGreatDoor
open Go.RowKit Go.Shelf
attribute [local go_sem] Oper.semAt_some
structure nS (wo:World) (b:Nat) (C:Array Value) (k0:Int) (t0:ByteArray) (o:fV) (w:World):Prop where
 ho:aA w (b+1) (LO o.k o.id o.n o.m o.name o.d o.t) 35
 hb:aA w b C 26
 hr:aA w (b+1+1) #[.int .i64 0,.int .i64 0,.int .i64 0,.int .i64 0,.string { data:=#[] },.string { data:=#[] },.string { data:=#[] }] 35
 kp:aB wo w
 kk:o.k=k0
 tt:o.t=t0
 nn:o.name.size<=1000000
theorem nS.kept {wo:World} {b:Nat} {C:Array Value} {k0:Int} {t0:ByteArray} {o:fV} {w w':World} (h:nS wo b C k0 t0 o w) (k:aB w w'):nS wo b C k0 t0 o w':=⟨h.ho.kept k,h.hb.kept k,h.hr.kept k,h.kp.trans k,h.kk,h.tt,h.nn⟩
theorem nS.setc {wo:World} {b:Nat} {C:Array Value} {k0:Int} {t0:ByteArray} {o o':fV} {w:World} (h:nS wo b C k0 t0 o w) (hw:wo.heap.size<=b+1) (i:Nat) (v:Value) (he:(#[.int .i64 o.k,.int .i64 o.id,.int .i64 o.n,.int .i64 o.m,.string o.name,.string o.d,.string o.t]).setIfInBounds i v=(LO o'.k o'.id o'.n o'.m o'.name o'.d o'.t)) (h1:o'.k=k0) (h2:o'.t=t0) (h3:o'.name.size<=1000000):nS wo b C k0 t0 o' (w.setCell ⟨b+1,i,none⟩ v):=by
 have h4:=h.ho.set (i:=i) v;rw [he] at h4;exact ⟨h4,h.hb.setOther v aE,h.hr.setOther v aE,aB.setCell h.kp (p:=⟨b+1,i,none⟩) hw v,h1,h2,h3⟩
theorem Fu (aT aG aS:Option Addr) (cT cG cS:Nat) (ts:List Th) (gs:List Tg) (ss:List Se) (nx:Int) (o:fV) (i:Nat) (wo:World) (hT:bO wo aT ts.length ts) (hG:cJ wo aG gs.length gs) (hS:cP wo aS ss.length ss) (JL:Bd ts gs ss) (hon:o.name.size<=1000000) (hi:i<1000) :
 Calls Tryz.prog 25 #[.agg (LS aT ts.length cT aG gs.length cG aS ss.length cS nx),.agg (LO o.k o.id o.n o.m o.name o.d o.t),.int .i64 i] wo fun e w'=>∃ o':fV,e=.returned (.agg (LO o'.k o'.id o'.n o'.m o'.name o'.d o'.t))/\o'.name.size<=1000000/\o'.t=o.t/\o'.k=o.k/\aB wo w':=by
 obtain ⟨PA,QG,TD,IM⟩:=JL;have JV:=DX hT;have NN:=DX hG;have MN:=DX hS;have RO:=DX IM;clear hT hG hS IM
 have k1:=(EX wo).alloc ((KS aT ts.length cT aG gs.length cG aS ss.length cS nx))
 have k2:=(EX (wo.alloc ((KS aT ts.length cT aG gs.length cG aS ss.length cS nx)))).alloc ((KO o.k o.id o.n o.m o.name o.d o.t))
 have k3:=(EX ((wo.alloc ((KS aT ts.length cT aG gs.length cG aS ss.length cS nx))).alloc ((KO o.k o.id o.n o.m o.name o.d o.t)))).alloc (.cells #[.int .i64 0,.int .i64 0,.int .i64 0,.int .i64 0,.string { data:=#[] },.string { data:=#[] },.string { data:=#[] }] 35)
 have HA:=DX (show nS wo wo.heap.size (LS aT ts.length cT aG gs.length cG aS ss.length cS nx) o.k o.t o (((wo.alloc ((KS aT ts.length cT aG gs.length cG aS ss.length cS nx))).alloc ((KO o.k o.id o.n o.m o.name o.d o.t))).alloc (.cells #[.int .i64 0,.int .i64 0,.int .i64 0,.int .i64 0,.string { data:=#[] },.string { data:=#[] },.string { data:=#[] }] 35)) from ⟨(FB wo (LO o.k o.id o.n o.m o.name o.d o.t) 35 ((KS aT ts.length cT aG gs.length cG aS ss.length cS nx))).kept k3,((EY wo (LS aT ts.length cT aG gs.length cG aS ss.length cS nx) 26).kept k2).kept k3,aA.new2 wo #[.int .i64 0,.int .i64 0,.int .i64 0,.int .i64 0,.string { data:=#[] },.string { data:=#[] },.string { data:=#[] }] 35 ((KS aT ts.length cT aG gs.length cG aS ss.length cS nx)) ((KO o.k o.id o.n o.m o.name o.d o.t)),(k1.trans k2).trans k3,rfl,rfl,hon⟩);clear k1 k2 k3 hon;go_enter Tryz.func25,Tryz.ntmps25
 go_upto_region 1 with (fail)
 generalize ((wo.alloc ((KS aT ts.length cT aG gs.length cG aS ss.length cS nx))).alloc ((KO o.k o.id o.n o.m o.name o.d o.t))).alloc (.cells #[.int .i64 0,.int .i64 0,.int .i64 0,.int .i64 0,.string { data:=#[] },.string { data:=#[] },.string { data:=#[] }] 35)=w1 at *
 have HI7:=DX (Fg Tryz.prog _ _ _ _ DE)
 obtain ⟨k0,RT⟩:∃ k0,k0=o.k:=⟨_,rfl⟩
 obtain ⟨t0,ht0⟩:∃ t0,t0=o.t:=⟨_,rfl⟩
 rw [<- RT,<- ht0] at HA;have QT:=DX RT;have HT0:=DX ht0;clear RT ht0;obtain ⟨r0,r1,r2,r3⟩:=aI HA.out.hb;obtain ⟨b0,b1,b2,b3,b4,b5,b6⟩:=cX HA.out.ho;go_cut [21] (fun t wx=>(∃ B,t=.bool B/\(B=true->0<ts.length))/\w1=wx)
 case first =>
  by_cases hl:0<ts.length
  . have hd:decide (0<ts.length)=true:=DZ hl
    have hdi:decide ((0:Int)<(ts.length:Int))=true:=DZ aE;exact Jc
  . have hd:decide (0<ts.length)=false:=DY hl
    have hdi:decide ((0:Int)<(ts.length:Int))=false:=DY aE;exact Jy
 case rest =>
  obtain ⟨⟨B,rfl,hBl⟩,rfl⟩:=hcut;clear r0 r1 r2 r3 b0 b1 b2 b3 b4 b5 b6
  go_upto_if 21 with (fail)
  go_cut [] (fun wx=>∃ o2:fV,nS wo wo.heap.size (LS aT ts.length cT aG gs.length cG aS ss.length cS nx) k0 t0 o2 wx)
  case first =>
   cases B with
   | false =>
    go_wp2_with fail;go_meet;exact ⟨_,HA.out⟩
   | true =>
    have hl:=hBl rfl;obtain ⟨bt,of,NZ,JC⟩:=JV.out.at hl
    obtain ⟨x,hx⟩:∃ x,x=IntKind.i64.wrap (o.n+(i:Int)):=⟨_,rfl⟩
    obtain ⟨z,hz⟩:∃ z,z=wY x ts.length:=⟨_,rfl⟩
    have OC:z<ts.length:=by rw [hz];exact xZ x hl
    have HWI:=DX (fun w9=>show Calls Tryz.prog 45 #[.int .i64 x,.int .i64 (ts.length:Int)] w9 fun e w8=>e=.returned (.int .i64 (z:Nat))/\w9=w8 by rw [hz];exact jK x ts.length aE w9);have HXW:=DX hx.symm;have HAE:=DX NZ;clear hz NZ;have HCT:=DX (fun w9 k=>(JC z OC w9 k).1);clear JC hx
    generalize (ts.getD z aX).d=X at *
    go_wp2_with fail
    have mixed:Tryz.prog.follows Departure.mixedOrders=true:=by kernel_rfl
    have ON:=HA.out;obtain ⟨r0,r1,r2,r3⟩:=aI ON.hb;obtain ⟨b0,b1,b2,b3,b4,b5,b6⟩:=cX ON.ho;rw [HAE.out] at r0;have hxw:=HXW.out;have c0:=HCT.out w1 HA.out.kp;have f9:=ON.ho.free 5;go_region_law_o (rw [if_pos (Pj.Ze rfl _)];go_simp;refine (HWI.out _).mono ?_;rintro e w' ⟨rfl,rfl⟩;try dsimp only)
    all_goals
     have HA9:=DX ((ON.setc (o':=⟨o.k,o.id,o.n,o.m,o.name,X,o.t⟩) aE 5 (.string X) rfl ON.kk ON.tt ON.nn).kept ((EX _).drew));go_wp2_with fail;go_meet;exact ⟨_,HA9.out⟩
  case rest =>
   obtain ⟨o2,TK⟩:=hcut;replace TK:=DX TK
   rename World=>wv2
   go_upto_region 3 with (fail)
   obtain ⟨r0,r1,r2,r3⟩:=aI TK.out.hb;obtain ⟨b0,b1,b2,b3,b4,b5,b6⟩:=cX TK.out.ho;go_cut [44] (fun t wx=>(∃ B,t=.bool B/\(B=true->0<ss.length))/\wv2=wx)
   case first =>
    by_cases hl:0<ss.length
    . have hd:decide (0<ss.length)=true:=DZ hl
      have hdi:decide ((0:Int)<(ss.length:Int))=true:=DZ aE;exact Jc
    . have hd:decide (0<ss.length)=false:=DY hl
      have hdi:decide ((0:Int)<(ss.length:Int))=false:=DY aE;exact Jy
   case rest =>
    obtain ⟨⟨B,rfl,hBl⟩,rfl⟩:=hcut;clear r0 r1 r2 r3 b0 b1 b2 b3 b4 b5 b6
    go_upto_if 44 with (fail)
    go_cut [] (fun wx=>∃ o2:fV,nS wo wo.heap.size (LS aT ts.length cT aG gs.length cG aS ss.length cS nx) k0 t0 o2 wx)
    case first =>
     cases B with
     | false =>
      go_wp2_with fail;go_meet;exact ⟨_,TK.out⟩
     | true =>
      have hl:=hBl rfl;obtain ⟨bt,of,NZ,JC⟩:=MN.out.at hl
      obtain ⟨x,hx⟩:∃ x,x=o2.id:=⟨_,rfl⟩
      obtain ⟨z,hz⟩:∃ z,z=wY x ss.length:=⟨_,rfl⟩
      have OC:z<ss.length:=by rw [hz];exact xZ x hl
      have HWI:=DX (fun w9=>show Calls Tryz.prog 45 #[.int .i64 x,.int .i64 (ss.length:Int)] w9 fun e w8=>e=.returned (.int .i64 (z:Nat))/\w9=w8 by rw [hz];exact jK x ss.length aE w9);have HXW:=DX hx.symm;have HAE:=DX NZ;clear hz NZ;have HC0:=DX (fun w9 k=>(JC z OC w9 k).1);have HC1:=DX (fun w9 k=>(JC z OC w9 k).2);have HXS:=DX (MN.out.size z OC);clear JC hx
      generalize (ss.getD z bQ).t=X at *
      generalize (ss.getD z bQ).i=Y at *
      obtain ⟨r0,r1,r2,r3⟩:=aI TK.out.hb;obtain ⟨b0,b1,b2,b3,b4,b5,b6⟩:=cX TK.out.ho;rw [HAE.out] at r2;rw [HXW.out] at b1;have c0:=HC0.out wv2 TK.out.kp;have f1:=TK.out.ho.free 1;go_wp2_with fail
      refine (HWI.out _).mono ?_
      rintro e w' ⟨rfl,rfl⟩
      go_upto_region 6 with (fail)
      have HAS:=DX (show nS wo wo.heap.size (LS aT ts.length cT aG gs.length cG aS ss.length cS nx) k0 t0 ⟨o2.k,Y,o2.n,o2.m,o2.name,o2.d,o2.t⟩ (wv2.setCell ⟨wo.heap.size+1,1,none⟩ (.int .i64 Y)) from TK.out.setc aE 1 (.int .i64 Y) rfl TK.out.kk TK.out.tt TK.out.nn);generalize wv2.setCell ⟨wo.heap.size+1,1,none⟩ (.int .i64 Y)=ws at *;clear c0 f1;clear r0 r1 r2 r3 b0 b1 b2 b3 b4 b5 b6;generalize hos:(⟨o2.k,Y,o2.n,o2.m,o2.name,o2.d,o2.t⟩:fV)=os at *;clear hos;obtain ⟨r0,r1,r2,r3⟩:=aI HAS.out.hb;obtain ⟨b0,b1,b2,b3,b4,b5,b6⟩:=cX HAS.out.ho;go_cut [65] (fun t wx=>(∃ B,t=.bool B)/\ws=wx)
      case first =>
       go_wp2_with fail
       all_goals (go_meet;exact ⟨⟨_,rfl⟩,rfl⟩)
      case rest =>
       obtain ⟨⟨B,rfl⟩,rfl⟩:=hcut;clear r0 r1 r2 r3 b0 b1 b2 b3 b4 b5 b6
       cases B with
       | false =>
        go_wp2_with fail;go_meet;exact ⟨_,HAS.out⟩
       | true =>
        obtain ⟨r0,r1,r2,r3⟩:=aI HAS.out.hb;obtain ⟨b0,b1,b2,b3,b4,b5,b6⟩:=cX HAS.out.ho;rw [HAE.out] at r2;have c1:=HC1.out ws HAS.out.kp;have f5:=HAS.out.ho.free 5;have HDG:=DX (nC X (by have:=HXS.out;omega) ws);generalize dg X.data.toList=D at *;go_wp2_with fail
        refine HDG.out.mono ?_
        rintro e wt ⟨rfl,hkt⟩;have JA:=DX (HAS.out.kept hkt);clear f5 c1 HDG hkt;clear r0 r1 r2 r3 b0 b1 b2 b3 b4 b5 b6;obtain ⟨r0,r1,r2,r3⟩:=aI JA.out.hb;obtain ⟨b0,b1,b2,b3,b4,b5,b6⟩:=cX JA.out.ho;have f5:=JA.out.ho.free 5;go_wp2_with fail;go_meet;exact ⟨_,JA.out.setc (o':=⟨os.k,os.id,os.n,os.m,os.name,D,os.t⟩) aE 5 (.string D) rfl JA.out.kk JA.out.tt JA.out.nn⟩
    case rest =>
     obtain ⟨o3,TL⟩:=hcut;replace TL:=DX TL
     rename World=>wv3
     go_upto_region 8 with (fail)
     obtain ⟨r0,r1,r2,r3⟩:=aI TL.out.hb;obtain ⟨b0,b1,b2,b3,b4,b5,b6⟩:=cX TL.out.ho;go_cut [87] (fun t wx=>(∃ B,t=.bool B/\(B=true->0<gs.length))/\wv3=wx)
     case first =>
      by_cases hl:0<gs.length
      . have hd:decide (0<gs.length)=true:=DZ hl
        have hdi:decide ((0:Int)<(gs.length:Int))=true:=DZ aE;exact Jc
      . have hd:decide (0<gs.length)=false:=DY hl
        have hdi:decide ((0:Int)<(gs.length:Int))=false:=DY aE;exact Jy
     case rest =>
      obtain ⟨⟨B,rfl,hBl⟩,rfl⟩:=hcut;clear r0 r1 r2 r3 b0 b1 b2 b3 b4 b5 b6
      go_upto_if 87 with (fail)
      go_cut [] (fun wx=>∃ o2:fV,nS wo wo.heap.size (LS aT ts.length cT aG gs.length cG aS ss.length cS nx) k0 t0 o2 wx)
      case first =>
       cases B with
       | false =>
        go_wp2_with fail;go_meet;exact ⟨_,TL.out⟩
       | true =>
        have hl:=hBl rfl;obtain ⟨bt,of,NZ,JC⟩:=NN.out.at hl
        obtain ⟨x,hx⟩:∃ x,x=o3.n:=⟨_,rfl⟩
        obtain ⟨z,hz⟩:∃ z,z=wY x gs.length:=⟨_,rfl⟩
        have OC:z<gs.length:=by rw [hz];exact xZ x hl
        have HWI:=DX (fun w9=>show Calls Tryz.prog 45 #[.int .i64 x,.int .i64 (gs.length:Int)] w9 fun e w8=>e=.returned (.int .i64 (z:Nat))/\w9=w8 by rw [hz];exact jK x gs.length aE w9);have HXW:=DX hx.symm;have HAE:=DX NZ;clear hz NZ;have HCT:=DX (fun w9 k=>(JC z OC w9 k).1);have QV:=DX (show (gs.getD z bL).n.size<=1000000 by have:=RO.out _ (bY bL OC);omega);clear JC hx
        generalize (gs.getD z bL).n=X at *
        go_wp2_with fail
        have mixed:Tryz.prog.follows Departure.mixedOrders=true:=by kernel_rfl
        have ON:=TL.out;obtain ⟨r0,r1,r2,r3⟩:=aI ON.hb;obtain ⟨b0,b1,b2,b3,b4,b5,b6⟩:=cX ON.ho;rw [HAE.out] at r1;rw [HXW.out] at b2;have c0:=HCT.out wv3 TL.out.kp;have f9:=ON.ho.free 4;go_region_law_o (rw [if_pos (Pj.Ze rfl _)];go_simp;refine (HWI.out _).mono ?_;rintro e w' ⟨rfl,rfl⟩;try dsimp only)
        all_goals
         have HA9:=DX ((ON.setc (o':=⟨o3.k,o3.id,o3.n,o3.m,X,o3.d,o3.t⟩) aE 4 (.string X) rfl ON.kk ON.tt QV.out).kept ((EX _).drew));go_wp2_with fail;go_meet;exact ⟨_,HA9.out⟩
      case rest =>
       obtain ⟨o4,HA4⟩:=hcut;replace HA4:=DX HA4
       rename World=>wv4
       go_upto_region 10 with (fail)
       obtain ⟨r0,r1,r2,r3⟩:=aI HA4.out.hb;obtain ⟨b0,b1,b2,b3,b4,b5,b6⟩:=cX HA4.out.ho;go_cut [107] (fun t wx=>(∃ B,t=.bool B)/\wv4=wx)
       case first =>
        go_wp2_with fail
        all_goals (go_meet;exact ⟨⟨_,rfl⟩,rfl⟩)
       case rest =>
        obtain ⟨⟨B,rfl⟩,rfl⟩:=hcut;clear r0 r1 r2 r3 b0 b1 b2 b3 b4 b5 b6
        go_upto_if 107 with (fail)
        go_cut [] (fun wx=>∃ o2:fV,nS wo wo.heap.size (LS aT ts.length cT aG gs.length cG aS ss.length cS nx) k0 t0 o2 wx)
        case first =>
         cases B with
         | false =>
          go_wp2_with fail;go_meet;exact ⟨_,HA4.out⟩
         | true =>
          obtain ⟨x,hx⟩:∃ x,x=wY o4.n 40:=⟨_,rfl⟩
          obtain ⟨y,hy⟩:∃ y,y=wY o4.m 50:=⟨_,rfl⟩
          have ZE:=DX (fun w9=>show Calls Tryz.prog 45 #[.int .i64 o4.n,.int .i64 40] w9 fun e w8=>e=.returned (.int .i64 (x:Nat))/\w9=w8 by rw [hx];exact jK o4.n 40 aE w9);have HW2:=DX (fun w9=>show Calls Tryz.prog 45 #[.int .i64 o4.m,.int .i64 50] w9 fun e w8=>e=.returned (.int .i64 (y:Nat))/\w9=w8 by rw [hy];exact jK o4.m 50 aE w9);clear hx hy;have MH:=DX HA4.out.kp;go_wp2_with fail
          refine Pj.Zg (fun az0 L az w=>∃ V:Nat->Value,az=Pj.Zb [(108,0),(109,1),(110,2),(111,3),(112,4),(113,5),(114,6),(115,8)] V az0/\(¬ L 9->Pj.J wo [Pj.Is (.pointer (some ⟨wo.heap.size+1,2,none⟩)),Pj.Is (.int .i64 o4.n),Pj.Is (.int .i64 x),Pj.Is (.pointer (some ⟨wo.heap.size+1,3,none⟩)),Pj.Is (.int .i64 o4.m),Pj.Is (.int .i64 y),Pj.Is (.pointer (some ⟨wo.heap.size+1,2,none⟩)),(fun _ _=>True),Pj.Is (.pointer (some ⟨wo.heap.size+1,3,none⟩)),(fun _ _=>True)] L V w/\((¬ L 7->nS wo wo.heap.size (LS aT ts.length cT aG gs.length cG aS ss.length cS nx) k0 t0 o4 w)/\(L 7->nS wo wo.heap.size (LS aT ts.length cT aG gs.length cG aS ss.length cS nx) k0 t0 ⟨o4.k,o4.id,x,o4.m,o4.name,o4.d,o4.t⟩ w)))/\(L 1->L 0)/\(L 2->L 1)/\(L 4->L 3)/\(L 5->L 4)/\(L 7->L 6)/\(L 7->L 2)/\(L 9->L 8)/\(L 9->L 5)/\(L 9->L 7)/\(L 9->∃ o2:fV,nS wo wo.heap.size (LS aT ts.length cT aG gs.length cG aS ss.length cS nx) k0 t0 o2 w)) nR nR ?eh0 ?ehs ?ehe
          case eh0 =>
           intro L hL;exact ⟨_,Pj.Zi _ (fun j=>([108,109,110,111,112,113,114,0,115,0]:List Nat).getD j 0) [0,1,2,3,4,5,6,8],fun _=>⟨Pj.J.none (n:=10) (EA _) hL (MH.out.drew),⟨fun _=>HA4.out.kept ((EX _).drew),fun h=>absurd h (hL 7 aF)⟩⟩,fun h=>absurd h (hL 1 aF),fun h=>absurd h (hL 2 aF),fun h=>absurd h (hL 4 aF),fun h=>absurd h (hL 5 aF),fun h=>absurd h (hL 7 aF),fun h=>absurd h (hL 7 aF),fun h=>absurd h (hL 9 aF),fun h=>absurd h (hL 9 aF),fun h=>absurd h (hL 9 aF),fun h=>absurd h (hL 9 aF)⟩
          case ehs =>
           rintro L L' az w iz opz Kq ⟨V,rfl,hj,LI,KC,LJ,KH,LK,JX,LQ,JY,JO,hf⟩ ho FY FZ hL IH;have hP:Pj.Zh [Pj.Is (.pointer (some ⟨wo.heap.size+1,2,none⟩)),Pj.Is (.int .i64 o4.n),Pj.Is (.int .i64 x),Pj.Is (.pointer (some ⟨wo.heap.size+1,3,none⟩)),Pj.Is (.int .i64 o4.m),Pj.Is (.int .i64 y),Pj.Is (.pointer (some ⟨wo.heap.size+1,2,none⟩)),(fun _ _=>True),Pj.Is (.pointer (some ⟨wo.heap.size+1,3,none⟩)),(fun _ _=>True)]:=⟨Pj.Is.flat _,Pj.Is.flat _,Pj.Is.flat _,Pj.Is.flat _,Pj.Is.flat _,Pj.Is.flat _,Pj.Is.flat _,(fun _ _ _ _ _=>trivial),Pj.Is.flat _,(fun _ _ _ _ _=>trivial),trivial⟩;have HP:=DX hP;clear hP hf
           match iz,ho with
           | 0,ho =>
            simp only [iU] at ho
            have WK:¬ L 9:=fun h=>FY (LI (KC (JX (JO h))))
            obtain ⟨hJ,hA⟩:=hj WK;have HJ:=DX hJ;clear hJ hj;have KA:=DX hA;clear hA;subst ho
            refine Pj.Za.free rfl ?_
            simp only [Pj.Zb,dO,Act.put];go_simp;exact IH _ _ ⟨Pj.Yz V 0 (.pointer (some ⟨wo.heap.size+1,2,none⟩)),by simp only [Pj.Zb,dO,Act.put,Pj.Yz,Nat.reduceEqDiff,if_true,if_false],fun _=>⟨HJ.out.flat HP.out hL (HJ.out.kp.trans (EX _)) (EZ (EX _)) (rfl),⟨fun h=>(KA.out.1 (fun q=>h ((hL 7).2 (.inr q)))).kept (EX _),fun h=>(KA.out.2 (((hL 7).1 h).resolve_left aF)).kept (EX _)⟩⟩,fun h=>(hL 0).2 (((hL 1).1 h).elim (fun e=>absurd e aF) (fun q=>.inr (LI q))),fun h=>(hL 1).2 (((hL 2).1 h).elim (fun e=>absurd e aF) (fun q=>.inr (KC q))),fun h=>(hL 3).2 (((hL 4).1 h).elim (fun e=>absurd e aF) (fun q=>.inr (LJ q))),fun h=>(hL 4).2 (((hL 5).1 h).elim (fun e=>absurd e aF) (fun q=>.inr (KH q))),fun h=>(hL 6).2 (((hL 7).1 h).elim (fun e=>absurd e aF) (fun q=>.inr (LK q))),fun h=>(hL 2).2 (((hL 7).1 h).elim (fun e=>absurd e aF) (fun q=>.inr (JX q))),fun h=>(hL 8).2 (((hL 9).1 h).elim (fun e=>absurd e aF) (fun q=>.inr (LQ q))),fun h=>(hL 5).2 (((hL 9).1 h).elim (fun e=>absurd e aF) (fun q=>.inr (JY q))),fun h=>(hL 7).2 (((hL 9).1 h).elim (fun e=>absurd e aF) (fun q=>.inr (JO q))),fun h=>absurd (LI (KC (JX (JO (((hL 9).1 h).resolve_left aF))))) FY⟩
           | 1,ho =>
            simp only [iU] at ho
            have WK:¬ L 9:=fun h=>FY (KC (JX (JO h)))
            obtain ⟨hJ,hA⟩:=hj WK;have l0:=FZ 0 (by rw [<- ho];kernel_rfl)
            have e0:V 0=.pointer (some ⟨wo.heap.size+1,2,none⟩):=hJ.h 0 l0
            have hn7:¬ L 7:=fun h=>FY (KC (JX h))
            obtain ⟨b0,b1,b2,b3,b4,b5,b6⟩:=cX (hA.1 hn7).ho
            have HJ:=DX hJ;clear hJ hj;have KA:=DX hA;clear hA;subst ho
            refine Pj.Za.free rfl ?_
            simp only [Pj.Zb,dO,Act.put,e0];go_simp;exact IH _ _ ⟨Pj.Yz V 1 (.int .i64 o4.n),by simp only [Pj.Zb,dO,Act.put,Pj.Yz,Nat.reduceEqDiff,if_true,if_false,e0],fun _=>⟨HJ.out.flat HP.out hL (HJ.out.kp.trans (EX _)) (EZ (EX _)) (rfl),⟨fun h=>(KA.out.1 (fun q=>h ((hL 7).2 (.inr q)))).kept (EX _),fun h=>(KA.out.2 (((hL 7).1 h).resolve_left aF)).kept (EX _)⟩⟩,fun _=>(hL 0).2 (.inr l0),fun h=>(hL 1).2 (((hL 2).1 h).elim (fun e=>absurd e aF) (fun q=>.inr (KC q))),fun h=>(hL 3).2 (((hL 4).1 h).elim (fun e=>absurd e aF) (fun q=>.inr (LJ q))),fun h=>(hL 4).2 (((hL 5).1 h).elim (fun e=>absurd e aF) (fun q=>.inr (KH q))),fun h=>(hL 6).2 (((hL 7).1 h).elim (fun e=>absurd e aF) (fun q=>.inr (LK q))),fun h=>(hL 2).2 (((hL 7).1 h).elim (fun e=>absurd e aF) (fun q=>.inr (JX q))),fun h=>(hL 8).2 (((hL 9).1 h).elim (fun e=>absurd e aF) (fun q=>.inr (LQ q))),fun h=>(hL 5).2 (((hL 9).1 h).elim (fun e=>absurd e aF) (fun q=>.inr (JY q))),fun h=>(hL 7).2 (((hL 9).1 h).elim (fun e=>absurd e aF) (fun q=>.inr (JO q))),fun h=>absurd (KC (JX (JO (((hL 9).1 h).resolve_left aF)))) FY⟩
           | 2,ho =>
            simp only [iU] at ho
            have WK:¬ L 9:=fun h=>FY (JX (JO h))
            obtain ⟨hJ,hA⟩:=hj WK;have l1:=FZ 1 (by rw [<- ho];kernel_rfl)
            have e1:V 1=.int .i64 o4.n:=hJ.h 1 l1
            have HJ:=DX hJ;clear hJ hj;have KA:=DX hA;clear hA;subst ho
            refine Pj.Za.free rfl ?_
            simp only [Pj.Zb,dO,Act.put,e1];go_simp
            refine (ZE.out _).mono ?_
            rintro e w' ⟨rfl,rfl⟩;exact IH _ _ ⟨Pj.Yz V 2 (.int .i64 x),by simp only [Pj.Zb,dO,Act.put,Pj.Yz,Nat.reduceEqDiff,if_true,if_false,e1],fun _=>⟨HJ.out.flat HP.out hL (HJ.out.kp.trans (EX _)) (EZ (EX _)) (rfl),⟨fun h=>(KA.out.1 (fun q=>h ((hL 7).2 (.inr q)))).kept (EX _),fun h=>(KA.out.2 (((hL 7).1 h).resolve_left aF)).kept (EX _)⟩⟩,fun h=>(hL 0).2 (((hL 1).1 h).elim (fun e=>absurd e aF) (fun q=>.inr (LI q))),fun _=>(hL 1).2 (.inr l1),fun h=>(hL 3).2 (((hL 4).1 h).elim (fun e=>absurd e aF) (fun q=>.inr (LJ q))),fun h=>(hL 4).2 (((hL 5).1 h).elim (fun e=>absurd e aF) (fun q=>.inr (KH q))),fun h=>(hL 6).2 (((hL 7).1 h).elim (fun e=>absurd e aF) (fun q=>.inr (LK q))),fun h=>(hL 2).2 (((hL 7).1 h).elim (fun e=>absurd e aF) (fun q=>.inr (JX q))),fun h=>(hL 8).2 (((hL 9).1 h).elim (fun e=>absurd e aF) (fun q=>.inr (LQ q))),fun h=>(hL 5).2 (((hL 9).1 h).elim (fun e=>absurd e aF) (fun q=>.inr (JY q))),fun h=>(hL 7).2 (((hL 9).1 h).elim (fun e=>absurd e aF) (fun q=>.inr (JO q))),fun h=>absurd (JX (JO (((hL 9).1 h).resolve_left aF))) FY⟩
           | 3,ho =>
            simp only [iU] at ho
            have WK:¬ L 9:=fun h=>FY (LJ (KH (JY h)))
            obtain ⟨hJ,hA⟩:=hj WK;have HJ:=DX hJ;clear hJ hj;have KA:=DX hA;clear hA;subst ho
            refine Pj.Za.free rfl ?_
            simp only [Pj.Zb,dO,Act.put];go_simp;exact IH _ _ ⟨Pj.Yz V 3 (.pointer (some ⟨wo.heap.size+1,3,none⟩)),by simp only [Pj.Zb,dO,Act.put,Pj.Yz,Nat.reduceEqDiff,if_true,if_false],fun _=>⟨HJ.out.flat HP.out hL (HJ.out.kp.trans (EX _)) (EZ (EX _)) (rfl),⟨fun h=>(KA.out.1 (fun q=>h ((hL 7).2 (.inr q)))).kept (EX _),fun h=>(KA.out.2 (((hL 7).1 h).resolve_left aF)).kept (EX _)⟩⟩,fun h=>(hL 0).2 (((hL 1).1 h).elim (fun e=>absurd e aF) (fun q=>.inr (LI q))),fun h=>(hL 1).2 (((hL 2).1 h).elim (fun e=>absurd e aF) (fun q=>.inr (KC q))),fun h=>(hL 3).2 (((hL 4).1 h).elim (fun e=>absurd e aF) (fun q=>.inr (LJ q))),fun h=>(hL 4).2 (((hL 5).1 h).elim (fun e=>absurd e aF) (fun q=>.inr (KH q))),fun h=>(hL 6).2 (((hL 7).1 h).elim (fun e=>absurd e aF) (fun q=>.inr (LK q))),fun h=>(hL 2).2 (((hL 7).1 h).elim (fun e=>absurd e aF) (fun q=>.inr (JX q))),fun h=>(hL 8).2 (((hL 9).1 h).elim (fun e=>absurd e aF) (fun q=>.inr (LQ q))),fun h=>(hL 5).2 (((hL 9).1 h).elim (fun e=>absurd e aF) (fun q=>.inr (JY q))),fun h=>(hL 7).2 (((hL 9).1 h).elim (fun e=>absurd e aF) (fun q=>.inr (JO q))),fun h=>absurd (LJ (KH (JY (((hL 9).1 h).resolve_left aF)))) FY⟩
           | 4,ho =>
            simp only [iU] at ho
            have WK:¬ L 9:=fun h=>FY (KH (JY h))
            obtain ⟨hJ,hA⟩:=hj WK;have l3:=FZ 3 (by rw [<- ho];kernel_rfl)
            have e3:V 3=.pointer (some ⟨wo.heap.size+1,3,none⟩):=hJ.h 3 l3
            have q3:w.cell? ⟨wo.heap.size+1,3,none⟩=some (.int .i64 o4.m):=(Classical.em (L 7)).elim (fun h7=>(hA.2 h7).ho.cell 3) (fun h7=>(hA.1 h7).ho.cell 3)
            have HJ:=DX hJ;clear hJ hj;have KA:=DX hA;clear hA;subst ho
            refine Pj.Za.free rfl ?_
            simp only [Pj.Zb,dO,Act.put,e3];go_simp;exact IH _ _ ⟨Pj.Yz V 4 (.int .i64 o4.m),by simp only [Pj.Zb,dO,Act.put,Pj.Yz,Nat.reduceEqDiff,if_true,if_false,e3],fun _=>⟨HJ.out.flat HP.out hL (HJ.out.kp.trans (EX _)) (EZ (EX _)) (rfl),⟨fun h=>(KA.out.1 (fun q=>h ((hL 7).2 (.inr q)))).kept (EX _),fun h=>(KA.out.2 (((hL 7).1 h).resolve_left aF)).kept (EX _)⟩⟩,fun h=>(hL 0).2 (((hL 1).1 h).elim (fun e=>absurd e aF) (fun q=>.inr (LI q))),fun h=>(hL 1).2 (((hL 2).1 h).elim (fun e=>absurd e aF) (fun q=>.inr (KC q))),fun _=>(hL 3).2 (.inr l3),fun h=>(hL 4).2 (((hL 5).1 h).elim (fun e=>absurd e aF) (fun q=>.inr (KH q))),fun h=>(hL 6).2 (((hL 7).1 h).elim (fun e=>absurd e aF) (fun q=>.inr (LK q))),fun h=>(hL 2).2 (((hL 7).1 h).elim (fun e=>absurd e aF) (fun q=>.inr (JX q))),fun h=>(hL 8).2 (((hL 9).1 h).elim (fun e=>absurd e aF) (fun q=>.inr (LQ q))),fun h=>(hL 5).2 (((hL 9).1 h).elim (fun e=>absurd e aF) (fun q=>.inr (JY q))),fun h=>(hL 7).2 (((hL 9).1 h).elim (fun e=>absurd e aF) (fun q=>.inr (JO q))),fun h=>absurd (KH (JY (((hL 9).1 h).resolve_left aF))) FY⟩
           | 5,ho =>
            simp only [iU] at ho
            have WK:¬ L 9:=fun h=>FY (JY h)
            obtain ⟨hJ,hA⟩:=hj WK;have l4:=FZ 4 (by rw [<- ho];kernel_rfl)
            have e4:V 4=.int .i64 o4.m:=hJ.h 4 l4
            have HJ:=DX hJ;clear hJ hj;have KA:=DX hA;clear hA;subst ho
            refine Pj.Za.free rfl ?_
            simp only [Pj.Zb,dO,Act.put,e4];go_simp
            refine (HW2.out _).mono ?_
            rintro e w' ⟨rfl,rfl⟩;exact IH _ _ ⟨Pj.Yz V 5 (.int .i64 y),by simp only [Pj.Zb,dO,Act.put,Pj.Yz,Nat.reduceEqDiff,if_true,if_false,e4],fun _=>⟨HJ.out.flat HP.out hL (HJ.out.kp.trans (EX _)) (EZ (EX _)) (rfl),⟨fun h=>(KA.out.1 (fun q=>h ((hL 7).2 (.inr q)))).kept (EX _),fun h=>(KA.out.2 (((hL 7).1 h).resolve_left aF)).kept (EX _)⟩⟩,fun h=>(hL 0).2 (((hL 1).1 h).elim (fun e=>absurd e aF) (fun q=>.inr (LI q))),fun h=>(hL 1).2 (((hL 2).1 h).elim (fun e=>absurd e aF) (fun q=>.inr (KC q))),fun h=>(hL 3).2 (((hL 4).1 h).elim (fun e=>absurd e aF) (fun q=>.inr (LJ q))),fun _=>(hL 4).2 (.inr l4),fun h=>(hL 6).2 (((hL 7).1 h).elim (fun e=>absurd e aF) (fun q=>.inr (LK q))),fun h=>(hL 2).2 (((hL 7).1 h).elim (fun e=>absurd e aF) (fun q=>.inr (JX q))),fun h=>(hL 8).2 (((hL 9).1 h).elim (fun e=>absurd e aF) (fun q=>.inr (LQ q))),fun h=>(hL 5).2 (((hL 9).1 h).elim (fun e=>absurd e aF) (fun q=>.inr (JY q))),fun h=>(hL 7).2 (((hL 9).1 h).elim (fun e=>absurd e aF) (fun q=>.inr (JO q))),fun h=>absurd (JY (((hL 9).1 h).resolve_left aF)) FY⟩
           | 6,ho =>
            simp only [iU] at ho
            have WK:¬ L 9:=fun h=>FY (LK (JO h))
            obtain ⟨hJ,hA⟩:=hj WK;have HJ:=DX hJ;clear hJ hj;have KA:=DX hA;clear hA;subst ho
            refine Pj.Za.free rfl ?_
            simp only [Pj.Zb,dO,Act.put];go_simp;exact IH _ _ ⟨Pj.Yz V 6 (.pointer (some ⟨wo.heap.size+1,2,none⟩)),by simp only [Pj.Zb,dO,Act.put,Pj.Yz,Nat.reduceEqDiff,if_true,if_false],fun _=>⟨HJ.out.flat HP.out hL (HJ.out.kp.trans (EX _)) (EZ (EX _)) (rfl),⟨fun h=>(KA.out.1 (fun q=>h ((hL 7).2 (.inr q)))).kept (EX _),fun h=>(KA.out.2 (((hL 7).1 h).resolve_left aF)).kept (EX _)⟩⟩,fun h=>(hL 0).2 (((hL 1).1 h).elim (fun e=>absurd e aF) (fun q=>.inr (LI q))),fun h=>(hL 1).2 (((hL 2).1 h).elim (fun e=>absurd e aF) (fun q=>.inr (KC q))),fun h=>(hL 3).2 (((hL 4).1 h).elim (fun e=>absurd e aF) (fun q=>.inr (LJ q))),fun h=>(hL 4).2 (((hL 5).1 h).elim (fun e=>absurd e aF) (fun q=>.inr (KH q))),fun h=>(hL 6).2 (((hL 7).1 h).elim (fun e=>absurd e aF) (fun q=>.inr (LK q))),fun h=>(hL 2).2 (((hL 7).1 h).elim (fun e=>absurd e aF) (fun q=>.inr (JX q))),fun h=>(hL 8).2 (((hL 9).1 h).elim (fun e=>absurd e aF) (fun q=>.inr (LQ q))),fun h=>(hL 5).2 (((hL 9).1 h).elim (fun e=>absurd e aF) (fun q=>.inr (JY q))),fun h=>(hL 7).2 (((hL 9).1 h).elim (fun e=>absurd e aF) (fun q=>.inr (JO q))),fun h=>absurd (LK (JO (((hL 9).1 h).resolve_left aF))) FY⟩
           | 7,ho =>
            simp only [iU] at ho
            have WK:¬ L 9:=fun h=>FY (JO h)
            obtain ⟨hJ,hA⟩:=hj WK;have l6:=FZ 6 (by rw [<- ho];kernel_rfl)
            have e6:V 6=.pointer (some ⟨wo.heap.size+1,2,none⟩):=hJ.h 6 l6
            have l2:=FZ 2 (by rw [<- ho];kernel_rfl)
            have e2:V 2=.int .i64 x:=hJ.h 2 l2
            have ON:=hA.1 FY;have f9:=ON.ho.free 2;obtain ⟨b0,b1,b2,b3,b4,b5,b6⟩:=cX ON.ho;have HJ:=DX hJ;clear hJ hj;have KA:=DX hA;clear hA;subst ho
            refine Pj.Za.free rfl ?_
            simp only [Pj.Zb,dO,Act.put,e6,e2];go_simp;exact IH _ _ ⟨Pj.Yz V 7 (undef),by simp only [Pj.Zb,dO,Act.put,Pj.Yz,Nat.reduceEqDiff,if_false,e6,e2],fun _=>⟨HJ.out.flat HP.out hL (aB.setCell HJ.out.kp (p:=⟨wo.heap.size+1,2,none⟩) (by show wo.heap.size<=wo.heap.size+1;omega) _) (by simp) (trivial),⟨fun h=>absurd ((hL 7).2 (.inl rfl)) h,fun _=>ON.setc aE 2 (.int .i64 x) rfl ON.kk ON.tt ON.nn⟩⟩,fun h=>(hL 0).2 (((hL 1).1 h).elim (fun e=>absurd e aF) (fun q=>.inr (LI q))),fun h=>(hL 1).2 (((hL 2).1 h).elim (fun e=>absurd e aF) (fun q=>.inr (KC q))),fun h=>(hL 3).2 (((hL 4).1 h).elim (fun e=>absurd e aF) (fun q=>.inr (LJ q))),fun h=>(hL 4).2 (((hL 5).1 h).elim (fun e=>absurd e aF) (fun q=>.inr (KH q))),fun _=>(hL 6).2 (.inr l6),fun _=>(hL 2).2 (.inr l2),fun h=>(hL 8).2 (((hL 9).1 h).elim (fun e=>absurd e aF) (fun q=>.inr (LQ q))),fun h=>(hL 5).2 (((hL 9).1 h).elim (fun e=>absurd e aF) (fun q=>.inr (JY q))),fun h=>(hL 7).2 (((hL 9).1 h).elim (fun e=>absurd e aF) (fun q=>.inr (JO q))),fun h=>absurd (JO (((hL 9).1 h).resolve_left aF)) FY⟩
           | 8,ho =>
            simp only [iU] at ho
            have WK:¬ L 9:=fun h=>FY (LQ h)
            obtain ⟨hJ,hA⟩:=hj WK;have HJ:=DX hJ;clear hJ hj;have KA:=DX hA;clear hA;subst ho
            refine Pj.Za.free rfl ?_
            simp only [Pj.Zb,dO,Act.put];go_simp;exact IH _ _ ⟨Pj.Yz V 8 (.pointer (some ⟨wo.heap.size+1,3,none⟩)),by simp only [Pj.Zb,dO,Act.put,Pj.Yz,Nat.reduceEqDiff,if_true,if_false],fun _=>⟨HJ.out.flat HP.out hL (HJ.out.kp.trans (EX _)) (EZ (EX _)) (rfl),⟨fun h=>(KA.out.1 (fun q=>h ((hL 7).2 (.inr q)))).kept (EX _),fun h=>(KA.out.2 (((hL 7).1 h).resolve_left aF)).kept (EX _)⟩⟩,fun h=>(hL 0).2 (((hL 1).1 h).elim (fun e=>absurd e aF) (fun q=>.inr (LI q))),fun h=>(hL 1).2 (((hL 2).1 h).elim (fun e=>absurd e aF) (fun q=>.inr (KC q))),fun h=>(hL 3).2 (((hL 4).1 h).elim (fun e=>absurd e aF) (fun q=>.inr (LJ q))),fun h=>(hL 4).2 (((hL 5).1 h).elim (fun e=>absurd e aF) (fun q=>.inr (KH q))),fun h=>(hL 6).2 (((hL 7).1 h).elim (fun e=>absurd e aF) (fun q=>.inr (LK q))),fun h=>(hL 2).2 (((hL 7).1 h).elim (fun e=>absurd e aF) (fun q=>.inr (JX q))),fun h=>(hL 8).2 (((hL 9).1 h).elim (fun e=>absurd e aF) (fun q=>.inr (LQ q))),fun h=>(hL 5).2 (((hL 9).1 h).elim (fun e=>absurd e aF) (fun q=>.inr (JY q))),fun h=>(hL 7).2 (((hL 9).1 h).elim (fun e=>absurd e aF) (fun q=>.inr (JO q))),fun h=>absurd (LQ (((hL 9).1 h).resolve_left aF)) FY⟩
           | 9,ho =>
            simp only [iU] at ho;obtain ⟨hJ,hA⟩:=hj FY;have l8:=FZ 8 (by rw [<- ho];kernel_rfl)
            have e8:V 8=.pointer (some ⟨wo.heap.size+1,3,none⟩):=hJ.h 8 l8
            have l5:=FZ 5 (by rw [<- ho];kernel_rfl)
            have e5:V 5=.int .i64 y:=hJ.h 5 l5
            have l7:=FZ 7 (by rw [<- ho];kernel_rfl);have ON:=hA.2 l7;have f9:=ON.ho.free 3;obtain ⟨b0,b1,b2,b3,b4,b5,b6⟩:=cX ON.ho;have HJ:=DX hJ;clear hJ hj;have KA:=DX hA;clear hA;subst ho
            refine Pj.Za.free rfl ?_
            simp only [Pj.Zb,dO,Act.put,e8,e5];go_simp;exact IH _ _ ⟨Pj.Yz V 9 (undef),by simp only [Pj.Zb,dO,Act.put,Pj.Yz,Nat.reduceEqDiff,if_false,e8,e5],fun h=>absurd ((hL 9).2 (.inl rfl)) h,fun h=>(hL 0).2 (((hL 1).1 h).elim (fun e=>absurd e aF) (fun q=>.inr (LI q))),fun h=>(hL 1).2 (((hL 2).1 h).elim (fun e=>absurd e aF) (fun q=>.inr (KC q))),fun h=>(hL 3).2 (((hL 4).1 h).elim (fun e=>absurd e aF) (fun q=>.inr (LJ q))),fun h=>(hL 4).2 (((hL 5).1 h).elim (fun e=>absurd e aF) (fun q=>.inr (KH q))),fun h=>(hL 6).2 (((hL 7).1 h).elim (fun e=>absurd e aF) (fun q=>.inr (LK q))),fun h=>(hL 2).2 (((hL 7).1 h).elim (fun e=>absurd e aF) (fun q=>.inr (JX q))),fun _=>(hL 8).2 (.inr l8),fun _=>(hL 5).2 (.inr l5),fun _=>(hL 7).2 (.inr l7),fun _=>⟨⟨o4.k,o4.id,x,y,o4.name,o4.d,o4.t⟩,ON.setc aE 3 (.int .i64 y) rfl ON.kk ON.tt ON.nn⟩⟩
           | n+10,ho=>simp at ho
          case ehe =>
           rintro L az w ⟨V,rfl,hj,LI,KC,LJ,KH,LK,JX,LQ,JY,JO,hf⟩ GH;obtain ⟨o9,ha9⟩:=hf (GH 9 aF);clear hj hf GH LI KC LJ KH LK JX LQ JY JO;have HA9:=DX ha9;clear ha9;simp only [Pj.Zb,dO,Act.put];go_wp2_with fail;go_meet;exact ⟨_,HA9.out⟩
        case rest =>
         obtain ⟨o5,ZS⟩:=hcut;replace ZS:=DX ZS
         rename World=>wv5
         obtain ⟨r0,r1,r2,r3⟩:=aI ZS.out.hb;obtain ⟨b0,b1,b2,b3,b4,b5,b6⟩:=cX ZS.out.ho;go_wp2_with (refine aD rfl 35 (.tmp 6) (.tmp 116) rfl (wo.heap.size+1+1) (LO o5.k o5.id o5.n o5.m o5.name o5.d o5.t) #[.int .i64 0,.int .i64 0,.int .i64 0,.int .i64 0,.string { data:=#[] },.string { data:=#[] },.string { data:=#[] }] 35 rfl rfl ZS.out.hr HI7.out rfl (by simp [Value.oneCell']) ?_)
         refine EI (v:=.agg (LO o5.k o5.id o5.n o5.m o5.name o5.d o5.t)) ?_ rfl ⟨o5,rfl,ZS.out.nn,ZS.out.tt.trans HT0.out,ZS.out.kk.trans QT.out,FC ZS.out.kp aE _⟩
         exact EH rfl _ _ (wo.heap.size+1+1) 35 (LO o5.k o5.id o5.n o5.m o5.name o5.d o5.t) (0,0) _ rfl (ZS.out.hr.setRow _) Tryz.underlying35 rfl HI7.out
end Go.Proofs.YtkfmladhicapeaaGreatDoor
