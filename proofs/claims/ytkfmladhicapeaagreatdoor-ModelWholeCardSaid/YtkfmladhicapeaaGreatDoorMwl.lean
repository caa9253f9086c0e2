/- The law ModelWhole (conditions: the tables lie as they are laid). -/
import Derived.Test.YtkfmladhicapeaaGreatDoorY46
set_option maxRecDepth 100000
set_option maxHeartbeats 16000000
namespace Go.Proofs.YtkfmladhicapeaaGreatDoor
open Go.RowKit Go.Shelf
attribute [local go_sem] Oper.semAt_some
def RdS (wo:World) (ts:List Th) (gs:List Tg) (ss:List Se) (x1 x2 x3:Option Addr) (y1 y2 y3:Nat) (w:World):Prop :=
 (bO wo x1 ts.length ts/\cJ wo x2 gs.length gs/\cP wo x3 ss.length ss)\/lZ wo.heap.size ts gs ss x1 x2 x3 y1 y2 y3 w
theorem RdS.kept {wo:World} {ts:List Th} {gs:List Tg} {ss:List Se} {x1 x2 x3:Option Addr} {y1 y2 y3:Nat} {w w':World} (h:RdS wo ts gs ss x1 x2 x3 y1 y2 y3 w) (k:aB w w'):RdS wo ts gs ss x1 x2 x3 y1 y2 y3 w':=by
 rcases h with h | h
 . exact .inl h
 . exact .inr (h.kept k)
theorem RdS.ins {wo:World} {ts:List Th} {gs:List Tg} {ss:List Se} {nx:Int} {x1 x2 x3:Option Addr} {y1 y2 y3:Nat} {w:World} (h:RdS wo ts gs ss x1 x2 x3 y1 y2 y3 w) (k:aB wo w) (GL:dP ⟨ts,gs,ss,nx⟩=true):bO w x1 ts.length ts/\cJ w x2 gs.length gs/\cP w x3 ss.length ss:=by
 rcases h with h | h
 . exact ⟨h.1.kept k,h.2.1.kept k,h.2.2.kept k⟩
 . exact Dv h GL
theorem doF_sw (s:dN):dK s ⟨12,0,0,0,⟨#[]⟩,⟨#[]⟩,⟨#[]⟩⟩=nE s:=by unfold dK;simp
theorem sw_twice {s:dN} (h:dP s=true):nE (nE s).1=((nE s).1,dY 0):=by
 have e:=sweep_again h
 have e2:(nE s).1.ts=qO s:=rfl
 show (({ (nE s).1 with ts:=qO (nE s).1 }:dN),dY (((nE s).1.ts.length - (qO (nE s).1).length:Nat):Int))=_
 rw [e,e2,Nat.sub_self];rfl
theorem sw_le (s:dN):(qO s).length<=s.ts.length:=List.length_filter_le _ _
theorem model_whole (aT aG aS aO:Option Addr) (cT cG cS cO:Nat) (ts:List Th) (gs:List Tg) (ss:List Se) (nx:Int) (os:List fV) (wo:World) (hT:bO wo aT ts.length ts) (hG:cJ wo aG gs.length gs) (hS:cP wo aS ss.length ss) (hO:iG wo aO os.length os) (hE:uR wo) :
 Calls Tryz.prog 8 #[.agg (L5 aT ts.length cT aG gs.length cG aS ss.length cS nx aO os.length cO)] wo fun e w'=>e=.returned (.bool true)/\aB wo w':=by
 have HE:=DX hE;have OK:=DX hO;have HWK:=DX (fun w9 (k:aB wo w9)=>At w9 (hE.kept k));have HHV:=DX (fun w9 (k:aB wo w9)=>Bo aT aG aS aO cT cG cS cO ts gs ss nx os w9 (hT.kept k) (hG.kept k) (hS.kept k) (hO.kept k));have HS0:=DX (fun (bd:Bd ts gs ss) w9 (k:aB wo w9)=>jM aT aG aS cT cG cS ts gs ss nx w9 (hT.kept k) (hG.kept k) (hS.kept k) (fun x hx=>by have:=bd.n x hx;omega));have HRD:=DX (fun w9=>show RdS wo ts gs ss aT aG aS cT cG cS w9 from .inl ⟨hT,hG,hS⟩);clear hT hG hS hO hE;have HB:=DX (EY wo (L5 aT ts.length cT aG gs.length cG aS ss.length cS nx aO os.length cO) 29);have HK:=DX ((EX wo).alloc (.cells (L5 aT ts.length cT aG gs.length cG aS ss.length cS nx aO os.length cO) 29));go_enter Tryz.func8,Tryz.ntmps8
 go_upto_region 1 with (fail)
 generalize wo.alloc (.cells (L5 aT ts.length cT aG gs.length cG aS ss.length cS nx aO os.length cO) 29)=w1 at *;obtain ⟨r0,r1,r2,r3,r4⟩:=vD HB.out;go_wp2_with fail
 refine (HHV.out w1 HK.out).mono ?_
 rintro e w2 ⟨H,rfl,hH,FX⟩;have HH:=DX hH;have FW:=DX (HK.out.trans FX);have GP:=DX (HB.out.kept FX);clear hH FX r0 r1 r2 r3 r4 HHV HK HB
 cases H with
 | true =>
  go_wp2_with fail;go_ret;exact ⟨rfl,FW.out⟩
 | false =>
  obtain ⟨JL,hbo⟩:=HH.out rfl;have HBO:=DX hbo;have hbo1:=hbo.1;have HS1:=DX (HS0.out JL);clear HH hbo JL HS0;obtain ⟨r0,r1,r2,r3,r4⟩:=vD GP.out;go_wp2_with fail
  refine (HS1.out w2 FW.out).mono ?_
  rintro e w3 ⟨rfl,IK⟩;have GC:=DX (FW.out.trans IK);have IU:=DX (GP.out.kept IK);clear IK r0 r1 r2 r3 r4 HS1 GP FW
  cases GL:dP ⟨ts,gs,ss,nx⟩ with
  | false =>
   go_wp2_with fail;go_ret;exact ⟨rfl,GC.out⟩
  | true =>
   have HSTB:=DX GL;clear GL;obtain ⟨r0,r1,r2,r3,r4⟩:=vD IU.out
   go_upto_region 4 with (fail)
   have ka:=(EX w3).alloc ((KS aT ts.length cT aG gs.length cG aS ss.length cS nx))
   have HP:=DX (EY w3 (LS aT ts.length cT aG gs.length cG aS ss.length cS nx) 26);have GQ:=DX (GC.out.trans ka);have KY:=DX (IU.out.kept ka);have hp3:wo.heap.size<w3.heap.size:=IU.out.lt;clear ka GC IU r0 r1 r2 r3 r4;generalize w3.alloc ((KS aT ts.length cT aG gs.length cG aS ss.length cS nx))=w4 at *;generalize w3.heap.size=p at *
   go_upto_region 5 with (fail)
   go_loopw [4] (fun kv wr=>∃ (k:Nat) (us:List Th) (hs:List Tg) (vs:List Se) (mx:Int) (z1 z2 z3:Option Addr) (t1 t2 t3:Nat),k<=os.length/\k<=12/\kv=.int .i64 k/\Hid (aA wr p (LS z1 us.length t1 z2 hs.length t2 z3 vs.length t3 mx) 26)/\Hid (RdS wo us hs vs z1 z2 z3 t1 t2 t3 wr)/\Hid (dP ⟨us,hs,vs,mx⟩=true)/\Hid (aB wo wr)/\Hid (aA wr wo.heap.size (L5 aT ts.length cT aG gs.length cG aS ss.length cS nx aO os.length cO) 29)) (fun kv _=>os.length - (intOf kv).toNat)
   case atStart=>exact ⟨0,ts,gs,ss,nx,aT,aG,aS,cT,cG,cS,by omega,by omega,rfl,HP,DX (HRD.out _),HSTB,GQ,KY⟩
   case round =>
    clear HP HRD HSTB GQ KY
    rename World=>wr
    obtain ⟨k,us,hs,vs,mx,z1,z2,z3,t1,t2,t3,hk,SG,rfl,HP,HRD,HSTB,IA,HBR⟩:=hrel;obtain ⟨r0,r1,r2,r3,r4⟩:=vD HBR.out
    by_cases IE:k<os.length/\k<12
    . obtain ⟨IE,hl12⟩:=IE
      have GU:decide (k<os.length)=true:=DZ IE;have KG:decide ((k:Int)<(os.length:Int))=true:=DZ (by omega);have JH:decide ((k:Int)<12)=true:=DZ (by omega);have hd2n:decide (k<12)=true:=DZ hl12;have HNB:=DX (HBO.out.2 k IE)
      have HTB:=DX (OK.out.size k IE).2.2
      obtain ⟨bo,of,rfl,JC⟩:=OK.out.at (by omega);have HCT:=DX (fun w9 (q:aB wr w9)=>JC k IE w9 (IA.out.trans q));clear JC;generalize os.getD k jA=o at *;have VL:=DX (Tl HSTB.out);have IJ:=DX (fun w9 (q:aB wr w9)=>(HRD.out.kept q).ins (IA.out.trans q) HSTB.out);have HAM:=DX (fun w9 (q:aB wr w9)=>Fu z1 z2 z3 t1 t2 t3 us hs vs mx o k w9 (IJ.out w9 q).1 (IJ.out w9 q).2.1 (IJ.out w9 q).2.2 VL.out (by have:=HNB.out;omega) (by omega))
      go_upto_region 7 with (fail)
      clear r0 r1 r2 r3 r4;have HPQ:=HP
      refine Pj.Zj 9 (fun az0 L az w=>∃ V:Nat->Value,az=Pj.Zb [(36,0),(37,1),(38,2),(39,3),(40,4),(41,5),(42,6),(43,7),(5,8)] V az0/\Pj.J wr [Pj.Is (.agg (LS z1 us.length t1 z2 hs.length t2 z3 vs.length t3 mx)),Pj.Is (.pointer (some ⟨wo.heap.size,4,none⟩)),Pj.Is (.slice (some ⟨bo,of,none⟩) os.length cO),Pj.Is (.int .i64 k),Pj.Is (.pointer (some ⟨bo,of+k*7,none⟩)),Pj.Is (.agg (LO o.k o.id o.n o.m o.name o.d o.t)),Pj.Is (.int .i64 k),(fun _ v=>∃ o':fV,v=.agg (LO o'.k o'.id o'.n o'.m o'.name o'.d o'.t)/\o'.name.size<=1000000/\o'.t=o.t),(fun _ _=>True),(fun _ _=>True)] L V w/\(L 8->∃ b,V 8=.pointer (some ⟨b,0,none⟩)/\wr.heap.size<=b/\aA w b #[.int .i64 0,.int .i64 0,.int .i64 0,.int .i64 0,.string { data:=#[] },.string { data:=#[] },.string { data:=#[] }] 35)) (fun az0 az w=>∃ V:Nat->Value,az=Pj.Zb [(36,0),(37,1),(38,2),(39,3),(40,4),(41,5),(42,6),(43,7),(5,8)] V az0/\(∃ (o':fV) (b:Nat),V 8=.pointer (some ⟨b,0,none⟩)/\aA w b (LO o'.k o'.id o'.n o'.m o'.name o'.d o'.t) 35/\o'.name.size<=1000000/\o'.t=o.t/\aB wr w)) (by as_aux_lemma=>kernel_rfl) (by as_aux_lemma=>kernel_rfl) (by as_aux_lemma=>kernel_rfl) ?eh0 ?ehs ?ehe
      case eh0 =>
       intro L hL;exact ⟨_,Pj.Zi _ (fun j=>([36,37,38,39,40,41,42,43,5,0]:List Nat).getD j 0) [0,1,2,3,4,5,6,7,8],Pj.J.none (n:=10) (EA _) hL ((EX _).drew),fun h=>absurd h (hL 8 (by decide))⟩
      case ehs =>
       rintro L L' az w iz opz Kq ⟨V,rfl,hJ,hS⟩ ho FY FZ hL IH hKz GH;have HP:=DX (show Pj.Zh [Pj.Is (.agg (LS z1 us.length t1 z2 hs.length t2 z3 vs.length t3 mx)),Pj.Is (.pointer (some ⟨wo.heap.size,4,none⟩)),Pj.Is (.slice (some ⟨bo,of,none⟩) os.length cO),Pj.Is (.int .i64 k),Pj.Is (.pointer (some ⟨bo,of+k*7,none⟩)),Pj.Is (.agg (LO o.k o.id o.n o.m o.name o.d o.t)),Pj.Is (.int .i64 k),(fun _ v=>∃ o':fV,v=.agg (LO o'.k o'.id o'.n o'.m o'.name o'.d o'.t)/\o'.name.size<=1000000/\o'.t=o.t),(fun _ _=>True),(fun _ _=>True)] from ⟨Pj.Is.flat _,Pj.Is.flat _,Pj.Is.flat _,Pj.Is.flat _,Pj.Is.flat _,Pj.Is.flat _,Pj.Is.flat _,(fun _ _ _ h _=>h),(fun _ _ _ _ _=>trivial),(fun _ _ _ _ _=>trivial),trivial⟩);have HJ:=DX hJ;have II:=DX hS;clear hJ hS
       match iz,ho with
       | 0,ho =>
        obtain rfl:=EB ho;obtain ⟨d0,d1,d2,d3⟩:=aI (HPQ.out.kept HJ.out.kp)
        refine Pj.Za.free rfl ?_
        simp only [Pj.PU,Act.put];go_simp;exact IH (by decide) _ _ ⟨Pj.Yz V 0 (.agg (LS z1 us.length t1 z2 hs.length t2 z3 vs.length t3 mx)),by simp only [Pj.PU,Act.put,Pj.Yz,Nat.reduceEqDiff,if_true,if_false],HJ.out.flat HP.out hL (HJ.out.kp.trans (EX _)) (EZ (EX _)) (rfl),fun h=>by obtain ⟨b,e1,e2,e3⟩:=II.out (((hL 8).1 h).resolve_left (by decide));exact ⟨b,(Pj.Yy _ _ (by decide)).trans e1,e2,e3.kept (EX _)⟩⟩
       | 1,ho =>
        obtain rfl:=EB ho
        refine Pj.Za.free rfl ?_
        simp only [Pj.PU,Act.put];go_simp;exact IH (by decide) _ _ ⟨Pj.Yz V 1 (.pointer (some ⟨wo.heap.size,4,none⟩)),by simp only [Pj.PU,Act.put,Pj.Yz,Nat.reduceEqDiff,if_true,if_false],HJ.out.flat HP.out hL (HJ.out.kp.trans (EX _)) (EZ (EX _)) (rfl),fun h=>by obtain ⟨b,e1,e2,e3⟩:=II.out (((hL 8).1 h).resolve_left (by decide));exact ⟨b,(Pj.Yy _ _ (by decide)).trans e1,e2,e3.kept (EX _)⟩⟩
       | 2,ho =>
        obtain rfl:=EB ho;have l1:=FZ 1 (by kernel_rfl)
        have e1:V 1=.pointer (some ⟨wo.heap.size,4,none⟩):=HJ.out.h 1 l1
        obtain ⟨r0,r1,r2,r3,r4⟩:=vD (HBR.out.kept HJ.out.kp)
        refine Pj.Za.free rfl ?_
        simp only [Pj.PU,Act.put,e1];go_simp;exact IH (by decide) _ _ ⟨Pj.Yz V 2 (.slice (some ⟨bo,of,none⟩) os.length cO),by simp only [Pj.PU,Act.put,Pj.Yz,Nat.reduceEqDiff,if_true,if_false,e1],HJ.out.flat HP.out hL (HJ.out.kp.trans (EX _)) (EZ (EX _)) (rfl),fun h=>by obtain ⟨b,e1,e2,e3⟩:=II.out (((hL 8).1 h).resolve_left (by decide));exact ⟨b,(Pj.Yy _ _ (by decide)).trans e1,e2,e3.kept (EX _)⟩⟩
       | 3,ho =>
        obtain rfl:=EB ho
        refine Pj.Za.free rfl ?_
        simp only [Pj.PU,Act.put];go_simp;exact IH (by decide) _ _ ⟨Pj.Yz V 3 (.int .i64 k),by simp only [Pj.PU,Act.put,Pj.Yz,Nat.reduceEqDiff,if_true,if_false],HJ.out.flat HP.out hL (HJ.out.kp.trans (EX _)) (EZ (EX _)) (rfl),fun h=>by obtain ⟨b,e1,e2,e3⟩:=II.out (((hL 8).1 h).resolve_left (by decide));exact ⟨b,(Pj.Yy _ _ (by decide)).trans e1,e2,e3.kept (EX _)⟩⟩
       | 4,ho =>
        obtain rfl:=EB ho;have l2:=FZ 2 (by kernel_rfl)
        have e2:V 2=.slice (some ⟨bo,of,none⟩) os.length cO:=HJ.out.h 2 l2
        have l3:=FZ 3 (by kernel_rfl)
        have e3:V 3=.int .i64 k:=HJ.out.h 3 l3
        refine Pj.Za.free rfl ?_
        simp only [Pj.PU,Act.put,e2,e3];go_simp;exact IH (by decide) _ _ ⟨Pj.Yz V 4 (.pointer (some ⟨bo,of+k*7,none⟩)),by simp only [Pj.PU,Act.put,Pj.Yz,Nat.reduceEqDiff,if_true,if_false,e2,e3],HJ.out.flat HP.out hL (HJ.out.kp.trans (EX _)) (EZ (EX _)) (rfl),fun h=>by obtain ⟨b,e1,e2,e3⟩:=II.out (((hL 8).1 h).resolve_left (by decide));exact ⟨b,(Pj.Yy _ _ (by decide)).trans e1,e2,e3.kept (EX _)⟩⟩
       | 5,ho =>
        obtain rfl:=EB ho;have l4:=FZ 4 (by kernel_rfl)
        have e4:V 4=.pointer (some ⟨bo,of+k*7,none⟩):=HJ.out.h 4 l4
        obtain ⟨c0,c1,c2,c3,c4,c5,c6⟩:=HCT.out w HJ.out.kp
        refine Pj.Za.free rfl ?_
        simp only [Pj.PU,Act.put,e4];go_simp;exact IH (by decide) _ _ ⟨Pj.Yz V 5 (.agg (LO o.k o.id o.n o.m o.name o.d o.t)),by simp only [Pj.PU,Act.put,Pj.Yz,Nat.reduceEqDiff,if_true,if_false,e4],HJ.out.flat HP.out hL (HJ.out.kp.trans (EX _)) (EZ (EX _)) (rfl),fun h=>by obtain ⟨b,e1,e2,e3⟩:=II.out (((hL 8).1 h).resolve_left (by decide));exact ⟨b,(Pj.Yy _ _ (by decide)).trans e1,e2,e3.kept (EX _)⟩⟩
       | 6,ho =>
        obtain rfl:=EB ho
        refine Pj.Za.free rfl ?_
        simp only [Pj.PU,Act.put];go_simp;exact IH (by decide) _ _ ⟨Pj.Yz V 6 (.int .i64 k),by simp only [Pj.PU,Act.put,Pj.Yz,Nat.reduceEqDiff,if_true,if_false],HJ.out.flat HP.out hL (HJ.out.kp.trans (EX _)) (EZ (EX _)) (rfl),fun h=>by obtain ⟨b,e1,e2,e3⟩:=II.out (((hL 8).1 h).resolve_left (by decide));exact ⟨b,(Pj.Yy _ _ (by decide)).trans e1,e2,e3.kept (EX _)⟩⟩
       | 7,ho =>
        obtain rfl:=EB ho;have l0:=FZ 0 (by kernel_rfl)
        have e0:V 0=.agg (LS z1 us.length t1 z2 hs.length t2 z3 vs.length t3 mx):=HJ.out.h 0 l0
        have l5:=FZ 5 (by kernel_rfl)
        have e5:V 5=.agg (LO o.k o.id o.n o.m o.name o.d o.t):=HJ.out.h 5 l5
        have l6:=FZ 6 (by kernel_rfl)
        have e6:V 6=.int .i64 k:=HJ.out.h 6 l6
        have ham:=HAM.out w HJ.out.kp
        refine Pj.Za.free rfl ?_
        simp only [Pj.PU,Act.put,e0,e5,e6];go_simp
        refine ham.mono ?_
        rintro e9 w9 ⟨o',rfl,h1,h2,_,GF⟩;dsimp only;exact IH (by decide) _ _ ⟨Pj.Yz V 7 (.agg (LO o'.k o'.id o'.n o'.m o'.name o'.d o'.t)),by simp only [Pj.PU,Act.put,Pj.Yz,Nat.reduceEqDiff,if_true,if_false,e0,e5,e6],HJ.out.flat HP.out hL (HJ.out.kp.trans (GF)) (EZ (GF)) (⟨_,rfl,h1,h2⟩),fun h=>by obtain ⟨b,e1,e2,e3⟩:=II.out (((hL 8).1 h).resolve_left (by decide));exact ⟨b,(Pj.Yy _ _ (by decide)).trans e1,e2,e3.kept (GF)⟩⟩
       | 8,ho =>
        simp only [iU] at ho;subst ho
        refine Pj.Za.free rfl ?_
        simp only [Pj.PU,Act.put]
        refine Pj.Zu 35 rfl #[.int .i64 0,.int .i64 0,.int .i64 0,.int .i64 0,.string { data:=#[] },.string { data:=#[] },.string { data:=#[] }] (by kernel_rfl) ?_
        simp only [dO,Act.put];exact IH (by decide) _ _ ⟨Pj.Yz V 8 (.pointer (some ⟨w.heap.size,0,none⟩)),by simp only [Pj.PU,Act.put,Pj.Yz,Nat.reduceEqDiff,if_true,if_false],HJ.out.flat HP.out hL (HJ.out.kp.trans ((EX _).alloc _)) (EZ ((EX _).alloc _)) (trivial),fun _=>⟨w.heap.size,Pj.Zc _ _ _,HJ.out.kp.size,EY _ _ _⟩⟩
       | 9,ho =>
        simp only [iU] at ho;subst ho;have l8:=FZ 8 (by kernel_rfl);have l7:=FZ 7 (by kernel_rfl);obtain ⟨o',e7,hn8,ht8⟩:=HJ.out.h 7 l7;obtain ⟨bb,e8,KW,e8b⟩:=II.out l8
        refine Pj.Za.free rfl ?_
        simp only [Pj.PU,Act.put,e7,e8]
        refine Pj.Zf 35 _ _ rfl bb (LO o'.k o'.id o'.n o'.m o'.name o'.d o'.t) #[.int .i64 0,.int .i64 0,.int .i64 0,.int .i64 0,.string { data:=#[] },.string { data:=#[] },.string { data:=#[] }] 35 rfl rfl e8b (by kernel_rfl) rfl (by simp [Value.oneCell']) ?_
        simp only [Act.put];exact hKz rfl _ _ ⟨Pj.Yz V 9 (undef),by simp only [Pj.PU,Act.put,Pj.Yz,Nat.reduceEqDiff,if_false,e7,e8],⟨o',bb,(Pj.Yy _ _ (by decide)).trans e8,aA.setRow e8b _,hn8,ht8,FC HJ.out.kp KW _⟩⟩
       | n+10,ho=>simp at ho
      case ehe =>
       rintro az w ⟨V,rfl,hf⟩;obtain ⟨o',b,e8,VD,hn8,ht8,hkj⟩:=hf;have HOB:=DX VD;have HN8:=DX hn8;have HT8:=DX ht8;have HKJ:=DX hkj;clear VD hn8 ht8 hkj;simp only [Pj.Zb,dO,Act.put,e8];clear e8
       rename World=>w8
       have HP8:=DX (HP.out.kept HKJ.out);have HB8:=DX (HBR.out.kept HKJ.out);have HK8:=DX (IA.out.trans HKJ.out);have HR8:=DX (HRD.out.kept HKJ.out);clear HP HBR IA HRD HAM IJ HKJ HPQ HCT;obtain ⟨b0,b1,b2,b3,b4,b5,b6⟩:=cX HOB.out;go_wp2_with fail
       refine (Mg o' w8).mono ?_
       rintro e w9 ⟨rfl,GF⟩;have HP9:=DX (HP8.out.kept GF);have HB9:=DX (HB8.out.kept GF);have JQ:=DX (HK8.out.trans GF);have JM:=DX (HR8.out.kept GF);have XQ:=DX (HOB.out.kept GF);clear GF b0 b1 b2 b3 b4 b5 b6 HP8 HB8 HK8 HR8 HOB
       cases ZO:decide (1<=o'.k/\o'.k<=13) with
       | false =>
        go_wp2_with fail;go_roundw
        case rel=>exact ⟨k+1,us,hs,vs,mx,z1,z2,z3,t1,t2,t3,by omega,by omega,by go_num,HP9,JM,HSTB,JQ,HB9⟩
        case measure=>simp [intOf];omega
       | true =>
        have hkk:=of_decide_eq_true ZO;have IJ:=DX (JM.out.ins JQ.out HSTB.out)
        obtain ⟨XX,GR⟩:∃ XX,XX=dK ⟨us,hs,vs,mx⟩ o':=⟨_,rfl⟩
        have VQ:=DX (zW z1 z2 z3 t1 t2 t3 us hs vs mx o' w9 IJ.out.1 IJ.out.2.1 IJ.out.2.2 (fun x hx=>by have:=VL.out.n x hx;omega) (HE.out.kept JQ.out) (by rw [HT8.out];exact HTB.out) HN8.out HSTB.out hkk XX GR);have HX:=DX (show dP XX.1=true by rw [GR];exact Ue HSTB.out o');have HER:=DX (show XX.2.e≠0->XX.1=⟨us,hs,vs,mx⟩ by rw [GR];exact fun h=>(Lm ⟨us,hs,vs,mx⟩ o' h).1);clear GR hkk ZO;obtain ⟨⟨ua,ga,sa,ma⟩,⟨rn,rt,re⟩⟩:=XX;replace HX:=DX (show dP ⟨ua,ga,sa,ma⟩=true from HX.out);replace HER:=DX (show re≠0->(⟨ua,ga,sa,ma⟩:dN)=⟨us,hs,vs,mx⟩ from HER.out);obtain ⟨q0,q1,q2,q3⟩:=aI HP9.out;obtain ⟨b0,b1,b2,b3,b4,b5,b6⟩:=cX XQ.out;go_wp2_with fail
        refine VQ.out.mono ?_
        rintro e w10 ⟨⟨x1,y1,x2,y2,x3,y3,he,LD⟩,MJ⟩
        have he2:e=.returned (.tuple #[.agg (LS x1 ua.length y1 x2 ga.length y2 x3 sa.length y3 ma),.agg (LP rn rt re),.int .i64 0]):=he
        subst he2;clear he q0 q1 q2 q3 b0 b1 b2 b3 b4 b5 b6 VQ;have KV:=DX (show lZ wo.heap.size ua ga sa x1 x2 x3 y1 y2 y3 w10 from LD.base JQ.out.size);have HK10:=DX (JQ.out.trans MJ);have HP10:=DX (HP9.out.kept MJ);have HB10:=DX (HB9.out.kept MJ);have HR10:=DX (JM.out.kept MJ);clear LD MJ JQ HP9 HB9 JM XQ IJ
        go_upto_region 10 with (fail)
        have hpq:p<w10.heap.size:=HP10.out.lt
        have k1:=(EX w10).alloc ((KS x1 ua.length y1 x2 ga.length y2 x3 sa.length y3 ma))
        have k2:=(EX (w10.alloc ((KS x1 ua.length y1 x2 ga.length y2 x3 sa.length y3 ma)))).alloc ((KP rn rt re))
        have k3:=k1.trans k2;have HX1:=DX ((EY w10 (LS x1 ua.length y1 x2 ga.length y2 x3 sa.length y3 ma) 26).kept k2);have HY1:=DX (FB w10 (LP rn rt re) 47 ((KS x1 ua.length y1 x2 ga.length y2 x3 sa.length y3 ma)));have HK11:=DX (HK10.out.trans k3);have HP11:=DX (HP10.out.kept k3);have HB11:=DX (HB10.out.kept k3);have HR11:=DX (HR10.out.kept k3);have HOW1:=DX (KV.out.kept k3);clear k1 k2 k3 HK10 HP10 HB10 HR10 KV
        generalize (w10.alloc ((KS x1 ua.length y1 x2 ga.length y2 x3 sa.length y3 ma))).alloc ((KP rn rt re))=w11 at *
        generalize w10.heap.size=gq1 at *;have HINX:=DX (fun w9 (q:aB w11 w9)=>Dv (HOW1.out.kept q) HX.out);have HSX:=DX (fun w9 (q:aB w11 w9)=>show Calls Tryz.prog 27 #[.agg (LS x1 ua.length y1 x2 ga.length y2 x3 sa.length y3 ma)] w9 fun e w'=>e=.returned (.bool true)/\aB w9 w' by have h:=jM x1 x2 x3 y1 y2 y3 ua ga sa ma w9 (HINX.out w9 q).1 (HINX.out w9 q).2.1 (HINX.out w9 q).2.2 (fun x hx=>by have:=(Tl HX.out).n x hx;omega);rw [HX.out] at h;exact h);have XM:=DX (fun (h0:re≠0) w9 (q:aB w11 w9)=>show Calls Tryz.prog 30 #[.agg (LS x1 ua.length y1 x2 ga.length y2 x3 sa.length y3 ma),.agg (LS z1 us.length t1 z2 hs.length t2 z3 vs.length t3 mx)] w9 fun e w'=>e=.returned (.bool true)/\aB w9 w' by have h:=HER.out h0;have e1:us=ua:=(congrArg dN.ts h).symm;have e2:hs=ga:=(congrArg dN.gs h).symm;have e3:vs=sa:=(congrArg dN.ss h).symm;have e4:mx=ma:=(congrArg dN.nx h).symm;have z:=(HR11.out.kept q).ins (HK11.out.trans q) HSTB.out;rw [e1,e2,e3] at z;rw [e1,e2,e3,e4];exact iP x1 x2 x3 z1 z2 z3 y1 y2 y3 t1 t2 t3 ua ga sa ma w9 (HINX.out w9 q).1 (HINX.out w9 q).2.1 (HINX.out w9 q).2.2 z.1 z.2.1 z.2.2);go_cut [72] (fun t wx=>t=.bool false/\Hid (aB w11 wx))
        case first =>
         obtain ⟨q0,q1,q2,q3⟩:=aI HX1.out;obtain ⟨d0,d1,d2⟩:=dI HY1.out;go_wp2_with fail
         refine (fP _ _).mono ?_
         rintro e w' ⟨rfl,rfl⟩;go_wp2_with fail
         refine (HSX.out _ (EX _)).mono ?_
         rintro e w12 ⟨rfl,hk12x⟩;have HK12:=DX hk12x;have HP12:=DX (HP11.out.kept hk12x);have HX12:=DX (HX1.out.kept hk12x);have HY12:=DX (HY1.out.kept hk12x);clear hk12x q0 q1 q2 q3 d0 d1 d2;obtain ⟨q0,q1,q2,q3⟩:=aI HX12.out;obtain ⟨d0,d1,d2⟩:=dI HY12.out;obtain ⟨s0,s1,s2,s3⟩:=aI HP12.out
         by_cases h0:re=0
         . subst h0
           go_wp2_with fail;go_meet;exact ⟨rfl,HK12⟩
         . have h0b:(re != 0)=true:=by simpa using h0
           go_wp2_with fail
           refine (XM.out h0 w12 HK12.out).mono ?_
           rintro e w13 ⟨rfl,hk13⟩;have HK13:=DX (HK12.out.trans hk13);clear hk13;go_wp2_with fail;go_meet;exact ⟨rfl,HK13⟩
        case rest =>
         obtain ⟨rfl,HK12⟩:=hcut
         rename World=>w12
         clear XM HSX HER HSTB HR11 VL;have HX2:=DX (HX1.out.kept HK12.out);have HKw:=DX (HK11.out.trans HK12.out);have HP12:=DX (HP11.out.kept HK12.out);have HB12:=DX (HB11.out.kept HK12.out);have HOW2:=DX (HOW1.out.kept HK12.out);clear HX1 HY1 HK11 HP11 HB11 HOW1 HINX HK12;have HIN2:=DX (Dv HOW2.out HX.out)
         obtain ⟨XA,hXA⟩:∃ XA,XA=dK ⟨ua,ga,sa,ma⟩ ⟨12,0,0,0,⟨#[]⟩,⟨#[]⟩,⟨#[]⟩⟩:=⟨_,rfl⟩
         have VQ:=DX (zW x1 x2 x3 y1 y2 y3 ua ga sa ma ⟨12,0,0,0,⟨#[]⟩,⟨#[]⟩,⟨#[]⟩⟩ w12 HIN2.out.1 HIN2.out.2.1 HIN2.out.2.2 (fun x hx=>by have:=(Tl HX.out).n x hx;omega) (HE.out.kept HKw.out) (by show (0:Nat)<=_;omega) (by show (0:Nat)<=_;omega) HX.out ⟨by decide,by decide⟩ XA hXA);have hsw:=hXA.trans (doF_sw _);have OH:=sw_le ⟨ua,ga,sa,ma⟩;have HXA:=DX (show dP XA.1=true by rw [hXA];exact Ue HX.out _);have htw:=sw_twice HX.out;rw [<- hsw] at htw
         obtain ⟨fa,hfa⟩:∃ fa,fa=qO ⟨ua,ga,sa,ma⟩:=⟨_,rfl⟩
         have hXA2:XA=(⟨fa,ga,sa,ma⟩,dY ((ua.length - fa.length:Nat):Int)):=by rw [hsw,hfa];rfl
         clear hXA hsw;rw [<- hfa] at OH;subst hXA2;clear hfa;have HTW:=DX (show nE ⟨fa,ga,sa,ma⟩=(⟨fa,ga,sa,ma⟩,dY 0) from htw);have HLE:=DX (show fa.length<=ua.length from OH);replace HXA:=DX (show dP ⟨fa,ga,sa,ma⟩=true from HXA.out);clear htw OH;obtain ⟨q0,q1,q2,q3⟩:=aI HX2.out;go_wp2_with fail
         refine VQ.out.mono ?_
         rintro e w13 ⟨⟨p1,m1,p2,m2,p3,m3,he,LD⟩,hk13⟩
         obtain ⟨D,hD⟩:∃ D:Nat,D=ua.length - fa.length:=⟨_,rfl⟩
         have he2:e=.returned (.tuple #[.agg (LS p1 fa.length m1 p2 ga.length m2 p3 sa.length m3 ma),.agg #[.int .i64 (D:Int),.string { data:=#[] },.int .i64 0],.int .i64 0]):=by rw [hD];exact he
         subst he2;clear he q0 q1 q2 q3 VQ HIN2;have HD:=DX hD;clear hD;have HOA:=DX (show lZ wo.heap.size fa ga sa p1 p2 p3 m1 m2 m3 w13 from LD.base HKw.out.size);have HK13:=DX (HKw.out.trans hk13);have HP13:=DX (HP12.out.kept hk13);have HB13:=DX (HB12.out.kept hk13);have TZ:=DX (HX2.out.kept hk13);have HOW3:=DX (HOW2.out.kept hk13);clear LD hk13 HKw HP12 HB12 HX2 HOW2
         go_upto_region 13 with (fail)
         have k1:=(EX w13).alloc ((KS p1 fa.length m1 p2 ga.length m2 p3 sa.length m3 ma))
         have k2:=(EX (w13.alloc ((KS p1 fa.length m1 p2 ga.length m2 p3 sa.length m3 ma)))).alloc (.cells #[.int .i64 (D:Int),.string { data:=#[] },.int .i64 0] 47)
         have k3:=k1.trans k2;have HU:=DX ((EY w13 (LS p1 fa.length m1 p2 ga.length m2 p3 sa.length m3 ma) 26).kept k2);have HV:=DX (FB w13 #[.int .i64 (D:Int),.string { data:=#[] },.int .i64 0] 47 ((KS p1 fa.length m1 p2 ga.length m2 p3 sa.length m3 ma)));have HK14:=DX (HK13.out.trans k3);have HP14:=DX (HP13.out.kept k3);have HB14:=DX (HB13.out.kept k3);have HX4:=DX (TZ.out.kept k3);have HOW4:=DX (HOW3.out.kept k3);have HOA4:=DX (HOA.out.kept k3);clear k1 k2 k3 HK13 HP13 HB13 TZ HOW3 HOA
         generalize (w13.alloc ((KS p1 fa.length m1 p2 ga.length m2 p3 sa.length m3 ma))).alloc (.cells #[.int .i64 (D:Int),.string { data:=#[] },.int .i64 0] 47)=w14 at *
         generalize w13.heap.size=gq2 at *;have HIN4:=DX (Dv HOA4.out HXA.out);have VQ:=DX (zW p1 p2 p3 m1 m2 m3 fa ga sa ma ⟨12,0,0,0,⟨#[]⟩,⟨#[]⟩,⟨#[]⟩⟩ w14 HIN4.out.1 HIN4.out.2.1 HIN4.out.2.2 (fun x hx=>by have:=(Tl HXA.out).n x hx;omega) (HE.out.kept HK14.out) (by show (0:Nat)<=_;omega) (by show (0:Nat)<=_;omega) HXA.out ⟨by decide,by decide⟩ (⟨fa,ga,sa,ma⟩,dY 0) (by rw [doF_sw];exact HTW.out.symm));obtain ⟨q0,q1,q2,q3⟩:=aI HU.out;go_wp2_with fail
         refine VQ.out.mono ?_
         rintro e w15 ⟨⟨n1,l1,n2,l2,n3,l3,he,LD⟩,hk15⟩
         have he2:e=.returned (.tuple #[.agg (LS n1 fa.length l1 n2 ga.length l2 n3 sa.length l3 ma),.agg LR,.int .i64 0]):=he
         subst he2;clear he q0 q1 q2 q3 VQ HIN4;have HOC:=DX (show lZ wo.heap.size fa ga sa n1 n2 n3 l1 l2 l3 w15 from LD.base HK14.out.size);have HK15:=DX (HK14.out.trans hk15);have HP15:=DX (HP14.out.kept hk15);have HB15:=DX (HB14.out.kept hk15);have HX5:=DX (HX4.out.kept hk15);have VT:=DX (HOW4.out.kept hk15);have HOA5:=DX (HOA4.out.kept hk15);have HU5:=DX (HU.out.kept hk15);have OV:=DX (HV.out.kept hk15);clear LD hk15 HK14 HP14 HB14 HX4 HOW4 HOA4 HU HV
         go_upto_region 14 with (fail)
         have k1:=(EX w15).alloc ((KS n1 fa.length l1 n2 ga.length l2 n3 sa.length l3 ma))
         have k2:=(EX (w15.alloc ((KS n1 fa.length l1 n2 ga.length l2 n3 sa.length l3 ma)))).alloc (KR)
         have k3:=k1.trans k2;have TZ:=DX ((EY w15 (LS n1 fa.length l1 n2 ga.length l2 n3 sa.length l3 ma) 26).kept k2);have HY3:=DX (FB w15 LR 47 ((KS n1 fa.length l1 n2 ga.length l2 n3 sa.length l3 ma)));have HK16:=DX (HK15.out.trans k3);have HP16:=DX (HP15.out.kept k3);have HB16:=DX (HB15.out.kept k3);have ZF:=DX (HX5.out.kept k3);have VU:=DX (VT.out.kept k3);have HOA6:=DX (HOA5.out.kept k3);have HOC6:=DX (HOC.out.kept k3);have HU6:=DX (HU5.out.kept k3);have MO:=DX (OV.out.kept k3);clear k1 k2 k3 HK15 HP15 HB15 HX5 VT HOA5 HOC HU5 OV
         generalize (w15.alloc ((KS n1 fa.length l1 n2 ga.length l2 n3 sa.length l3 ma))).alloc (KR)=w16 at *
         generalize w15.heap.size=gq3 at *;have XM:=DX (fun w9 (q:aB w16 w9)=>iP p1 p2 p3 n1 n2 n3 m1 m2 m3 l1 l2 l3 fa ga sa ma w9 (Dv (HOA6.out.kept q) HXA.out).1 (Dv (HOA6.out.kept q) HXA.out).2.1 (Dv (HOA6.out.kept q) HXA.out).2.2 (Dv (HOC6.out.kept q) HXA.out).1 (Dv (HOC6.out.kept q) HXA.out).2.1 (Dv (HOC6.out.kept q) HXA.out).2.2);have HET:=DX (fun w9 (q:aB w16 w9)=>Xr p2 x2 ga.length m2 y2 ga w9 (Dv (HOA6.out.kept q) HXA.out).2.1 (Dv (VU.out.kept q) HX.out).2.1)
         have hdi:(ua.length:Int) - (fa.length:Int)=(D:Int):=by have:=HD.out;have:=HLE.out;omega
         have hub:=(Tl HX.out).t
         have hfb:=(Tl HXA.out).t
         dsimp only at hub hfb;go_cut [125] (fun t wx=>t=.bool false/\Hid (aB w16 wx))
         case first =>
          obtain ⟨u0,u1,u2⟩:=dI HY3.out;obtain ⟨q0,q1,q2,q3⟩:=aI HU6.out;obtain ⟨d0,d1,d2,d3⟩:=aI TZ.out;go_wp2_with fail
          refine (fP _ _).mono ?_
          rintro e w' ⟨rfl,rfl⟩;go_wp2_with fail
          refine (fP _ _).mono ?_
          rintro e w' ⟨rfl,rfl⟩;go_wp2_with fail
          refine (XM.out _ (EX _)).mono ?_
          rintro e w17 ⟨rfl,hk17⟩;have HK17:=DX hk17;have HU7:=DX (HU6.out.kept hk17);have OW:=DX (MO.out.kept hk17);have RC:=DX (ZF.out.kept hk17);clear hk17 u0 u1 u2 q0 q1 q2 q3 d0 d1 d2 d3;obtain ⟨q0,q1,q2,q3⟩:=aI HU7.out;obtain ⟨u0,u1,u2⟩:=dI OW.out;obtain ⟨d0,d1,d2,d3⟩:=aI RC.out;go_wp2_with fail
          refine (HET.out w17 HK17.out).mono ?_
          rintro e w18 ⟨rfl,hk18⟩;have HK18:=DX (HK17.out.trans hk18);clear hk18;go_wp2_with fail;go_meet;exact ⟨rfl,HK18⟩
         case rest =>
          obtain ⟨rfl,HKc⟩:=hcut
          rename World=>w17
          have WZ:=DX (ZF.out.kept HKc.out);have HP8:=DX (HP16.out.kept HKc.out);have HB8:=DX (HB16.out.kept HKc.out);have HO8:=DX (VU.out.kept HKc.out);have HK8:=DX (HK16.out.trans HKc.out);obtain ⟨q0,q1,q2,q3⟩:=aI WZ.out;go_wp2_with (refine aD rfl 26 (.tmp 3) (.tmp 126) rfl p (LS x1 ua.length y1 x2 ga.length y2 x3 sa.length y3 ma) (LS z1 us.length t1 z2 hs.length t2 z3 vs.length t3 mx) 26 rfl rfl HP8.out AY rfl (by simp [Value.oneCell']) ?_);go_roundw
          case rel=>exact ⟨k+1,ua,ga,sa,ma,x1,x2,x3,y1,y2,y3,by omega,by omega,by go_num,DX (HP8.out.setRow _),DX (.inr (HO8.out.row HP8.out (by decide) (by decide) (by decide) _)),HX,DX (FC HK8.out (g:=p) (by omega) _),DX (HB8.out.other _ (by omega))⟩
          case measure=>simp [intOf];omega
    . obtain ⟨C,hC⟩:∃ C,C=decide (k<os.length):=⟨_,rfl⟩
      have hCi:decide ((k:Int)<(os.length:Int))=C:=by rw [hC];simp
      have hCn:=hC.symm
      have hE2:C=true->decide ((k:Int)<12)=false/\decide (k<12)=false:=fun h=>by have:=of_decide_eq_true (hC.symm.trans h);exact ⟨DY (by omega),DY (by omega)⟩
      clear hC IE hk;have HWF:=DX (HWK.out wr IA.out)
      cases C with
      | false =>
       clear hE2;go_wp2_with fail
       refine HWF.out.mono ?_
       rintro e w5 ⟨rfl,GZ⟩;have IQ:=DX (IA.out.trans GZ);clear GZ;go_wp2_with fail;go_ret;exact ⟨rfl,IQ.out⟩
      | true =>
       obtain ⟨he2,he2n⟩:=hE2 rfl;clear hE2;go_wp2_with fail
       refine HWF.out.mono ?_
       rintro e w5 ⟨rfl,GZ⟩;have IQ:=DX (IA.out.trans GZ);clear GZ;go_wp2_with fail;go_ret;exact ⟨rfl,IQ.out⟩
end Go.Proofs.YtkfmladhicapeaaGreatDoor
