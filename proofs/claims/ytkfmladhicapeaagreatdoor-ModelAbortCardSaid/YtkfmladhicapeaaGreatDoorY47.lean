import Derived.Test.YtkfmladhicapeaaGreatDoorY46
set_option maxRecDepth 100000
set_option maxHeartbeats 16000000
namespace Go.Proofs.YtkfmladhicapeaaGreatDoor
open Go.RowKit Go.Shelf
attribute [local go_sem] Oper.semAt_some
theorem Dr (aT aG aS aO:Option Addr) (cT cG cS cO:Nat) (ts:List Th) (gs:List Tg) (ss:List Se) (nx:Int) (os:List fV) (wo:World) (hT:bO wo aT ts.length ts) (hG:cJ wo aG gs.length gs) (hS:cP wo aS ss.length ss) (hO:iG wo aO os.length os) (hE:uR wo) :
 Calls Tryz.prog 3 #[.agg (L5 aT ts.length cT aG gs.length cG aS ss.length cS nx aO os.length cO)] wo fun e w'=>e=.returned (.bool true)/\aB wo w':=by
 have HE:=DX hE;have OK:=DX hO;have HWK:=DX (fun w9 (k:aB wo w9)=>At w9 (hE.kept k));have HHV:=DX (fun w9 (k:aB wo w9)=>Bo aT aG aS aO cT cG cS cO ts gs ss nx os w9 (hT.kept k) (hG.kept k) (hS.kept k) (hO.kept k));have MK:=DX (fun w9 (k:aB wo w9)=>gF aT aG aS cT cG cS ts gs ss nx w9 (hT.kept k) (hG.kept k) (hS.kept k));have MZ:=DX (show Mb ts gs ss from ⟨hT.le,hG.le,hS.le,hT.sizes,hG.sizes,hS.sizes⟩);clear hT hG hS hO hE;have HB:=DX (EY wo (L5 aT ts.length cT aG gs.length cG aS ss.length cS nx aO os.length cO) 29);have HK:=DX ((EX wo).alloc (.cells (L5 aT ts.length cT aG gs.length cG aS ss.length cS nx aO os.length cO) 29));go_enter Tryz.func3,Tryz.ntmps3
 go_upto_region 1 with (fail)
 generalize wo.alloc (.cells (L5 aT ts.length cT aG gs.length cG aS ss.length cS nx aO os.length cO) 29)=w1 at *;obtain ⟨r0,r1,r2,r3,r4⟩:=vD HB.out;go_wp2_with fail
 refine (HHV.out w1 HK.out).mono ?_
 rintro e w2 ⟨H,rfl,hH,FX⟩;have HH:=DX hH;have FW:=DX (HK.out.trans FX);have GP:=DX (HB.out.kept FX);clear hH FX r0 r1 r2 r3 r4 HHV HK HB
 cases H with
 | true =>
  go_wp2_with fail;go_ret;exact ⟨rfl,FW.out⟩
 | false =>
  obtain ⟨JL,hbo⟩:=HH.out rfl;have HBO:=DX hbo;have hbo1:=hbo.1;clear HH hbo;obtain ⟨r0,r1,r2,r3,r4⟩:=vD GP.out;go_wp2_with fail
  refine (MK.out w2 FW.out).mono ?_
  rintro e w3 ⟨x1,y1,x2,y2,x3,y3,rfl,oT,oG,oS,IK⟩;have KV:=DX (show lZ wo.heap.size ts gs ss x1 x2 x3 y1 y2 y3 w3 from (show lZ w2.heap.size ts gs ss x1 x2 x3 y1 y2 y3 w3 from ⟨oT,oG,oS⟩).base FW.out.size);have GC:=DX (FW.out.trans IK);have IU:=DX (GP.out.kept IK);clear oT oG oS IK r0 r1 r2 r3 r4 MK GP FW
  go_upto_region 5 with (fail)
  have ka:=(EX w3).alloc ((KS x1 ts.length y1 x2 gs.length y2 x3 ss.length y3 nx))
  have HP:=DX (EY w3 (LS x1 ts.length y1 x2 gs.length y2 x3 ss.length y3 nx) 26);have HOW4:=DX (KV.out.kept ka);have GQ:=DX (GC.out.trans ka);have KY:=DX (IU.out.kept ka);have hp3:wo.heap.size<w3.heap.size:=IU.out.lt;clear ka KV GC IU;generalize w3.alloc ((KS x1 ts.length y1 x2 gs.length y2 x3 ss.length y3 nx))=w4 at *;generalize w3.heap.size=p at *;go_loopw [4] (fun kv wr=>∃ (k:Nat) (us:List Th) (hs:List Tg) (vs:List Se) (mx:Int) (z1 z2 z3:Option Addr) (t1 t2 t3:Nat),k<=os.length/\k<=12/\kv=.int .i64 k/\Hid (aA wr p (LS z1 us.length t1 z2 hs.length t2 z3 vs.length t3 mx) 26)/\Hid (lZ wo.heap.size us hs vs z1 z2 z3 t1 t2 t3 wr)/\Hid (Mb us hs vs)/\Hid (Bd us hs vs)/\Hid (aB wo wr)/\Hid (aA wr wo.heap.size (L5 aT ts.length cT aG gs.length cG aS ss.length cS nx aO os.length cO) 29)) (fun kv _=>os.length - (intOf kv).toNat)
  case atStart=>exact ⟨0,ts,gs,ss,nx,x1,x2,x3,y1,y2,y3,aE,aE,rfl,HP,HOW4,MZ,DX JL,GQ,KY⟩
  case round =>
   clear HP HOW4 MZ JL GQ KY
   rename World=>wr
   obtain ⟨k,us,hs,vs,mx,z1,z2,z3,t1,t2,t3,hk,SG,rfl,HP,KV,MZ,VL,IA,HBR⟩:=hrel;obtain ⟨r0,r1,r2,r3,r4⟩:=vD HBR.out
   by_cases IE:k<os.length/\k<12
   . obtain ⟨IE,hl12⟩:=IE
     have GU:decide (k<os.length)=true:=DZ IE;have KG:decide ((k:Int)<(os.length:Int))=true:=DZ aE;have JH:decide ((k:Int)<12)=true:=DZ aE;have hd2n:decide (k<12)=true:=DZ hl12;have HNB:=DX (HBO.out.2 k IE)
     have HTB:=DX (OK.out.size k IE).2.2
     obtain ⟨bo,of,rfl,JC⟩:=OK.out.at aE;have HCT:=DX (fun w9 (q:aB wr w9)=>JC k IE w9 (IA.out.trans q));clear JC;generalize os.getD k jA=o at *;have HAM:=DX (fun w9 (q:aB wr w9)=>(fun (h:bO w9 z1 us.length us/\cJ w9 z2 hs.length hs/\cP w9 z3 vs.length vs)=>Fu z1 z2 z3 t1 t2 t3 us hs vs mx o k w9 h.1 h.2.1 h.2.2 VL.out (by have:=HNB.out;omega) aE) (oO (KV.out.kept q) MZ.out));have IN:=DX (fun (o':fV) w9 (q:aB wr w9) (h1:o'.name.size<=1000000) (h2:o'.t=o.t)=>Iv z1 z2 z3 t1 t2 t3 us hs vs mx o' wo.heap.size w9 (KV.out.kept q) MZ.out (EF IA.out.size q.size) VL.out (HE.out.kept (IA.out.trans q)) (by rw [h2];exact HTB.out) h1)
     go_upto_region 7 with (fail)
     clear r0 r1 r2 r3 r4;have HPQ:=HP;go_wp2_with fail
     refine Pj.Zy 15 (fun az0 L az w=>∃ V:Nat->Value,az=Pj.Zb [(28,0),(29,1),(30,2),(31,3),(32,4),(33,5),(34,6),(35,7),(36,8),(37,9),(27,10),(38,11),(39,12),(5,13),(6,15)] V az0/\Pj.J wr [Pj.Is (.agg (LS z1 us.length t1 z2 hs.length t2 z3 vs.length t3 mx)),Pj.Is (.agg (LS z1 us.length t1 z2 hs.length t2 z3 vs.length t3 mx)),Pj.Is (.pointer (some ⟨wo.heap.size,4,none⟩)),Pj.Is (.slice (some ⟨bo,of,none⟩) os.length cO),Pj.Is (.int .i64 k),Pj.Is (.pointer (some ⟨bo,of+k*7,none⟩)),Pj.Is (.agg (LO o.k o.id o.n o.m o.name o.d o.t)),Pj.Is (.int .i64 k),(fun _ v=>∃ o':fV,v=.agg (LO o'.k o'.id o'.n o'.m o'.name o'.d o'.t)/\o'.name.size<=1000000/\o'.t=o.t),(fun _ _=>True),(fun _ _=>True),(fun _ _=>True),Pj.Is (.bool true),(fun _ _=>True),(fun _ _=>True),(fun _ _=>True)] L V w/\((L 9->∃ (ua:List Th) (ga:List Tg) (sa:List Se) (ma:Int) (x1 x2 x3:Option Addr) (y1 y2 y3:Nat),V 9=.tuple #[.agg (LS x1 ua.length y1 x2 ga.length y2 x3 sa.length y3 ma),.bool true]/\(L 10->V 10=.tuple #[.agg (LS x1 ua.length y1 x2 ga.length y2 x3 sa.length y3 ma),.bool true])/\(L 11->V 11=.agg (LS x1 ua.length y1 x2 ga.length y2 x3 sa.length y3 ma))/\lZ wo.heap.size ua ga sa x1 x2 x3 y1 y2 y3 w/\Mb ua ga sa/\Bd ua ga sa/\(L 14->∃ b,V 13=.pointer (some ⟨b,0,none⟩)/\aA w b (LS x1 ua.length y1 x2 ga.length y2 x3 sa.length y3 ma) 26))/\(L 13->¬ L 14->∃ b,V 13=.pointer (some ⟨b,0,none⟩)/\wr.heap.size<=b/\aA w b LN 26))) (fun az0 az w=>∃ V:Nat->Value,az=Pj.Zb [(28,0),(29,1),(30,2),(31,3),(32,4),(33,5),(34,6),(35,7),(36,8),(37,9),(27,10),(38,11),(39,12),(5,13),(6,15)] V az0/\(∃ (ua:List Th) (ga:List Tg) (sa:List Se) (ma:Int) (x1 x2 x3:Option Addr) (y1 y2 y3:Nat),∃ b,V 13=.pointer (some ⟨b,0,none⟩)/\V 15=.bool true/\aA w b (LS x1 ua.length y1 x2 ga.length y2 x3 sa.length y3 ma) 26/\lZ wo.heap.size ua ga sa x1 x2 x3 y1 y2 y3 w/\Mb ua ga sa/\Bd ua ga sa/\aB wr w)) nR nR nR ?eh0 ?ehs ?ehe
     case eh0 =>
      intro L hL;exact ⟨_,Pj.Zi _ (fun j=>([28,29,30,31,32,33,34,35,36,37,27,38,39,5,0,6]:List Nat).getD j 0) [0,1,2,3,4,5,6,7,8,9,10,11,12,13,15],Pj.J.none (n:=16) (EA _) hL ((EX _).drew),⟨fun h=>absurd h (hL 9 aF),fun h=>absurd h (hL 13 aF)⟩⟩
     case ehs =>
      rintro L L' az w iz opz Kq hC ⟨V,rfl,hJ,hS⟩ ho FY FZ hL IH hKz GH;have HP:=DX (show Pj.Zh [Pj.Is (.agg (LS z1 us.length t1 z2 hs.length t2 z3 vs.length t3 mx)),Pj.Is (.agg (LS z1 us.length t1 z2 hs.length t2 z3 vs.length t3 mx)),Pj.Is (.pointer (some ⟨wo.heap.size,4,none⟩)),Pj.Is (.slice (some ⟨bo,of,none⟩) os.length cO),Pj.Is (.int .i64 k),Pj.Is (.pointer (some ⟨bo,of+k*7,none⟩)),Pj.Is (.agg (LO o.k o.id o.n o.m o.name o.d o.t)),Pj.Is (.int .i64 k),(fun _ v=>∃ o':fV,v=.agg (LO o'.k o'.id o'.n o'.m o'.name o'.d o'.t)/\o'.name.size<=1000000/\o'.t=o.t),(fun _ _=>True),(fun _ _=>True),(fun _ _=>True),Pj.Is (.bool true),(fun _ _=>True),(fun _ _=>True),(fun _ _=>True)] from ⟨Pj.Is.flat _,Pj.Is.flat _,Pj.Is.flat _,Pj.Is.flat _,Pj.Is.flat _,Pj.Is.flat _,Pj.Is.flat _,Pj.Is.flat _,(fun _ _ _ h _=>h),(fun _ _ _ _ _=>trivial),(fun _ _ _ _ _=>trivial),(fun _ _ _ _ _=>trivial),Pj.Is.flat _,(fun _ _ _ _ _=>trivial),(fun _ _ _ _ _=>trivial),(fun _ _ _ _ _=>trivial),trivial⟩);have HJ:=DX hJ;have II:=DX hS;clear hJ hS;have NU:L 10->L 9:=hC 10 9 aW;have MV:L 11->L 10:=hC 11 10 aW;have QL:L 14->L 11:=hC 14 11 aW;have hm14_13:L 14->L 13:=hC 14 13 aW;clear hC
      match iz,ho with
      | 0,ho =>
       obtain rfl:=EB ho;obtain ⟨d0,d1,d2,d3⟩:=aI (HPQ.out.kept HJ.out.kp)
       refine Pj.Za.free rfl ?_
       simp only [Pj.PU,Act.put];go_simp;exact IH aF _ _ ⟨Pj.Yz V 0 (.agg (LS z1 us.length t1 z2 hs.length t2 z3 vs.length t3 mx)),by simp only [Pj.PU,Act.put,Pj.Yz,Nat.reduceEqDiff,if_true,if_false],HJ.out.flat HP.out hL (HJ.out.kp.trans (EX _)) (EZ (EX _)) (rfl),⟨fun h=>by obtain ⟨ua,ga,sa,ma,x1,x2,x3,y1,y2,y3,g9,g10,g11,LD,IG,JL,g14⟩:=II.out.1 (((hL 9).1 h).resolve_left aF);exact ⟨ua,ga,sa,ma,x1,x2,x3,y1,y2,y3,(Pj.Yy _ _ aF).trans g9,fun q=>(Pj.Yy _ _ aF).trans (g10 (((hL 10).1 q).resolve_left aF)),fun q=>(Pj.Yy _ _ aF).trans (g11 (((hL 11).1 q).resolve_left aF)),LD.kept (EX _),IG,JL,fun q=>by obtain ⟨b,e1,e2⟩:=g14 (((hL 14).1 q).resolve_left aF);exact ⟨b,(Pj.Yy _ _ aF).trans e1,e2.kept (EX _)⟩⟩,fun h PP=>by obtain ⟨b,e1,e2,e3⟩:=II.out.2 (((hL 13).1 h).resolve_left aF) (fun q=>PP ((hL 14).2 (.inr q)));exact ⟨b,(Pj.Yy _ _ aF).trans e1,e2,e3.kept (EX _)⟩⟩⟩
      | 1,ho =>
       obtain rfl:=EB ho;obtain ⟨d0,d1,d2,d3⟩:=aI (HPQ.out.kept HJ.out.kp)
       refine Pj.Za.free rfl ?_
       simp only [Pj.PU,Act.put];go_simp;exact IH aF _ _ ⟨Pj.Yz V 1 (.agg (LS z1 us.length t1 z2 hs.length t2 z3 vs.length t3 mx)),by simp only [Pj.PU,Act.put,Pj.Yz,Nat.reduceEqDiff,if_true,if_false],HJ.out.flat HP.out hL (HJ.out.kp.trans (EX _)) (EZ (EX _)) (rfl),⟨fun h=>by obtain ⟨ua,ga,sa,ma,x1,x2,x3,y1,y2,y3,g9,g10,g11,LD,IG,JL,g14⟩:=II.out.1 (((hL 9).1 h).resolve_left aF);exact ⟨ua,ga,sa,ma,x1,x2,x3,y1,y2,y3,(Pj.Yy _ _ aF).trans g9,fun q=>(Pj.Yy _ _ aF).trans (g10 (((hL 10).1 q).resolve_left aF)),fun q=>(Pj.Yy _ _ aF).trans (g11 (((hL 11).1 q).resolve_left aF)),LD.kept (EX _),IG,JL,fun q=>by obtain ⟨b,e1,e2⟩:=g14 (((hL 14).1 q).resolve_left aF);exact ⟨b,(Pj.Yy _ _ aF).trans e1,e2.kept (EX _)⟩⟩,fun h PP=>by obtain ⟨b,e1,e2,e3⟩:=II.out.2 (((hL 13).1 h).resolve_left aF) (fun q=>PP ((hL 14).2 (.inr q)));exact ⟨b,(Pj.Yy _ _ aF).trans e1,e2,e3.kept (EX _)⟩⟩⟩
      | 2,ho =>
       obtain rfl:=EB ho
       refine Pj.Za.free rfl ?_
       simp only [Pj.PU,Act.put];go_simp;exact IH aF _ _ ⟨Pj.Yz V 2 (.pointer (some ⟨wo.heap.size,4,none⟩)),by simp only [Pj.PU,Act.put,Pj.Yz,Nat.reduceEqDiff,if_true,if_false],HJ.out.flat HP.out hL (HJ.out.kp.trans (EX _)) (EZ (EX _)) (rfl),⟨fun h=>by obtain ⟨ua,ga,sa,ma,x1,x2,x3,y1,y2,y3,g9,g10,g11,LD,IG,JL,g14⟩:=II.out.1 (((hL 9).1 h).resolve_left aF);exact ⟨ua,ga,sa,ma,x1,x2,x3,y1,y2,y3,(Pj.Yy _ _ aF).trans g9,fun q=>(Pj.Yy _ _ aF).trans (g10 (((hL 10).1 q).resolve_left aF)),fun q=>(Pj.Yy _ _ aF).trans (g11 (((hL 11).1 q).resolve_left aF)),LD.kept (EX _),IG,JL,fun q=>by obtain ⟨b,e1,e2⟩:=g14 (((hL 14).1 q).resolve_left aF);exact ⟨b,(Pj.Yy _ _ aF).trans e1,e2.kept (EX _)⟩⟩,fun h PP=>by obtain ⟨b,e1,e2,e3⟩:=II.out.2 (((hL 13).1 h).resolve_left aF) (fun q=>PP ((hL 14).2 (.inr q)));exact ⟨b,(Pj.Yy _ _ aF).trans e1,e2,e3.kept (EX _)⟩⟩⟩
      | 3,ho =>
       obtain rfl:=EB ho;have l2:=FZ 2 aW
       have e2:V 2=.pointer (some ⟨wo.heap.size,4,none⟩):=HJ.out.h 2 l2
       obtain ⟨r0,r1,r2,r3,r4⟩:=vD (HBR.out.kept HJ.out.kp)
       refine Pj.Za.free rfl ?_
       simp only [Pj.PU,Act.put,e2];go_simp;exact IH aF _ _ ⟨Pj.Yz V 3 (.slice (some ⟨bo,of,none⟩) os.length cO),by simp only [Pj.PU,Act.put,Pj.Yz,Nat.reduceEqDiff,if_true,if_false,e2],HJ.out.flat HP.out hL (HJ.out.kp.trans (EX _)) (EZ (EX _)) (rfl),⟨fun h=>by obtain ⟨ua,ga,sa,ma,x1,x2,x3,y1,y2,y3,g9,g10,g11,LD,IG,JL,g14⟩:=II.out.1 (((hL 9).1 h).resolve_left aF);exact ⟨ua,ga,sa,ma,x1,x2,x3,y1,y2,y3,(Pj.Yy _ _ aF).trans g9,fun q=>(Pj.Yy _ _ aF).trans (g10 (((hL 10).1 q).resolve_left aF)),fun q=>(Pj.Yy _ _ aF).trans (g11 (((hL 11).1 q).resolve_left aF)),LD.kept (EX _),IG,JL,fun q=>by obtain ⟨b,e1,e2⟩:=g14 (((hL 14).1 q).resolve_left aF);exact ⟨b,(Pj.Yy _ _ aF).trans e1,e2.kept (EX _)⟩⟩,fun h PP=>by obtain ⟨b,e1,e2,e3⟩:=II.out.2 (((hL 13).1 h).resolve_left aF) (fun q=>PP ((hL 14).2 (.inr q)));exact ⟨b,(Pj.Yy _ _ aF).trans e1,e2,e3.kept (EX _)⟩⟩⟩
      | 4,ho =>
       obtain rfl:=EB ho
       refine Pj.Za.free rfl ?_
       simp only [Pj.PU,Act.put];go_simp;exact IH aF _ _ ⟨Pj.Yz V 4 (.int .i64 k),by simp only [Pj.PU,Act.put,Pj.Yz,Nat.reduceEqDiff,if_true,if_false],HJ.out.flat HP.out hL (HJ.out.kp.trans (EX _)) (EZ (EX _)) (rfl),⟨fun h=>by obtain ⟨ua,ga,sa,ma,x1,x2,x3,y1,y2,y3,g9,g10,g11,LD,IG,JL,g14⟩:=II.out.1 (((hL 9).1 h).resolve_left aF);exact ⟨ua,ga,sa,ma,x1,x2,x3,y1,y2,y3,(Pj.Yy _ _ aF).trans g9,fun q=>(Pj.Yy _ _ aF).trans (g10 (((hL 10).1 q).resolve_left aF)),fun q=>(Pj.Yy _ _ aF).trans (g11 (((hL 11).1 q).resolve_left aF)),LD.kept (EX _),IG,JL,fun q=>by obtain ⟨b,e1,e2⟩:=g14 (((hL 14).1 q).resolve_left aF);exact ⟨b,(Pj.Yy _ _ aF).trans e1,e2.kept (EX _)⟩⟩,fun h PP=>by obtain ⟨b,e1,e2,e3⟩:=II.out.2 (((hL 13).1 h).resolve_left aF) (fun q=>PP ((hL 14).2 (.inr q)));exact ⟨b,(Pj.Yy _ _ aF).trans e1,e2,e3.kept (EX _)⟩⟩⟩
      | 5,ho =>
       obtain rfl:=EB ho;have l3:=FZ 3 aW
       have e3:V 3=.slice (some ⟨bo,of,none⟩) os.length cO:=HJ.out.h 3 l3
       have l4:=FZ 4 aW
       have e4:V 4=.int .i64 k:=HJ.out.h 4 l4
       refine Pj.Za.free rfl ?_
       simp only [Pj.PU,Act.put,e3,e4];go_simp;exact IH aF _ _ ⟨Pj.Yz V 5 (.pointer (some ⟨bo,of+k*7,none⟩)),by simp only [Pj.PU,Act.put,Pj.Yz,Nat.reduceEqDiff,if_true,if_false,e3,e4],HJ.out.flat HP.out hL (HJ.out.kp.trans (EX _)) (EZ (EX _)) (rfl),⟨fun h=>by obtain ⟨ua,ga,sa,ma,x1,x2,x3,y1,y2,y3,g9,g10,g11,LD,IG,JL,g14⟩:=II.out.1 (((hL 9).1 h).resolve_left aF);exact ⟨ua,ga,sa,ma,x1,x2,x3,y1,y2,y3,(Pj.Yy _ _ aF).trans g9,fun q=>(Pj.Yy _ _ aF).trans (g10 (((hL 10).1 q).resolve_left aF)),fun q=>(Pj.Yy _ _ aF).trans (g11 (((hL 11).1 q).resolve_left aF)),LD.kept (EX _),IG,JL,fun q=>by obtain ⟨b,e1,e2⟩:=g14 (((hL 14).1 q).resolve_left aF);exact ⟨b,(Pj.Yy _ _ aF).trans e1,e2.kept (EX _)⟩⟩,fun h PP=>by obtain ⟨b,e1,e2,e3⟩:=II.out.2 (((hL 13).1 h).resolve_left aF) (fun q=>PP ((hL 14).2 (.inr q)));exact ⟨b,(Pj.Yy _ _ aF).trans e1,e2,e3.kept (EX _)⟩⟩⟩
      | 6,ho =>
       obtain rfl:=EB ho;have l5:=FZ 5 aW
       have e5:V 5=.pointer (some ⟨bo,of+k*7,none⟩):=HJ.out.h 5 l5
       obtain ⟨c0,c1,c2,c3,c4,c5,c6⟩:=HCT.out w HJ.out.kp
       refine Pj.Za.free rfl ?_
       simp only [Pj.PU,Act.put,e5];go_simp;exact IH aF _ _ ⟨Pj.Yz V 6 (.agg (LO o.k o.id o.n o.m o.name o.d o.t)),by simp only [Pj.PU,Act.put,Pj.Yz,Nat.reduceEqDiff,if_true,if_false,e5],HJ.out.flat HP.out hL (HJ.out.kp.trans (EX _)) (EZ (EX _)) (rfl),⟨fun h=>by obtain ⟨ua,ga,sa,ma,x1,x2,x3,y1,y2,y3,g9,g10,g11,LD,IG,JL,g14⟩:=II.out.1 (((hL 9).1 h).resolve_left aF);exact ⟨ua,ga,sa,ma,x1,x2,x3,y1,y2,y3,(Pj.Yy _ _ aF).trans g9,fun q=>(Pj.Yy _ _ aF).trans (g10 (((hL 10).1 q).resolve_left aF)),fun q=>(Pj.Yy _ _ aF).trans (g11 (((hL 11).1 q).resolve_left aF)),LD.kept (EX _),IG,JL,fun q=>by obtain ⟨b,e1,e2⟩:=g14 (((hL 14).1 q).resolve_left aF);exact ⟨b,(Pj.Yy _ _ aF).trans e1,e2.kept (EX _)⟩⟩,fun h PP=>by obtain ⟨b,e1,e2,e3⟩:=II.out.2 (((hL 13).1 h).resolve_left aF) (fun q=>PP ((hL 14).2 (.inr q)));exact ⟨b,(Pj.Yy _ _ aF).trans e1,e2,e3.kept (EX _)⟩⟩⟩
      | 7,ho =>
       obtain rfl:=EB ho
       refine Pj.Za.free rfl ?_
       simp only [Pj.PU,Act.put];go_simp;exact IH aF _ _ ⟨Pj.Yz V 7 (.int .i64 k),by simp only [Pj.PU,Act.put,Pj.Yz,Nat.reduceEqDiff,if_true,if_false],HJ.out.flat HP.out hL (HJ.out.kp.trans (EX _)) (EZ (EX _)) (rfl),⟨fun h=>by obtain ⟨ua,ga,sa,ma,x1,x2,x3,y1,y2,y3,g9,g10,g11,LD,IG,JL,g14⟩:=II.out.1 (((hL 9).1 h).resolve_left aF);exact ⟨ua,ga,sa,ma,x1,x2,x3,y1,y2,y3,(Pj.Yy _ _ aF).trans g9,fun q=>(Pj.Yy _ _ aF).trans (g10 (((hL 10).1 q).resolve_left aF)),fun q=>(Pj.Yy _ _ aF).trans (g11 (((hL 11).1 q).resolve_left aF)),LD.kept (EX _),IG,JL,fun q=>by obtain ⟨b,e1,e2⟩:=g14 (((hL 14).1 q).resolve_left aF);exact ⟨b,(Pj.Yy _ _ aF).trans e1,e2.kept (EX _)⟩⟩,fun h PP=>by obtain ⟨b,e1,e2,e3⟩:=II.out.2 (((hL 13).1 h).resolve_left aF) (fun q=>PP ((hL 14).2 (.inr q)));exact ⟨b,(Pj.Yy _ _ aF).trans e1,e2,e3.kept (EX _)⟩⟩⟩
      | 8,ho =>
       obtain rfl:=EB ho;have l1:=FZ 1 aW
       have e1:V 1=.agg (LS z1 us.length t1 z2 hs.length t2 z3 vs.length t3 mx):=HJ.out.h 1 l1
       have l6:=FZ 6 aW
       have e6:V 6=.agg (LO o.k o.id o.n o.m o.name o.d o.t):=HJ.out.h 6 l6
       have l7:=FZ 7 aW
       have e7:V 7=.int .i64 k:=HJ.out.h 7 l7
       have ham:=HAM.out w HJ.out.kp
       refine Pj.Za.free rfl ?_
       simp only [Pj.PU,Act.put,e1,e6,e7];go_simp
       refine ham.mono ?_
       rintro e w' ⟨o',rfl,h1,h2,_,GF⟩;exact IH aF _ _ ⟨Pj.Yz V 8 (.agg (LO o'.k o'.id o'.n o'.m o'.name o'.d o'.t)),by simp only [Pj.PU,Act.put,Pj.Yz,Nat.reduceEqDiff,if_true,if_false,e1,e6,e7],HJ.out.flat HP.out hL (HJ.out.kp.trans (GF)) (EZ (GF)) (⟨_,rfl,h1,h2⟩),⟨fun h=>by obtain ⟨ua,ga,sa,ma,x1,x2,x3,y1,y2,y3,g9,g10,g11,LD,IG,JL,g14⟩:=II.out.1 (((hL 9).1 h).resolve_left aF);exact ⟨ua,ga,sa,ma,x1,x2,x3,y1,y2,y3,(Pj.Yy _ _ aF).trans g9,fun q=>(Pj.Yy _ _ aF).trans (g10 (((hL 10).1 q).resolve_left aF)),fun q=>(Pj.Yy _ _ aF).trans (g11 (((hL 11).1 q).resolve_left aF)),LD.kept (GF),IG,JL,fun q=>by obtain ⟨b,e1,e2⟩:=g14 (((hL 14).1 q).resolve_left aF);exact ⟨b,(Pj.Yy _ _ aF).trans e1,e2.kept (GF)⟩⟩,fun h PP=>by obtain ⟨b,e1,e2,e3⟩:=II.out.2 (((hL 13).1 h).resolve_left aF) (fun q=>PP ((hL 14).2 (.inr q)));exact ⟨b,(Pj.Yy _ _ aF).trans e1,e2,e3.kept (GF)⟩⟩⟩
      | 9,ho =>
       obtain rfl:=EB ho;have l0:=FZ 0 aW
       have e0:V 0=.agg (LS z1 us.length t1 z2 hs.length t2 z3 vs.length t3 mx):=HJ.out.h 0 l0
       have l8:=FZ 8 aW;obtain ⟨o',e8,hn8,ht8⟩:=HJ.out.h 8 l8;have GL:=IN.out o' w HJ.out.kp hn8 ht8;clear hn8 ht8
       refine Pj.Za.free rfl ?_
       simp only [Pj.PU,Act.put,e0,e8];go_simp
       refine GL.mono ?_
       rintro e w' ⟨ua,ga,sa,ma,x1,x2,x3,y1,y2,y3,rfl,LD,IG,JL,GF⟩;exact IH aF _ _ ⟨Pj.Yz V 9 (.tuple #[.agg (LS x1 ua.length y1 x2 ga.length y2 x3 sa.length y3 ma),.bool true]),by simp only [Pj.PU,Act.put,Pj.Yz,Nat.reduceEqDiff,if_true,if_false,e0,e8],HJ.out.flat HP.out hL (HJ.out.kp.trans (GF)) (EZ (GF)) (trivial),⟨fun _=>⟨ua,ga,sa,ma,x1,x2,x3,y1,y2,y3,Pj.Zc _ _ _,fun q=>absurd (NU (((hL 10).1 q).resolve_left aF)) FY,fun q=>absurd (NU (MV (((hL 11).1 q).resolve_left aF))) FY,LD,IG,JL,fun q=>absurd (NU (MV (QL (((hL 14).1 q).resolve_left aF)))) FY⟩,fun h PP=>by obtain ⟨b,e1,e2,e3⟩:=II.out.2 (((hL 13).1 h).resolve_left aF) (fun q=>PP ((hL 14).2 (.inr q)));exact ⟨b,(Pj.Yy _ _ aF).trans e1,e2,e3.kept (GF)⟩⟩⟩
      | 10,ho =>
       obtain rfl:=EB ho;have l9:=FZ 9 aW;obtain ⟨ua,ga,sa,ma,x1,x2,x3,y1,y2,y3,g9,g10,g11,LD,IG,JL,g14⟩:=II.out.1 l9;have e9x:=g9;have G9:=DX g9;have G10:=DX g10;have G11:=DX g11;have G14:=DX g14;clear g9 g10 g11 g14
       refine Pj.Za.free rfl ?_
       simp only [Pj.PU,Act.put,e9x];go_simp;exact IH aF _ _ ⟨Pj.Yz V 10 (.tuple #[.agg (LS x1 ua.length y1 x2 ga.length y2 x3 sa.length y3 ma),.bool true]),by simp only [Pj.PU,Act.put,Pj.Yz,Nat.reduceEqDiff,if_true,if_false,e9x],HJ.out.flat HP.out hL (HJ.out.kp.trans (EX _)) (EZ (EX _)) (trivial),⟨fun _=>⟨ua,ga,sa,ma,x1,x2,x3,y1,y2,y3,(Pj.Yy _ _ aF).trans G9.out,fun _=>Pj.Zc _ _ _,fun q=>absurd (MV (((hL 11).1 q).resolve_left aF)) FY,LD,IG,JL,fun q=>absurd (MV (QL (((hL 14).1 q).resolve_left aF))) FY⟩,fun h PP=>by obtain ⟨b,e1,e2,e3⟩:=II.out.2 (((hL 13).1 h).resolve_left aF) (fun q=>PP ((hL 14).2 (.inr q)));exact ⟨b,(Pj.Yy _ _ aF).trans e1,e2,e3.kept (EX _)⟩⟩⟩
      | 11,ho =>
       obtain rfl:=EB ho;have l10:=FZ 10 aW;obtain ⟨ua,ga,sa,ma,x1,x2,x3,y1,y2,y3,g9,g10,g11,LD,IG,JL,g14⟩:=II.out.1 (NU l10);have e10x:=g10 l10;have G9:=DX g9;have G10:=DX g10;have G11:=DX g11;have G14:=DX g14;clear g9 g10 g11 g14
       refine Pj.Za.free rfl ?_
       simp only [Pj.PU,Act.put,e10x];go_simp;exact IH aF _ _ ⟨Pj.Yz V 11 (.agg (LS x1 ua.length y1 x2 ga.length y2 x3 sa.length y3 ma)),by simp only [Pj.PU,Act.put,Pj.Yz,Nat.reduceEqDiff,if_true,if_false,e10x],HJ.out.flat HP.out hL (HJ.out.kp.trans (EX _)) (EZ (EX _)) (trivial),⟨fun _=>⟨ua,ga,sa,ma,x1,x2,x3,y1,y2,y3,(Pj.Yy _ _ aF).trans G9.out,fun q=>(Pj.Yy _ _ aF).trans (G10.out (((hL 10).1 q).resolve_left aF)),fun _=>Pj.Zc _ _ _,LD,IG,JL,fun q=>absurd (QL (((hL 14).1 q).resolve_left aF)) FY⟩,fun h PP=>by obtain ⟨b,e1,e2,e3⟩:=II.out.2 (((hL 13).1 h).resolve_left aF) (fun q=>PP ((hL 14).2 (.inr q)));exact ⟨b,(Pj.Yy _ _ aF).trans e1,e2,e3.kept (EX _)⟩⟩⟩
      | 12,ho =>
       obtain rfl:=EB ho;have l10:=FZ 10 aW;obtain ⟨ua,ga,sa,ma,x1,x2,x3,y1,y2,y3,g9,g10,g11,LD,IG,JL,g14⟩:=II.out.1 (NU l10);have e10x:=g10 l10;have G9:=DX g9;have G10:=DX g10;have G11:=DX g11;have G14:=DX g14;clear g9 g10 g11 g14
       refine Pj.Za.free rfl ?_
       simp only [Pj.PU,Act.put,e10x];go_simp;exact IH aF _ _ ⟨Pj.Yz V 12 (.bool true),by simp only [Pj.PU,Act.put,Pj.Yz,Nat.reduceEqDiff,if_true,if_false,e10x],HJ.out.flat HP.out hL (HJ.out.kp.trans (EX _)) (EZ (EX _)) (rfl),⟨fun h=>by obtain ⟨ua,ga,sa,ma,x1,x2,x3,y1,y2,y3,g9,g10,g11,LD,IG,JL,g14⟩:=II.out.1 (((hL 9).1 h).resolve_left aF);exact ⟨ua,ga,sa,ma,x1,x2,x3,y1,y2,y3,(Pj.Yy _ _ aF).trans g9,fun q=>(Pj.Yy _ _ aF).trans (g10 (((hL 10).1 q).resolve_left aF)),fun q=>(Pj.Yy _ _ aF).trans (g11 (((hL 11).1 q).resolve_left aF)),LD.kept (EX _),IG,JL,fun q=>by obtain ⟨b,e1,e2⟩:=g14 (((hL 14).1 q).resolve_left aF);exact ⟨b,(Pj.Yy _ _ aF).trans e1,e2.kept (EX _)⟩⟩,fun h PP=>by obtain ⟨b,e1,e2,e3⟩:=II.out.2 (((hL 13).1 h).resolve_left aF) (fun q=>PP ((hL 14).2 (.inr q)));exact ⟨b,(Pj.Yy _ _ aF).trans e1,e2,e3.kept (EX _)⟩⟩⟩
      | 13,ho =>
       simp only [iU] at ho;subst ho
       refine Pj.Za.free rfl ?_
       simp only [Pj.PU,Act.put]
       refine Pj.Zu 26 rfl LN aW ?_
       simp only [dO,Act.put];exact IH aF _ _ ⟨Pj.Yz V 13 (.pointer (some ⟨w.heap.size,0,none⟩)),by simp only [Pj.PU,Act.put,Pj.Yz,Nat.reduceEqDiff,if_true,if_false],HJ.out.flat HP.out hL (HJ.out.kp.trans ((EX _).alloc _)) (EZ ((EX _).alloc _)) (trivial),⟨fun h=>by obtain ⟨ua,ga,sa,ma,x1,x2,x3,y1,y2,y3,g9,g10,g11,LD,IG,JL,g14⟩:=II.out.1 (((hL 9).1 h).resolve_left aF);exact ⟨ua,ga,sa,ma,x1,x2,x3,y1,y2,y3,(Pj.Yy _ _ aF).trans g9,fun q=>(Pj.Yy _ _ aF).trans (g10 (((hL 10).1 q).resolve_left aF)),fun q=>(Pj.Yy _ _ aF).trans (g11 (((hL 11).1 q).resolve_left aF)),LD.kept ((EX _).alloc _),IG,JL,fun q=>absurd (hm14_13 (((hL 14).1 q).resolve_left aF)) FY⟩,fun _ _=>⟨_,Pj.Zc _ _ _,HJ.out.kp.size,EY _ _ _⟩⟩⟩
      | 14,ho =>
       simp only [iU] at ho;subst ho;have l13:=FZ 13 aW;have l11:=FZ 11 aW;obtain ⟨ua,ga,sa,ma,x1,x2,x3,y1,y2,y3,g9,g10,g11,LD,IG,JL,g14⟩:=II.out.1 (NU (MV l11));have e11x:=g11 l11;have G9:=DX g9;have G10:=DX g10;have G11:=DX g11;have G14:=DX g14;clear g9 g10 g11 g14;obtain ⟨bb,e13,KW,e13b⟩:=II.out.2 l13 FY
       refine Pj.Za.free rfl ?_
       simp only [Pj.PU,Act.put,e11x,e13]
       refine Pj.Zf 26 _ _ rfl bb (LS x1 ua.length y1 x2 ga.length y2 x3 sa.length y3 ma) LN 26 rfl rfl e13b aW rfl (by simp [Value.oneCell']) ?_
       simp only [Act.put];exact IH aF _ _ ⟨Pj.Yz V 14 (undef),by simp only [Pj.PU,Act.put,Pj.Yz,Nat.reduceEqDiff,if_false,e11x,e13],HJ.out.flat HP.out hL (FC HJ.out.kp KW _) (by simp [World.setRow]) (trivial),⟨fun _=>⟨ua,ga,sa,ma,x1,x2,x3,y1,y2,y3,(Pj.Yy _ _ aF).trans G9.out,fun q=>(Pj.Yy _ _ aF).trans (G10.out (((hL 10).1 q).resolve_left aF)),fun q=>(Pj.Yy _ _ aF).trans (G11.out (((hL 11).1 q).resolve_left aF)),LD.row e13b aF aF aF _,IG,JL,fun _=>⟨bb,(Pj.Yy _ _ aF).trans e13,e13b.setRow _⟩⟩,fun _ h=>absurd ((hL 14).2 (.inl rfl)) h⟩⟩
      | 15,ho =>
       obtain rfl:=EB ho;have l12:=FZ 12 aW
       have e12:V 12=.bool true:=HJ.out.h 12 l12
       have l14:=FZ 14 aW;obtain ⟨ua,ga,sa,ma,x1,x2,x3,y1,y2,y3,g9,g10,g11,LD,IG,JL,g14⟩:=II.out.1 (NU (MV (QL l14)));obtain ⟨b,g13,KW⟩:=g14 l14;have G13:=DX g13;clear g9 g10 g11 g14 g13
       refine Pj.Za.free rfl ?_
       simp only [Pj.PU,Act.put,e12];go_simp;exact hKz rfl _ _ ⟨Pj.Yz V 15 (.bool true),by simp only [Pj.PU,Act.put,Pj.Yz,Nat.reduceEqDiff,if_true,if_false,e12],⟨ua,ga,sa,ma,x1,x2,x3,y1,y2,y3,b,(Pj.Yy _ _ aF).trans G13.out,Pj.Zc _ _ _,KW,LD,IG,JL,HJ.out.kp⟩⟩
      | n+16,ho=>simp at ho
     case ehe =>
      rintro az w ⟨V,rfl,hf⟩;obtain ⟨ua,ga,sa,ma,x1,x2,x3,y1,y2,y3,b,e13,e15,KW,LD,IG,JL,hkj⟩:=hf;have RX:=DX KW;have HOA:=DX LD;have HSA:=DX IG;have HBA:=DX JL;have HKJ:=DX hkj;clear KW LD IG JL hkj;simp only [Pj.Zb,dO,Act.put,e13,e15];clear e13 e15
      rename World=>w8
      have HP8:=DX (HP.out.kept HKJ.out);have HB8:=DX (HBR.out.kept HKJ.out);have HK8:=DX (IA.out.trans HKJ.out);obtain ⟨q0,q1,q2,q3⟩:=aI RX.out;go_wp2_with (refine aD rfl 26 (.tmp 3) (.tmp 42) rfl p (LS x1 ua.length y1 x2 ga.length y2 x3 sa.length y3 ma) (LS z1 us.length t1 z2 hs.length t2 z3 vs.length t3 mx) 26 rfl rfl HP8.out AY rfl (by simp [Value.oneCell']) ?_);go_roundw
      case rel=>exact ⟨k+1,ua,ga,sa,ma,x1,x2,x3,y1,y2,y3,aE,aE,by go_num,DX (HP8.out.setRow _),DX (HOA.out.row HP8.out aF aF aF _),HSA,HBA,DX (FC HK8.out (g:=p) aE _),DX (HB8.out.other _ aE)⟩
      case measure=>simp [intOf];omega
   . obtain ⟨C,hC⟩:∃ C,C=decide (k<os.length):=⟨_,rfl⟩
     have hCi:decide ((k:Int)<(os.length:Int))=C:=by rw [hC];simp
     have hCn:=hC.symm
     have hE2:C=true->decide ((k:Int)<12)=false/\decide (k<12)=false:=fun h=>by have:=of_decide_eq_true (hC.symm.trans h);exact ⟨DY aE,DY aE⟩
     clear hC IE hk
     cases C with
     | false =>
      exact MX2
     | true =>
      obtain ⟨JH,hd2n⟩:=hE2 rfl;exact MX2
end Go.Proofs.YtkfmladhicapeaaGreatDoor
