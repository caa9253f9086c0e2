import Derived.Test.YtkfmladhicapeaaGreatDoorY34
set_option maxRecDepth 100000
set_option maxHeartbeats 8000000
namespace Go.Proofs.YtkfmladhicapeaaGreatDoor
open Go.RowKit Go.Shelf
attribute [local go_sem] Oper.semAt_some
theorem cX {W:World} {b:Nat} {x0 x1 x2 x3 x4 x5 x6:Value} {t:TypeId} (h:aA W b #[x0,x1,x2,x3,x4,x5,x6] t):W.cell? ⟨b,0,none⟩=some x0/\W.cell? ⟨b,1,none⟩=some x1/\W.cell? ⟨b,2,none⟩=some x2/\W.cell? ⟨b,3,none⟩=some x3/\W.cell? ⟨b,4,none⟩=some x4/\W.cell? ⟨b,5,none⟩=some x5/\W.cell? ⟨b,6,none⟩=some x6 :=
 ⟨h.cell 0,h.cell 1,h.cell 2,h.cell 3,h.cell 4,h.cell 5,h.cell 6⟩
theorem Vc (base p:Nat) (hp:base<=p) (s:dN) (o:fV) (w:World) (Q:eX base w p s) (hs:dP s=true) (hE:uR w) (OB:o.t.size<=140737488351232) (MA:o.name.size<=1000000) (hk:1<=o.k/\o.k<=13) :
 Calls Tryz.prog 56 (PO p o.k o.id o.n o.m o.name o.d o.t) w (iD base p w (dK s o)):=by
 obtain ⟨ts,gs,ss,nx⟩:=s;obtain ⟨ok,oi,on,om,GE,od,ot⟩:=o;dsimp only at *;have HQ:=DX Q;obtain ⟨aT,cT,aG,cG,aS,cS,hb,oT,oG,oS⟩:=Q.rows;dsimp only at *
 have GY:base<=w.heap.size:=by have:=hb.lt;omega
 have MG:p<w.heap.size:=hb.lt;have HP:=DX hb
 obtain ⟨XX,GR⟩:∃ XX,XX=(dK ⟨ts,gs,ss,nx⟩ ⟨ok,oi,on,om,GE,od,ot⟩):=⟨_,rfl⟩
 rw [<- GR];have HX:=DX GR;clear GR;have HS:=DX hs;have HE:=DX hE;have MN:=DX (show yO ss nx=true by have h:=hs;unfold dP at h;rw [Bool.and_eq_true,Bool.and_eq_true] at h;exact h.2.2);clear hs hE oT oG oS Q hb
 have hk13:ok=1\/ok=2\/ok=3\/ok=4\/ok=5\/ok=6\/ok=7\/ok=8\/ok=9\/ok=10\/ok=11\/ok=12\/ok=13:=by omega
 clear hk
 rcases hk13 with rfl | rfl | rfl | rfl | rfl | rfl | rfl | rfl | rfl | rfl | rfl | rfl | rfl
 . have GI:=DX (show dK ⟨ts,gs,ss,nx⟩ ⟨1,oi,on,om,GE,od,ot⟩=eF ⟨ts,gs,ss,nx⟩ by simp [dK])
   have HC:=DX (fun w' (k:aB w w')=>show Calls Tryz.prog 69 #[.pointer (some ⟨p,0,none⟩)] w' (iD base p w' XX) by rw [HX.out,GI.out];exact Gz base p hp ⟨ts,gs,ss,nx⟩ w' (HQ.out.kept k) HS.out);have HB:=DX ((EY w (LO 1 oi on om GE od ot) 35).kept ((EX _).alloc (KR)));have HR:=DX (FB w LR 47 ((KO 1 oi on om GE od ot)));have HK:=DX (((EX w).alloc ((KO 1 oi on om GE od ot))).alloc (KR));clear GI HS MN HE;go_enter Tryz.func56,Tryz.ntmps56
   go_upto_region 1 with (fail)
   generalize (w.alloc ((KO 1 oi on om GE od ot))).alloc (KR)=w1 at *
   obtain ⟨b0,b1,b2,b3,b4,b5,b6⟩:=cX HB.out;go_wp2_with fail
   refine (HC.out w1 HK.out).mono ?_
   rintro e w2 ⟨rfl,hq,hf⟩;have QY:=DX hq;have PF:=DX ((FA HK.out GY).trans hf);have GK:=DX (hf.blk _ _ _ HR.out aE aF aF aF);clear hq hf HC b0 b1 b2 b3 b4 b5 b6 HX;go_wp2_with (refine aD rfl 47 (.tmp 4) (.tmp 10) rfl (w.heap.size+1) (bB XX.2) LR 47 rfl rfl GK.out AX rfl (aL _) ?_);exact Gx
 . have GI:=DX (show dK ⟨ts,gs,ss,nx⟩ ⟨2,oi,on,om,GE,od,ot⟩=eW ⟨ts,gs,ss,nx⟩ oi ot by simp [dK])
   have HC:=DX (fun w' (k:aB w w')=>show Calls Tryz.prog 70 (PO p 2 oi on om GE od ot) w' (iD base p w' XX) by rw [HX.out,GI.out];exact Fy base p hp ⟨ts,gs,ss,nx⟩ ⟨2,oi,on,om,GE,od,ot⟩ w' (HQ.out.kept k) HS.out OB);have HB:=DX ((EY w (LO 2 oi on om GE od ot) 35).kept ((EX _).alloc (KR)));have HR:=DX (FB w LR 47 ((KO 2 oi on om GE od ot)));have HK:=DX (((EX w).alloc ((KO 2 oi on om GE od ot))).alloc (KR));clear GI HS MN HE;go_enter Tryz.func56,Tryz.ntmps56
   go_upto_region 1 with (fail)
   generalize (w.alloc ((KO 2 oi on om GE od ot))).alloc (KR)=w1 at *
   obtain ⟨b0,b1,b2,b3,b4,b5,b6⟩:=cX HB.out;go_wp2_with fail
   refine (HC.out w1 HK.out).mono ?_
   rintro e w2 ⟨rfl,hq,hf⟩;have QY:=DX hq;have PF:=DX ((FA HK.out GY).trans hf);have GK:=DX (hf.blk _ _ _ HR.out aE aF aF aF);clear hq hf HC b0 b1 b2 b3 b4 b5 b6 HX;go_wp2_with (refine aD rfl 47 (.tmp 4) (.tmp 15) rfl (w.heap.size+1) (bB XX.2) LR 47 rfl rfl GK.out AX rfl (aL _) ?_);exact Gx
 . have GI:=DX (show dK ⟨ts,gs,ss,nx⟩ ⟨3,oi,on,om,GE,od,ot⟩=eD ⟨ts,gs,ss,nx⟩ oi od by simp [dK])
   have HC:=DX (fun w' (k:aB w w')=>show Calls Tryz.prog 71 (PO p 3 oi on om GE od ot) w' (iD base p w' XX) by rw [HX.out,GI.out];exact Dw base p hp ⟨ts,gs,ss,nx⟩ ⟨3,oi,on,om,GE,od,ot⟩ w' (HQ.out.kept k) HS.out (HE.out.kept k));have HB:=DX ((EY w (LO 3 oi on om GE od ot) 35).kept ((EX _).alloc (KR)));have HR:=DX (FB w LR 47 ((KO 3 oi on om GE od ot)));have HK:=DX (((EX w).alloc ((KO 3 oi on om GE od ot))).alloc (KR));clear GI HS MN HE;go_enter Tryz.func56,Tryz.ntmps56
   go_upto_region 1 with (fail)
   generalize (w.alloc ((KO 3 oi on om GE od ot))).alloc (KR)=w1 at *
   obtain ⟨b0,b1,b2,b3,b4,b5,b6⟩:=cX HB.out;go_wp2_with fail
   refine (HC.out w1 HK.out).mono ?_
   rintro e w2 ⟨rfl,hq,hf⟩;have QY:=DX hq;have PF:=DX ((FA HK.out GY).trans hf);have GK:=DX (hf.blk _ _ _ HR.out aE aF aF aF);clear hq hf HC b0 b1 b2 b3 b4 b5 b6 HX;go_wp2_with (refine aD rfl 47 (.tmp 4) (.tmp 20) rfl (w.heap.size+1) (bB XX.2) LR 47 rfl rfl GK.out AX rfl (aL _) ?_);exact Gx
 . have GI:=DX (show dK ⟨ts,gs,ss,nx⟩ ⟨4,oi,on,om,GE,od,ot⟩=cW ⟨ts,gs,ss,nx⟩ 4 od on om by simp [dK])
   have HC:=DX (fun w' (k:aB w w')=>show Calls Tryz.prog 72 (PO p 4 oi on om GE od ot) w' (iD base p w' XX) by rw [HX.out,GI.out];exact tR base p hp ⟨ts,gs,ss,nx⟩ ⟨4,oi,on,om,GE,od,ot⟩ w' (HQ.out.kept k) HS.out);have HB:=DX ((EY w (LO 4 oi on om GE od ot) 35).kept ((EX _).alloc (KR)));have HR:=DX (FB w LR 47 ((KO 4 oi on om GE od ot)));have HK:=DX (((EX w).alloc ((KO 4 oi on om GE od ot))).alloc (KR));clear GI HS MN HE;go_enter Tryz.func56,Tryz.ntmps56
   go_upto_region 1 with (fail)
   generalize (w.alloc ((KO 4 oi on om GE od ot))).alloc (KR)=w1 at *
   obtain ⟨b0,b1,b2,b3,b4,b5,b6⟩:=cX HB.out;go_wp2_with fail
   refine (HC.out w1 HK.out).mono ?_
   rintro e w2 ⟨rfl,hq,hf⟩;have QY:=DX hq;have PF:=DX ((FA HK.out GY).trans hf);have GK:=DX (hf.blk _ _ _ HR.out aE aF aF aF);clear hq hf HC b0 b1 b2 b3 b4 b5 b6 HX;go_wp2_with (refine aD rfl 47 (.tmp 4) (.tmp 27) rfl (w.heap.size+1) (bB XX.2) LR 47 rfl rfl GK.out AX rfl (aL _) ?_);exact Gx
 . have GI:=DX (show dK ⟨ts,gs,ss,nx⟩ ⟨5,oi,on,om,GE,od,ot⟩=cW ⟨ts,gs,ss,nx⟩ 5 od on om by simp [dK])
   have HC:=DX (fun w' (k:aB w w')=>show Calls Tryz.prog 72 (PO p 5 oi on om GE od ot) w' (iD base p w' XX) by rw [HX.out,GI.out];exact tR base p hp ⟨ts,gs,ss,nx⟩ ⟨5,oi,on,om,GE,od,ot⟩ w' (HQ.out.kept k) HS.out);have HB:=DX ((EY w (LO 5 oi on om GE od ot) 35).kept ((EX _).alloc (KR)));have HR:=DX (FB w LR 47 ((KO 5 oi on om GE od ot)));have HK:=DX (((EX w).alloc ((KO 5 oi on om GE od ot))).alloc (KR));clear GI HS MN HE;go_enter Tryz.func56,Tryz.ntmps56
   go_upto_region 1 with (fail)
   generalize (w.alloc ((KO 5 oi on om GE od ot))).alloc (KR)=w1 at *
   obtain ⟨b0,b1,b2,b3,b4,b5,b6⟩:=cX HB.out;go_wp2_with fail
   refine (HC.out w1 HK.out).mono ?_
   rintro e w2 ⟨rfl,hq,hf⟩;have QY:=DX hq;have PF:=DX ((FA HK.out GY).trans hf);have GK:=DX (hf.blk _ _ _ HR.out aE aF aF aF);clear hq hf HC b0 b1 b2 b3 b4 b5 b6 HX;go_wp2_with (refine aD rfl 47 (.tmp 4) (.tmp 27) rfl (w.heap.size+1) (bB XX.2) LR 47 rfl rfl GK.out AX rfl (aL _) ?_);exact Gx
 . have GI:=DX (show dK ⟨ts,gs,ss,nx⟩ ⟨6,oi,on,om,GE,od,ot⟩=cW ⟨ts,gs,ss,nx⟩ 6 od on om by simp [dK])
   have HC:=DX (fun w' (k:aB w w')=>show Calls Tryz.prog 72 (PO p 6 oi on om GE od ot) w' (iD base p w' XX) by rw [HX.out,GI.out];exact tR base p hp ⟨ts,gs,ss,nx⟩ ⟨6,oi,on,om,GE,od,ot⟩ w' (HQ.out.kept k) HS.out);have HB:=DX ((EY w (LO 6 oi on om GE od ot) 35).kept ((EX _).alloc (KR)));have HR:=DX (FB w LR 47 ((KO 6 oi on om GE od ot)));have HK:=DX (((EX w).alloc ((KO 6 oi on om GE od ot))).alloc (KR));clear GI HS MN HE;go_enter Tryz.func56,Tryz.ntmps56
   go_upto_region 1 with (fail)
   generalize (w.alloc ((KO 6 oi on om GE od ot))).alloc (KR)=w1 at *
   obtain ⟨b0,b1,b2,b3,b4,b5,b6⟩:=cX HB.out;go_wp2_with fail
   refine (HC.out w1 HK.out).mono ?_
   rintro e w2 ⟨rfl,hq,hf⟩;have QY:=DX hq;have PF:=DX ((FA HK.out GY).trans hf);have GK:=DX (hf.blk _ _ _ HR.out aE aF aF aF);clear hq hf HC b0 b1 b2 b3 b4 b5 b6 HX;go_wp2_with (refine aD rfl 47 (.tmp 4) (.tmp 27) rfl (w.heap.size+1) (bB XX.2) LR 47 rfl rfl GK.out AX rfl (aL _) ?_);exact Gx
 . have GI:=DX (show dK ⟨ts,gs,ss,nx⟩ ⟨7,oi,on,om,GE,od,ot⟩=eE ⟨ts,gs,ss,nx⟩ od by simp [dK])
   have HC:=DX (fun w' (k:aB w w')=>show Calls Tryz.prog 73 (PO p 7 oi on om GE od ot) w' (iD base p w' XX) by rw [HX.out,GI.out];exact Dd base p hp ⟨ts,gs,ss,nx⟩ ⟨7,oi,on,om,GE,od,ot⟩ w' (HQ.out.kept k) HS.out);have HB:=DX ((EY w (LO 7 oi on om GE od ot) 35).kept ((EX _).alloc (KR)));have HR:=DX (FB w LR 47 ((KO 7 oi on om GE od ot)));have HK:=DX (((EX w).alloc ((KO 7 oi on om GE od ot))).alloc (KR));clear GI HS MN HE;go_enter Tryz.func56,Tryz.ntmps56
   go_upto_region 1 with (fail)
   generalize (w.alloc ((KO 7 oi on om GE od ot))).alloc (KR)=w1 at *
   obtain ⟨b0,b1,b2,b3,b4,b5,b6⟩:=cX HB.out;go_wp2_with fail
   refine (HC.out w1 HK.out).mono ?_
   rintro e w2 ⟨rfl,hq,hf⟩;have QY:=DX hq;have PF:=DX ((FA HK.out GY).trans hf);have GK:=DX (hf.blk _ _ _ HR.out aE aF aF aF);clear hq hf HC b0 b1 b2 b3 b4 b5 b6 HX;go_wp2_with (refine aD rfl 47 (.tmp 4) (.tmp 32) rfl (w.heap.size+1) (bB XX.2) LR 47 rfl rfl GK.out AX rfl (aL _) ?_);exact Gx
 . have GI:=DX (show dK ⟨ts,gs,ss,nx⟩ ⟨8,oi,on,om,GE,od,ot⟩=iC ⟨ts,gs,ss,nx⟩ ot by simp [dK])
   have HC:=DX (fun w' (k:aB w w')=>show Calls Tryz.prog 74 (PO p 8 oi on om GE od ot) w' (iD base p w' XX) by rw [HX.out,GI.out];exact Ly base p hp ⟨ts,gs,ss,nx⟩ ⟨8,oi,on,om,GE,od,ot⟩ w' (HQ.out.kept k) HS.out (HE.out.kept k) OB);have HB:=DX ((EY w (LO 8 oi on om GE od ot) 35).kept ((EX _).alloc (KR)));have HR:=DX (FB w LR 47 ((KO 8 oi on om GE od ot)));have HK:=DX (((EX w).alloc ((KO 8 oi on om GE od ot))).alloc (KR));clear GI HS MN HE;go_enter Tryz.func56,Tryz.ntmps56
   go_upto_region 1 with (fail)
   generalize (w.alloc ((KO 8 oi on om GE od ot))).alloc (KR)=w1 at *
   obtain ⟨b0,b1,b2,b3,b4,b5,b6⟩:=cX HB.out;go_wp2_with fail
   refine (HC.out w1 HK.out).mono ?_
   rintro e w2 ⟨rfl,hq,hf⟩;have QY:=DX hq;have PF:=DX ((FA HK.out GY).trans hf);have GK:=DX (hf.blk _ _ _ HR.out aE aF aF aF);clear hq hf HC b0 b1 b2 b3 b4 b5 b6 HX;go_wp2_with (refine aD rfl 47 (.tmp 4) (.tmp 37) rfl (w.heap.size+1) (bB XX.2) LR 47 rfl rfl GK.out AX rfl (aL _) ?_);exact Gx
 . have GI:=DX (show dK ⟨ts,gs,ss,nx⟩ ⟨9,oi,on,om,GE,od,ot⟩=mC ⟨ts,gs,ss,nx⟩ GE od by simp [dK])
   have HC:=DX (fun w' (k:aB w w')=>show Calls Tryz.prog 75 (PO p 9 oi on om GE od ot) w' (iD base p w' XX) by rw [HX.out,GI.out];exact Ok base p hp ⟨ts,gs,ss,nx⟩ ⟨9,oi,on,om,GE,od,ot⟩ w' (HQ.out.kept k) HS.out (HE.out.kept k) MA);have HB:=DX ((EY w (LO 9 oi on om GE od ot) 35).kept ((EX _).alloc (KR)));have HR:=DX (FB w LR 47 ((KO 9 oi on om GE od ot)));have HK:=DX (((EX w).alloc ((KO 9 oi on om GE od ot))).alloc (KR));clear GI HS MN HE;go_enter Tryz.func56,Tryz.ntmps56
   go_upto_region 1 with (fail)
   generalize (w.alloc ((KO 9 oi on om GE od ot))).alloc (KR)=w1 at *
   obtain ⟨b0,b1,b2,b3,b4,b5,b6⟩:=cX HB.out;go_wp2_with fail
   refine (HC.out w1 HK.out).mono ?_
   rintro e w2 ⟨rfl,hq,hf⟩;have QY:=DX hq;have PF:=DX ((FA HK.out GY).trans hf);have GK:=DX (hf.blk _ _ _ HR.out aE aF aF aF);clear hq hf HC b0 b1 b2 b3 b4 b5 b6 HX;go_wp2_with (refine aD rfl 47 (.tmp 4) (.tmp 42) rfl (w.heap.size+1) (bB XX.2) LR 47 rfl rfl GK.out AX rfl (aL _) ?_);exact Gx
 . have GI:=DX (show dK ⟨ts,gs,ss,nx⟩ ⟨10,oi,on,om,GE,od,ot⟩=gQ ⟨ts,gs,ss,nx⟩ GE by simp [dK])
   have HC:=DX (fun w' (k:aB w w')=>show Calls Tryz.prog 76 (PO p 10 oi on om GE od ot) w' (iD base p w' XX) by rw [HX.out,GI.out];have h:=vH base p hp ⟨ts,gs,ss,nx⟩ ⟨10,oi,on,om,GE,od,ot⟩ w' (HQ.out.kept k) HS.out;simpa using h);have HB:=DX ((EY w (LO 10 oi on om GE od ot) 35).kept ((EX _).alloc (KR)));have HR:=DX (FB w LR 47 ((KO 10 oi on om GE od ot)));have HK:=DX (((EX w).alloc ((KO 10 oi on om GE od ot))).alloc (KR));clear GI HS MN HE;go_enter Tryz.func56,Tryz.ntmps56
   go_upto_region 1 with (fail)
   generalize (w.alloc ((KO 10 oi on om GE od ot))).alloc (KR)=w1 at *
   obtain ⟨b0,b1,b2,b3,b4,b5,b6⟩:=cX HB.out;go_wp2_with fail
   refine (HC.out w1 HK.out).mono ?_
   rintro e w2 ⟨rfl,hq,hf⟩;have QY:=DX hq;have PF:=DX ((FA HK.out GY).trans hf);have GK:=DX (hf.blk _ _ _ HR.out aE aF aF aF);clear hq hf HC b0 b1 b2 b3 b4 b5 b6 HX;go_wp2_with (refine aD rfl 47 (.tmp 4) (.tmp 48) rfl (w.heap.size+1) (bB XX.2) LR 47 rfl rfl GK.out AX rfl (aL _) ?_);exact Gx
 . have GI:=DX (show dK ⟨ts,gs,ss,nx⟩ ⟨11,oi,on,om,GE,od,ot⟩=eY ⟨ts,gs,ss,nx⟩ GE by simp [dK])
   have HC:=DX (fun w' (k:aB w w')=>show Calls Tryz.prog 76 (PO p 11 oi on om GE od ot) w' (iD base p w' XX) by rw [HX.out,GI.out];have h:=vH base p hp ⟨ts,gs,ss,nx⟩ ⟨11,oi,on,om,GE,od,ot⟩ w' (HQ.out.kept k) HS.out;simpa using h);have HB:=DX ((EY w (LO 11 oi on om GE od ot) 35).kept ((EX _).alloc (KR)));have HR:=DX (FB w LR 47 ((KO 11 oi on om GE od ot)));have HK:=DX (((EX w).alloc ((KO 11 oi on om GE od ot))).alloc (KR));clear GI HS MN HE;go_enter Tryz.func56,Tryz.ntmps56
   go_upto_region 1 with (fail)
   generalize (w.alloc ((KO 11 oi on om GE od ot))).alloc (KR)=w1 at *
   obtain ⟨b0,b1,b2,b3,b4,b5,b6⟩:=cX HB.out;go_wp2_with fail
   refine (HC.out w1 HK.out).mono ?_
   rintro e w2 ⟨rfl,hq,hf⟩;have QY:=DX hq;have PF:=DX ((FA HK.out GY).trans hf);have GK:=DX (hf.blk _ _ _ HR.out aE aF aF aF);clear hq hf HC b0 b1 b2 b3 b4 b5 b6 HX;go_wp2_with (refine aD rfl 47 (.tmp 4) (.tmp 48) rfl (w.heap.size+1) (bB XX.2) LR 47 rfl rfl GK.out AX rfl (aL _) ?_);exact Gx
 . have GI:=DX (show dK ⟨ts,gs,ss,nx⟩ ⟨12,oi,on,om,GE,od,ot⟩=nE ⟨ts,gs,ss,nx⟩ by simp [dK])
   have HC:=DX (fun w' (k:aB w w')=>show Calls Tryz.prog 77 #[.pointer (some ⟨p,0,none⟩)] w' (iD base p w' XX) by rw [HX.out,GI.out];exact Ht base p hp ⟨ts,gs,ss,nx⟩ w' (HQ.out.kept k) HS.out);have HB:=DX ((EY w (LO 12 oi on om GE od ot) 35).kept ((EX _).alloc (KR)));have HR:=DX (FB w LR 47 ((KO 12 oi on om GE od ot)));have HK:=DX (((EX w).alloc ((KO 12 oi on om GE od ot))).alloc (KR));clear GI HS MN HE;go_enter Tryz.func56,Tryz.ntmps56
   go_upto_region 1 with (fail)
   generalize (w.alloc ((KO 12 oi on om GE od ot))).alloc (KR)=w1 at *
   obtain ⟨b0,b1,b2,b3,b4,b5,b6⟩:=cX HB.out;go_wp2_with fail
   refine (HC.out w1 HK.out).mono ?_
   rintro e w2 ⟨rfl,hq,hf⟩;have QY:=DX hq;have PF:=DX ((FA HK.out GY).trans hf);have GK:=DX (hf.blk _ _ _ HR.out aE aF aF aF);clear hq hf HC b0 b1 b2 b3 b4 b5 b6 HX;go_wp2_with (refine aD rfl 47 (.tmp 4) (.tmp 52) rfl (w.heap.size+1) (bB XX.2) LR 47 rfl rfl GK.out AX rfl (aL _) ?_);exact Gx
 . have GI:=DX (show dK ⟨ts,gs,ss,nx⟩ ⟨13,oi,on,om,GE,od,ot⟩=eZ ⟨ts,gs,ss,nx⟩ oi by simp [dK])
   have HC:=DX (fun w' (k:aB w w')=>show Calls Tryz.prog 78 (PO p 13 oi on om GE od ot) w' (iD base p w' XX) by rw [HX.out,GI.out];exact Hx base p hp ⟨ts,gs,ss,nx⟩ ⟨13,oi,on,om,GE,od,ot⟩ w' (HQ.out.kept k) MN.out);have HB:=DX ((EY w (LO 13 oi on om GE od ot) 35).kept ((EX _).alloc (KR)));have HR:=DX (FB w LR 47 ((KO 13 oi on om GE od ot)));have HK:=DX (((EX w).alloc ((KO 13 oi on om GE od ot))).alloc (KR));clear GI HS MN HE;go_enter Tryz.func56,Tryz.ntmps56
   go_upto_region 1 with (fail)
   generalize (w.alloc ((KO 13 oi on om GE od ot))).alloc (KR)=w1 at *
   obtain ⟨b0,b1,b2,b3,b4,b5,b6⟩:=cX HB.out;go_wp2_with fail
   refine (HC.out w1 HK.out).mono ?_
   rintro e w2 ⟨rfl,hq,hf⟩;have QY:=DX hq;have PF:=DX ((FA HK.out GY).trans hf);have GK:=DX (hf.blk _ _ _ HR.out aE aF aF aF);clear hq hf HC b0 b1 b2 b3 b4 b5 b6 HX;go_wp2_with (refine aD rfl 47 (.tmp 4) (.tmp 57) rfl (w.heap.size+1) (bB XX.2) LR 47 rfl rfl GK.out AX rfl (aL _) ?_);exact Gx
theorem eP {w:World} {b i:Nat} {C:Array Value} {t:TypeId} {v:Value} (h:aA w b C t) (hc:C[i]?=some v):w.setCell ⟨b,i,none⟩ v=w:=by
 have e0:C.setIfInBounds i v=C:=by
  apply Array.ext_getElem?
  intro j;rw [Array.getElem?_setIfInBounds]
  split
  . rename_i e;subst e
    have FV:=(Array.getElem?_eq_some_iff.1 hc).1
    rw [if_pos FV,hc]
  . rfl
 rw [setCell_eq_setRow w b i C t (0,0) v h,e0]
 have e1:(w.setRow b C).heap=w.heap:=by
  apply Array.ext_getElem?
  intro j
  by_cases hj:j=b
  . subst hj
    exact (setRow_heap w j C C t (0,0) h).trans (show w.heap[j]?=_ from h).symm
  . exact setRow_other w b j C hj
 show World.mk _ _ _ _ _=_
 cases w
 simp_all [World.setRow]
theorem fU {P:Program} {fn:Func} {p r u:Tmp} {ty tr:TypeId} (h:fn.results=#[.cell p ty,.cell r tr,.tmp u]) (tmps:Array Value) (w:World) (g gr:Nat) (t t2:TypeId) (cs rs:Array Value) (d d2:TypeDesc)
 (hp:tmps.getD p undef=.pointer (some ⟨g,0,none⟩)) (hg:aA w g cs t) (hr:tmps.getD r undef=.pointer (some ⟨gr,0,none⟩)) (IB:aA w gr rs t2)
 (hu:P.underlying ty=some d) (hd:(match d with | .struct _ | .array _ _=>true | _=>false)=true) (hi:(P.info? ty).map (·.size)=some cs.size)
 (hu2:P.underlying tr=some d2) (JH:(match d2 with | .struct _ | .array _ _=>true | _=>false)=true) (RR:(P.info? tr).map (·.size)=some rs.size) (v:Value) (hv:tmps.getD u undef=v) :
 (results fn tmps).run P w=.ok (.tuple #[.agg cs,.agg rs,v]) w:=by
 have hp':tmps[p]?.getD undef=.pointer (some ⟨g,0,none⟩):=by simpa using hp
 have RU:tmps[r]?.getD undef=.pointer (some ⟨gr,0,none⟩):=by simpa using hr
 have hv':tmps[u]?.getD undef=v:=by simpa using hv
 have hg':w.heap[g]?=some (.cells cs t (0,0)):=hg
 have hgr':w.heap[gr]?=some (.cells rs t2 (0,0)):=IB
 simp [results,h,hp',RU,hv',asAddr,run_loadVar_row w g t ty cs (0,0) d hg' hu hd hi,run_loadVar_row w gr t2 tr rs (0,0) d2 hgr' hu2 JH RR]
def Xs (wo:World) (s:dN) (e:Ending) (w':World):Prop :=
 (dP s=false->e=.returned (.tuple #[.agg LN,.int .i64 1])) /\
 (dP s=true->∃ x1 y1 x2 y2,e=.returned (.tuple #[.agg (LS x1 s.ts.length y1 x2 s.gs.length y2 none 0 0 0),.int .i64 0]) /\
  w'.ownsRow wo.heap.size 62 3 (.slice x1 s.ts.length y1) s.ts.length (s.ts.flatMap dW)/\w'.ownsRow wo.heap.size 68 2 (.slice x2 s.gs.length y2) s.gs.length (s.gs.flatMap eN))/\aB wo w'
theorem cC {w:World} {b:Nat} {C:Array Value} {t e:TypeId} {base k n:Nat} {v:Value} {xs:List Value} (h:w.ownsRow base e k v n xs) (hb:aA w b C t) (ht:t≠e) (cs:Array Value):(w.setRow b cs).ownsRow base e k v n xs:=bI h hb ht (dB w b cs)
theorem Cm (aT aG aS:Option Addr) (cT cG cS:Nat) (ts:List Th) (gs:List Tg) (ss:List Se) (nx:Int) (wo:World) (hT:bO wo aT ts.length ts) (hG:cJ wo aG gs.length gs) (hS:cP wo aS ss.length ss) (UE:∀ x∈gs,x.n.size<=1000000) (hE:uR wo) :
 Calls Tryz.prog 26 #[.agg (LS aT ts.length cT aG gs.length cG aS ss.length cS nx)] wo (Xs wo ⟨ts,gs,ss,nx⟩):=by
 have HB:=DX ((EY wo (LS aT ts.length cT aG gs.length cG aS ss.length cS nx) 26).kept ((EX _).alloc (KN)));have HR:=DX (FB wo LN 26 ((KS aT ts.length cT aG gs.length cG aS ss.length cS nx)));have HK:=DX (((EX wo).alloc ((KS aT ts.length cT aG gs.length cG aS ss.length cS nx))).alloc (KN));have XK:=DX (fun w' (k:aB wo w')=>iQ aT aG aS cT cG cS ts gs ss nx w' (hT.kept k) (hG.kept k) (hS.kept k) UE (hE.kept k));have JV:=DX hT;have NN:=DX hG;have MN:=DX hS
 cases GL:dP ⟨ts,gs,ss,nx⟩ with
 | false =>
  rw [GL,show (if false=true then (0:Int) else 1)=1 from rfl] at XK;have IN:=DX GL;clear GL hT hG hS UE hE;go_enter Tryz.func26,Tryz.ntmps26
  go_upto_region 1 with (fail)
  generalize (wo.alloc ((KS aT ts.length cT aG gs.length cG aS ss.length cS nx))).alloc (KN)=w1 at *
  obtain ⟨r0,r1,r2,r3⟩:=aI HB.out;go_wp2_with fail
  refine (XK.out w1 HK.out).mono ?_
  rintro e w2 ⟨rfl,FX⟩;have FW:=DX (HK.out.trans FX);have GK:=DX (HR.out.kept FX);clear FX XK r0 r1 r2 r3;go_wp2_with (refine aD rfl 26 (.tmp 2) (.tmp 8) rfl (wo.heap.size+1) LN LN 26 rfl rfl GK.out AY rfl (by simp [Value.oneCell']) ?_)
  refine EI (v:=.tuple #[.agg LN,.int .i64 1]) ?_ rfl ⟨fun _=>rfl,(fun h=>by rw [IN.out] at h;cases h),FC FW.out (ED _) _⟩
  exact cB rfl _ _ (wo.heap.size+1) 26 LN _ rfl (GK.out.setRow _) EW rfl AY _ rfl
 | true =>
  have hbf:=bR GL;obtain ⟨lT,_,_,lG,_,_,lS,_,_,_,_⟩:=hbf;dsimp only at lT lG lS;rw [GL,show (if true=true then (0:Int) else 1)=0 from rfl] at XK;have MK:=DX (fun w' (k:aB wo w')=>tM aT aG aS cT cG cS ts gs ss nx w' (hT.kept k) (hG.kept k) (hS.kept k) ⟨aE,aE,aE⟩);have IN:=DX GL;clear GL hT hG hS UE hE;go_enter Tryz.func26,Tryz.ntmps26
  go_upto_region 1 with (fail)
  generalize (wo.alloc ((KS aT ts.length cT aG gs.length cG aS ss.length cS nx))).alloc (KN)=w1 at *
  obtain ⟨r0,r1,r2,r3⟩:=aI HB.out;go_wp2_with fail
  refine (XK.out w1 HK.out).mono ?_
  rintro e w2 ⟨rfl,FX⟩;have FW:=DX (HK.out.trans FX);have GK:=DX (HR.out.kept FX);have GP:=DX (HB.out.kept FX);clear FX XK r0 r1 r2 r3 HB HR;obtain ⟨r0,r1,r2,r3⟩:=aI GP.out;go_wp2_with fail
  refine (MK.out w2 FW.out).mono ?_
  rintro e w3 ⟨x1,y1,x2,y2,x3,y3,rfl,o1,o2,_,IK⟩;have GC:=DX (FW.out.trans IK);have JG:=DX (GK.out.kept IK);have HO1:=DX (bA o1 (EZ FW.out));have UR:=DX (bA o2 (EZ FW.out));clear o1 o2 IK MK r0 r1 r2 r3 GP
  go_upto_region 4 with (fail)
  have HX:=DX (EY w3 (LS x1 ts.length y1 x2 gs.length y2 x3 ss.length y3 nx) 26);have YZ:=DX ((EX w3).alloc ((KS x1 ts.length y1 x2 gs.length y2 x3 ss.length y3 nx)));have GQ:=DX (GC.out.trans YZ.out);have IW:=DX (JG.out.kept YZ.out);have WV:=DX (aH HO1.out YZ.out);have PG:=DX (aH UR.out YZ.out);have hx1:wo.heap.size+1<w3.heap.size:=JG.out.lt;generalize w3.alloc ((KS x1 ts.length y1 x2 gs.length y2 x3 ss.length y3 nx))=w4 at *;generalize w3.heap.size=X at *;obtain ⟨r0,r1,r2,r3⟩:=aI HX.out;have f2:=HX.out.free 2;have f3:=HX.out.free 3;have hX5:=HX.out.set (i:=2) (.slice none 0 0);have UK:=eK w4 X 2 (.slice none 0 0);have hR5:=aM IW.out UK (by simp;omega);have o5:=bI WV.out HX.out aF UK;have o6:=bI PG.out HX.out aF UK;have k5:=aB.setCell GQ.out (p:=⟨X,2,none⟩) (by show wo.heap.size<=X;omega) (.slice none 0 0);have hs7:=eK (w4.setCell ⟨X,2,none⟩ (.slice none 0 0)) X 3 (.int .i64 0);have RC:=DX (show aA ((w4.setCell ⟨X,2,none⟩ (.slice none 0 0)).setCell ⟨X,3,none⟩ (.int .i64 0)) X (LS x1 ts.length y1 x2 gs.length y2 none 0 0 0) 26 by have:=hX5.set (i:=3) (.int .i64 0);simpa using this);have VY:=DX (aM hR5 hs7 (by simp;omega));have XP:=DX (bI o5 hX5 aF hs7);have HO8:=DX (bI o6 hX5 aF hs7);have SP:=DX (aB.setCell k5 (p:=⟨X,3,none⟩) (by show wo.heap.size<=X;omega) (.int .i64 0));clear hX5 UK hR5 o5 o6 k5 hs7
  go_upto_region 5 with (fail)
  generalize (w4.setCell ⟨X,2,none⟩ (.slice none 0 0)).setCell ⟨X,3,none⟩ (.int .i64 0)=w7 at *
  clear r0 r1 r2 r3 f2 f3;obtain ⟨r0,r1,r2,r3⟩:=aI RC.out;go_wp2_with (refine aD rfl 26 (.tmp 2) (.tmp 13) rfl (wo.heap.size+1) (LS x1 ts.length y1 x2 gs.length y2 none 0 0 0) LN 26 rfl rfl VY.out AY rfl (by simp [Value.oneCell']) ?_)
  refine EI (v:=.tuple #[.agg (LS x1 ts.length y1 x2 gs.length y2 none 0 0 0),.int .i64 0]) ?_ rfl ⟨(fun h=>by rw [IN.out] at h;cases h),fun _=>⟨x1,y1,x2,y2,rfl,cC XP.out VY.out aF _,cC HO8.out VY.out aF _⟩,FC SP.out (ED _) _⟩
  exact cB rfl _ _ (wo.heap.size+1) 26 (LS x1 ts.length y1 x2 gs.length y2 none 0 0 0) _ rfl (VY.out.setRow _) EW rfl AY _ rfl
end Go.Proofs.YtkfmladhicapeaaGreatDoor
