/- The law ModelAbort (conditions: the tables lie as they are laid). -/
import Derived.Test.YtkfmladhicapeaaGreatDoorY48
set_option maxRecDepth 100000
set_option maxHeartbeats 4000000
namespace Go.Proofs.YtkfmladhicapeaaGreatDoor
open Go.RowKit Go.Shelf
attribute [local go_sem] Oper.semAt_some
theorem model_abort (aT aG aS aO:Option Addr) (cT cG cS cO:Nat) (ts:List Th) (gs:List Tg) (ss:List Se) (nx:Int) (os:List fV) (wo:World) (hT:bO wo aT ts.length ts) (hG:cJ wo aG gs.length gs) (hS:cP wo aS ss.length ss) (hO:iG wo aO os.length os) (hE:uR wo) :
 Calls Tryz.prog 21 #[.agg (L5 aT ts.length cT aG gs.length cG aS ss.length cS nx aO os.length cO)] wo fun e w'=>e=.returned (.bool true)/\aB wo w':=by
 have HW:=DX (fun (w9:World) (k:aB wo w9)=>each_walk aT aG aS aO cT cG cS cO ts gs ss nx os 13 w9 (hO.kept k) (fun a c qs w8 k8 h=>Dr aT aG aS a cT cG cS c ts gs ss nx qs w8 (hT.kept (k.trans k8)) (hG.kept (k.trans k8)) (hS.kept (k.trans k8)) h (hE.kept (k.trans k8))));clear hT hG hS hO hE;have HB:=DX (EY wo (L5 aT ts.length cT aG gs.length cG aS ss.length cS nx aO os.length cO) 29);have HK:=DX ((EX wo).alloc (.cells (L5 aT ts.length cT aG gs.length cG aS ss.length cS nx aO os.length cO) 29));go_enter Tryz.func21,Tryz.ntmps21
 go_upto_region 1 with (fail)
 generalize wo.alloc (.cells (L5 aT ts.length cT aG gs.length cG aS ss.length cS nx aO os.length cO) 29)=w1 at *;obtain ⟨r0,r1,r2,r3,r4⟩:=vD HB.out;go_wp2_with fail
 refine (HW.out w1 HK.out).mono ?_
 rintro e w4 ⟨rfl,IV⟩;have GQ:=DX (HK.out.trans IV);clear IV;go_wp2_with fail;go_ret;exact ⟨rfl,GQ.out⟩
end Go.Proofs.YtkfmladhicapeaaGreatDoor
