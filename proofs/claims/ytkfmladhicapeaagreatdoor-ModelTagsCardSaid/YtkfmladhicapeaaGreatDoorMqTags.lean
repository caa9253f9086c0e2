/- The law ModelTags (conditions: the tables lie as they are laid). -/
import Derived.Test.YtkfmladhicapeaaGreatDoorY48
set_option maxRecDepth 100000
set_option maxHeartbeats 4000000
namespace Go.Proofs.YtkfmladhicapeaaGreatDoor
open Go.RowKit Go.Shelf
attribute [local go_sem] Oper.semAt_some
theorem model_tags (aT aG aS aO:Option Addr) (cT cG cS cO:Nat) (ts:List Th) (gs:List Tg) (ss:List Se) (nx:Int) (os:List fV) (wo:World) (hT:bO wo aT ts.length ts) (hG:cJ wo aG gs.length gs) (hS:cP wo aS ss.length ss) (hO:iG wo aO os.length os) (hE:uR wo) :
 Calls Tryz.prog 7 #[.agg (L5 aT ts.length cT aG gs.length cG aS ss.length cS nx aO os.length cO)] wo fun e w'=>e=.returned (.bool true)/\aB wo w':=by
 have HW:=DX (fun (bk:Nat) (w9:World) (k:aB wo w9) (hks:∀ i,i<5->∃ x:Int,∀ w8,aB w9 w8->w8.cell? ⟨bk,i,none⟩=some (.int .i64 x))=>FP aT aG aS aO cT cG cS cO ts gs ss nx os bk 5 (by decide) w9 (hO.kept k) (fun a c qs w8 k8 h=>Dr aT aG aS a cT cG cS c ts gs ss nx qs w8 (hT.kept (k.trans k8)) (hG.kept (k.trans k8)) (hS.kept (k.trans k8)) h (hE.kept (k.trans k8))) hks);clear hT hG hS hO hE;have HB:=DX (EY wo (L5 aT ts.length cT aG gs.length cG aS ss.length cS nx aO os.length cO) 29);have HK:=DX ((EX wo).alloc (.cells (L5 aT ts.length cT aG gs.length cG aS ss.length cS nx aO os.length cO) 29));go_enter Tryz.func7,Tryz.ntmps7
 go_upto_region 1 with (fail)
 generalize wo.alloc (.cells (L5 aT ts.length cT aG gs.length cG aS ss.length cS nx aO os.length cO) 29)=w1 at *;obtain ⟨r0,r1,r2,r3,r4⟩:=vD HB.out;have YZ:=DX (HK.out.alloc (.cells #[.int .i64 9,.int .i64 10,.int .i64 11,.int .i64 9,.int .i64 12] 3))
 have HC:=DX (kinds_of (EY w1 #[.int .i64 9,.int .i64 10,.int .i64 11,.int .i64 9,.int .i64 12] 3) 5 (fun i hi=>by
  have h:i=0\/i=1\/i=2\/i=3\/i=4:=by omega
  rcases h with rfl | rfl | rfl | rfl | rfl <;> exact ⟨_,rfl⟩))
 go_wp2_with fail
 refine (HW.out w1.heap.size _ YZ.out HC.out).mono ?_
 rintro e w4 ⟨rfl,IV⟩;have GQ:=DX (YZ.out.trans IV);clear IV;go_wp2_with fail;go_ret;exact ⟨rfl,GQ.out⟩
end Go.Proofs.YtkfmladhicapeaaGreatDoor
