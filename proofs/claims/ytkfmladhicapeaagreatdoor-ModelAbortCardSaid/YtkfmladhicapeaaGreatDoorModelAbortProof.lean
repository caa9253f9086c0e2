/- The statement of the law ModelAbort, tied to the program's text: for every input it answers true, and its argument reads behind the call as before it (no conditions but that the listed tables lie as the program's text lays them, which the card ties). -/
import Derived.Test.YtkfmladhicapeaaGreatDoorY46
import Derived.Test.YtkfmladhicapeaaGreatDoorMqAbort
import Derived.Test.YtkfmladhicapeaaGreatDoorFaModelAbort
import Derived.Test.YtkfmladhicapeaaGreatDoorCards
import Derived.Test.YtkfmladhicapeaaGreatDoorTie
set_option maxRecDepth 100000
namespace Go.Proofs.YtkfmladhicapeaaGreatDoor.modelAbort
open Go.ChangeShapes Go.WideShapes Go.ChangeAt Go.RowKit Go.Joins
theorem own:ownKnob Tryz.prog.godebug=none:=by kernel_rfl
theorem laidOut:laidOutB Tryz.prog=true:=by kernel_rfl
theorem contract (H:Type) (enc:TypeId × Value->H) (W:World) (base:Nat) (args:Array Value) (ds gs:List (DataW H)) (before:List MemPlace)
 (WP:∀ (j:Nat) t v,Tryz.f21.params[j]?=some t->args[j]?=some v->Value.okWide Tryz.prog W .any base t v)
 (hW:DataW.Whole enc Tryz.prog Tryz.f21.params.toList Rows.modelAbortSpec.vars false W args.toList ds gs before)
 (aCc:(DataW.weightsEach Tryz.prog (Tryz.f21.params.toList++(OpenSpec.ofChange Rows.modelAbortSpec).bare.plain.varTypes Tryz.prog) (ds++gs)).all (·<=reachBytes)=true) (hL:laidMetH Tryz.prog Rows.modelAbortRow.laid W) (hsh:W.ShapedOpen Tryz.prog) :
 Calls Tryz.prog 21 args W fun e W'=>∃ v,e=.returned v/\Rows.modelAbortSpec.post enc Tryz.prog Tryz.f21 false true false false W args v W':=by
 have hEN:=Uw hL hsh
 have IG:(DataW.weightsEach Tryz.prog (Tryz.f21.params.toList++(OpenSpec.ofChange Rows.modelAbortSpec).bare.plain.varTypes Tryz.prog) (ds++gs)).all (·<=reachBytes)=true:=aCc
 have UM:∀ (j:Nat) t v,Tryz.f21.params[j]?=some t->args[j]?=some v->Value.okWide Tryz.prog W .any base t v:=WP
 have hW':=hW;obtain ⟨p,q,hA0,hV,rfl,_,_⟩:=hW;have hA:DataW.TrodAll enc Tryz.prog W 0 (fun _=>true) true Tryz.f21.params.toList args.toList ds p:=hA0;rw [Tryz.params21] at hA UM IG;obtain ⟨v0,d0,rfl,rfl,h0⟩:=trodAll_one hA;obtain ⟨rfl,rfl⟩:=trodVars_none hV;clear hA0 WP aCc;simp only [List.append_nil] at hW'
 have FV:∀ x∈p,x.block<W.heap.size:=fun x hx=>by simpa using hW'.lt x hx
 have hz:∀ n∈d0.weights Tryz.prog 29,n<=reachBytes:=fun n hn=>by simpa using List.all_eq_true.1 IG n (DataW.weights_mem_each (j:=0) (t:=29) (d:=d0) rfl rfl n hn)
 obtain ⟨aT,aG,aS,aO,cT,cG,cS,cO,ts,gs2,ss,nx,os,KU,hT,hG,hS,hO⟩:=Uu (UM 0 29 v0 rfl rfl) h0 hz
 have aCi:Calls Tryz.prog 21 #[v0] W fun e w'=>e=.returned (.bool true)/\aB W w':=by rw [KU];exact model_abort aT aG aS aO cT cG cS cO ts gs2 ss nx os W hT hG hS hO hEN
 refine aCi.mono fun e W' ⟨he,hB⟩=>?_
 subst he;have aBz:DataW.Trod enc Tryz.prog W' 0 (fun b=>decide (b<W.heap.size)) true 29 v0 d0 p :=
  Below.trod laidOut (by kernel_rfl) (of_decide_eq_true (by kernel_rfl)) h0 hB FV
 exact ⟨_,rfl,⟨_,_,_,[],_,[],hW',trodAll_mk1 (shut_bool EL _),trodAll_mk1 aBz,rfl,hB.frame _,fun h=>by cases h⟩⟩
noncomputable def laidWorld (os:Os):World:=World.laidAll Tryz.prog os Rows.modelAbortRow.laid
theorem laid_met (os:Os):laidMet Tryz.prog Rows.modelAbortRow.laid ((laidWorld os).forCall (fun _ _=>0) ⟨#[],#[.agg (L5 none 0 0 none 0 0 none 0 0 0 none 0 0)],[]⟩).memory :=
 laidMet_laidAll _ (by kernel_rfl) (by kernel_rfl)
theorem reads (os:Os) {H:Type} (enc:TypeId × Value->H):∃ places,DataW.whole enc Tryz.prog ((laidWorld os).forCall (fun _ _=>0) ⟨#[],#[.agg (L5 none 0 0 none 0 0 none 0 0 0 none 0 0)],[]⟩).memory Tryz.f21.params.toList Rows.modelAbortSpec.vars false #[Value.agg (L5 none 0 0 none 0 0 none 0 0 0 none 0 0)].toList 16=some ([.agg [.agg [.nil,.nil,.nil,.lit (.int .i64 0)],.nil]],[],places) :=
 ⟨[],by kernel_rfl⟩
theorem lifted (os:Os) (started:os.Started) (H:Type) (enc:TypeId × Value->H) (F:Stop.Interp) :
 ReturnsInHanded {} Tryz.checked os 21 .any ((OpenSpec.ofChange Rows.modelAbortSpec).preRow enc Tryz.prog Tryz.f21 Rows.modelAbortRow.domain false Rows.modelAbortRow.laid) (((OpenSpec.ofChange Rows.modelAbortSpec).at F).post enc Tryz.prog Tryz.f21 false true false false):=by
 obtain ⟨places,hx⟩:=reads os enc;refine returnsInHanded_of_row (C:=Tryz.checked) (s:=OpenSpec.ofChange Rows.modelAbortSpec) own started (by kernel_rfl) Tryz.func21
  (witness_row_at (enc:=enc) (C:=Tryz.checked) false (laidWorld os) #[.agg (L5 none 0 0 none 0 0 none 0 0 0 none 0 0)] rfl (by kernel_rfl) (by kernel_rfl) (by kernel_rfl)
   (OpenSpec.preRow_of_cond 16 hx (by kernel_rfl) (fun k hk=>by cases hk) (by kernel_rfl) (laid_met os))) ?_
 intro W base args ds gs before UM hW _ _ IG hL hsh _;exact contract H enc W base args ds gs before UM hW IG hL hsh
theorem said:Rows.ModelAbortSaid :=
 OpenClaim.holds_of_cond 21 Tryz.f21 rfl rfl rfl rfl rfl rfl rfl ⟨rfl,rfl,rfl,rfl,rfl⟩ rfl rfl rfl rfl rfl (by kernel_rfl) Tryz.func21 modelAbort_facts
  (of_decide_eq_true (by kernel_rfl)) (by unfold Func.isWrapper;first | (rw [if_pos (by decide +kernel)];kernel_rfl) | (rw [if_neg (by decide +kernel)];exact ⟨rfl,rfl⟩))
  (fun os started H enc _ F=>by rw [OpenClaim.pre_eq_preRow];exact lifted os started H enc F)
theorem plain (f:FuncId) (fn:Func) (hf:Tryz.pinned.checked.prog.funcNamed "silo/silolaw22.ModelAbort" = some f) (hfn:Tryz.pinned.checked.prog.funcs[f]?=some fn) :
 false=Tryz.pinned.checked.prog.looks []/\∀ (j:Nat) t,fn.params[j]?=some t->Tryz.pinned.checked.prog.wantsStandIn t=false:=by
 obtain rfl:f=21:=EB ((show Tryz.prog.funcNamed "silo/silolaw22.ModelAbort" = some 21 by kernel_rfl).symm.trans hf) |>.symm
 obtain rfl:fn=Tryz.f21:=(EB (Tryz.func21.symm.trans hfn)).symm
 refine ⟨by kernel_rfl,fun j t ht=>?_⟩;rw [Tryz.params21] at ht
 obtain rfl:t=29:=by simpa using Array.mem_of_getElem? ht
 exact (show Tryz.prog.wantsStandIn 29=false by kernel_rfl)
theorem proved:Rows.ModelAbortCardSaid :=
 Claim7.holds_tied_plain_at .later [] _ _ _ _ said (fun _ h=>by cases h) (by kernel_rfl) (fun _ h=>by cases h) modelAbort_row_tie rfl ⟨rfl,rfl⟩ (by kernel_rfl) rfl plain (by kernel_rfl)
end Go.Proofs.YtkfmladhicapeaaGreatDoor.modelAbort
