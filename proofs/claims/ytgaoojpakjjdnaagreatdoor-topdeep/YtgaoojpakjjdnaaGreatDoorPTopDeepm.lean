/-
  As deep as may be: for every number the call of presstop.TopDeep answers true, and what it was handed reads as before.
-/
import Derived.Test.YtgaoojpakjjdnaaGreatDoorCards
import Derived.Test.YtgaoojpakjjdnaaGreatDoorTie
import Derived.Test.YtgaoojpakjjdnaaGreatDoorU47
import Derived.Test.YtgaoojpakjjdnaaGreatDoorU48
import Derived.WalkKit
import Derived.ProofKit
import Derived.OpenShut
import Derived.ShutString
import Derived.SizedLaws
import Derived.ChangeOld
import Derived.Below
import Derived.Lay
import Derived.Deep.DeepHandedRow
import Derived.Deep.DeepWitnessRowRef
namespace Go.Proofs.YtgaoojpakjjdnaaGreatDoor
open Go.ChangeShapes Go.WideShapes Go.ChangeAt Go.RowKit
set_option linter.unusedVariables false
theorem own:ownKnob Tryz.prog.godebug=none:=by kernel_rfl
theorem laidOut:laidOutB Tryz.prog=true:=by kernel_rfl
set_option maxRecDepth 100000 in
theorem the_contract (H:Type) (enc:TypeId×Value→H) (F:Stop.Interp) (W:World) (base:Nat) (args:Array Value) (ds gs:List (DataW H)) (before:List MemPlace)
    (hval:∀ (j:Nat) t v,Tryz.f6.params[j]?=some t→args[j]?=some v→Value.okWide Tryz.prog W .any base t v)
    (hW:DataW.Whole enc Tryz.prog Tryz.f6.params.toList Rows.topDeepSpec.vars false W args.toList ds gs before)
    (hsz0:(DataW.weightsEach Tryz.prog (Tryz.f6.params.toList++(OpenSpec.ofChange Rows.topDeepSpec).bare.plain.varTypes Tryz.prog) (ds++gs)).all (·≤reachBytes)=true) (hL:laidMetH Tryz.prog Rows.topDeepRow.laid W) :
    Calls Tryz.prog 6 args W fun e W'=>∃ v,e = .returned v∧Rows.topDeepSpec.post enc Tryz.prog Tryz.f6 false true false false W args v W':=by
  have hW':=hW
  obtain⟨p,q,hA0,hV,rfl,hfz,hnd⟩:=hW
  have hA:DataW.TrodAll enc Tryz.prog W 0 (fun _=>true) true Tryz.f6.params.toList args.toList ds p:=hA0
  rw[Tryz.params6] at hA hval hsz0
  obtain⟨v0,vs0,d0,ds0,p0,q0,hargs,rfl,rfl,h0,r0⟩:=trodAll_cons hA
  obtain⟨rfl,rfl,rfl⟩:=trodAll_nil r0
  obtain rfl:args=#[v0]:=by cases args;simp_all
  obtain⟨rfl,rfl⟩:=trodVars_none hV
  obtain⟨x0,rfl,rfl,rfl,z0⟩:=open_int Tryz.underlying3 (hval 0 3 v0 rfl rfl) h0
  clear hA0
  refine(L.deep_walk (C9s hL) (Nat.le_refl _) (C6o hL) x0 (by have:=bounds_i64 z0;omega) (by have:=bounds_i64 z0;omega)).mono fun e W' ⟨he,bel⟩=>?_
  subst he
  exact⟨_,rfl,_,_,_,[],_,[],hW',trodAll_mk1 (shut_bool Tryz.underlying4 _),(trodAll_cons_mk (shut_int Tryz.underlying3 z0) trodAll_mk0),rfl,bel.frame _,fun h=>by cases h⟩
theorem the_laid (os:Os) (args:Array Value):laidMet Tryz.prog Rows.topDeepRow.laid ((World.laidAll Tryz.prog os Rows.topDeepRow.laid).forCall (fun _ _=>0) ⟨#[],args,[]⟩).memory:=
  laidMet_laidAll args (by kernel_rfl) (by kernel_rfl)
set_option maxRecDepth 100000 in
theorem the_lifted (os:Os) (started:os.Started) (H:Type) (enc:TypeId×Value→H) (F:Stop.Interp) :
    ReturnsInHanded {} Tryz.checked os 6 .any ((OpenSpec.ofChange Rows.topDeepSpec).preRow enc Tryz.prog Tryz.f6 Rows.topDeepRow.domain false Rows.topDeepRow.laid) (((OpenSpec.ofChange Rows.topDeepSpec).at F).post enc Tryz.prog Tryz.f6 false true false false):=by
  have hx:DataW.whole enc Tryz.prog ((World.laidAll Tryz.prog os Rows.topDeepRow.laid).forCall (fun _ _=>0) ⟨#[],#[.int .i64 0],[]⟩).memory Tryz.f6.params.toList Rows.topDeepSpec.vars false #[Value.int .i64 0].toList 8=some ([.lit (.int .i64 0)],[],[]):=by kernel_rfl
  refine returnsInHanded_of_row (C:=Tryz.checked) (s:=OpenSpec.ofChange Rows.topDeepSpec) own started (by kernel_rfl) Tryz.func6
    (witness_row_atRef (enc:=enc) (C:=Tryz.checked) false (World.laidAll Tryz.prog os Rows.topDeepRow.laid) #[.int .i64 0] (World.laidAll_os _ _ _) (by kernel_rfl) (by kernel_rfl) (by kernel_rfl)
      (OpenSpec.preRow_of_cond 8 hx (by kernel_rfl) (fun k hk=>by cases hk) (by kernel_rfl) (the_laid os _))) ?_
  intro W base args ds gs before hval hW _ _ hsz hL _ _
  exact the_contract H enc F W base args ds gs before hval hW hsz hL
theorem the_said:Rows.TopDeepSaid:=
  OpenClaim.holds_of_cond 6 Tryz.f6 rfl rfl rfl rfl rfl rfl rfl ⟨rfl,rfl,rfl,rfl,rfl⟩ rfl rfl rfl rfl rfl (by kernel_rfl) Tryz.func6 (by kernel_rfl)
    (of_decide_eq_true (by kernel_rfl)) (by unfold Func.isWrapper;first|(rw[if_pos (by decide +kernel)];kernel_rfl)|(rw[if_neg (by decide +kernel)];exact⟨rfl,rfl⟩))
    (fun os started H enc _ F=>by rw[OpenClaim.pre_eq_preRow];exact the_lifted os started H enc F)
theorem the_plain (f : FuncId) (fn : Func) (hf : Tryz.pinned.checked.prog.funcNamed "fieldpress/presstop.TopDeep" = some f) (hfn : Tryz.pinned.checked.prog.funcs[f]? = some fn) :
    true=Tryz.pinned.checked.prog.looks []∧∀ (j:Nat) t,fn.params[j]?=some t→Tryz.pinned.checked.prog.wantsStandIn t=false:=by
  obtain rfl : f = 6 := Option.some.inj ((show Tryz.prog.funcNamed "fieldpress/presstop.TopDeep" = some 6 by kernel_rfl).symm.trans hf) |>.symm
  obtain rfl:fn=Tryz.f6:=(Option.some.inj (Tryz.func6.symm.trans hfn)).symm
  refine⟨by kernel_rfl,fun j t ht=>?_⟩
  rw[Tryz.params6] at ht
  have ht:t=3:=by
    have:=Array.mem_of_getElem? ht
    simp at this
    omega
  rcases ht with rfl
  · exact(show Tryz.prog.wantsStandIn 3=false by kernel_rfl)
theorem topDeep_proved:Rows.TopDeepCardSaid:=
  Claim7.holds_tied_plain_at .later [] _ _ _ _ the_said (fun _ h=>by cases h) (by kernel_rfl) (fun _ h=>by cases h) topDeep_row_tie rfl ⟨rfl,rfl⟩ (by kernel_rfl) rfl the_plain (by kernel_rfl)
end Go.Proofs.YtgaoojpakjjdnaaGreatDoor
