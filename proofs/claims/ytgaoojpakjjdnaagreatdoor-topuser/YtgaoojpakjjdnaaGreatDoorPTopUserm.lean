/-
  A user is a user: for every name, score, role, number of friends, key, and whether it is open, the call of presstop.TopUser answers true, and what it was handed reads as before.
-/
import Derived.Test.YtgaoojpakjjdnaaGreatDoorCards
import Derived.Test.YtgaoojpakjjdnaaGreatDoorTie
import Derived.Test.YtgaoojpakjjdnaaGreatDoorV45
import Derived.Test.YtgaoojpakjjdnaaGreatDoorV47
import Derived.WalkKit
import Derived.ProofKit
import Derived.OpenShut
import Derived.ShutString
import Derived.SizedLaws
import Derived.ChangeOld
import Derived.Below
import Derived.Lay
import Derived.Deep.DeepHandedRow
import Derived.Deep.DeepWitnessRowRef
namespace Go.Proofs.YtgaoojpakjjdnaaGreatDoor
open Go.ChangeShapes Go.WideShapes Go.ChangeAt Go.RowKit
open Go.ChangeMaps (open_string shut_string)
set_option linter.unusedVariables false
theorem own:ownKnob Tryz.prog.godebug=none:=by kernel_rfl
theorem laidOut:laidOutB Tryz.prog=true:=by kernel_rfl
set_option maxRecDepth 100000 in
theorem the_contract (H:Type) (enc:TypeId×Value→H) (F:Stop.Interp) (W:World) (base:Nat) (args:Array Value) (ds gs:List (DataW H)) (before:List MemPlace)
    (hval:∀ (j:Nat) t v,Tryz.f5.params[j]?=some t→args[j]?=some v→Value.okWide Tryz.prog W .any base t v)
    (hW:DataW.Whole enc Tryz.prog Tryz.f5.params.toList Rows.topUserSpec.vars false W args.toList ds gs before)
    (hsz0:(DataW.weightsEach Tryz.prog (Tryz.f5.params.toList++(OpenSpec.ofChange Rows.topUserSpec).bare.plain.varTypes Tryz.prog) (ds++gs)).all (·≤reachBytes)=true) (hL:laidMetH Tryz.prog Rows.topUserRow.laid W) :
    Calls Tryz.prog 5 args W fun e W'=>∃ v,e = .returned v∧Rows.topUserSpec.post enc Tryz.prog Tryz.f5 false true false false W args v W':=by
  have hW':=hW
  obtain⟨p,q,hA0,hV,rfl,hfz,hnd⟩:=hW
  have hA:DataW.TrodAll enc Tryz.prog W 0 (fun _=>true) true Tryz.f5.params.toList args.toList ds p:=hA0
  rw[Tryz.params5] at hA hval hsz0
  obtain⟨v0,vs0,d0,ds0,p0,q0,hargs,rfl,rfl,h0,r0⟩:=trodAll_cons hA
  obtain⟨v1,vs1,d1,ds1,p1,q1,rfl,rfl,rfl,h1,r1⟩:=trodAll_cons r0
  obtain⟨v2,vs2,d2,ds2,p2,q2,rfl,rfl,rfl,h2,r2⟩:=trodAll_cons r1
  obtain⟨v3,vs3,d3,ds3,p3,q3,rfl,rfl,rfl,h3,r3⟩:=trodAll_cons r2
  obtain⟨v4,vs4,d4,ds4,p4,q4,rfl,rfl,rfl,h4,r4⟩:=trodAll_cons r3
  obtain⟨v5,vs5,d5,ds5,p5,q5,rfl,rfl,rfl,h5,r5⟩:=trodAll_cons r4
  obtain⟨rfl,rfl,rfl⟩:=trodAll_nil r5
  obtain rfl:args=#[v0,v1,v2,v3,v4,v5]:=by cases args;simp_all
  obtain⟨rfl,rfl⟩:=trodVars_none hV
  obtain⟨x0,rfl,rfl,rfl,z0⟩:=open_string Tryz.underlying9 (hval 0 9 v0 rfl rfl) h0
  obtain⟨x1,rfl,rfl,rfl,z1⟩:=open_int Tryz.underlying3 (hval 1 3 v1 rfl rfl) h1
  obtain⟨x2,rfl,rfl,rfl,z2⟩:=open_int Tryz.underlying3 (hval 2 3 v2 rfl rfl) h2
  obtain⟨x3,rfl,rfl,rfl,z3⟩:=open_int Tryz.underlying3 (hval 3 3 v3 rfl rfl) h3
  obtain⟨x4,rfl,rfl,rfl,z4⟩:=open_string Tryz.underlying9 (hval 4 9 v4 rfl rfl) h4
  obtain⟨x5,rfl,rfl,rfl⟩:=open_bool Tryz.underlying4 (hval 5 4 v5 rfl rfl) h5
  have l0:x0.data.toList.length≤reachBytes:=sized_string hsz0 (j:=0) rfl rfl
  have l4:x4.data.toList.length≤reachBytes:=sized_string hsz0 (j:=4) rfl rfl
  simp only[reachBytes] at l0 l4
  have e0:x0=L.S x0.data.toList:=by simp[L.S]
  have e4:x4=L.S x4.data.toList:=by simp[L.S]
  have hL':laidMet Tryz.prog Rows.topDeepRow.laid W:=hL
  have b1:=bounds_i64 z1
  have b2:=bounds_i64 z2
  have b3:=bounds_i64 z3
  have walk:=L.user_walk (D5a hL') (Nat.le_refl _) (D1j hL') x0.data.toList x4.data.toList (by omega) (by omega) x1 x2 x3 (by omega) (by omega) (by omega) (by omega) (by omega) (by omega) x5
  rw[←e0,←e4] at walk
  clear hA0
  refine(walk).mono fun e W' ⟨he,bel⟩=>?_
  subst he
  exact⟨_,rfl,_,_,_,[],_,[],hW',trodAll_mk1 (shut_bool Tryz.underlying4 _),(trodAll_cons_mk (shut_string Tryz.underlying9 z0) (trodAll_cons_mk (shut_int Tryz.underlying3 z1) (trodAll_cons_mk (shut_int Tryz.underlying3 z2) (trodAll_cons_mk (shut_int Tryz.underlying3 z3) (trodAll_cons_mk (shut_string Tryz.underlying9 z4) (trodAll_cons_mk (shut_bool Tryz.underlying4 _) trodAll_mk0)))))),rfl,bel.frame _,fun h=>by cases h⟩
theorem the_laid (os:Os) (args:Array Value):laidMet Tryz.prog Rows.topUserRow.laid ((World.laidAll Tryz.prog os Rows.topUserRow.laid).forCall (fun _ _=>0) ⟨#[],args,[]⟩).memory:=
  laidMet_laidAll args (by kernel_rfl) (by kernel_rfl)
set_option maxRecDepth 100000 in
theorem the_lifted (os:Os) (started:os.Started) (H:Type) (enc:TypeId×Value→H) (F:Stop.Interp) :
    ReturnsInHanded {} Tryz.checked os 5 .any ((OpenSpec.ofChange Rows.topUserSpec).preRow enc Tryz.prog Tryz.f5 Rows.topUserRow.domain false Rows.topUserRow.laid) (((OpenSpec.ofChange Rows.topUserSpec).at F).post enc Tryz.prog Tryz.f5 false true false false):=by
  have hx:DataW.whole enc Tryz.prog ((World.laidAll Tryz.prog os Rows.topUserRow.laid).forCall (fun _ _=>0) ⟨#[],#[.string ⟨#[]⟩,.int .i64 0,.int .i64 0,.int .i64 0,.string ⟨#[]⟩,.bool false],[]⟩).memory Tryz.f5.params.toList Rows.topUserSpec.vars false #[Value.string ⟨#[]⟩,Value.int .i64 0,Value.int .i64 0,Value.int .i64 0,Value.string ⟨#[]⟩,Value.bool false].toList 8=some ([.lit (.string []),.lit (.int .i64 0),.lit (.int .i64 0),.lit (.int .i64 0),.lit (.string []),.lit (.bool false)],[],[]):=by kernel_rfl
  refine returnsInHanded_of_row (C:=Tryz.checked) (s:=OpenSpec.ofChange Rows.topUserSpec) own started (by kernel_rfl) Tryz.func5
    (witness_row_atRef (enc:=enc) (C:=Tryz.checked) false (World.laidAll Tryz.prog os Rows.topUserRow.laid) #[.string ⟨#[]⟩,.int .i64 0,.int .i64 0,.int .i64 0,.string ⟨#[]⟩,.bool false] (World.laidAll_os _ _ _) (by kernel_rfl) (by kernel_rfl) (by kernel_rfl)
      (OpenSpec.preRow_of_cond 8 hx (by kernel_rfl) (fun k hk=>by cases hk) (by kernel_rfl) (the_laid os _))) ?_
  intro W base args ds gs before hval hW _ _ hsz hL _ _
  exact the_contract H enc F W base args ds gs before hval hW hsz hL
theorem the_said:Rows.TopUserSaid:=
  OpenClaim.holds_of_cond 5 Tryz.f5 rfl rfl rfl rfl rfl rfl rfl ⟨rfl,rfl,rfl,rfl,rfl⟩ rfl rfl rfl rfl rfl (by kernel_rfl) Tryz.func5 (by kernel_rfl)
    (of_decide_eq_true (by kernel_rfl)) (by unfold Func.isWrapper;first|(rw[if_pos (by decide +kernel)];kernel_rfl)|(rw[if_neg (by decide +kernel)];exact⟨rfl,rfl⟩))
    (fun os started H enc _ F=>by rw[OpenClaim.pre_eq_preRow];exact the_lifted os started H enc F)
theorem the_plain (f : FuncId) (fn : Func) (hf : Tryz.pinned.checked.prog.funcNamed "fieldpress/presstop.TopUser" = some f) (hfn : Tryz.pinned.checked.prog.funcs[f]? = some fn) :
    true=Tryz.pinned.checked.prog.looks []∧∀ (j:Nat) t,fn.params[j]?=some t→Tryz.pinned.checked.prog.wantsStandIn t=false:=by
  obtain rfl : f = 5 := Option.some.inj ((show Tryz.prog.funcNamed "fieldpress/presstop.TopUser" = some 5 by kernel_rfl).symm.trans hf) |>.symm
  obtain rfl:fn=Tryz.f5:=(Option.some.inj (Tryz.func5.symm.trans hfn)).symm
  refine⟨by kernel_rfl,fun j t ht=>?_⟩
  rw[Tryz.params5] at ht
  have ht:t=9∨t=3∨t=4:=by
    have:=Array.mem_of_getElem? ht
    simp at this
    rcases this with h|h|h|h <;> simp[h]
  rcases ht with rfl|rfl|rfl
  · exact(show Tryz.prog.wantsStandIn 9=false by kernel_rfl)
  · exact(show Tryz.prog.wantsStandIn 3=false by kernel_rfl)
  · exact(show Tryz.prog.wantsStandIn 4=false by kernel_rfl)
theorem topUser_proved:Rows.TopUserCardSaid:=
  Claim7.holds_tied_plain_at .later [] _ _ _ _ the_said (fun _ h=>by cases h) (by kernel_rfl) (fun _ h=>by cases h) topUser_row_tie rfl ⟨rfl,rfl⟩ (by kernel_rfl) rfl the_plain (by kernel_rfl)
end Go.Proofs.YtgaoojpakjjdnaaGreatDoor
