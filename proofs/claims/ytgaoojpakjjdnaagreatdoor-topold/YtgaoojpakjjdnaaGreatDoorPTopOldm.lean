/-
  Who knows less loses nothing: for every file, number, body and list of numbers the call of presstop.TopOld answers true, and what it was handed reads as before.
-/
import Derived.Test.YtgaoojpakjjdnaaGreatDoorCards
import Derived.Test.YtgaoojpakjjdnaaGreatDoorTie
import Derived.Test.YtgaoojpakjjdnaaGreatDoorV47
import Derived.Test.YtgaoojpakjjdnaaGreatDoorV07
import Derived.Test.YtgaoojpakjjdnaaGreatDoorV48
import Derived.WalkKit
import Derived.ProofKit
import Derived.OpenShut
import Derived.ShutString
import Derived.SizedLaws
import Derived.ChangeOld
import Derived.Below
import Derived.Lay
import Derived.Deep.DeepHandedRow
import Derived.Deep.DeepWitnessRowRef
namespace Go.Proofs.YtgaoojpakjjdnaaGreatDoor
open Go.ChangeShapes Go.WideShapes Go.ChangeAt Go.RowKit
set_option linter.unusedVariables false
theorem own:ownKnob Tryz.prog.godebug=none:=by kernel_rfl
theorem laidOut:laidOutB Tryz.prog=true:=by kernel_rfl
set_option maxRecDepth 100000 in
theorem the_contract (H:Type)(enc:TypeId×Value→H)(F:Stop.Interp)(W:World)(base:Nat)(args:Array Value)(ds gs:List (DataW H))(before:List MemPlace)
    (hval:∀ (j:Nat) t v,Tryz.f3.params[j]?=some t→args[j]?=some v→Value.okWide Tryz.prog W .any base t v)
    (hW:DataW.Whole enc Tryz.prog Tryz.f3.params.toList Rows.topOldSpec.vars false W args.toList ds gs before)
    (hsz0:(DataW.weightsEach Tryz.prog (Tryz.f3.params.toList++(OpenSpec.ofChange Rows.topOldSpec).bare.plain.varTypes Tryz.prog) (ds++gs)).all (·≤reachBytes)=true) (hL:laidMetH Tryz.prog Rows.topOldRow.laid W) :
    Calls Tryz.prog 3 args W fun e W'=>∃ v,e = .returned v∧Rows.topOldSpec.post enc Tryz.prog Tryz.f3 false true false false W args v W':=by
  have hW':=hW
  obtain⟨p,q,hA0,hV,rfl,hfz,hnd⟩:=hW
  have hA:DataW.TrodAll enc Tryz.prog W 0 (fun _=>true) true Tryz.f3.params.toList args.toList ds p:=hA0
  rw[Tryz.params3] at hA hval hsz0
  obtain⟨v0,vs0,d0,ds0,p0,q0,hargs,rfl,rfl,h0,r0⟩:=trodAll_cons hA
  obtain⟨v1,vs1,d1,ds1,p1,q1,rfl,rfl,rfl,h1,r1⟩:=trodAll_cons r0
  obtain⟨v2,vs2,d2,ds2,p2,q2,rfl,rfl,rfl,h2,r2⟩:=trodAll_cons r1
  obtain⟨v3,vs3,d3,ds3,p3,q3,rfl,rfl,rfl,h3,r3⟩:=trodAll_cons r2
  obtain⟨rfl,rfl,rfl⟩:=trodAll_nil r3
  obtain rfl:args=#[v0,v1,v2,v3]:=by cases args;simp_all
  obtain⟨rfl,rfl⟩:=trodVars_none hV
  obtain⟨x1,rfl,rfl,rfl,z1⟩:=open_int Tryz.underlying3 (hval 1 3 v1 rfl rfl) h1
  obtain⟨a3,len3,cap3,rfl⟩:=okWide_slice Tryz.underlying30 (hval 3 30 v3 rfl rfl)
  have k0:=h0
  have lt0:∀ x∈p0,x.block<W.heap.size:=by obtain⟨m,hm⟩:=k0;exact DataW.trod_lt m _ _ _ hm
  have hs0:L.Sz 25 d0:=by
    intro n hn
    have:=List.all_eq_true.1 hsz0 n (DataW.weights_mem_each (j:=0) rfl rfl n hn)
    simpa using this
  have k2:=h2
  have lt2:∀ x∈p2,x.block<W.heap.size:=by obtain⟨m,hm⟩:=k2;exact DataW.trod_lt m _ _ _ hm
  have hs2:L.Sz 29 d2:=by
    intro n hn
    have:=List.all_eq_true.1 hsz0 n (DataW.weights_mem_each (j:=2) rfl rfl n hn)
    simpa using this
  have k3:=h3
  have lt3:∀ x∈p3,x.block<W.heap.size:=by obtain⟨m,hm⟩:=k3;exact DataW.trod_lt m _ _ _ hm
  have hs3:L.Sz 30 d3:=by
    intro n hn
    have:=List.all_eq_true.1 hsz0 n (DataW.weights_mem_each (j:=3) rfl rfl n hn)
    simpa using this
  obtain⟨vm,ve,g,rfl,hg,hok⟩:∃ vm ve g,v0 = .agg #[vm,ve]∧L.GRd W vm ve g∧L.GOk g:=by
    obtain⟨fuel,hf⟩:=h0
    exact L.open_file hf hs0
  obtain⟨b20,b21,y2,rfl,hq2,hbk2⟩:∃ v0 v1 y,v2 = .agg #[v0,v1]∧L.BRd (SizeOf.sizeOf d2+11) W v0 v1 y∧L.BOk (SizeOf.sizeOf d2+11+1) y:=by
    obtain⟨fuel,hf⟩:=h2
    exact L.open_body (SizeOf.sizeOf d2+11) (by omega) hf hs2
  obtain⟨e20,m20,c20,rfl,_,_⟩:=hq2.1.shape
  obtain⟨e21,m21,c21,rfl,_,_⟩:=hq2.2.shape
  obtain⟨l3,w3⟩:∃ l,L.RdL 1 L.NAt W (.slice a3 len3 cap3) l:=by
    obtain⟨fuel,hf⟩:=h3
    obtain⟨u,l,e,r,_,_⟩:=L.open_list (P:=L.NAt) (Q:=L.I64) (sz:=1) (bytes:=8) Tryz.underlying30 (by kernel_rfl) (by kernel_rfl) 0 L.open_int hf hs3
    simp[Value.cells] at e
    subst e
    exact⟨l,r⟩
  have hL':laidMet Tryz.prog Rows.topDeepRow.laid W:=hL
  obtain⟨am,nm,cm,rfl,_,_⟩:=hg.1.shape
  obtain⟨ae,ne,ce,rfl,_,_⟩:=hg.2.shape
  have hI:=L.old_win hg hok (D3t hL') (msg:=x1) (by have:=bounds_i64 z1;omega) (by have:=bounds_i64 z1;omega)
  clear hA0
  refine(L.old_walk (D7i hL') (Nat.le_refl _) hI hq2 hbk2 w3).mono fun e W' ⟨he,bel⟩=>?_
  subst he
  exact⟨_,rfl,_,_,_,[],_,[],hW',trodAll_mk1 (shut_bool Tryz.underlying4 _),(trodAll_cons_mk (Below.trod laidOut (by kernel_rfl) (of_decide_eq_true (by kernel_rfl)) k0 bel lt0) (trodAll_cons_mk (shut_int Tryz.underlying3 z1) (trodAll_cons_mk (Below.trod laidOut (by kernel_rfl) (of_decide_eq_true (by kernel_rfl)) k2 bel lt2) (trodAll_cons_mk (Below.trod laidOut (by kernel_rfl) (of_decide_eq_true (by kernel_rfl)) k3 bel lt3) trodAll_mk0)))),rfl,bel.frame _,fun h=>by cases h⟩
theorem the_laid (os:Os)(args:Array Value):laidMet Tryz.prog Rows.topOldRow.laid ((World.laidAll Tryz.prog os Rows.topOldRow.laid).forCall (fun _ _=>0) ⟨#[],args,[]⟩).memory:=
  laidMet_laidAll args (by kernel_rfl) (by kernel_rfl)
set_option maxRecDepth 100000 in
theorem the_lifted (os:Os)(started:os.Started)(H:Type)(enc:TypeId×Value→H)(F:Stop.Interp) :
    ReturnsInHanded {} Tryz.checked os 3 .any ((OpenSpec.ofChange Rows.topOldSpec).preRow enc Tryz.prog Tryz.f3 Rows.topOldRow.domain false Rows.topOldRow.laid) (((OpenSpec.ofChange Rows.topOldSpec).at F).post enc Tryz.prog Tryz.f3 false true false false):=by
  have hx:DataW.whole enc Tryz.prog ((World.laidAll Tryz.prog os Rows.topOldRow.laid).forCall (fun _ _=>0) ⟨#[],#[.agg #[.slice none 0 0,.slice none 0 0],.int .i64 0,.agg #[.slice none 0 0,.slice none 0 0],.slice none 0 0],[]⟩).memory Tryz.f3.params.toList Rows.topOldSpec.vars false #[Value.agg #[.slice none 0 0,.slice none 0 0],Value.int .i64 0,Value.agg #[.slice none 0 0,.slice none 0 0],Value.slice none 0 0].toList 8=some ([.agg [.nil,.nil],.lit (.int .i64 0),.agg [.nil,.nil],.nil],[],[]):=by kernel_rfl
  refine returnsInHanded_of_row (C:=Tryz.checked) (s:=OpenSpec.ofChange Rows.topOldSpec) own started (by kernel_rfl) Tryz.func3
    (witness_row_atRef (enc:=enc) (C:=Tryz.checked) false (World.laidAll Tryz.prog os Rows.topOldRow.laid) #[.agg #[.slice none 0 0,.slice none 0 0],.int .i64 0,.agg #[.slice none 0 0,.slice none 0 0],.slice none 0 0] (World.laidAll_os _ _ _) (by kernel_rfl) (by kernel_rfl) (by kernel_rfl)
      (OpenSpec.preRow_of_cond 8 hx (by kernel_rfl) (fun k hk=>by cases hk) (by kernel_rfl) (the_laid os _))) ?_
  intro W base args ds gs before hval hW _ _ hsz hL _ _
  exact the_contract H enc F W base args ds gs before hval hW hsz hL
theorem the_said:Rows.TopOldSaid:=
  OpenClaim.holds_of_cond 3 Tryz.f3 rfl rfl rfl rfl rfl rfl rfl ⟨rfl,rfl,rfl,rfl,rfl⟩ rfl rfl rfl rfl rfl (by kernel_rfl) Tryz.func3 (by kernel_rfl)
    (of_decide_eq_true (by kernel_rfl)) (by unfold Func.isWrapper;first|(rw[if_pos (by decide +kernel)];kernel_rfl)|(rw[if_neg (by decide +kernel)];exact⟨rfl,rfl⟩))
    (fun os started H enc _ F=>by rw[OpenClaim.pre_eq_preRow];exact the_lifted os started H enc F)
theorem the_plain (f : FuncId) (fn : Func) (hf : Tryz.pinned.checked.prog.funcNamed "fieldpress/presstop.TopOld" = some f) (hfn : Tryz.pinned.checked.prog.funcs[f]? = some fn) :
    true=Tryz.pinned.checked.prog.looks []∧∀ (j:Nat) t,fn.params[j]?=some t→Tryz.pinned.checked.prog.wantsStandIn t=false:=by
  obtain rfl : f = 3 := Option.some.inj ((show Tryz.prog.funcNamed "fieldpress/presstop.TopOld" = some 3 by kernel_rfl).symm.trans hf) |>.symm
  obtain rfl:fn=Tryz.f3:=(Option.some.inj (Tryz.func3.symm.trans hfn)).symm
  refine⟨by kernel_rfl,fun j t ht=>?_⟩
  rw[Tryz.params3] at ht
  have ht:t=25∨t=3∨t=29∨t=30:=by
    have:=Array.mem_of_getElem? ht
    simp at this
    omega
  rcases ht with rfl|rfl|rfl|rfl
  · exact(show Tryz.prog.wantsStandIn 25=false by kernel_rfl)
  · exact(show Tryz.prog.wantsStandIn 3=false by kernel_rfl)
  · exact(show Tryz.prog.wantsStandIn 29=false by kernel_rfl)
  · exact(show Tryz.prog.wantsStandIn 30=false by kernel_rfl)
theorem topOld_proved:Rows.TopOldCardSaid:=
  Claim7.holds_tied_plain_at .later [] _ _ _ _ the_said (fun _ h=>by cases h) (by kernel_rfl) (fun _ h=>by cases h) topOld_row_tie rfl ⟨rfl,rfl⟩ (by kernel_rfl) rfl the_plain (by kernel_rfl)
end Go.Proofs.YtgaoojpakjjdnaaGreatDoor
