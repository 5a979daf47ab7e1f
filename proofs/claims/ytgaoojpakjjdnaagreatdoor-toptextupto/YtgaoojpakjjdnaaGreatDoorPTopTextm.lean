/-
  From a text to bytes, and back: for every text, number and body that are together of bulk at most 1048576 the call of presstop.TopText answers true, and what it was handed reads as before.
-/
import Derived.Test.YtgaoojpakjjdnaaGreatDoorCards
import Derived.Test.YtgaoojpakjjdnaaGreatDoorTie
import Derived.Test.YtgaoojpakjjdnaaGreatDoorX47
import Derived.Test.YtgaoojpakjjdnaaGreatDoorX48
import Derived.Test.YtgaoojpakjjdnaaGreatDoorX16
import Derived.Test.YtgaoojpakjjdnaaGreatDoorX39
import Derived.WalkKit
import Derived.ProofKit
import Derived.OpenShut
import Derived.ShutString
import Derived.SizedLaws
import Derived.ChangeOld
import Derived.Below
import Derived.Lay
import Derived.Deep.DeepHandedRow
import Derived.Deep.DeepWitnessRowRef
namespace Go.Proofs.YtgaoojpakjjdnaaGreatDoor
open Go.ChangeShapes Go.WideShapes Go.ChangeAt Go.RowKit
open Go.ChangeMaps (open_string shut_string)
set_option linter.unusedVariables false
theorem own:ownKnob Tryz.prog.godebug=none:=by kernel_rfl
theorem laidOut:laidOutB Tryz.prog=true:=by kernel_rfl
set_option maxRecDepth 100000 in
theorem the_contract (H:Type)(enc:TypeId×Value→H)(F:Stop.Interp)(W:World)(base:Nat)(args:Array Value)(ds gs:List (DataW H))(before:List MemPlace)
    (hval:∀ (j:Nat) t v,Tryz.f4.params[j]?=some t→args[j]?=some v→Value.okWide Tryz.prog W .any base t v)
    (hW:DataW.Whole enc Tryz.prog Tryz.f4.params.toList Rows.topTextSpec.vars false W args.toList ds gs before)
    (hk:Rows.uptoSmall H (ds++gs)=true)
    (hsz0:(DataW.weightsEach Tryz.prog (Tryz.f4.params.toList++(Rows.OpenSpec.upto Rows.topTextSpec).bare.plain.varTypes Tryz.prog) (ds++gs)).all (·≤reachBytes)=true) (hL:laidMetH Tryz.prog Rows.topTextUptoRow.laid W) :
    Calls Tryz.prog 4 args W fun e W'=>∃ v,e = .returned v∧Rows.topTextSpec.post enc Tryz.prog Tryz.f4 false true false false W args v W':=by
  have hW':=hW
  obtain⟨p,q,hA0,hV,rfl,hfz,hnd⟩:=hW
  have hA:DataW.TrodAll enc Tryz.prog W 0 (fun _=>true) true Tryz.f4.params.toList args.toList ds p:=hA0
  rw[Tryz.params4] at hA hval hsz0
  obtain⟨v0,vs0,d0,ds0,p0,q0,hargs,rfl,rfl,h0,r0⟩:=trodAll_cons hA
  obtain⟨v1,vs1,d1,ds1,p1,q1,rfl,rfl,rfl,h1,r1⟩:=trodAll_cons r0
  obtain⟨v2,vs2,d2,ds2,p2,q2,rfl,rfl,rfl,h2,r2⟩:=trodAll_cons r1
  obtain⟨rfl,rfl,rfl⟩:=trodAll_nil r2
  obtain rfl:args=#[v0,v1,v2]:=by cases args;simp_all
  obtain⟨rfl,rfl⟩:=trodVars_none hV
  have hbulk:Rows.uptoBulkAll [d0,d1,d2]≤1048576:=by
    have:=of_decide_eq_true hk
    simpa using this
  have hb2:Rows.uptoBulk d2≤1048576:=Nat.le_trans (L.bulk_mem (by simp)) hbulk
  obtain⟨x0,rfl,rfl,rfl,z0⟩:=open_string Tryz.underlying9 (hval 0 9 v0 rfl rfl) h0
  obtain⟨msg,rfl,rfl,rfl,z1⟩:=open_int Tryz.underlying3 (hval 1 3 v1 rfl rfl) h1
  have l0:x0.data.toList.length≤reachBytes:=sized_string hsz0 (j:=0) rfl rfl
  simp only[reachBytes] at l0
  have e0:x0=L.S x0.data.toList:=by simp[L.S]
  have k2:=h2
  have lt2:∀ x∈p2,x.block<W.heap.size:=by obtain⟨m,hm⟩:=k2;exact DataW.trod_lt m _ _ _ hm
  have hs2:L.Sz 29 d2:=by
    intro n hn
    have:=List.all_eq_true.1 hsz0 n (DataW.weights_mem_each (j:=2) rfl rfl n hn)
    simpa using this
  obtain⟨b0,b1,y,rfl,hq,hbk,hsm⟩:∃ v0 v1 y,v2 = .agg #[v0,v1]∧L.BRd (SizeOf.sizeOf d2+11) W v0 v1 y∧L.BOk (SizeOf.sizeOf d2+11+1) y∧L.OSm (L.BSm (SizeOf.sizeOf d2+11)) y:=by
    obtain⟨fuel,hf⟩:=h2
    obtain⟨v0,v1,y,e,h3,h4⟩:=L.open_body (SizeOf.sizeOf d2+11) (by omega) hf hs2
    obtain⟨v0',v1',y',e',h3',h4',_⟩:=L.open_bodyU (SizeOf.sizeOf d2+11) (by omega) hf hb2
    rw[e] at e'
    simp only[Value.agg.injEq,Array.mk.injEq,List.cons.injEq,and_true] at e'
    obtain⟨rfl,rfl⟩:=e'
    have ey:=L.brd_uniq h3 h3'
    subst ey
    exact⟨v0,v1,y,e,h3,h4,h4'⟩
  obtain⟨e00,m0,c0,rfl,_,_⟩:=hq.1.shape
  obtain⟨e1,m1,c1,rfl,_,_⟩:=hq.2.shape
  have hL':laidMet Tryz.prog Rows.topDeepRow.laid W:=hL
  have bb:=bounds_i64 z1
  have walk:=L.text_walk (E0h hL') (Nat.le_refl _) (D6b hL') x0.data.toList (by omega) msg (by omega) (by omega) (kk:=SizeOf.sizeOf d2) hq hbk hsm
  rw[←e0] at walk
  clear hA0
  refine walk.mono fun e W' ⟨he,bel⟩=>?_
  subst he
  exact⟨_,rfl,_,_,_,[],_,[],hW',trodAll_mk1 (shut_bool Tryz.underlying4 _),(trodAll_cons_mk (shut_string Tryz.underlying9 z0) (trodAll_cons_mk (shut_int Tryz.underlying3 z1) (trodAll_cons_mk (Below.trod laidOut (by kernel_rfl) (of_decide_eq_true (by kernel_rfl)) k2 bel lt2) trodAll_mk0))),rfl,bel.frame _,fun h=>by cases h⟩
theorem the_laid (os:Os)(args:Array Value):laidMet Tryz.prog Rows.topTextUptoRow.laid ((World.laidAll Tryz.prog os Rows.topTextUptoRow.laid).forCall (fun _ _=>0) ⟨#[],args,[]⟩).memory:=
  laidMet_laidAll args (by kernel_rfl) (by kernel_rfl)
set_option maxRecDepth 100000 in
theorem the_lifted (os:Os)(started:os.Started)(H:Type)(enc:TypeId×Value→H)(F:Stop.Interp) :
    ReturnsInHanded {} Tryz.checked os 4 .any ((Rows.OpenSpec.upto Rows.topTextSpec).preRow enc Tryz.prog Tryz.f4 Rows.topTextUptoRow.domain false Rows.topTextUptoRow.laid) (((Rows.OpenSpec.upto Rows.topTextSpec).at F).post enc Tryz.prog Tryz.f4 false true false false):=by
  have hx:DataW.whole enc Tryz.prog ((World.laidAll Tryz.prog os Rows.topTextUptoRow.laid).forCall (fun _ _=>0) ⟨#[],#[.string ⟨#[]⟩,.int .i64 0,.agg #[.slice none 0 0,.slice none 0 0]],[]⟩).memory Tryz.f4.params.toList Rows.topTextSpec.vars false #[Value.string ⟨#[]⟩,Value.int .i64 0,Value.agg #[.slice none 0 0,.slice none 0 0]].toList 8=some ([.lit (.string []),.lit (.int .i64 0),.agg [.nil,.nil]],[],[]):=by kernel_rfl
  refine returnsInHanded_of_row (C:=Tryz.checked) (s:=Rows.OpenSpec.upto Rows.topTextSpec) own started (by kernel_rfl) Tryz.func4
    (witness_row_atRef (enc:=enc) (C:=Tryz.checked) false (World.laidAll Tryz.prog os Rows.topTextUptoRow.laid) #[.string ⟨#[]⟩,.int .i64 0,.agg #[.slice none 0 0,.slice none 0 0]] (World.laidAll_os _ _ _) (by kernel_rfl) (by kernel_rfl) (by kernel_rfl)
      (OpenSpec.preRow_of_cond 8 hx (by kernel_rfl) (fun k hk=>by cases hk;kernel_rfl) (by kernel_rfl) (the_laid os _))) ?_
  intro W base args ds gs before hval hW _ hcond hsz hL _ _
  exact the_contract H enc F W base args ds gs before hval hW (hcond _ rfl) hsz hL
theorem the_said:Rows.TopTextUptoSaid:=
  OpenClaim.holds_of_cond 4 Tryz.f4 rfl rfl rfl rfl rfl rfl rfl ⟨rfl,rfl,rfl,rfl,rfl⟩ rfl rfl rfl rfl rfl (by kernel_rfl) Tryz.func4 (by kernel_rfl)
    (of_decide_eq_true (by kernel_rfl)) (by unfold Func.isWrapper;first|(rw[if_pos (by decide +kernel)];kernel_rfl)|(rw[if_neg (by decide +kernel)];exact⟨rfl,rfl⟩))
    (fun os started H enc _ F=>by rw[OpenClaim.pre_eq_preRow];exact the_lifted os started H enc F)
theorem the_plain (f : FuncId) (fn : Func) (hf : Tryz.pinned.checked.prog.funcNamed "fieldpress/presstop.TopText" = some f) (hfn : Tryz.pinned.checked.prog.funcs[f]? = some fn) :
    true=Tryz.pinned.checked.prog.looks []∧∀ (j:Nat) t,fn.params[j]?=some t→Tryz.pinned.checked.prog.wantsStandIn t=false:=by
  obtain rfl : f = 4 := Option.some.inj ((show Tryz.prog.funcNamed "fieldpress/presstop.TopText" = some 4 by kernel_rfl).symm.trans hf) |>.symm
  obtain rfl:fn=Tryz.f4:=(Option.some.inj (Tryz.func4.symm.trans hfn)).symm
  refine⟨by kernel_rfl,fun j t ht=>?_⟩
  rw[Tryz.params4] at ht
  have ht:t=9∨t=3∨t=29:=by
    have:=Array.mem_of_getElem? ht
    simp at this
    exact this
  rcases ht with rfl|rfl|rfl
  · exact(show Tryz.prog.wantsStandIn 9=false by kernel_rfl)
  · exact(show Tryz.prog.wantsStandIn 3=false by kernel_rfl)
  · exact(show Tryz.prog.wantsStandIn 29=false by kernel_rfl)
theorem topText_proved:Rows.TopTextUptoCardSaid:=
  Claim7.holds_tied_plain_at .later [] _ _ _ _ the_said (fun _ h=>by cases h) (by kernel_rfl) (fun _ h=>by cases h) topTextUpto_row_tie rfl ⟨rfl,rfl⟩ (by kernel_rfl) rfl the_plain (by kernel_rfl)
end Go.Proofs.YtgaoojpakjjdnaaGreatDoor
