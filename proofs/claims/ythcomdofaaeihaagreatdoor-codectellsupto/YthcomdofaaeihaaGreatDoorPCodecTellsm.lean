/-
  How, Numbers, Bytes and Parse tell what the document's own answer tells: for every file, number, body, bytes and kind that are together of bulk at most 1048576 the call of presslaw5.CodecTells answers true, and what it was handed reads as before.
-/
import Derived.Test.YthcomdofaaeihaaGreatDoorCards
import Derived.Test.YthcomdofaaeihaaGreatDoorTie
import Derived.Test.YthcomdofaaeihaaGreatDoorV33
import Derived.Test.YthcomdofaaeihaaGreatDoorV46
import Derived.Test.YthcomdofaaeihaaGreatDoorV01
import Derived.WalkKit
import Derived.ProofKit
import Derived.OpenShut
import Derived.ShutString
import Derived.SizedLaws
import Derived.ChangeOld
import Derived.Below
import Derived.Lay
import Derived.Deep.DeepHandedRow
import Derived.Deep.DeepWitnessRowRef
namespace Go.Proofs.YthcomdofaaeihaaGreatDoor
open Go.ChangeShapes Go.WideShapes Go.ChangeAt Go.RowKit
set_option linter.unusedVariables false
theorem own:ownKnob Tryz.prog.godebug=none:=by kernel_rfl
theorem laidOut:laidOutB Tryz.prog=true:=by kernel_rfl
set_option maxRecDepth 100000 in
theorem the_contract (H:Type)(enc:TypeId×Value→H)(F:Stop.Interp)(W:World)(base:Nat)(args:Array Value)(ds gs:List (DataW H))(before:List MemPlace)
    (hval:∀ (j:Nat) t v,Tryz.f3.params[j]?=some t→args[j]?=some v→Value.okWide Tryz.prog W .any base t v)
    (hW:DataW.Whole enc Tryz.prog Tryz.f3.params.toList Rows.codecTellsSpec.vars false W args.toList ds gs before)
    (hk:Rows.uptoSmall H (ds++gs)=true)
    (hsz0:(DataW.weightsEach Tryz.prog (Tryz.f3.params.toList++(Rows.OpenSpec.upto Rows.codecTellsSpec).bare.plain.varTypes Tryz.prog) (ds++gs)).all (·≤reachBytes)=true) (hL:laidMetH Tryz.prog Rows.codecTellsUptoRow.laid W) :
    Calls Tryz.prog 3 args W fun e W'=>∃ v,e = .returned v∧Rows.codecTellsSpec.post enc Tryz.prog Tryz.f3 false true false false W args v W':=by
  have hW':=hW
  obtain⟨p,q,hA0,hV,rfl,hfz,hnd⟩:=hW
  have hA:DataW.TrodAll enc Tryz.prog W 0 (fun _=>true) true Tryz.f3.params.toList args.toList ds p:=hA0
  rw[Tryz.params3] at hA hval hsz0
  obtain⟨v0,vs0,d0,ds0,p0,q0,hargs,rfl,rfl,h0,r0⟩:=trodAll_cons hA
  obtain⟨v1,vs1,d1,ds1,p1,q1,rfl,rfl,rfl,h1,r1⟩:=trodAll_cons r0
  obtain⟨v2,vs2,d2,ds2,p2,q2,rfl,rfl,rfl,h2,r2⟩:=trodAll_cons r1
  obtain⟨v3,vs3,d3,ds3,p3,q3,rfl,rfl,rfl,h3,r3⟩:=trodAll_cons r2
  obtain⟨v4,vs4,d4,ds4,p4,q4,rfl,rfl,rfl,h4,r4⟩:=trodAll_cons r3
  obtain⟨rfl,rfl,rfl⟩:=trodAll_nil r4
  obtain rfl:args=#[v0,v1,v2,v3,v4]:=by cases args;simp_all
  obtain⟨rfl,rfl⟩:=trodVars_none hV
  have hbulk:Rows.uptoBulkAll [d0,d1,d2,d3,d4]≤1048576:=by
    have:=of_decide_eq_true hk
    simpa using this
  have hb2:Rows.uptoBulk d2≤1048576:=Nat.le_trans (L.bulk_mem (by simp)) hbulk
  obtain⟨msg,rfl,rfl,rfl,z1⟩:=open_int Tryz.underlying3 (hval 1 3 v1 rfl rfl) h1
  obtain⟨kind,rfl,rfl,rfl,z4⟩:=open_int Tryz.underlying3 (hval 4 3 v4 rfl rfl) h4
  obtain⟨a3,len3,cap3,rfl⟩:=okWide_slice Tryz.underlying30 (hval 3 30 v3 rfl rfl)
  have k0:=h0
  have lt0:∀ x∈p0,x.block<W.heap.size:=by obtain⟨m,hm⟩:=k0;exact DataW.trod_lt m _ _ _ hm
  have k2:=h2
  have lt2:∀ x∈p2,x.block<W.heap.size:=by obtain⟨m,hm⟩:=k2;exact DataW.trod_lt m _ _ _ hm
  have k3:=h3
  have lt3:∀ x∈p3,x.block<W.heap.size:=by obtain⟨m,hm⟩:=k3;exact DataW.trod_lt m _ _ _ hm
  have hs0:L.Sz 25 d0:=by
    intro n hn
    have:=List.all_eq_true.1 hsz0 n (DataW.weights_mem_each (j:=0) rfl rfl n hn)
    simpa using this
  obtain⟨vm,ve,g,rfl,hg,hok⟩:∃ vm ve g,v0 = .agg #[vm,ve]∧L.GRd W vm ve g∧L.GOk g:=by
    obtain⟨fuel,hf⟩:=h0
    exact L.open_file hf hs0
  obtain⟨x2,y2,b2,rfl,hq2,ho2,hw2⟩:∃ x0 x1 b,v2 = .agg #[x0,x1]∧L.BRd (SizeOf.sizeOf d2) W x0 x1 b∧L.BOk (SizeOf.sizeOf d2+1) b∧L.jWB (SizeOf.sizeOf d2+1) b≤60*Rows.uptoBulk d2:=by
    obtain⟨fuel,hf⟩:=h2
    obtain⟨x0,x1,b,e1,e2,e3,e4⟩:=L.open_bodyU (SizeOf.sizeOf d2) (by omega) hf hb2
    exact⟨x0,x1,b,e1,e2,e3,by first|exact e4|omega⟩
  obtain⟨l3,w3⟩:∃ l,RdA W a3 len3 cap3 l:=by
    obtain⟨fuel,hf⟩:=h3
    obtain⟨ao,len,cap,l,hcs,hr⟩:=C5k hf
    simp[Value.cells] at hcs
    obtain⟨rfl,rfl,rfl⟩:=hcs
    exact⟨l,hr⟩
  obtain⟨am,nm,cm,rfl,_,_⟩:=hg.1.sH
  obtain⟨ae,ne,ce,rfl,_,_⟩:=hg.2.sH
  have hI:=E0g hg hok (B9c hL) (msg:=msg) (by unfold L.I64;have:=bounds_i64 z1;omega)
  have hfl:∀ m∈g.mG,m.fD.length≤3000000000000:=fun m hm=>by have:=(hok.1 m hm).2.2.2.1;unfold reachBytes at this;omega
  clear hA0
  refine(L.codecTells_walk hI hq2 ho2 (by omega) (L.rdl_ofR w3) kind (by have:=bounds_i64 z4;omega) hfl).mono fun e W' ⟨he,bel⟩=>?_
  subst he
  exact⟨_,rfl,_,_,_,[],_,[],hW',trodAll_mk1 (shut_bool Tryz.underlying4 _),(trodAll_cons_mk (Below.trod laidOut (by kernel_rfl) (of_decide_eq_true (by kernel_rfl)) k0 bel lt0) (trodAll_cons_mk (shut_int Tryz.underlying3 z1) (trodAll_cons_mk (Below.trod laidOut (by kernel_rfl) (of_decide_eq_true (by kernel_rfl)) k2 bel lt2) (trodAll_cons_mk (Below.trod laidOut (by kernel_rfl) (of_decide_eq_true (by kernel_rfl)) k3 bel lt3) (trodAll_cons_mk (shut_int Tryz.underlying3 z4) trodAll_mk0))))),rfl,bel.frame _,fun h=>by cases h⟩
theorem the_laid (os:Os)(args:Array Value):laidMet Tryz.prog Rows.codecTellsUptoRow.laid ((World.laidAll Tryz.prog os Rows.codecTellsUptoRow.laid).forCall (fun _ _=>0) ⟨#[],args,[]⟩).memory:=
  laidMet_laidAll args (by kernel_rfl) (by kernel_rfl)
set_option maxRecDepth 100000 in
theorem the_lifted (os:Os)(started:os.Started)(H:Type)(enc:TypeId×Value→H)(F:Stop.Interp) :
    ReturnsInHanded {} Tryz.checked os 3 .any ((Rows.OpenSpec.upto Rows.codecTellsSpec).preRow enc Tryz.prog Tryz.f3 Rows.codecTellsUptoRow.domain false Rows.codecTellsUptoRow.laid) (((Rows.OpenSpec.upto Rows.codecTellsSpec).at F).post enc Tryz.prog Tryz.f3 false true false false):=by
  have hx:DataW.whole enc Tryz.prog ((World.laidAll Tryz.prog os Rows.codecTellsUptoRow.laid).forCall (fun _ _=>0) ⟨#[],#[.agg #[.slice none 0 0,.slice none 0 0],.int .i64 0,.agg #[.slice none 0 0,.slice none 0 0],.slice none 0 0,.int .i64 0],[]⟩).memory Tryz.f3.params.toList Rows.codecTellsSpec.vars false #[Value.agg #[.slice none 0 0,.slice none 0 0],Value.int .i64 0,Value.agg #[.slice none 0 0,.slice none 0 0],Value.slice none 0 0,Value.int .i64 0].toList 8=some ([.agg [.nil,.nil],.lit (.int .i64 0),.agg [.nil,.nil],.nil,.lit (.int .i64 0)],[],[]):=by kernel_rfl
  refine returnsInHanded_of_row (C:=Tryz.checked) (s:=Rows.OpenSpec.upto Rows.codecTellsSpec) own started (by kernel_rfl) Tryz.func3
    (witness_row_atRef (enc:=enc) (C:=Tryz.checked) false (World.laidAll Tryz.prog os Rows.codecTellsUptoRow.laid) #[.agg #[.slice none 0 0,.slice none 0 0],.int .i64 0,.agg #[.slice none 0 0,.slice none 0 0],.slice none 0 0,.int .i64 0] (World.laidAll_os _ _ _) (by kernel_rfl) (by kernel_rfl) (by kernel_rfl)
      (OpenSpec.preRow_of_cond 8 hx (by kernel_rfl) (fun k hk=>by cases hk;kernel_rfl) (by kernel_rfl) (the_laid os _))) ?_
  intro W base args ds gs before hval hW _ hcond hsz hL _ _
  exact the_contract H enc F W base args ds gs before hval hW (hcond _ rfl) hsz hL
theorem the_said:Rows.CodecTellsUptoSaid:=
  OpenClaim.holds_of_cond 3 Tryz.f3 rfl rfl rfl rfl rfl rfl rfl ⟨rfl,rfl,rfl,rfl,rfl⟩ rfl rfl rfl rfl rfl (by kernel_rfl) Tryz.func3 (by kernel_rfl)
    (of_decide_eq_true (by kernel_rfl)) (by unfold Func.isWrapper;first|(rw[if_pos (by decide +kernel)];kernel_rfl)|(rw[if_neg (by decide +kernel)];exact⟨rfl,rfl⟩))
    (fun os started H enc _ F=>by rw[OpenClaim.pre_eq_preRow];exact the_lifted os started H enc F)
theorem the_plain (f : FuncId) (fn : Func) (hf : Tryz.pinned.checked.prog.funcNamed "fieldpress/presslaw5.CodecTells" = some f) (hfn : Tryz.pinned.checked.prog.funcs[f]? = some fn) :
    false=Tryz.pinned.checked.prog.looks []∧∀ (j:Nat) t,fn.params[j]?=some t→Tryz.pinned.checked.prog.wantsStandIn t=false:=by
  obtain rfl : f = 3 := Option.some.inj ((show Tryz.prog.funcNamed "fieldpress/presslaw5.CodecTells" = some 3 by kernel_rfl).symm.trans hf) |>.symm
  obtain rfl:fn=Tryz.f3:=(Option.some.inj (Tryz.func3.symm.trans hfn)).symm
  refine⟨by kernel_rfl,fun j t ht=>?_⟩
  rw[Tryz.params3] at ht
  have ht:t=25∨t=3∨t=29∨t=30:=by
    have hm:=Array.mem_of_getElem? ht
    simp only[List.mem_toArray,List.mem_cons,List.not_mem_nil,or_false] at hm
    rcases hm with h|h|h|h|h <;> rw[h] <;> simp
  rcases ht with rfl|rfl|rfl|rfl
  · exact(show Tryz.prog.wantsStandIn 25=false by kernel_rfl)
  · exact(show Tryz.prog.wantsStandIn 3=false by kernel_rfl)
  · exact(show Tryz.prog.wantsStandIn 29=false by kernel_rfl)
  · exact(show Tryz.prog.wantsStandIn 30=false by kernel_rfl)
theorem codecTells_proved:Rows.CodecTellsUptoCardSaid:=
  Claim7.holds_tied_plain_at .later [] _ _ _ _ the_said (fun _ h=>by cases h) (by kernel_rfl) (fun _ h=>by cases h) codecTellsUpto_row_tie rfl ⟨rfl,rfl⟩ (by kernel_rfl) rfl the_plain (by kernel_rfl)
end Go.Proofs.YthcomdofaaeihaaGreatDoor
