/-
  Field, Fits, Wrong, Own, Set, Get and Join tell what the document's own answer tells: for every file, number, two bodies, value, kind and number that are together of bulk at most 1048576 the call of presslaw4.BodyTells answers true, and what it was handed reads as before.
-/
import Derived.Test.YtelmjekjohbmjaaGreatDoorCards
import Derived.Test.YtelmjekjohbmjaaGreatDoorTie
import Derived.Test.YtelmjekjohbmjaaGreatDoorY27
import Derived.Test.YtelmjekjohbmjaaGreatDoorY47
import Derived.Test.YtelmjekjohbmjaaGreatDoorY48
import Derived.WalkKit
import Derived.ProofKit
import Derived.OpenShut
import Derived.ShutString
import Derived.SizedLaws
import Derived.ChangeOld
import Derived.Below
import Derived.Lay
import Derived.Deep.DeepHandedRow
import Derived.Deep.DeepWitnessRowRef
namespace Go.Proofs.YtelmjekjohbmjaaGreatDoor
open Go.ChangeShapes Go.WideShapes Go.ChangeAt Go.RowKit
set_option linter.unusedVariables false
theorem own:ownKnob Tryz.prog.godebug=none:=by kernel_rfl
theorem laidOut:laidOutB Tryz.prog=true:=by kernel_rfl
set_option maxRecDepth 100000 in
theorem the_contract (H:Type) (enc:TypeId×Value→H) (F:Stop.Interp) (W:World) (base:Nat) (args:Array Value) (ds gs:List (DataW H)) (before:List MemPlace)
    (hval:∀ (j:Nat) t v,Tryz.f3.params[j]?=some t→args[j]?=some v→Value.okWide Tryz.prog W .any base t v)
    (hW:DataW.Whole enc Tryz.prog Tryz.f3.params.toList Rows.bodyTellsSpec.vars false W args.toList ds gs before)
    (hk:Rows.uptoSmall H (ds++gs)=true)
    (hsz0:(DataW.weightsEach Tryz.prog (Tryz.f3.params.toList++(Rows.OpenSpec.upto Rows.bodyTellsSpec).bare.plain.varTypes Tryz.prog) (ds++gs)).all (·≤reachBytes)=true) (hL:laidMetH Tryz.prog Rows.bodyTellsUptoRow.laid W) :
    Calls Tryz.prog 3 args W fun e W'=>∃ v,e = .returned v∧Rows.bodyTellsSpec.post enc Tryz.prog Tryz.f3 false true false false W args v W':=by
  have hW':=hW
  obtain⟨p,q,hA0,hV,rfl,hfz,hnd⟩:=hW
  have hA:DataW.TrodAll enc Tryz.prog W 0 (fun _=>true) true Tryz.f3.params.toList args.toList ds p:=hA0
  rw[Tryz.params3] at hA hval hsz0
  obtain⟨v0,vs0,d0,ds0,p0,q0,hargs,rfl,rfl,h0,r0⟩:=trodAll_cons hA
  obtain⟨v1,vs1,d1,ds1,p1,q1,rfl,rfl,rfl,h1,r1⟩:=trodAll_cons r0
  obtain⟨v2,vs2,d2,ds2,p2,q2,rfl,rfl,rfl,h2,r2⟩:=trodAll_cons r1
  obtain⟨v3,vs3,d3,ds3,p3,q3,rfl,rfl,rfl,h3,r3⟩:=trodAll_cons r2
  obtain⟨v4,vs4,d4,ds4,p4,q4,rfl,rfl,rfl,h4,r4⟩:=trodAll_cons r3
  obtain⟨v5,vs5,d5,ds5,p5,q5,rfl,rfl,rfl,h5,r5⟩:=trodAll_cons r4
  obtain⟨v6,vs6,d6,ds6,p6,q6,rfl,rfl,rfl,h6,r6⟩:=trodAll_cons r5
  obtain⟨rfl,rfl,rfl⟩:=trodAll_nil r6
  obtain rfl:args=#[v0,v1,v2,v3,v4,v5,v6]:=by cases args;simp_all
  obtain⟨rfl,rfl⟩:=trodVars_none hV
  have hbulk:Rows.uptoBulkAll [d0,d1,d2,d3,d4,d5,d6]≤1048576:=by
    have:=of_decide_eq_true hk
    simpa using this
  have hb2:Rows.uptoBulk d2≤1048576:=Nat.le_trans (L.bulk_mem (by simp)) hbulk
  have hb3:Rows.uptoBulk d3≤1048576:=Nat.le_trans (L.bulk_mem (by simp)) hbulk
  have hb4:Rows.uptoBulk d4≤1048576:=Nat.le_trans (L.bulk_mem (by simp)) hbulk
  obtain⟨msg,rfl,rfl,rfl,z1⟩:=open_int Tryz.underlying3 (hval 1 3 v1 rfl rfl) h1
  obtain⟨kind,rfl,rfl,rfl,z5⟩:=open_int Tryz.underlying3 (hval 5 3 v5 rfl rfl) h5
  obtain⟨nn,rfl,rfl,rfl,z6⟩:=open_int Tryz.underlying35 (hval 6 35 v6 rfl rfl) h6
  have zb:=bounds_u64 z6
  obtain⟨n,rfl⟩:∃ n:Nat,nn=(n:Int):=⟨nn.toNat,by omega⟩
  have k0:=h0
  have lt0:∀ x∈p0,x.block < W.heap.size:=by obtain⟨m,hm⟩:=k0;exact DataW.trod_lt m _ _ _ hm
  have k2:=h2
  have lt2:∀ x∈p2,x.block < W.heap.size:=by obtain⟨m,hm⟩:=k2;exact DataW.trod_lt m _ _ _ hm
  have k3:=h3
  have lt3:∀ x∈p3,x.block < W.heap.size:=by obtain⟨m,hm⟩:=k3;exact DataW.trod_lt m _ _ _ hm
  have k4:=h4
  have lt4:∀ x∈p4,x.block < W.heap.size:=by obtain⟨m,hm⟩:=k4;exact DataW.trod_lt m _ _ _ hm
  have hs0:L.Sz 25 d0:=by
    intro n hn
    have:=List.all_eq_true.1 hsz0 n (DataW.weights_mem_each (j:=0) rfl rfl n hn)
    simpa using this
  obtain⟨vm,ve,g,rfl,hg,hok⟩:∃ vm ve g,v0 = .agg #[vm,ve]∧L.GRd W vm ve g∧L.GOk g:=by
    obtain⟨fuel,hf⟩:=h0
    exact L.open_file hf hs0
  obtain⟨x2,y2,b2,rfl,hq2,ho2,hw2⟩:∃ x0 x1 b,v2 = .agg #[x0,x1]∧L.BRd (SizeOf.sizeOf d2+SizeOf.sizeOf d3+SizeOf.sizeOf d4) W x0 x1 b∧L.BOk (SizeOf.sizeOf d2+SizeOf.sizeOf d3+SizeOf.sizeOf d4+1) b∧L.jWB (SizeOf.sizeOf d2+SizeOf.sizeOf d3+SizeOf.sizeOf d4+1) b≤60*Rows.uptoBulk d2:=by
    obtain⟨fuel,hf⟩:=h2
    obtain⟨x0,x1,b,e1,e2,e3,e4⟩:=L.open_bodyU (SizeOf.sizeOf d2+SizeOf.sizeOf d3+SizeOf.sizeOf d4) (by omega) hf hb2
    exact⟨x0,x1,b,e1,e2,e3,by first|exact e4|omega⟩
  obtain⟨x3,y3,b3,rfl,hq3,ho3,hw3⟩:∃ x0 x1 b,v3 = .agg #[x0,x1]∧L.BRd (SizeOf.sizeOf d2+SizeOf.sizeOf d3+SizeOf.sizeOf d4) W x0 x1 b∧L.BOk (SizeOf.sizeOf d2+SizeOf.sizeOf d3+SizeOf.sizeOf d4+1) b∧L.jWB (SizeOf.sizeOf d2+SizeOf.sizeOf d3+SizeOf.sizeOf d4+1) b≤60*Rows.uptoBulk d3:=by
    obtain⟨fuel,hf⟩:=h3
    obtain⟨x0,x1,b,e1,e2,e3,e4⟩:=L.open_bodyU (SizeOf.sizeOf d2+SizeOf.sizeOf d3+SizeOf.sizeOf d4) (by omega) hf hb3
    exact⟨x0,x1,b,e1,e2,e3,by first|exact e4|omega⟩
  obtain⟨y,a1,n1,c1,a2,n2,c2,a3,n3,c3,rfl,hqv,hov⟩:∃ (y:L.VI (L.BI (SizeOf.sizeOf d2+SizeOf.sizeOf d3+SizeOf.sizeOf d4))) (a1:Option Addr) (n1 c1:Nat) (a2:Option Addr) (n2 c2:Nat) (a3:Option Addr) (n3 c3:Nat),v4 = .agg #[.int .i64 y.number,.slice a1 n1 c1,.slice a2 n2 c2,.slice a3 n3 c3]∧L.VLs (SizeOf.sizeOf d2+SizeOf.sizeOf d3+SizeOf.sizeOf d4) W a1 n1 c1 a2 n2 c2 a3 n3 c3 y∧L.VOk (L.BOk (SizeOf.sizeOf d2+SizeOf.sizeOf d3+SizeOf.sizeOf d4)) y:=by
    obtain⟨fuel,hf⟩:=h4
    exact L.open_valueU (SizeOf.sizeOf d2+SizeOf.sizeOf d3+SizeOf.sizeOf d4) (by omega) hf hb4
  obtain⟨am,nm,cm,rfl,_,_⟩:=hg.1.shape
  obtain⟨ae,ne,ce,rfl,_,_⟩:=hg.2.shape
  have hI:=C1q hg hok (B0q hL) (msg:=msg) (by unfold L.I64;have:=bounds_i64 z1;omega)
  clear hA0
  refine(L.tells_walk4 hI hq2 ho2 hq3 ho3 hqv hov kind n (by omega) (by omega)).mono fun e W' ⟨he,bel⟩=>?_
  subst he
  exact⟨_,rfl,_,_,_,[],_,[],hW',trodAll_mk1 (shut_bool Tryz.underlying4 _),(trodAll_cons_mk (Below.trod laidOut (by kernel_rfl) (of_decide_eq_true (by kernel_rfl)) k0 bel lt0) (trodAll_cons_mk (shut_int Tryz.underlying3 z1) (trodAll_cons_mk (Below.trod laidOut (by kernel_rfl) (of_decide_eq_true (by kernel_rfl)) k2 bel lt2) (trodAll_cons_mk (Below.trod laidOut (by kernel_rfl) (of_decide_eq_true (by kernel_rfl)) k3 bel lt3) (trodAll_cons_mk (Below.trod laidOut (by kernel_rfl) (of_decide_eq_true (by kernel_rfl)) k4 bel lt4) (trodAll_cons_mk (shut_int Tryz.underlying3 z5) (trodAll_cons_mk (shut_int Tryz.underlying35 z6) trodAll_mk0))))))),rfl,bel.frame _,fun h=>by cases h⟩
theorem the_laid (os:Os) (args:Array Value):laidMet Tryz.prog Rows.bodyTellsUptoRow.laid ((World.laidAll Tryz.prog os Rows.bodyTellsUptoRow.laid).forCall (fun _ _=>0) ⟨#[],args,[]⟩).memory:=
  laidMet_laidAll args (by kernel_rfl) (by kernel_rfl)
set_option maxRecDepth 100000 in
theorem the_lifted (os:Os) (started:os.Started) (H:Type) (enc:TypeId×Value→H) (F:Stop.Interp) :
    ReturnsInHanded {} Tryz.checked os 3 .any ((Rows.OpenSpec.upto Rows.bodyTellsSpec).preRow enc Tryz.prog Tryz.f3 Rows.bodyTellsUptoRow.domain false Rows.bodyTellsUptoRow.laid) (((Rows.OpenSpec.upto Rows.bodyTellsSpec).at F).post enc Tryz.prog Tryz.f3 false true false false):=by
  have hx:DataW.whole enc Tryz.prog ((World.laidAll Tryz.prog os Rows.bodyTellsUptoRow.laid).forCall (fun _ _=>0) ⟨#[],#[.agg #[.slice none 0 0,.slice none 0 0],.int .i64 0,.agg #[.slice none 0 0,.slice none 0 0],.agg #[.slice none 0 0,.slice none 0 0],.agg #[.int .i64 0,.slice none 0 0,.slice none 0 0,.slice none 0 0],.int .i64 0,.int .u64 0],[]⟩).memory Tryz.f3.params.toList Rows.bodyTellsSpec.vars false #[Value.agg #[.slice none 0 0,.slice none 0 0],Value.int .i64 0,Value.agg #[.slice none 0 0,.slice none 0 0],Value.agg #[.slice none 0 0,.slice none 0 0],Value.agg #[.int .i64 0,.slice none 0 0,.slice none 0 0,.slice none 0 0],Value.int .i64 0,Value.int .u64 0].toList 8=some ([.agg [.nil,.nil],.lit (.int .i64 0),.agg [.nil,.nil],.agg [.nil,.nil],.agg [.lit (.int .i64 0),.nil,.nil,.nil],.lit (.int .i64 0),.lit (.int .u64 0)],[],[]):=by kernel_rfl
  refine returnsInHanded_of_row (C:=Tryz.checked) (s:=Rows.OpenSpec.upto Rows.bodyTellsSpec) own started (by kernel_rfl) Tryz.func3
    (witness_row_atRef (enc:=enc) (C:=Tryz.checked) false (World.laidAll Tryz.prog os Rows.bodyTellsUptoRow.laid) #[.agg #[.slice none 0 0,.slice none 0 0],.int .i64 0,.agg #[.slice none 0 0,.slice none 0 0],.agg #[.slice none 0 0,.slice none 0 0],.agg #[.int .i64 0,.slice none 0 0,.slice none 0 0,.slice none 0 0],.int .i64 0,.int .u64 0] (World.laidAll_os _ _ _) (by kernel_rfl) (by kernel_rfl) (by kernel_rfl)
      (OpenSpec.preRow_of_cond 8 hx (by kernel_rfl) (fun k hk=>by cases hk;kernel_rfl) (by kernel_rfl) (the_laid os _))) ?_
  intro W base args ds gs before hval hW _ hcond hsz hL _ _
  exact the_contract H enc F W base args ds gs before hval hW (hcond _ rfl) hsz hL
theorem the_said:Rows.BodyTellsUptoSaid:=
  OpenClaim.holds_of_cond 3 Tryz.f3 rfl rfl rfl rfl rfl rfl rfl ⟨rfl,rfl,rfl,rfl,rfl⟩ rfl rfl rfl rfl rfl (by kernel_rfl) Tryz.func3 (by kernel_rfl)
    (of_decide_eq_true (by kernel_rfl)) (by unfold Func.isWrapper;first|(rw[if_pos (by decide +kernel)];kernel_rfl)|(rw[if_neg (by decide +kernel)];exact⟨rfl,rfl⟩))
    (fun os started H enc _ F=>by rw[OpenClaim.pre_eq_preRow];exact the_lifted os started H enc F)
theorem the_plain (f : FuncId) (fn : Func) (hf : Tryz.pinned.checked.prog.funcNamed "fieldpress/presslaw4.BodyTells" = some f) (hfn : Tryz.pinned.checked.prog.funcs[f]? = some fn) :
    false=Tryz.pinned.checked.prog.looks []∧∀ (j:Nat) t,fn.params[j]?=some t→Tryz.pinned.checked.prog.wantsStandIn t=false:=by
  obtain rfl : f = 3 := Option.some.inj ((show Tryz.prog.funcNamed "fieldpress/presslaw4.BodyTells" = some 3 by kernel_rfl).symm.trans hf) |>.symm
  obtain rfl:fn=Tryz.f3:=(Option.some.inj (Tryz.func3.symm.trans hfn)).symm
  refine⟨by kernel_rfl,fun j t ht=>?_⟩
  rw[Tryz.params3] at ht
  have ht:t=25∨t=3∨t=29∨t=34∨t=35:=by
    have hm:=Array.mem_of_getElem? ht
    simp only[List.mem_toArray,List.mem_cons,List.not_mem_nil,or_false] at hm
    rcases hm with h|h|h|h|h|h|h <;> rw[h] <;> simp
  rcases ht with rfl|rfl|rfl|rfl|rfl
  · exact(show Tryz.prog.wantsStandIn 25=false by kernel_rfl)
  · exact(show Tryz.prog.wantsStandIn 3=false by kernel_rfl)
  · exact(show Tryz.prog.wantsStandIn 29=false by kernel_rfl)
  · exact(show Tryz.prog.wantsStandIn 34=false by kernel_rfl)
  · exact(show Tryz.prog.wantsStandIn 35=false by kernel_rfl)
theorem bodyTells_proved:Rows.BodyTellsUptoCardSaid:=
  Claim7.holds_tied_plain_at .later [] _ _ _ _ the_said (fun _ h=>by cases h) (by kernel_rfl) (fun _ h=>by cases h) bodyTellsUpto_row_tie rfl ⟨rfl,rfl⟩ (by kernel_rfl) rfl the_plain (by kernel_rfl)
end Go.Proofs.YtelmjekjohbmjaaGreatDoor
