import Derived.Test.YthcomdofaaeihaaGreatDoorV16
import Derived.Test.YthcomdofaaeihaaGreatDoorV17
import Derived.Laws.MakeOwn
set_option maxHeartbeats 32000000
set_option maxRecDepth 100000
set_option linter.unusedVariables false
namespace Go.Proofs.YthcomdofaaeihaaGreatDoor
namespace L
open Go.RowKit
variable{g:Nat}{w:World}{t:TypeId}
def DOut (n:Nat)(V:World)(res:Except Int (BI n))(e:Ending)(w':World):Prop:=
 match res with
 | .error E=>E≠0∧e = .returned (.tuple #[.agg #[.slice none 0 0,.slice none 0 0],.int .i64 E])∧zB V w'
 | .ok s=>∃ (c:LB n) (i0:Option Addr) (j0 l0:Nat) (i1:Option Addr) (j1 l1:Nat),vO n c = [.slice i0 j0 l0,.slice i1 j1 l1]∧e = .returned (.tuple #[.agg #[.slice i0 j0 l0,.slice i1 j1 l1],.int .i64 0])∧LB.pl n c=s∧OwnB V.heap.size n w' c∧(LB.fp n c).Nodup∧zB V w'
def WQ (n:Nat)(W:World)(fn:Nat)(cap:Array Value)(name:List UInt8)(rd:List UInt8→Except Int (BI n))(Q:List UInt8→Prop):Prop:=
 ∀ (V:World) (ao:Option Addr) (m c:Nat) (l:List UInt8),Q l→zB W V→RdL 1 YAt V (.slice ao m c) l→l.length≤4000→Calls Tryz.prog fn (#[.string (S name),.slice ao m c]++cap) V fun e w'=>DOut n V (rd l) e w'
def uT {n:Nat}(rd:List UInt8→List UInt8→Except Int (BI n))(x:FI)(r:RI):Except Int (VI (BI n)):=
 if yI x.kind≠2 then(if (tnN x r).2=0 then .ok ⟨x.nU,(tnN x r).1,[],[]⟩ else .error (((tnN x r).2:Nat):Int))
 else if r.how≠2 then .error 8
 else if x.kind=10 then(match rd x.type r.bytes with|.error E=>.error E|.ok s=>.ok ⟨x.nU,[],[],[s]⟩)
 else if x.kind=8∧Lib.validD r.bytes=false then .error 9
 else .ok ⟨x.nU,[],[r.bytes],[]⟩
def TOut (n:Nat)(B:Nat)(w:World)(res:Except Int (VI (BI n)))(e:Ending)(w':World):Prop:=
 zB w w'∧match res with
 | .error E=>E≠0∧∃ (q:Int) (a1:Option Addr) (n1 c1:Nat) (a2:Option Addr) (n2 c2:Nat) (a3:Option Addr) (n3 c3:Nat),e = .returned (.tuple #[.agg #[.int .i64 q,.slice a1 n1 c1,.slice a2 n2 c2,.slice a3 n3 c3],.int .i64 E])
 | .ok y=>∃ y':VL (LB n),e = .returned (.tuple #[.agg #[.int .i64 y'.nU,y'.p1.v,y'.p2.v,y'.p3.v],.int .i64 0])∧VL.pl (LB.pl n) y'=y∧OwnV (ekB n) (OwnB B n) w' B y'∧(∀ k∈VL.fp (LB.fp n) y',w.heap.size≤k)∧(VL.fp (LB.fp n) y').Nodup
theorem VP {α:Type}{E:EK α}{base:Nat}{a : α}(hb:base≤g)(h:w.heap[g]?=some (.cells (E.enc a).toArray E.elem (0,0))):Row E w base (.slice (some ⟨g,0,none⟩) 1 1) [a]:=by
 refine⟨E.flat_len [a],.inr ⟨g,1,_,rfl,hb,h,zG _,by unfold maxLen;omega,by simp[E.len],?_⟩⟩;have:(E.enc a).length=([a]:List α).length*E.size:=by rw[E.len];simp
 simp only[EK.flat,rC,mE,tT];rw[←this];simp
theorem rV {a0 a1 a2 a3:Value}(h:w.heap[g]?=some (.cells #[a0,a1,a2,a3] t (0,0))) :
  w.cell? ⟨g,0,none⟩=some a0∧w.cell? ⟨g,1,none⟩=some a1∧w.cell? ⟨g,2,none⟩=some a2∧w.cell? ⟨g,3,none⟩=some a3:=⟨zL h 0 _ rfl,zL h 1 _ rfl,zL h 2 _ rfl,zL h 3 _ rfl⟩
theorem C7j (w:World)(o1 o2 o3 o4:Obj):((((w.alloc o1).alloc o2).alloc o3).alloc o4).heap[w.heap.size]?=some o1∧((((w.alloc o1).alloc o2).alloc o3).alloc o4).heap[w.heap.size+1]?=some o2∧((((w.alloc o1).alloc o2).alloc o3).alloc o4).heap[w.heap.size+2]?=some o3∧((((w.alloc o1).alloc o2).alloc o3).alloc o4).heap[w.heap.size+3]?=some o4∧((((w.alloc o1).alloc o2).alloc o3).alloc o4).heap.size=w.heap.size+4:=by
 have z1:(w.alloc o1).heap.size=w.heap.size+1:=by simp
 have z2:((w.alloc o1).alloc o2).heap.size=w.heap.size+2:=by simp
 have z3:(((w.alloc o1).alloc o2).alloc o3).heap.size=w.heap.size+3:=by simp
 refine⟨?_,?_,?_,?_,by simp⟩
 ·rw[wT _ _ _ (by omega),wT _ _ _ (by omega),wT _ _ _ (by omega)];exact yM w o1
 ·rw[wT _ _ _ (by omega),wT _ _ _ (by omega),←z1];exact yM _ o2
 ·rw[wT _ _ _ (by omega),←z2];exact yM _ o3
 rw[←z3];exact yM _ o4
theorem E2a {cs:Array Value}{x0 x1 x2 x3:Value}(h:w.heap[g]?=some (.cells cs t (0,0)))(ht:t≠5):FrB [g] w ((((w.setCell ⟨g,0,none⟩ x0).setCell ⟨g,1,none⟩ x1).setCell ⟨g,2,none⟩ x2).setCell ⟨g,3,none⟩ x3):=
 pW (pW (pW (uW h ht) (uW (yO _ _ 0 _ _ x0 h) ht)) (uW (yO _ _ 1 _ _ x1 (yO _ _ 0 _ _ x0 h)) ht)) (uW (yO _ _ 2 _ _ x2 (yO _ _ 1 _ _ x1 (yO _ _ 0 _ _ x0 h))) ht)
theorem D4g (W:World):(Instr.makeSlice 61 (.int .i64 1) (.int .i64 1)).run Tryz.prog W = .ok (.slice (some ⟨W.heap.size,0,none⟩) 1 1) (W.alloc (.cells #[.slice none 0 0,.slice none 0 0] 29)):=by
 obtain⟨i0,hi,hz0,hz1,hz2⟩:=info_parts (ekB 0).info;have h:=run_make (P:=Tryz.prog) W 61 29 i0 _ (ekB 0).under hi hz0 .i64 .i64 1 1 (by decide) (by decide) (by rw[hz2];decide) (by decide);rw[hz1] at h;have e:madeCells (ekB 0).zero.cells (Int.toNat 1*(ekB 0).size)=#[.slice none 0 0,.slice none 0 0]:=by
  unfold madeCells;have e2:Array.range (Int.toNat 1*(ekB 0).size)=#[0,1]:=by show Array.range 2=_;decide
  rw[e2];simp[ekB,Value.cells]
 rw[e] at h;exact h
theorem Qh6{P:Prop}(h:P:=by
 (try dsimp only);first|with_reducible exact hD|with_reducible exact ak|exact zT (zT ak (zG _)) (zG _)):P:=h
theorem D6c {n:Nat}{B:Nat}(hB:B≤w.heap.size)(x:FI)(r:RI){ao:Option Addr}{nb cap:Nat}(hrow:Row ekY w B (.slice ao nb cap) r.bytes)(hl:r.bytes.length≤4000)(hb:r.bits≤18446744073709551615)(hT:Tabs w){fn:Nat}{cp:Array Value}(gq:∀ (args:Array Value) (w:World),(callFunc fn args).run Tryz.prog w = .ok (.enter fn args) w){rd:List UInt8→List UInt8→Except Int (BI n)}{Q:List UInt8→List UInt8→Prop}(ah:x.kind=10→WQ n w fn cp x.type (rd x.type) (Q x.type))(hQ:x.kind=10→Q x.type r.bytes) :
  Calls Tryz.prog 45 #[fdV x,.agg #[.int .i64 r.nU,.int .i64 r.how,.int .u64 (r.bits:Int),.slice ao nb cap],.func (.func fn) #[] cp] w fun e w'=>TOut n B w (uT rd x r) e w':=by
 have h:=hrow.rdY;have df:=zI hrow;clear hrow;obtain⟨W4,cu⟩:=zM ((((w.alloc (.cells #[.string (S x.name),.int .i64 x.nU,.int .i64 x.kind,.string (S x.type),.bool x.many,.int .i64 x.cE] 47)).alloc (.cells #[.int .i64 r.nU,.int .i64 r.how,.int .u64 (r.bits:Int),.slice ao nb cap] 78)).alloc (.cells #[.int .i64 0,.slice none 0 0,.slice none 0 0,.slice none 0 0] 63)).alloc (.cells #[.int .i64 x.nU,.slice none 0 0,.slice none 0 0,.slice none 0 0] 63));obtain⟨x1,x2,x3,x4,z0⟩:=C7j w (.cells #[.string (S x.name),.int .i64 x.nU,.int .i64 x.kind,.string (S x.type),.bool x.many,.int .i64 x.cE] 47) (.cells #[.int .i64 r.nU,.int .i64 r.how,.int .u64 (r.bits:Int),.slice ao nb cap] 78) (.cells #[.int .i64 0,.slice none 0 0,.slice none 0 0,.slice none 0 0] 63) (.cells #[.int .i64 x.nU,.slice none 0 0,.slice none 0 0,.slice none 0 0] 63);rw[←cu.out] at x1 x2 x3 x4 z0;have hb4:zB w W4:=by rw[cu.out];exact((((zH _ _).alloc (zG _) _).alloc (by simp) _).alloc (by simp;omega) _).alloc (by simp;omega) _
 have iu:=xD z0.symm;have g9:=xD z0;have iq:=zI z0;clear z0;have dw:∀ V,zB W4 V→(V.cell? ⟨w.heap.size,0,none⟩=some (.string (S x.name))∧V.cell? ⟨w.heap.size,1,none⟩=some (.int .i64 x.nU)∧V.cell? ⟨w.heap.size,2,none⟩=some (.int .i64 x.kind)∧V.cell? ⟨w.heap.size,3,none⟩=some (.string (S x.type))∧V.cell? ⟨w.heap.size,4,none⟩=some (.bool x.many)∧V.cell? ⟨w.heap.size,5,none⟩=some (.int .i64 x.cE))∧(V.cell? ⟨w.heap.size+1,0,none⟩=some (.int .i64 r.nU)∧V.cell? ⟨w.heap.size+1,1,none⟩=some (.int .i64 r.how)∧V.cell? ⟨w.heap.size+1,2,none⟩=some (.int .u64 (r.bits:Int))∧V.cell? ⟨w.heap.size+1,3,none⟩=some (.slice ao nb cap)):=fun V hV=>by
  have y1:=(zN hV).trans x1;exact⟨⟨zL y1 0 _ rfl,zL y1 1 _ rfl,zL y1 2 _ rfl,zL y1 3 _ rfl,zL y1 4 _ rfl,zL y1 5 _ rfl⟩,rV ((zN hV).trans x2)⟩
 have au:=fun V (hV:zB W4 V)=>yH ((zN hV).trans x3) ((zN hV).trans x4)
 obtain⟨R,HR⟩:=yP (uT rd x r);rw[HR.out];have dx:=zI h;have di:=YA x.kind W4;obtain⟨H,HH⟩:=yP (yI x.kind);rw[HH.out] at di;obtain⟨⟨t0,t1,t2,t3,t4,t5⟩,t6,t7,t8,t9⟩:=dw W4 (zH _ _);obtain⟨y2,y3⟩:=au W4 (zH _ _);by_cases hH:H=2
 ·have eH:(H != 2)=false:=by simp[hH]
  have bg:Hid (yI x.kind=2):=by show _=_;rw[HH.out];exact hH
  by_cases hR:r.how=2
  ·have eR:(r.how != 2)=false:=by simp[hR]
   by_cases hk:x.kind=10
   ·have ek:=beq_iff_eq.2 hk;have HD:=zI (ah hk);have HQ:=zI (hQ hk);have ag:Hid (R=match rd x.type r.bytes with|.error E=>.error E|.ok s=>.ok ⟨x.nU,[],[],[s]⟩):=by
     show _=_;rw[←HR.out];unfold uT;rw[zC (by rw[bg.out];simp),zC (by rw[hR];simp),zF hk]
    clear hH hR hk ah;obtain⟨s0,s1,s2,s3⟩:=rV y3;have aw:=zJ y3;have gu:=D4g;obtain⟨sb,dt⟩:=yP (W4.heap.size);have g7:=xD dt.out.symm;have g8:=xD dt.out;obtain⟨Y5,dz,dv,-,-⟩:=zV W4 (.cells #[.slice none 0 0,.slice none 0 0] 29);have gi:Y5.heap[sb]?=some (.cells #[.slice none 0 0,.slice none 0 0] 29 (0,0)):=by rw[←dt.out,dz.out];exact yM _ _
    have iy:=(zR gi)
    obtain⟨ip,fq⟩:=au Y5 dv;obtain⟨p0,p1,p2,p3⟩:=rV fq;have fy:=zJ fq;rw[dz.out] at p0 p1 p2 p3 fy;obtain⟨W5,bh⟩:=zM (Y5.setCell ⟨w.heap.size+3,3,none⟩ (.slice (some ⟨sb,0,none⟩) 1 1));have bc:zB w W5:=by rw[bh.out];exact zT (zK hb4 dv) (by omega)
    have fh:W5.heap[sb]?=some (.cells #[.slice none 0 0,.slice none 0 0] 29 (0,0)):=by rw[bh.out,zZ _ _ _ _ (show sb≠w.heap.size+3 by omega)];exact gi
    have fj:W5.heap[w.heap.size+3]?=some (.cells #[.int .i64 x.nU,.slice none 0 0,.slice none 0 0,.slice (some ⟨sb,0,none⟩) 1 1] 63 (0,0)):=by rw[bh.out];exact yO _ _ 3 _ _ _ fq
    have gh:W5.heap[w.heap.size+2]?=some (.cells #[.int .i64 0,.slice none 0 0,.slice none 0 0,.slice none 0 0] 63 (0,0)):=by rw[bh.out,zZ _ _ _ _ (show w.heap.size+2≠w.heap.size+3 by omega)];exact ip
    have iw:=(zR fh)
    have il:W5.heap[w.heap.size]?=W4.heap[w.heap.size]?:=by rw[bh.out,zZ _ _ _ _ (show w.heap.size≠w.heap.size+3 by omega)];exact dv.block _ (by omega)
    have im:W5.heap[w.heap.size+1]?=W4.heap[w.heap.size+1]?:=by rw[bh.out,zZ _ _ _ _ (show w.heap.size+1≠w.heap.size+3 by omega)];exact dv.block _ (by omega)
    have ac:∀ V,Below sb W5 V→V.cell? ⟨w.heap.size,3,none⟩=some (.string (S x.type))∧V.cell? ⟨w.heap.size+1,3,none⟩=some (.slice ao nb cap)∧V.cell? ⟨w.heap.size+3,3,none⟩=some (.slice (some ⟨sb,0,none⟩) 1 1):=fun V hV=>
     ⟨zL (((zN hV).trans il).trans x1) 3 _ rfl,zL (((zN hV).trans im).trans x2) 3 _ rfl,zL ((zN hV).trans fj) 3 _ rfl⟩
    have hD:Below sb W5 W5.drew:=(zH _ _).drew;have av:zB W5 W5.drew:=(zH _ _).drew;obtain⟨RS,fu⟩:=yP (rd x.type r.bytes);have ei:=HD.out W5.drew ao nb cap r.bytes HQ.out (zK bc av) (dx.out.bL YAt.sT (zK bc av)) hl;rw[fu.out] at ei;rw[fu.out] at ag;obtain⟨v0,v1,v2⟩:=ac W5.drew hD;unfold fdV;go_enter Tryz.func45,Tryz.ntmps45;go_wp2_with fail
    rw[←cu.out];refine di.mono ?_;rintro e w5 ⟨rfl,rfl⟩;go_upto_region 9 with fail
    rw[←dz.out,dt.out,←bh.out];clear t0 t1 t2 t3 t4 t5 t6 t7 t8 t9 y2 y3 s0 s1 s2 s3 p0 p1 p2 p3 aw fy gu;cases RS with
    | error E=>
     refine wp_region_held_drew (S:=fun V=>Below sb W5 V) (by kernel_rfl) hD (fun hHeld=>?_);refine zTk 0 rfl ac ?_
     try simp only[zE]
     refine zTk 1 rfl ac ?_
     try simp only[zE]
     refine zTk 2 rfl ac ?_
     try simp only[zE]
     refine zTk 3 rfl ac ?_
     try simp only[zE]
     refine zTk 4 rfl ac ?_
     try simp only[zE]
     refine zTk 5 rfl ac ?_
     try simp only[zE]
     refine zTk 6 rfl ac ?_
     try simp only[zE]
     refine rA (i:=7) rfl fun K hK=>?_
     go_simp;refine ei.mono ?_;rintro e w7 ⟨gl,rfl,bn⟩;have ak:=hD.trans (bn.mono (by have:=av.size;omega));have bu:=(bn.block _ (by have:=av.size;omega)).trans fh;obtain⟨g0,g1⟩:=zO bu;have fg:=zJ bu;refine hK.out _ _ ?_ (fun hHeld=>?_)
     ·exact Qh6
     clear hK K
     try simp only[zE]
     refine zTk 8 rfl ac ?_
     try simp only[zE]
     refine zTk 9 rfl ac ?_
     try simp only[zE]
     refine zTk 10 rfl ac ?_
     try simp only[zE]
     refine zTk 11 rfl ac ?_
     try simp only[zE]
     refine rA (i:=12) rfl fun K hK=>?_
     go_simp;refine hK.out _ _ ?_ (fun hHeld=>?_)
     ·exact Qh6
     clear hK K
     try simp only[zE]
     refine zTk 13 rfl ac ?_
     try simp only[zE]
     refine wpAnyH_done (by kernel_rfl) ?_ _;have fk:=(zN ak).trans fj;have cw:=(zN ak).trans gh;obtain⟨s0,s1,s2,s3⟩:=rV fk;obtain⟨u0,u1,u2,u3⟩:=rV cw;have aj:=zJ cw;have ig:¬ w.heap.size+3=sb:=by omega
     have fd:¬ w.heap.size+2=sb:=by omega
     have ii:¬ sb=w.heap.size+3:=by omega
     have dn:¬ sb=w.heap.size+2:=by omega
     have ij:¬ w.heap.size+3=w.heap.size+2:=by omega
     have ik:¬ w.heap.size+2=w.heap.size+3:=by omega
     have eh:=zK (zK bc av) bn;go_wp2_with fail
     refine bodyPost_ret (v:=.tuple #[.agg #[.int .i64 x.nU,.slice none 0 0,.slice none 0 0,.slice (some ⟨sb,0,none⟩) 1 1],.int .i64 E]) (by simp[results,Tryz.results45,go_sem, *]) rfl ?_;refine⟨zT (zT (zT (zT (zT (zT eh (by omega)) (by omega)) (by omega)) (by omega)) (by omega)) (by omega),?_⟩;rw[ag.out];exact⟨gl,_,_,_,_,_,_,_,_,_,_,rfl⟩
    | ok s=>
    refine wp_region_held_drew (S:=fun V=>Below sb W5 V) (by kernel_rfl) hD (fun hHeld=>?_);refine zTk 0 rfl ac ?_
    try simp only[zE]
    refine zTk 1 rfl ac ?_
    try simp only[zE]
    refine zTk 2 rfl ac ?_
    try simp only[zE]
    refine zTk 3 rfl ac ?_
    try simp only[zE]
    refine zTk 4 rfl ac ?_
    try simp only[zE]
    refine zTk 5 rfl ac ?_
    try simp only[zE]
    refine zTk 6 rfl ac ?_
    try simp only[zE]
    refine rA (i:=7) rfl fun K hK=>?_
    go_simp;refine ei.mono ?_;rintro e w7 ⟨cc,i0,j0,l0,i1,j1,l1,eo,rfl,hpl,hown,gw,bn⟩;have ak:=hD.trans (bn.mono (by have:=av.size;omega));have bu:=(bn.block _ (by have:=av.size;omega)).trans fh;obtain⟨g0,g1⟩:=zO bu;have fg:=zJ bu;refine hK.out _ _ ?_ (fun hHeld=>?_)
    ·exact Qh6
    clear hK K
    try simp only[zE]
    refine zTk 8 rfl ac ?_
    try simp only[zE]
    refine zTk 9 rfl ac ?_
    try simp only[zE]
    refine zTk 10 rfl ac ?_
    try simp only[zE]
    refine zTk 11 rfl ac ?_
    try simp only[zE]
    refine rA (i:=12) rfl fun K hK=>?_
    go_simp;refine hK.out _ _ ?_ (fun hHeld=>?_)
    ·exact Qh6
    clear hK K
    try simp only[zE]
    refine zTk 13 rfl ac ?_
    try simp only[zE]
    refine wpAnyH_done (by kernel_rfl) ?_ _;have fk:=(zN ak).trans fj;have cw:=(zN ak).trans gh;obtain⟨s0,s1,s2,s3⟩:=rV fk;obtain⟨u0,u1,u2,u3⟩:=rV cw;have aj:=zJ cw;have ig:¬ w.heap.size+3=sb:=by omega
    have fd:¬ w.heap.size+2=sb:=by omega
    have ii:¬ sb=w.heap.size+3:=by omega
    have dn:¬ sb=w.heap.size+2:=by omega
    have ij:¬ w.heap.size+3=w.heap.size+2:=by omega
    have ik:¬ w.heap.size+2=w.heap.size+3:=by omega
    have eh:=zK (zK bc av) bn;go_wp2_with fail
    refine bodyPost_ret (v:=.tuple #[.agg #[.int .i64 x.nU,.slice none 0 0,.slice none 0 0,.slice (some ⟨sb,0,none⟩) 1 1],.int .i64 0]) (by simp[results,Tryz.results45,go_sem, *]) rfl ?_;refine⟨zT (zT (zT (zT (zT (zT eh (by omega)) (by omega)) (by omega)) (by omega)) (by omega)) (by omega),?_⟩;rw[ag.out];have f1:=fr2 bu (x0:=.slice i0 j0 l0) (x1:=.slice i1 j1 l1);have io:((w7.setCell ⟨sb,0,none⟩ (.slice i0 j0 l0)).setCell ⟨sb,1,none⟩ (.slice i1 j1 l1)).heap[w.heap.size+2]?=some (.cells #[.int .i64 0,.slice none 0 0,.slice none 0 0,.slice none 0 0] 63 (0,0)):=by rw[zZ _ _ _ _ (show w.heap.size+2≠sb from fd),zZ _ _ _ _ (show w.heap.size+2≠sb from fd)];exact cw
    have f2:=E2a (x0:=.int .i64 x.nU) (x1:=.slice none 0 0) (x2:=.slice none 0 0) (x3:=.slice (some ⟨sb,0,none⟩) 1 1) io (by decide);have f3:=f1.trans f2 (H:=[sb,w.heap.size+2]) (fun i h=>by rw[zS.1 h];simp) (fun i h=>.inl (by rw[zS.1 h];simp));have fz:=OwnB.inB n hown;have gz:=OwnB.fr n [sb,w.heap.size+2] _ _ cc hown f3 (fun k hk hm=>by have h1:=(fz k hk).1;have h2:=av.size;simp only[yY,xP,or_false] at hm;omega);have xF:((((((w7.setCell ⟨sb,0,none⟩ (.slice i0 j0 l0)).setCell ⟨sb,1,none⟩ (.slice i1 j1 l1)).setCell ⟨w.heap.size+2,0,none⟩ (.int .i64 x.nU)).setCell ⟨w.heap.size+2,1,none⟩ (.slice none 0 0)).setCell ⟨w.heap.size+2,2,none⟩ (.slice none 0 0)).setCell ⟨w.heap.size+2,3,none⟩ (.slice (some ⟨sb,0,none⟩) 1 1)).heap[sb]?=some (.cells #[.slice i0 j0 l0,.slice i1 j1 l1] 29 (0,0)):=by
     rw[zZ _ _ _ _ (show sb≠w.heap.size+2 from dn),zZ _ _ _ _ (show sb≠w.heap.size+2 from dn),zZ _ _ _ _ (show sb≠w.heap.size+2 from dn),zZ _ _ _ _ (show sb≠w.heap.size+2 from dn)];exact yO _ _ 1 _ _ _ (yO _ _ 0 _ _ _ bu)
    have dh:∀ k∈LB.fp n cc,sb<k:=fun k hk=>by have h1:=(fz k hk).1;have h2:=av.size;omega
    refine⟨⟨x.nU,[],[],[cc],(none,0,0),(none,0,0),(some ⟨sb,0,none⟩,1,1)⟩,rfl,by show(⟨x.nU,[],[],[LB.pl n cc]⟩:VI (BI n))=_;rw[hpl],⟨Row.nil _ _ _,Row.nil _ _ _,fun z hz=>(xP hz).elim,VP (E:=ekB n) (by omega) (by rw[xF];show some (Obj.cells _ _ _)=some (Obj.cells (vO n cc).toArray _ _);rw[eo];rfl),fun z hz=>?_⟩,fun k hk=>?_,?_⟩
    ·rw[zS.1 hz];exact OwnB.mono n gz (by have h1:=av.size;omega)
    ·have hk:k∈[]++[]++[sb]++[cc].flatMap (LB.fp n):=hk;simp only[tH,rC,mE,tT,zU,zS] at hk;rcases hk with rfl|hk
     ·omega
     have:=dh k hk;omega
    show([]++[]++[sb]++[cc].flatMap (LB.fp n)).Nodup;simp only[tH,rC,mE,tT,eI];exact List.nodup_cons.2 ⟨fun hk=>by have:=dh _ hk;omega,gw⟩
   have ek:=beq_eq_false_iff_ne.2 hk;have eu:x.kind=8∨x.kind=9:=by
    have:=bg.out;unfold yI at this;split at this
    ·cases this
    split at this
    ·cases this
    split at this
    ·omega
    cases this
   have ag:Hid (R=if x.kind=8∧Lib.validD r.bytes=false then .error 9 else .ok ⟨x.nU,[],[r.bytes],[]⟩):=by
    show _=_;rw[←HR.out];unfold uT;rw[zC (by rw[bg.out];simp),zC (by rw[hR];simp),zC hk]
   have gc:=B9g (h.bL YAt.sT hb4) (hT.bL hb4);obtain⟨vB,fw⟩:=yP (Lib.validD r.bytes);rw[fw.out] at gc;rw[fw.out] at ag;obtain⟨k8,d9⟩:=yP (decide (x.kind=8));have ir:(x.kind==8)=k8:=by rw[←d9.out];rfl
   clear hH hR hk ah eu;unfold fdV;go_enter Tryz.func45,Tryz.ntmps45;go_wp2_with fail
   rw[←cu.out];refine di.mono ?_;rintro e w5 ⟨rfl,rfl⟩;go_upto_region 10 with fail
   clear t0 t1 t2 t3 t4 t5 t6 t7 t8 t9 y2 y3;cases k8 with
   | true=>
    have dl:=nS d9.out;obtain⟨⟨t0,t1,t2,t3,t4,t5⟩,t6,t7,t8,t9⟩:=dw W4 (zH _ _);have dr:Hid (R=if vB=false then .error 9 else .ok ⟨x.nU,[],[r.bytes],[]⟩):=by
     show _=_;rw[ag.out];cases vB <;> simp[dl]
    clear dl ag;go_wp2_with fail
    refine gc.mono ?_;rintro e w6 ⟨rfl,ba⟩;clear t0 t1 t2 t3 t4 t5 t6 t7 t8 t9;cases vB with
    | true=>
     have ag:Hid (R = .ok ⟨x.nU,[],[r.bytes],[]⟩):=by show _=_;rw[dr.out];rfl
     have ie:=ba.size;obtain⟨X7,bk,ee,dp,-⟩:=zV w6 (.cells #[.slice ao nb cap] 30);have bl:=zK ba ee;obtain⟨cg,cj⟩:=au (w6.alloc (.cells #[.slice ao nb cap] 30)) (by rw[←bk.out];exact bl);obtain⟨s0,s1,s2,s3⟩:=rV cj;obtain⟨u0,u1,u2,u3⟩:=rV cg;have aj:=zJ cg;have aw:=zJ cj;have gg:¬ w.heap.size+3=w.heap.size+2:=by omega
     have fe:¬ w.heap.size+2=w.heap.size+3:=by omega
     obtain⟨⟨t0,t1,t2,t3,t4,t5⟩,t6,t7,t8,t9⟩:=dw w6 ba;have dm:=dx.out.bL YAt.sT (zK hb4 bl);have gj:=zI dm;have dy:=zI dp;clear dm dp cg cj;go_wp2_with fail
     rw[←bk.out];refine bodyPost_ret (v:=.tuple #[.agg #[.int .i64 x.nU,.slice none 0 0,.slice (some ⟨w6.heap.size,0,none⟩) 1 1,.slice none 0 0],.int .i64 0]) (by rw[bk.out];simp[results,Tryz.results45,go_sem, *]) rfl ?_;have dg:∀ q:Value,zB w (((((X7.setCell ⟨w.heap.size+3,2,none⟩ q).setCell ⟨w.heap.size+2,0,none⟩ (.int .i64 x.nU)).setCell ⟨w.heap.size+2,1,none⟩ (.slice none 0 0)).setCell ⟨w.heap.size+2,2,none⟩ q).setCell ⟨w.heap.size+2,3,none⟩ (.slice none 0 0)):=fun q=>zT (zT (zT (zT (zT (zK hb4 bl) (by omega)) (by omega)) (by omega)) (by omega)) (by omega)
     refine⟨dg _,?_⟩;rw[ag.out];have xF:∀ q:Value,(((((X7.setCell ⟨w.heap.size+3,2,none⟩ q).setCell ⟨w.heap.size+2,0,none⟩ (.int .i64 x.nU)).setCell ⟨w.heap.size+2,1,none⟩ (.slice none 0 0)).setCell ⟨w.heap.size+2,2,none⟩ q).setCell ⟨w.heap.size+2,3,none⟩ (.slice none 0 0)).heap[w6.heap.size]?=some (.cells #[.slice ao nb cap] 30 (0,0)):=fun q=>by
      rw[zZ _ _ _ _ (show w6.heap.size≠w.heap.size+2 by omega),zZ _ _ _ _ (show w6.heap.size≠w.heap.size+2 by omega),zZ _ _ _ _ (show w6.heap.size≠w.heap.size+2 by omega),zZ _ _ _ _ (show w6.heap.size≠w.heap.size+2 by omega),zZ _ _ _ _ (show w6.heap.size≠w.heap.size+3 by omega)];exact dy.out
     refine⟨⟨x.nU,[],[(r.bytes,(ao,nb,cap))],[],(none,0,0),(some ⟨w6.heap.size,0,none⟩,1,1),(none,0,0)⟩,rfl,rfl,⟨Row.nil _ _ _,VP (E:=ekZ) (by omega) (xF _),fun z hz=>?_,Row.nil _ _ _,fun z hz=>(xP hz).elim⟩,fun k hk=>?_,?_⟩
     ·rw[zS.1 hz];exact df.out.bL (dg _)
     ·have hk:k∈[]++[w6.heap.size]++[]++[]:=hk;simp at hk;omega
     show([]++[w6.heap.size]++[]++[]).Nodup;simp
    | false=>
    have ag:Hid (R = .error 9):=by show _=_;rw[dr.out];rfl
    obtain⟨y2,y3⟩:=au w6 ba;obtain⟨s0,s1,s2,s3⟩:=rV y3;obtain⟨u0,u1,u2,u3⟩:=rV y2;have aj:=zJ y2;have fe:¬ w.heap.size+2=w.heap.size+3:=by omega
    go_wp2_with fail
    refine bodyPost_ret (v:=.tuple #[.agg #[.int .i64 x.nU,.slice none 0 0,.slice none 0 0,.slice none 0 0],.int .i64 9]) (by simp[results,Tryz.results45,go_sem, *]) rfl ?_;rw[ag.out];exact⟨zT (zT (zT (zT (zK hb4 ba) (by omega)) (by omega)) (by omega)) (by omega),by decide,_,_,_,_,_,_,_,_,_,_,rfl⟩
   | false=>
   have dl:=of_decide_eq_false d9.out;have dr:Hid (R = .ok ⟨x.nU,[],[r.bytes],[]⟩):=by
    show _=_;rw[ag.out,zC (fun h=>dl h.1)]
   clear ag;have ag:=dr;clear dl;have hbr:zB W4 W4:=zH _ _;have ie:=hbr.size;obtain⟨X7,bk,ee,dp,-⟩:=zV W4 (.cells #[.slice ao nb cap] 30);have bl:=zK hbr ee;obtain⟨cg,cj⟩:=au (W4.alloc (.cells #[.slice ao nb cap] 30)) (by rw[←bk.out];exact bl);obtain⟨s0,s1,s2,s3⟩:=rV cj;obtain⟨u0,u1,u2,u3⟩:=rV cg;have aj:=zJ cg;have aw:=zJ cj;have gg:¬ w.heap.size+3=w.heap.size+2:=by omega
   have fe:¬ w.heap.size+2=w.heap.size+3:=by omega
   obtain⟨⟨t0,t1,t2,t3,t4,t5⟩,t6,t7,t8,t9⟩:=dw W4 hbr;have dm:=dx.out.bL YAt.sT (zK hb4 bl);have gj:=zI dm;have dy:=zI dp;clear dm dp cg cj;go_wp2_with fail
   rw[←bk.out];refine bodyPost_ret (v:=.tuple #[.agg #[.int .i64 x.nU,.slice none 0 0,.slice (some ⟨W4.heap.size,0,none⟩) 1 1,.slice none 0 0],.int .i64 0]) (by rw[bk.out];simp[results,Tryz.results45,go_sem, *]) rfl ?_;have dg:∀ q:Value,zB w (((((X7.setCell ⟨w.heap.size+3,2,none⟩ q).setCell ⟨w.heap.size+2,0,none⟩ (.int .i64 x.nU)).setCell ⟨w.heap.size+2,1,none⟩ (.slice none 0 0)).setCell ⟨w.heap.size+2,2,none⟩ q).setCell ⟨w.heap.size+2,3,none⟩ (.slice none 0 0)):=fun q=>zT (zT (zT (zT (zT (zK hb4 bl) (by omega)) (by omega)) (by omega)) (by omega)) (by omega)
   refine⟨dg _,?_⟩;rw[ag.out];have xF:∀ q:Value,(((((X7.setCell ⟨w.heap.size+3,2,none⟩ q).setCell ⟨w.heap.size+2,0,none⟩ (.int .i64 x.nU)).setCell ⟨w.heap.size+2,1,none⟩ (.slice none 0 0)).setCell ⟨w.heap.size+2,2,none⟩ q).setCell ⟨w.heap.size+2,3,none⟩ (.slice none 0 0)).heap[W4.heap.size]?=some (.cells #[.slice ao nb cap] 30 (0,0)):=fun q=>by
    rw[zZ _ _ _ _ (show W4.heap.size≠w.heap.size+2 by omega),zZ _ _ _ _ (show W4.heap.size≠w.heap.size+2 by omega),zZ _ _ _ _ (show W4.heap.size≠w.heap.size+2 by omega),zZ _ _ _ _ (show W4.heap.size≠w.heap.size+2 by omega),zZ _ _ _ _ (show W4.heap.size≠w.heap.size+3 by omega)];exact dy.out
   refine⟨⟨x.nU,[],[(r.bytes,(ao,nb,cap))],[],(none,0,0),(some ⟨W4.heap.size,0,none⟩,1,1),(none,0,0)⟩,rfl,rfl,⟨Row.nil _ _ _,VP (E:=ekZ) (by omega) (xF _),fun z hz=>?_,Row.nil _ _ _,fun z hz=>(xP hz).elim⟩,fun k hk=>?_,?_⟩
   ·rw[zS.1 hz];exact df.out.bL (dg _)
   ·have hk:k∈[]++[W4.heap.size]++[]++[]:=hk;simp at hk;omega
   show([]++[W4.heap.size]++[]++[]).Nodup;simp
  have eR:(r.how != 2)=true:=by simpa using hR
  have ag:Hid (R = .error 8):=by
   show _=_;rw[←HR.out];unfold uT;rw[zC (by rw[bg.out];simp),zF hR]
  clear hH hR ah;obtain⟨s0,s1,s2,s3⟩:=rV y3;obtain⟨u0,u1,u2,u3⟩:=rV y2;have aj:=zJ y2;unfold fdV;go_enter Tryz.func45,Tryz.ntmps45;go_wp2_with fail
  rw[←cu.out];refine di.mono ?_;rintro e w5 ⟨rfl,rfl⟩;go_wp2_with fail
  refine bodyPost_ret (v:=.tuple #[.agg #[.int .i64 x.nU,.slice none 0 0,.slice none 0 0,.slice none 0 0],.int .i64 8]) (by simp[results,Tryz.results45,go_sem, *]) rfl ?_;rw[ag.out];exact⟨zT (zT (zT (zT hb4 (by omega)) (by omega)) (by omega)) (by omega),by decide,_,_,_,_,_,_,_,_,_,_,rfl⟩
 have eH:(H != 2)=true:=by simpa using hH
 have bg:Hid (yI x.kind≠2):=by show _≠_;rw[HH.out];exact hH
 obtain⟨U,HU⟩:=yP (tnN x r);have ag:Hid (R=if U.2=0 then .ok ⟨x.nU,U.1,[],[]⟩ else .error ((U.2:Nat):Int)):=by
  show _=_;rw[←HR.out];unfold uT;rw[zF bg.out,HU.out]
 have ew:=B3b x bg.out r (h.bL YAt.sT hb4) hl hb;rw[HU.out] at ew;unfold fdV at ew;clear hH ah;unfold fdV;go_enter Tryz.func45,Tryz.ntmps45;go_wp2_with fail
 rw[←cu.out];refine di.mono ?_;rintro e w5 ⟨rfl,rfl⟩;go_wp2_with fail
 refine ew.mono ?_;rintro e w6 ⟨a6,n6,c6,rfl,f6,ba⟩;clear t0 t1 t2 t3 t4 t5 t6 t7 t8 t9 y2 y3;obtain⟨y2,y3⟩:=au w6 ba;have ix:=ba.size;obtain⟨s0,s1,s2,s3⟩:=rV y3;obtain⟨u0,u1,u2,u3⟩:=rV y2;have aj:=zJ y2;have aw:=zJ y3;have gp:=zK hb4 ba;have gg:¬ w.heap.size+3=w.heap.size+2:=by omega
 have fe:¬ w.heap.size+2=w.heap.size+3:=by omega
 have f9:=((((f6.low (show w.heap.size+3<W4.heap.size by omega) 1 (.slice a6 n6 c6)).low (show w.heap.size+2<W4.heap.size by omega) 0 (.int .i64 x.nU)).low (show w.heap.size+2<W4.heap.size by omega) 1 (.slice a6 n6 c6)).low (show w.heap.size+2<W4.heap.size by omega) 2 (.slice none 0 0)).low (show w.heap.size+2<W4.heap.size by omega) 3 (.slice none 0 0);clear f6;go_wp2_with fail
 refine bodyPost_ret (v:=.tuple #[.agg #[.int .i64 x.nU,.slice a6 n6 c6,.slice none 0 0,.slice none 0 0],.int .i64 ((U.2:Nat):Int)]) (by simp[results,Tryz.results45,go_sem, *]) rfl ?_;refine⟨zT (zT (zT (zT (zT gp (by omega)) (by omega)) (by omega)) (by omega)) (by omega),?_⟩;rw[ag.out];by_cases hU:U.2=0
 ·rw[zF hU];refine⟨⟨x.nU,U.1,[],[],(a6,n6,c6),(none,0,0),(none,0,0)⟩,by rw[hU];rfl,rfl,⟨f9.mono (by omega),Row.nil _ _ _,fun z hz=>(xP hz).elim,Row.nil _ _ _,fun z hz=>(xP hz).elim⟩,fun k hk=>?_,?_⟩
  ·have hk:k∈own1 (a6,n6,c6)++[]++[]++[]:=hk;simp only[tT] at hk;have:=(Row.own1 (p:=(a6,n6,c6)) f9 k hk).1;omega
  show(own1 (a6,n6,c6)++[]++[]++[]).Nodup;simp only[tT];exact ZR _
 rw[zC hU];exact⟨by omega,_,_,_,_,_,_,_,_,_,_,rfl⟩
end L
end Go.Proofs.YthcomdofaaeihaaGreatDoor
