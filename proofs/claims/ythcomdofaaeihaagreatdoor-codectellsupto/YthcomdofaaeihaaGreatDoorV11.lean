import Derived.Test.YthcomdofaaeihaaGreatDoorV09
import Derived.Test.YthcomdofaaeihaaGreatDoorV10
set_option maxHeartbeats 32000000
set_option maxRecDepth 100000
set_option linter.unusedVariables false
namespace Go.Proofs.YthcomdofaaeihaaGreatDoor
namespace L
open Go.RowKit
variable{α:Type}{d:Nat}{p:α→Bool}
theorem A8c {α:Type}(f : α→List Nat){a b : α}(hne:a≠b)(k:Nat):∀ {l:List α},a∈l→b∈l→(f a).count k+(f b).count k≤(l.flatMap f).count k
 | c::l,ha,hb=>by
  rw[pZ]
  rcases yY.1 ha with rfl|ha'
  ·rcases yY.1 hb with rfl|hb'
   ·exact absurd rfl hne
   ·have:=eA f k hb'
    omega
  ·rcases yY.1 hb with rfl|hb'
   ·have:=eA f k ha'
    omega
   ·have:=A8c f hne k ha' hb'
    omega
theorem gX {v:VL (LB d)}{k:Nat}(h:k∈VL.fp (fT d) v):k∈VL.fp (LB.fp d) v:=by
 unfold VL.fp at h ⊢;rcases zU.1 h with h|h
 ·exact vU _ h
 simp at h
theorem D0e (fs:List FI)(x:FI)(l:List (VL (LB d)))(y:VL (LB d)):((if xQ x (VL.pl (LB.pl d) y) then l.filter (fun a=>!uX fs x a.nU) else(l.filter fun a=>!uX fs x a.nU).take (vW y.nU ((l.filter fun a=>!uX fs x a.nU).map (VL.pl (LB.pl d))))++[y]++(l.filter fun a=>!uX fs x a.nU).drop (vW y.nU ((l.filter fun a=>!uX fs x a.nU).map (VL.pl (LB.pl d))))).map (VL.pl (LB.pl d)))=putN fs x (l.map (VL.pl (LB.pl d))) (VL.pl (LB.pl d) y):=by
 have hf:(l.map (VL.pl (LB.pl d))).filter (fun a=>!uX fs x a.nU)=(l.filter fun a=>!uX fs x a.nU).map (VL.pl (LB.pl d)):=by
  rw[List.filter_map];rfl
 unfold putN;rw[hf];split
 ·rfl
 rw[wM,wM,List.map_take,List.map_drop];rfl
theorem C2m {c:Bool}{l:List α}{i:Nat}{y a : α}(h:a∈(if c then l.filter p else(l.filter p).take i++[y]++(l.filter p).drop i)):a=y∨(a∈l∧p a=true):=by
 split at h
 ·exact .inr (sC.1 h)
 rcases zU.1 h with h|h
 ·rcases zU.1 h with h|h
  ·exact .inr (sC.1 (lX h))
  exact .inl (zS.1 h)
 exact .inr (sC.1 (eL h))
theorem B4c (f : α→List Nat)(c:Bool)(l:List α)(i:Nat)(y : α)(k:Nat):((if c then l.filter p else(l.filter p).take i++[y]++(l.filter p).drop i).flatMap f).count k≤((l.filter p).flatMap f).count k+(f y).count k:=by
 split
 ·omega
 rw[B3n];omega
def tV (d:Nat)(b cur:BL (LB d))(rest:List (VL (LB d)))(k:Nat):Nat:=
 (own1 cur.q0).count k+(own1 cur.q1).count k+(cur.vals.flatMap (VL.fp (LB.fp d))).count k+(rest.flatMap (VL.fp (LB.fp d))).count k+(own1 b.q0).count k+(own1 b.q1).count k
structure JSt (d B:Nat) (W5:World) (L0:List Nat) (b:BL (LB d)) (V:World) (cur:BL (LB d)) (rest:List (VL (LB d))):Prop where
 own:OwnL (ekB d) (OwnB B d) V B cur
 ownr:∀ v∈rest,OwnV (ekB d) (OwnB B d) V B v
 rb0:Row (ekV (LB d)) V B b.q0.v b.vals
 rb1:Row ekR V B b.q1.v b.unk
 rb1y:∀ r∈b.unk,Row ekY V B r.2.v r.1.bytes
 once:∀ k,tV d b cur rest k≤1∧(k<W5.heap.size→tV d b cur rest k≤L0.count k)
section
variable{V':World}
variable {d B:Nat}{W5:World}{L0:List Nat}{b:BL (LB d)}{V:World}{cur:BL (LB d)}{rest:List (VL (LB d))}
theorem JSt.lt (h:JSt d B W5 L0 b V cur rest){k:Nat}(hk:0<tV d b cur rest k):k<V.heap.size:=by
 have h1:0<(own1 cur.q0).count k→k<V.heap.size:=fun h'=>(h.own.r0.own1 k (wF h')).2
 have h2:0<(own1 cur.q1).count k→k<V.heap.size:=fun h'=>(h.own.r1.own1 k (wF h')).2
 have h3:0<(cur.vals.flatMap (VL.fp (LB.fp d))).count k→k<V.heap.size:=fun h'=>by
  obtain⟨v,hv,hk⟩:=vL.1 (wF h');exact((h.own.r0v v hv).lt k hk).2
 have h4:0<(rest.flatMap (VL.fp (LB.fp d))).count k→k<V.heap.size:=fun h'=>by
  obtain⟨v,hv,hk⟩:=vL.1 (wF h');exact((h.ownr v hv).lt k hk).2
 have h5:0<(own1 b.q0).count k→k<V.heap.size:=fun h'=>(h.rb0.own1 k (wF h')).2
 have h6:0<(own1 b.q1).count k→k<V.heap.size:=fun h'=>(h.rb1.own1 k (wF h')).2
 unfold tV at hk;omega
theorem JSt.fr {F:List Nat}(h:JSt d B W5 L0 b V cur rest)(hf:FrB F V V')(hF:∀ k∈F,tV d b cur rest k=0):JSt d B W5 L0 b V' cur rest:=by
 have z:∀ k,0<tV d b cur rest k→k∉F:=fun k hk hm=>by have:=hF k hm;omega
 refine⟨OwnL.fr (OwnB.fr d) h.own hf fun k hk=>z k ?_,fun v hv=>OwnV.fr (OwnB.fr d) (h.ownr v hv) hf fun k hk=>z k ?_,Row.frB h.rb0 hf fun k hk=>z k ?_,Row.frB h.rb1 hf fun k hk=>z k ?_,fun r hr=>(h.rb1y r hr).frY hf,h.once⟩
 ·have:=yD.2 hk;rw[YS] at this;unfold tV;omega
 ·have:=yD.2 (vL.2 ⟨v,hv,hk⟩);unfold tV;omega
 ·have:=yD.2 hk;unfold tV;omega
 have:=yD.2 hk;unfold tV;omega
theorem JSt.bL (h:JSt d B W5 L0 b V cur rest)(hb:zB V V'):JSt d B W5 L0 b V' cur rest:=h.fr (F:=[]) (.of_below hb) fun _ hk=>by simp at hk
end
def sS (d:Nat)(b:BL (LB d))(fs:List FI)(x:FI)(cur:BL (LB d))(y:VL (LB d))(rest:List (VL (LB d)))(k:Nat):Nat:=
 (own1 cur.q0).count k+(own1 cur.q1).count k+((cur.vals.filter fun a=>!uX fs x a.nU).flatMap (VL.fp (LB.fp d))).count k+(VL.fp (LB.fp d) y).count k+(rest.flatMap (VL.fp (LB.fp d))).count k+(own1 b.q0).count k+(own1 b.q1).count k
structure JMid (d B:Nat) (W5:World) (L0:List Nat) (b:BL (LB d)) (fs:List FI) (x:FI) (V:World) (cur:BL (LB d)) (y:VL (LB d)) (rest:List (VL (LB d))) (tb:Nat):Prop where
 sh:OwnL (ekB d) (OT d) V B cur
 deep:∀ a∈cur.vals,uX fs x a.nU=false→OwnV (ekB d) (OwnB B d) V B a
 owny:OwnV (ekB d) (OwnB B d) V B y
 ownr:∀ v∈rest,OwnV (ekB d) (OwnB B d) V B v
 rb0:Row (ekV (LB d)) V B b.q0.v b.vals
 rb1:Row ekR V B b.q1.v b.unk
 rb1y:∀ r∈b.unk,Row ekY V B r.2.v r.1.bytes
 once:∀ k,sS d b fs x cur y rest k≤1∧(k<W5.heap.size→sS d b fs x cur y rest k≤L0.count k)
 off:sS d b fs x cur y rest tb=0
 shl:∀ a∈cur.vals,∀ k∈VL.fp (fT d) a,k≠tb∧k∉own1 cur.q0
section
variable{V3:World}
variable {d B:Nat}{W5:World}{L0:List Nat}{b:BL (LB d)}{V:World}{cur:BL (LB d)}{rest:List (VL (LB d))}{fs:List FI}{x:FI}{y v:VL (LB d)}{tb:Nat}
theorem JMid.fr {V':World}(h:JMid d B W5 L0 b fs x V cur y rest tb)(hf:FrB [tb] V V'):JMid d B W5 L0 b fs x V' cur y rest tb:=by
 have z:∀ k,0<sS d b fs x cur y rest k→k∉[tb]:=fun k hk hm=>by
  have:=h.off;rw[←zS.1 hm] at this;omega
 have z0:∀ k∈own1 cur.q0,k∉[tb]:=fun k hk=>z k (by have:=yD.2 hk;unfold sS;omega)
 have z1:∀ k∈own1 cur.q1,k∉[tb]:=fun k hk=>z k (by have:=yD.2 hk;unfold sS;omega)
 refine⟨?_,fun a ha ho=>OwnV.fr (OwnB.fr d) (h.deep a ha ho) hf fun k hk=>z k ?_,OwnV.fr (OwnB.fr d) h.owny hf fun k hk=>z k ?_,fun v hv=>OwnV.fr (OwnB.fr d) (h.ownr v hv) hf fun k hk=>z k ?_,Row.frB h.rb0 hf fun k hk=>z k ?_,Row.frB h.rb1 hf fun k hk=>z k ?_,fun r hr=>(h.rb1y r hr).frY hf,h.once,h.off,h.shl⟩
 ·refine⟨Row.frB h.sh.r0 hf z0,fun a ha=>OwnV.fr (OT.fr d) (h.sh.r0v a ha) hf fun k hk hm=>(h.shl a ha k hk).1 (zS.1 hm),Row.frB h.sh.r1 hf z1,fun r hr=>(h.sh.r1y r hr).frY hf⟩
 ·have:=yD.2 (vL.2 ⟨a,sC.2 ⟨ha,by rw[ho];rfl⟩,hk⟩:k∈(cur.vals.filter fun a=>!uX fs x a.nU).flatMap (VL.fp (LB.fp d)));unfold sS;omega
 ·have:=yD.2 hk;unfold sS;omega
 ·have:=yD.2 (vL.2 ⟨v,hv,hk⟩);unfold sS;omega
 ·have:=yD.2 hk;unfold sS;omega
 have:=yD.2 hk;unfold sS;omega
theorem JSt.mid_none {V2:World}(h:JSt d B W5 L0 b V cur (v::rest))(hb:zB V V2)(fs:List FI)(x:FI):JMid d B W5 L0 b fs x V2 cur v rest V.heap.size:=by
 have h2:=h.bL hb;have e:∀ k,sS d b fs x cur v rest k≤tV d b cur (v::rest) k:=fun k=>by
  unfold sS tV;rw[pZ];have:=XD (VL.fp (LB.fp d)) (fun a=>!uX fs x a.nU) k cur.vals;omega
 refine⟨h2.own.shy,fun a ha _=>h2.own.r0v a ha,h2.ownr v (vF ..),fun u hu=>h2.ownr u (wW _ hu),h2.rb0,h2.rb1,h2.rb1y,fun k=>?_,?_,fun a ha k hk=>?_⟩
 ·have:=h.once k;have:=e k;exact⟨by omega,fun hk=>by have:=this;have:=(h.once k).2 hk;omega⟩
 ·have:=e V.heap.size;by_cases hz:sS d b fs x cur v rest V.heap.size=0
  ·exact hz
  have:=h.lt (k:=V.heap.size) (by omega);omega
 have hf:=gX hk;have h1:=((h.own.r0v a ha).lt k hf).2;refine⟨by omega,fun hm=>?_⟩;have h2:=yD.2 hm;have h3:=yD.2 (vL.2 ⟨a,ha,hf⟩);have h4:=(h.once k).1;unfold tV at h4;omega
theorem JSt.metIn {W0:World}(h:JSt d W0.heap.size W5 L0 b V cur (v::rest))(hb:zB V V3)(h0:zB W0 V){u:VL (LB d)}(hu:u∈cur.vals)(hl:jW (jWB d) (VL.pl (LB.pl d) u)+jW (jWB d) (VL.pl (LB.pl d) v)≤1000000000):MetIn d W0 V3 u v:=by
 have h2:=h.bL hb;refine⟨h0.trans (hb.mono h0.size),h2.own.r0v u hu,h2.ownr v (vF ..),fun k=>?_,hl⟩;have h3:=(h.once k).1;have h4:=eA (VL.fp (LB.fp d)) k hu;unfold tV at h3;rw[pZ] at h3;omega
theorem XW{P:Prop}(h:P:=by
 have:=yD.2 hk;have:=ag k hm;have:=on k;have:=ah k;omega):P:=h
theorem JSt.mid_met {V4:World}{u t:VL (LB d)}(h:JSt d B W5 L0 b V cur (v::rest))(hb:zB V V3)(hs:V.heap.size<V3.heap.size)(h5:W5.heap.size≤V.heap.size)(hu:u∈cur.vals)(ak:uX fs x u.nU=true)
  (ht:OwnV (ekB d) (OwnB B d) V4 B t) (aw:OwnV (ekB d) (OT d) V4 B u) (av:From V3 (VL.fp (LB.fp d) u++VL.fp (LB.fp d) v) (VL.fp (LB.fp d) t)) (ac:FrB (VL.fp (LB.fp d) u++VL.fp (LB.fp d) v) V3 V4):JMid d B W5 L0 b fs x V4 cur t rest V.heap.size:=by
 have h2:=h.bL hb;have out:∀ k,(VL.fp (LB.fp d) u).count k+((cur.vals.filter fun a=>!uX fs x a.nU).flatMap (VL.fp (LB.fp d))).count k≤(cur.vals.flatMap (VL.fp (LB.fp d))).count k:=fun k=>A8b (VL.fp (LB.fp d)) (p:=fun a=>!uX fs x a.nU) (a:=u) (by simp[ak]) k hu
 have ah:∀ k,(VL.fp (LB.fp d) u).count k≤(cur.vals.flatMap (VL.fp (LB.fp d))).count k:=fun k=>eA (VL.fp (LB.fp d)) k hu
 have on:∀ k,(own1 cur.q0).count k+(own1 cur.q1).count k+(cur.vals.flatMap (VL.fp (LB.fp d))).count k+((VL.fp (LB.fp d) v).count k+(rest.flatMap (VL.fp (LB.fp d))).count k)+(own1 b.q0).count k+(own1 b.q1).count k≤1:=fun k=>by
  have:=(h.once k).1;unfold tV at this
  rwa [pZ] at this
 have up:∀ k,k<W5.heap.size→(own1 cur.q0).count k+(own1 cur.q1).count k+(cur.vals.flatMap (VL.fp (LB.fp d))).count k+((VL.fp (LB.fp d) v).count k+(rest.flatMap (VL.fp (LB.fp d))).count k)+(own1 b.q0).count k+(own1 b.q1).count k≤L0.count k:=fun k hk=>by
  have:=(h.once k).2 hk;unfold tV at this
  rwa [pZ] at this
 have lt:=fun k (hk:0<(own1 cur.q0).count k+(own1 cur.q1).count k+(cur.vals.flatMap (VL.fp (LB.fp d))).count k+((VL.fp (LB.fp d) v).count k+(rest.flatMap (VL.fp (LB.fp d))).count k)+(own1 b.q0).count k+(own1 b.q1).count k)=>h.lt (k:=k) (by unfold tV;rw[pZ];exact hk)
 have ag:∀ k,k∈VL.fp (LB.fp d) u++VL.fp (LB.fp d) v→0<(VL.fp (LB.fp d) u).count k+(VL.fp (LB.fp d) v).count k:=fun k hk=>by
  have:=yD.2 hk
  rwa [tR] at this
 have ft:∀ k,(VL.fp (LB.fp d) t).count k≤1∧(k<V3.heap.size→(VL.fp (LB.fp d) t).count k≤(VL.fp (LB.fp d) u).count k+(VL.fp (LB.fp d) v).count k):=fun k=>by
  have:=av k
  rwa [tR] at this
 have aj:∀ a∈cur.vals,a≠u→∀ k∈VL.fp (LB.fp d) a,k∉VL.fp (LB.fp d) u++VL.fp (LB.fp d) v:=fun a ha hne k hk hm=>by
  have h1:=A8c (VL.fp (LB.fp d)) hne k ha hu;have h2:=ag k hm;have h3:=yD.2 hk;have h4:=on k;omega
 refine⟨⟨Row.frB h2.own.r0 ac fun k hk hm=>?_,fun a ha=>?_,Row.frB h2.own.r1 ac fun k hk hm=>?_,fun r hr=>(h2.own.r1y r hr).frY ac⟩,fun a ha ho=>?_,ht,fun a ha=>OwnV.fr (OwnB.fr d) (h2.ownr a (wW _ ha)) ac fun k hk hm=>?_,Row.frB h2.rb0 ac fun k hk hm=>?_,Row.frB h2.rb1 ac fun k hk hm=>?_,fun r hr=>(h2.rb1y r hr).frY ac,fun k=>?_,?_,fun a ha k hk=>?_⟩
 ·exact XW
 ·by_cases hau:a=u
  ·rw[hau];exact aw
  exact OwnV.fr (OT.fr d) (h2.own.r0v a ha).shy ac fun k hk=>aj a ha hau k (gX hk)
 ·exact XW
 ·exact OwnV.fr (OwnB.fr d) (h2.own.r0v a ha) ac fun k hk=>aj a ha (fun e=>by rw[e,ak] at ho;cases ho) k hk
 ·have:=yD.2 (vL.2 ⟨a,ha,hk⟩);have:=ag k hm;have:=on k;have:=ah k;omega
 ·exact XW
 ·exact XW
 ·have h1:=on k;have h2:=up k;have h3:=ft k;have h4:=out k;have au:=lt k;unfold sS;exact⟨by omega,fun hk=>by have:=h2 hk;omega⟩
 ·have h3:=ft V.heap.size;have h4:=out V.heap.size;have au:=lt V.heap.size;unfold sS;omega
 have hf:=gX hk;have h1:=((h.own.r0v a ha).lt k hf).2;refine⟨by omega,fun hm=>?_⟩;have h2:=yD.2 hm;have h3:=yD.2 (vL.2 ⟨a,ha,hf⟩);have h4:=on k;omega
theorem D0g (h:JMid d B W5 L0 b fs x V cur y rest tb){vf vb nm:Value}(hf:RdL 6 FAt V vf fs)(fok:∀ f∈fs,I64 f.nU∧I64 f.cE)(fl:fs.length≤140737488355328)(bh:∃ ao n cap,vb = .slice ao n cap)(ba:∃ s:List UInt8,nm = .string (S s))(ag:∀ a∈cur.vals,I64 a.nU)(hlen:(cur.vals.length+1)*80≤140737488355328)(hB:B≤V.heap.size)(h5:W5.heap.size≤V.heap.size)
  (hx:fs.find? (isF y.nU)=some x) (hl:jW (jWB d) (VL.pl (LB.pl d) y)≤140737488355328) (bc:I64 y.nU) :
  Calls Tryz.prog 182 #[.agg #[nm,vf,vb],.agg #[cur.q0.v,cur.q1.v],.agg #[.int .i64 y.nU,y.p1.v,y.p2.v,y.p3.v]] V fun e w'=>
   ∃ (l:List (VL (LB d))) (a':Option Addr) (n' c':Nat),e = .returned (.agg #[.slice a' n' c',cur.q1.v])∧Hid (l.map (VL.pl (LB.pl d))=putN fs x (cur.vals.map (VL.pl (LB.pl d))) (VL.pl (LB.pl d) y))∧Hid (JSt d B W5 L0 b w' ⟨l,cur.unk,(a',n',c'),cur.q1⟩ rest)∧FrB (own1 cur.q0) V w':=by
 have au:PutIn d V B fs vf cur y:=⟨hf,fok,fl,h.sh,h.owny.shy,fun k hk=>?_,ag,hlen,hB⟩
 ·have aj:∃ k,fs.findIdx? (fun f=>decide (f.nU=y.nU))=some k∧fs[k]?=some x:=by
   have ah:fs.find? (fun f=>decide (f.nU=y.nU))=some x:=hx;rw[bK] at ah;have hlt:=(yG.1 ah).1;exact⟨_,bJ.2 ⟨hlt,rfl⟩,ah⟩
  obtain⟨k,av,hk2⟩:=aj;have aw:=tY (fun s=>1+jWB d s) (fun _=>by omega) (y.subs.map (LB.pl d));have hl':=hl;simp only[jW,VL.pl,yX] at hl' aw;refine(C2v au bh ba av hk2 (by omega) (by omega) (by omega) bc).mono ?_;rintro e w' ⟨⟨a',n',c'⟩,rfl,hq,hrow,ac⟩;refine⟨_,a',n',c',rfl,D0e fs x cur.vals y,?_,ac⟩;have on:∀ k,_≤1:=fun k=>(h.once k).1
  unfold sS at on;have ap:∀ k,0<((cur.vals.filter fun a=>!uX fs x a.nU).flatMap (VL.fp (LB.fp d))).count k+(VL.fp (LB.fp d) y).count k+(rest.flatMap (VL.fp (LB.fp d))).count k+(own1 cur.q1).count k+(own1 b.q0).count k+(own1 b.q1).count k→k∉own1 cur.q0:=fun k hk hm=>by
   have:=yD.2 hm;have:=on k;omega
  refine⟨⟨hrow,fun a ha=>?_,Row.frB (p:=cur.q1) h.sh.r1 ac fun k hk=>ap k (by have:=yD.2 hk;omega),fun r hr=>(h.sh.r1y r hr).frY ac⟩,fun a ha=>OwnV.fr (OwnB.fr d) (h.ownr a ha) ac fun k hk=>ap k (by have:=yD.2 (vL.2 ⟨a,ha,hk⟩);omega),Row.frB h.rb0 ac fun k hk=>ap k (by have:=yD.2 hk;omega),Row.frB h.rb1 ac fun k hk=>ap k (by have:=yD.2 hk;omega),fun r hr=>(h.rb1y r hr).frY ac,fun k=>?_⟩
  ·rcases C2m ha with rfl|⟨ha,ho⟩
   ·exact OwnV.fr (OwnB.fr d) h.owny ac fun k hk=>ap k (by have:=yD.2 hk;omega)
   ·have ak:uX fs x a.nU=false:=by simpa using ho
    exact OwnV.fr (OwnB.fr d) (h.deep a ha ak) ac fun k hk=>ap k (by have:=yD.2 (vL.2 ⟨a,sC.2 ⟨ha,by rw[ak];rfl⟩,hk⟩:k∈(cur.vals.filter fun a=>!uX fs x a.nU).flatMap (VL.fp (LB.fp d)));omega)
  ·have hc:=B4c (VL.fp (LB.fp d)) (p:=fun a=>!uX fs x a.nU) (xQ x (VL.pl (LB.pl d) y)) cur.vals (vW y.nU ((cur.vals.filter fun a=>!uX fs x a.nU).map (VL.pl (LB.pl d)))) y k;have o1:=mM (a',n',c') k;have o2:0<(own1 (a',n',c')).count k→0<(own1 cur.q0).count k∨V.heap.size≤k:=fun h'=>(hq k (wF h')).imp yD.2 id
   have o3:=on k;have o4:=(h.once k).2;unfold sS at o4;have l1:0<(own1 cur.q1).count k→k<V.heap.size:=fun h'=>(h.sh.r1.own1 k (wF h')).2
   have l2:0<((cur.vals.filter fun a=>!uX fs x a.nU).flatMap (VL.fp (LB.fp d))).count k→k<V.heap.size:=fun h'=>by
    obtain⟨v,hv,hk⟩:=vL.1 (wF h');obtain⟨bg,hv2⟩:=sC.1 hv;exact((h.deep v bg (by simpa using hv2)).lt k hk).2
   have l3:0<(VL.fp (LB.fp d) y).count k→k<V.heap.size:=fun h'=>(h.owny.lt k (wF h')).2
   have l4:0<(rest.flatMap (VL.fp (LB.fp d))).count k→k<V.heap.size:=fun h'=>by
    obtain⟨v,hv,hk⟩:=vL.1 (wF h');exact((h.ownr v hv).lt k hk).2
   have l5:0<(own1 b.q0).count k→k<V.heap.size:=fun h'=>(h.rb0.own1 k (wF h')).2
   have l6:0<(own1 b.q1).count k→k<V.heap.size:=fun h'=>(h.rb1.own1 k (wF h')).2
   unfold tV;dsimp only;exact⟨by omega,fun hk=>by have:=o4 hk;omega⟩
 ·have on:=(h.once k).1;have aj:=yD.2 hk;unfold sS at on;refine⟨fun hm=>?_,fun a ha hm=>(h.shl a ha k hm).2 hk,fun hm=>?_⟩
  ·have:=yD.2 hm;omega
  ·have:=yD.2 (gX hm);omega
end
end L
end Go.Proofs.YthcomdofaaeihaaGreatDoor
