import Derived.Test.YtgaoojpakjjdnaaGreatDoorU22
import Derived.Test.YtgaoojpakjjdnaaGreatDoorU23
import Derived.Deep.LoopGhost
import Derived.Test.YtgaoojpakjjdnaaGreatDoorU17
import Derived.Test.YtgaoojpakjjdnaaGreatDoorU15
set_option maxHeartbeats 32000000
set_option maxRecDepth 100000
namespace Go.Proofs.YtgaoojpakjjdnaaGreatDoor
namespace L
open Go.RowKit
set_option linter.unusedVariables false
theorem D1s {d:Nat}{v:VL (LB d)}{k:Nat}(h:k∈VL.fp (fT d) v):k∈VL.fp (LB.fp d) v:=by
 unfold VL.fp at h ⊢
 rcases List.mem_append.1 h with h|h
 ·exact List.mem_append_left _ h
 ·simp at h
theorem C8q {d:Nat}(fs:List FI) (x:FI) (l:List (VL (LB d))) (y:VL (LB d)):((if A0v x (VL.pl (LB.pl d) y) then l.filter (fun a=>!A0p fs x a.number) else(l.filter fun a=>!A0p fs x a.number).take (A1c y.number ((l.filter fun a=>!A0p fs x a.number).map (VL.pl (LB.pl d))))++[y]++(l.filter fun a=>!A0p fs x a.number).drop (A1c y.number ((l.filter fun a=>!A0p fs x a.number).map (VL.pl (LB.pl d))))).map (VL.pl (LB.pl d)))=B2j fs x (l.map (VL.pl (LB.pl d))) (VL.pl (LB.pl d) y):=by
 have hf:(l.map (VL.pl (LB.pl d))).filter (fun a=>!A0p fs x a.number)=(l.filter fun a=>!A0p fs x a.number).map (VL.pl (LB.pl d)):=by
  rw[List.filter_map]
  rfl
 unfold B2j
 rw[hf]
 split
 ·rfl
 ·rw[List.map_append,List.map_append,List.map_take,List.map_drop]
  rfl
theorem C5p {α:Type}{p : α→Bool}{c:Bool}{l:List α}{i:Nat}{y a : α}(h:a∈(if c then l.filter p else(l.filter p).take i++[y]++(l.filter p).drop i)):a=y∨(a∈l∧p a=true):=by
 split at h
 ·exact .inr (List.mem_filter.1 h)
 ·rcases List.mem_append.1 h with h|h
  ·rcases List.mem_append.1 h with h|h
   ·exact .inr (List.mem_filter.1 (List.mem_of_mem_take h))
   ·exact .inl (List.mem_singleton.1 h)
  ·exact .inr (List.mem_filter.1 (List.mem_of_mem_drop h))
theorem B8b {α:Type}(f : α→List Nat){p : α→Bool}(c:Bool) (l:List α) (i:Nat) (y : α) (k:Nat):((if c then l.filter p else(l.filter p).take i++[y]++(l.filter p).drop i).flatMap f).count k≤((l.filter p).flatMap f).count k+(f y).count k:=by
 split
 ·omega
 ·rw[B0j]
  omega
def C3w (d:Nat) (b cur:BL (LB d)) (rest:List (VL (LB d))) (k:Nat):Nat:=
 (own1 cur.q0).count k+(own1 cur.q1).count k+(cur.vals.flatMap (VL.fp (LB.fp d))).count k+(rest.flatMap (VL.fp (LB.fp d))).count k+(own1 b.q0).count k+(own1 b.q1).count k
structure JSt (d B:Nat) (W5:World) (L0:List Nat) (b:BL (LB d)) (V:World) (cur:BL (LB d)) (rest:List (VL (LB d))):Prop where
 own:OwnL (ekB d) (OwnB B d) V B cur
 ownr:∀ v∈rest,OwnV (ekB d) (OwnB B d) V B v
 rb0:Row (ekV (LB d)) V B b.q0.v b.vals
 rb1:Row ekR V B b.q1.v b.unk
 rb1y:∀ r∈b.unk,Row ekY V B r.2.v r.1.bytes
 once:∀ k,C3w d b cur rest k≤1∧(k < W5.heap.size→C3w d b cur rest k≤L0.count k)
section
variable {d B:Nat}{W5:World}{L0:List Nat}{b:BL (LB d)}{V:World}{cur:BL (LB d)}{rest:List (VL (LB d))}
theorem JSt.lt (h:JSt d B W5 L0 b V cur rest){k:Nat}(hk:0 < C3w d b cur rest k):k < V.heap.size:=by
 have h1:0 < (own1 cur.q0).count k→k < V.heap.size:=fun h'=>(h.own.r0.own1 k (A0z h')).2
 have h2:0 < (own1 cur.q1).count k→k < V.heap.size:=fun h'=>(h.own.r1.own1 k (A0z h')).2
 have h3:0 < (cur.vals.flatMap (VL.fp (LB.fp d))).count k→k < V.heap.size:=fun h'=>by
  obtain⟨v,hv,hk⟩:=List.mem_flatMap.1 (A0z h')
  exact((h.own.r0v v hv).lt k hk).2
 have h4:0 < (rest.flatMap (VL.fp (LB.fp d))).count k→k < V.heap.size:=fun h'=>by
  obtain⟨v,hv,hk⟩:=List.mem_flatMap.1 (A0z h')
  exact((h.ownr v hv).lt k hk).2
 have h5:0 < (own1 b.q0).count k→k < V.heap.size:=fun h'=>(h.rb0.own1 k (A0z h')).2
 have h6:0 < (own1 b.q1).count k→k < V.heap.size:=fun h'=>(h.rb1.own1 k (A0z h')).2
 unfold C3w at hk
 omega
theorem JSt.fr {F:List Nat}{V':World}(h:JSt d B W5 L0 b V cur rest) (hf:FrB F V V') (hF:∀ k∈F,C3w d b cur rest k=0):JSt d B W5 L0 b V' cur rest:=by
 have z:∀ k,0 < C3w d b cur rest k→k∉F:=fun k hk hm=>by have:=hF k hm;omega
 refine⟨OwnL.fr (OwnB.fr d) h.own hf fun k hk=>z k ?_,fun v hv=>OwnV.fr (OwnB.fr d) (h.ownr v hv) hf fun k hk=>z k ?_,Row.frB h.rb0 hf fun k hk=>z k ?_,Row.frB h.rb1 hf fun k hk=>z k ?_,fun r hr=>(h.rb1y r hr).frY hf,h.once⟩
 ·have:=List.count_pos_iff.2 hk
  rw[C0p] at this
  unfold C3w
  omega
 ·have:=List.count_pos_iff.2 (List.mem_flatMap.2 ⟨v,hv,hk⟩)
  unfold C3w
  omega
 ·have:=List.count_pos_iff.2 hk
  unfold C3w
  omega
 ·have:=List.count_pos_iff.2 hk
  unfold C3w
  omega
theorem JSt.below {V':World}(h:JSt d B W5 L0 b V cur rest) (hb:Below V.heap.size V V'):JSt d B W5 L0 b V' cur rest:=h.fr (F:=[]) (.of_below hb) fun _ hk=>by simp at hk
end
def C0o (d:Nat) (b:BL (LB d)) (fs:List FI) (x:FI) (cur:BL (LB d)) (y:VL (LB d)) (rest:List (VL (LB d))) (k:Nat):Nat:=
 (own1 cur.q0).count k+(own1 cur.q1).count k+((cur.vals.filter fun a=>!A0p fs x a.number).flatMap (VL.fp (LB.fp d))).count k+(VL.fp (LB.fp d) y).count k+(rest.flatMap (VL.fp (LB.fp d))).count k+(own1 b.q0).count k+(own1 b.q1).count k
structure JMid (d B:Nat) (W5:World) (L0:List Nat) (b:BL (LB d)) (fs:List FI) (x:FI) (V:World) (cur:BL (LB d)) (y:VL (LB d)) (rest:List (VL (LB d))) (tb:Nat):Prop where
 sh:OwnL (ekB d) (OT d) V B cur
 deep:∀ a∈cur.vals,A0p fs x a.number=false→OwnV (ekB d) (OwnB B d) V B a
 owny:OwnV (ekB d) (OwnB B d) V B y
 ownr:∀ v∈rest,OwnV (ekB d) (OwnB B d) V B v
 rb0:Row (ekV (LB d)) V B b.q0.v b.vals
 rb1:Row ekR V B b.q1.v b.unk
 rb1y:∀ r∈b.unk,Row ekY V B r.2.v r.1.bytes
 once:∀ k,C0o d b fs x cur y rest k≤1∧(k < W5.heap.size→C0o d b fs x cur y rest k≤L0.count k)
 off:C0o d b fs x cur y rest tb=0
 shl:∀ a∈cur.vals,∀ k∈VL.fp (fT d) a,k≠tb∧k∉own1 cur.q0
section
variable {d B:Nat}{W5:World}{L0:List Nat}{b:BL (LB d)}{V:World}{cur:BL (LB d)}{rest:List (VL (LB d))}{fs:List FI}{x:FI}{y v:VL (LB d)}{tb:Nat}
theorem JMid.fr {V':World}(h:JMid d B W5 L0 b fs x V cur y rest tb) (hf:FrB [tb] V V'):JMid d B W5 L0 b fs x V' cur y rest tb:=by
 have z:∀ k,0 < C0o d b fs x cur y rest k→k∉[tb]:=fun k hk hm=>by
  have:=h.off
  rw[←List.mem_singleton.1 hm] at this
  omega
 have z0:∀ k∈own1 cur.q0,k∉[tb]:=fun k hk=>z k (by have:=List.count_pos_iff.2 hk;unfold C0o;omega)
 have z1:∀ k∈own1 cur.q1,k∉[tb]:=fun k hk=>z k (by have:=List.count_pos_iff.2 hk;unfold C0o;omega)
 refine⟨?_,fun a ha ho=>OwnV.fr (OwnB.fr d) (h.deep a ha ho) hf fun k hk=>z k ?_,OwnV.fr (OwnB.fr d) h.owny hf fun k hk=>z k ?_,fun v hv=>OwnV.fr (OwnB.fr d) (h.ownr v hv) hf fun k hk=>z k ?_,Row.frB h.rb0 hf fun k hk=>z k ?_,Row.frB h.rb1 hf fun k hk=>z k ?_,fun r hr=>(h.rb1y r hr).frY hf,h.once,h.off,h.shl⟩
 ·refine⟨Row.frB h.sh.r0 hf z0,fun a ha=>OwnV.fr (OT.fr d) (h.sh.r0v a ha) hf fun k hk hm=>(h.shl a ha k hk).1 (List.mem_singleton.1 hm),Row.frB h.sh.r1 hf z1,fun r hr=>(h.sh.r1y r hr).frY hf⟩
 ·have:=List.count_pos_iff.2 (List.mem_flatMap.2 ⟨a,List.mem_filter.2 ⟨ha,by rw[ho];rfl⟩,hk⟩:k∈(cur.vals.filter fun a=>!A0p fs x a.number).flatMap (VL.fp (LB.fp d)))
  unfold C0o
  omega
 ·have:=List.count_pos_iff.2 hk
  unfold C0o
  omega
 ·have:=List.count_pos_iff.2 (List.mem_flatMap.2 ⟨v,hv,hk⟩)
  unfold C0o
  omega
 ·have:=List.count_pos_iff.2 hk
  unfold C0o
  omega
 ·have:=List.count_pos_iff.2 hk
  unfold C0o
  omega
end
open Go.RowKit
set_option linter.unusedVariables false
theorem B6e {α:Type}{p : α→Bool}{l:List α}{a : α}(h:l.find? p=some a):∃ j:Nat,A0m p l=(j:Int)∧l[j]?=some a:=by
 rw[List.find?_eq_getElem?_findIdx] at h
 have hlt:l.findIdx p < l.length:=(List.getElem?_eq_some_iff.1 h).1
 refine⟨_,?_,h⟩
 unfold A0m
 rw[List.findIdx?_eq_some_iff_findIdx_eq.2 ⟨hlt,rfl⟩]
theorem B8x {w:World}{k i:Nat}{v:Value}(h:w.cell? ⟨k,i,none⟩=some v):k < w.heap.size:=by
 rcases Nat.lt_or_ge k w.heap.size with h1|h1
 ·exact h1
 ·unfold World.cell? at h
  rw[Array.getElem?_eq_none h1] at h
  cases h
open Go.RowKit
set_option linter.unusedVariables false
structure WIn (g:GI) (am:Option Addr) (nm cm:Nat) (ae:Option Addr) (ne ce:Nat) (msg:Int) (w:World):Prop where
 hg:GRd w (.slice am nm cm) (.slice ae ne ce) g
 n1:g.msgs.length≤140737488355328
 n2:g.enums.length≤140737488355328
 fit:Fits g
 fok:∀ M∈g.msgs,(∀ f∈M.fields,I64 f.number∧I64 f.choice)∧M.fields.length≤140737488355328
 tabs:Tabs w
 m1 : -9223372036854775808≤msg
 m2:msg≤9223372036854775807
theorem WIn.below {g:GI}{am:Option Addr}{nm cm:Nat}{ae:Option Addr}{ne ce:Nat}{msg:Int}{w w':World}(h:WIn g am nm cm ae ne ce msg w) (hb:Below w.heap.size w w'):WIn g am nm cm ae ne ce msg w':=⟨h.hg.below hb,h.n1,h.n2,h.fit,h.fok,h.tabs.below hb,h.m1,h.m2⟩
theorem WIn.wrong {g:GI}{am:Option Addr}{nm cm:Nat}{ae:Option Addr}{ne ce:Nat}{msg:Int}{w:World}(h:WIn g am nm cm ae ne ce msg w){d:Nat}{v0 v1:Value}{x:BI (d+1)}(hq:BRd d w v0 v1 x) (ac:BOk (d+1) x) :
  Calls Tryz.prog 12 #[.agg #[.slice am nm cm,.slice ae ne ce],.int .i64 msg,.agg #[v0,v1]] w fun r w'=>r = .returned (.int .i64 (A2x g d msg x))∧Below w.heap.size w w':=B1m h.hg h.n1 h.n2 h.fit hq ac h.tabs h.m1 h.m2
open Go.RowKit
set_option linter.unusedVariables false
theorem A3p {α:Type}{f : α→Int}:∀ {l:List α},A1b f l=0→∀ a∈l,f a=0
 | b::l,h,a,ha=>by
  unfold A1b at h
  split at h
  ·rename_i hb
   rcases List.mem_cons.1 ha with rfl|ha
   ·exact hb
   ·exact A3p h a ha
  ·rename_i hb
   exact absurd h hb
theorem A9f {e:Nat→Int}:∀ {m k:Nat},A4v e k m=0→∀ i,k≤i→i < k+m→e i=0
 | 0,k,_,i,h1,h2=>by omega
 | m+1,k,h,i,h1,h2=>by
  unfold A4v at h
  split at h
  ·rename_i hb
   by_cases e:i=k
   ·rw[e];exact hb
   ·exact A9f h i (by omega) (by omega)
  ·rename_i hb
   exact absurd h hb
structure RtV {β:Type}(fs:List FI) (f:List UInt8→β→Int) (x:FI) (v:VI β):Prop where
 fld:fs.find? (isF v.number)=some x
 others:A1m x v=false
 misc:A5x x v=false
 without:A0v x v=false
 bits:∀ n∈v.bits,A2u x.kind n=0
 bytes:∀ l∈v.bytes,A2g x.kind l=0
 subs:∀ s∈v.subs,f x.type s=0
theorem C6s {β:Type}{fs:List FI}{f:List UInt8→β→Int}{v:VI β}{s:Int×List Int}(h:B9r fs f v s=0):∃ x,RtV fs f x v∧s.1 < v.number∧(0 < x.choice→x.choice∉s.2)∧B0p fs v s=(v.number,A7m x s.2):=by
 unfold B9r at h
 split at h
 ·cases h
 ·rename_i x hx
  have e:=A9f h
  have e0:(if decide (v.number≤s.1) then(2:Int) else 0)=0:=e 0 (by omega) (by omega)
  have e1:(if A1m x v then(8:Int) else 0)=0:=e 1 (by omega) (by omega)
  have e2:(if A5x x v then(5:Int) else 0)=0:=e 2 (by omega) (by omega)
  have e3:(if A0v x v then(2:Int) else 0)=0:=e 3 (by omega) (by omega)
  have e4:A1b (A2u x.kind) v.bits=0:=e 4 (by omega) (by omega)
  have e5:A1b (A2g x.kind) v.bytes=0:=e 5 (by omega) (by omega)
  have e6:A1b (f x.type) v.subs=0:=e 6 (by omega) (by omega)
  have e7:(if decide (0 < x.choice∧x.choice∈s.2) then(8:Int) else 0)=0:=e 7 (by omega) (by omega)
  refine⟨x,⟨hx,?_,?_,?_,A3p e4,A3p e5,A3p e6⟩,?_,?_,?_⟩
  ·cases ho:A1m x v with
   | false=>rfl
   | true=>rw[ho] at e1;simp at e1
  ·cases ho:A5x x v with
   | false=>rfl
   | true=>rw[ho] at e2;simp at e2
  ·cases ho:A0v x v with
   | false=>rfl
   | true=>rw[ho] at e3;simp at e3
  ·by_cases hn:v.number≤s.1
   ·rw[if_pos (by simpa using hn)] at e0;cases e0
   ·omega
  ·intro hc hm
   rw[if_pos (by simpa using ⟨hc,hm⟩)] at e7
   cases e7
  ·unfold B0p
   have ac:fs.find? (fun y=>decide (y.number=v.number))=some x:=hx
   rw[ac]
structure RtL {β:Type}(fs:List FI) (f:List UInt8→β→Int) (l:List (VI β)):Prop where
 each:∀ v∈l,∃ x,RtV fs f x v
 rise:l.Pairwise fun a b=>a.number < b.number
 apart:l.Pairwise fun a b=>A1w fs a.number≤0∨A1w fs a.number≠A1w fs b.number
theorem C0l {β:Type}{fs:List FI}{f:List UInt8→β→Int}{x:FI}{v:VI β}(h:RtV fs f x v):A1w fs v.number=x.choice:=by
 have ac:fs.find? (fun y=>decide (y.number=v.number))=some x:=h.fld
 unfold A1w
 rw[ac]
theorem B4i {β:Type}{fs:List FI}{f:List UInt8→β→Int}:∀ {l:List (VI β)}{s:Int×List Int},A5a fs f l s=0→RtL fs f l∧(∀ v∈l,s.1 < v.number)∧∀ v∈l,0 < A1w fs v.number→A1w fs v.number∉s.2
 | [],_,_=>⟨⟨fun _ h=>by simp at h,.nil,.nil⟩,fun _ h=>by simp at h,fun _ h=>by simp at h⟩
 | v::l,s,h=>by
  unfold A5a at h
  split at h
  ·rename_i hv
   obtain⟨x,hx,h1,h2,h3⟩:=C6s hv
   rw[h3] at h
   obtain⟨⟨g1,g2,g3⟩,g4,g5⟩:=B4i h
   have hc:=C0l hx
   refine⟨⟨fun a ha=>?_,.cons (fun a ha=>?_) g2,.cons (fun a ha=>?_) g3⟩,fun a ha=>?_,fun a ha hp=>?_⟩
   ·rcases List.mem_cons.1 ha with rfl|ha
    ·exact⟨x,hx⟩
    ·exact g1 a ha
   ·exact g4 a ha
   ·by_cases hp:A1w fs v.number≤0
    ·exact .inl hp
    ·refine .inr fun e=>?_
     have h6:=g5 a ha (by omega)
     rw[←e,hc] at h6
     rw[hc] at hp
     unfold A7m at h6
     rw[if_pos (by omega)] at h6
     simp at h6
   ·rcases List.mem_cons.1 ha with rfl|ha
    ·exact h1
    ·have:=g4 a ha
     dsimp only at this
     omega
   ·rcases List.mem_cons.1 ha with rfl|ha
    ·rw[hc] at hp ⊢
     exact h2 hp
    ·have h6:=g5 a ha hp
     unfold A7m at h6
     split at h6
     ·simp only[List.mem_append,not_or] at h6
      exact h6.1
     ·exact h6
  ·rename_i hv
   exact absurd h hv
theorem B2t {g:GI}{d:Nat}{k:Int}{fs:List FI}{b:BI (d+1)}(h:A4x g (d+1) k fs b=0):k≤12∧RtL fs (fun name s=>A4x g d (k+1) (A2s g name) s) (BO.vals b)∧∀ r∈BO.unk b,B0u fs r=0:=by
 rw[A7u] at h
 split at h
 ·cases h
 ·split at h
  ·rename_i h1 h2
   exact⟨by omega,(B4i h2).1,A3p h⟩
  ·rename_i h1 h2
   exact absurd h h2
def VQk {β:Type}(Q : β→Prop) (v:VI β):Prop:=I64 v.number∧(∀ n∈v.bits,n < 18446744073709551616)∧(∀ l∈v.bytes,l.length*1≤reachBytes)∧∀ s∈v.subs,Q s
def BQk:(d:Nat)→BI d→Prop
 | 0=>fun _=>False
 | d+1=>fun b=>(∀ v∈BO.vals b,VQk (BQk d) v)∧∀ r∈BO.unk b,B7m r
theorem D0f:∀ (d:Nat) (b:BI d),BOk d b→BQk d b
 | 0,_,h=>h
 | d+1,b,h=>⟨fun v hv=>⟨(h.1 v hv).1,(h.1 v hv).2.1,(h.1 v hv).2.2.2.1,fun s hs=>D0f d s ((h.1 v hv).2.2.2.2.2.1 s hs)⟩,h.2.2.1⟩
theorem B2m {α:Type}(f : α→Nat){l:List α}{a : α}(h:a∈l):f a≤(l.map f).sum:=by
 induction l with
 | nil=>cases h
 | cons b l ih=>
  simp only[List.map_cons,List.sum_cons]
  rcases List.mem_cons.1 h with rfl|h
  ·omega
  ·have:=ih h;omega
theorem C8p:∀ (d:Nat) (b:BI d),BQk d b→jWB d b≤1000000000→BOk d b
 | 0,_,h,_=>h
 | d+1,b,h,hw=>by
  have hw':((BO.vals b).map (jW (jWB d))).sum+(BO.unk b).length≤1000000000:=hw
  have hl:=A4a (jW (jWB d)) (fun v=>by unfold jW;omega) (BO.vals b)
  refine⟨fun v hv=>?_,by unfold reachBytes;omega,h.2,by unfold reachBytes;omega⟩
  have h1:1+v.bits.length+v.bytes.length+(v.subs.map fun s=>1+jWB d s).sum≤((BO.vals b).map (jW (jWB d))).sum:=B2m (jW (jWB d)) hv
  have h2:=A4a (fun s=>1+jWB d s) (fun _=>by omega) v.subs
  obtain⟨q1,q2,q3,q4⟩:=h.1 v hv
  refine⟨q1,q2,by unfold reachBytes;omega,q3,by unfold reachBytes;omega,fun s hs=>C8p d s (q4 s hs) ?_,by unfold reachBytes;omega⟩
  have:=B2m (fun s=>1+jWB d s) hs
  omega
theorem C7j {β:Type}{Q : β→Prop}{J:MI→β→β→β}(hJ:∀ M s t,Q s→Q t→Q (J M s t)){ms:List MI}{x:FI}{a b:VI β}(ha:VQk Q a) (hb:VQk Q b):VQk Q (A6r J ms x a b):=by
 unfold A6r
 split
 ·refine⟨ha.1,fun n hn=>?_,fun n hn=>?_,fun n hn=>?_⟩
  ·rcases List.mem_append.1 hn with h|h
   ·exact ha.2.1 n h
   ·exact hb.2.1 n h
  ·rcases List.mem_append.1 hn with h|h
   ·exact ha.2.2.1 n h
   ·exact hb.2.2.1 n h
  ·rcases List.mem_append.1 hn with h|h
   ·exact ha.2.2.2 n h
   ·exact hb.2.2.2 n h
 ·split
  ·split
   ·rename_i M s l t m h1 h2 h3
    refine⟨ha.1,ha.2.1,ha.2.2.1,fun n hn=>?_⟩
    rw[List.mem_singleton.1 hn]
    exact hJ M s t (ha.2.2.2 s (by rw[h2];exact List.mem_cons_self ..)) (hb.2.2.2 t (by rw[h3];exact List.mem_cons_self ..))
   ·exact ha
  ·exact hb
theorem C2w {β:Type}{Q : β→Prop}{J:MI→β→β→β}(hJ:∀ M s t,Q s→Q t→Q (J M s t)){ms:List MI}{fs:List FI}{l:List (VI β)}{v:VI β}(hl:∀ a∈l,VQk Q a) (hv:VQk Q v):∀ a∈A7x J ms fs l v,VQk Q a:=by
 intro a ha
 unfold A7x at ha
 split at ha
 ·exact hl a ha
 ·split at ha
  ·rcases B2d ha with rfl|h
   ·exact hv
   ·exact hl a h
  ·rename_i u hu
   rcases B2d ha with rfl|h
   ·exact C7j hJ (hl u (List.mem_of_find?_eq_some hu)) hv
   ·exact hl a h
theorem C1e {β:Type}{Q : β→Prop}{J:MI→β→β→β}(hJ:∀ M s t,Q s→Q t→Q (J M s t)){ms:List MI}{fs:List FI}:∀ (m l:List (VI β)),(∀ a∈l,VQk Q a)→(∀ a∈m,VQk Q a)→∀ a∈m.foldl (A7x J ms fs) l,VQk Q a
 | [],_,hl,_=>hl
 | v::m,l,hl,hm=>C1e hJ m _ (C2w hJ hl (hm v (List.mem_cons_self ..))) fun a ha=>hm a (List.mem_cons_of_mem _ ha)
theorem B5k (ms:List MI):∀ (d:Nat) (M:MI) (a b:BI d),BQk d a→BQk d b→BQk d (jnB ms d M a b)
 | 0,_,_,_,h,_=>h
 | d+1,M,a,b,ha,hb=>⟨C1e (fun M s t=>B5k ms d M s t) _ _ ha.1 hb.1,fun r hr=>by
  have ac:r∈BO.unk a++BO.unk b:=hr
  rcases List.mem_append.1 ac with h|h
  ·exact ha.2 r h
  ·exact hb.2 r h⟩
open Go.RowKit
set_option linter.unusedVariables false
def C5f (g:GI) (d:Nat) (msg:Int) (a b:BI (d+1)):Int:=
 if A1b (A2x g d msg) [a,b]≠0 then A1b (A2x g d msg) [a,b]
 else match g.msgs[msg.toNat]? with
  | some M=>A2x g d msg (jnB g.msgs (d+1) M a b)
  | none=>0
open Go.RowKit
set_option linter.unusedVariables false
section
variable {β:Type}
end
end L
end Go.Proofs.YtgaoojpakjjdnaaGreatDoor
