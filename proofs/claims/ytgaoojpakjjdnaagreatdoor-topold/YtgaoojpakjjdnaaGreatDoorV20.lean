import Derived.Test.YtgaoojpakjjdnaaGreatDoorV18
import Derived.Test.YtgaoojpakjjdnaaGreatDoorV19
set_option maxHeartbeats 32000000
set_option maxRecDepth 100000
set_option linter.unusedVariables false
namespace Go.Proofs.YtgaoojpakjjdnaaGreatDoor
namespace L
open Go.RowKit
theorem D9p {d:Nat}{v:VL (LB d)}{k:Nat}(h:k∈VL.fp (fT d) v):k∈VL.fp (LB.fp d) v:=by
 unfold VL.fp at h ⊢
 rcases List.mem_append.1 h with h|h
 ·exact List.mem_append_left _ h
 ·simp at h
theorem D6e {d:Nat}(fs:List FI)(x:FI)(l:List (VL (LB d)))(y:VL (LB d)):((if A0p x (VL.pl (LB.pl d) y) then l.filter (fun a=>!A0q fs x a.number) else(l.filter fun a=>!A0q fs x a.number).take (A1h y.number ((l.filter fun a=>!A0q fs x a.number).map (VL.pl (LB.pl d))))++[y]++(l.filter fun a=>!A0q fs x a.number).drop (A1h y.number ((l.filter fun a=>!A0q fs x a.number).map (VL.pl (LB.pl d))))).map (VL.pl (LB.pl d)))=A5i fs x (l.map (VL.pl (LB.pl d))) (VL.pl (LB.pl d) y):=by
 have hf:(l.map (VL.pl (LB.pl d))).filter (fun a=>!A0q fs x a.number)=(l.filter fun a=>!A0q fs x a.number).map (VL.pl (LB.pl d)):=by
  rw[List.filter_map]
  rfl
 unfold A5i
 rw[hf]
 split
 ·rfl
 ·rw[List.map_append,List.map_append,List.map_take,List.map_drop]
  rfl
theorem D2l {α:Type}{p : α→Bool}{c:Bool}{l:List α}{i:Nat}{y a : α}(h:a∈(if c then l.filter p else(l.filter p).take i++[y]++(l.filter p).drop i)):a=y∨(a∈l∧p a=true):=by
 split at h
 ·exact .inr (List.mem_filter.1 h)
 ·rcases List.mem_append.1 h with h|h
  ·rcases List.mem_append.1 h with h|h
   ·exact .inr (List.mem_filter.1 (List.mem_of_mem_take h))
   ·exact .inl (List.mem_singleton.1 h)
  ·exact .inr (List.mem_filter.1 (List.mem_of_mem_drop h))
theorem C4a {α:Type}(f : α→List Nat){p : α→Bool}(c:Bool)(l:List α)(i:Nat)(y : α)(k:Nat):((if c then l.filter p else(l.filter p).take i++[y]++(l.filter p).drop i).flatMap f).count k≤((l.filter p).flatMap f).count k+(f y).count k:=by
 split
 ·omega
 ·rw[B3u]
  omega
def D0v (d:Nat)(b cur:BL (LB d))(rest:List (VL (LB d)))(k:Nat):Nat:=
 (own1 cur.q0).count k+(own1 cur.q1).count k+(cur.vals.flatMap (VL.fp (LB.fp d))).count k+(rest.flatMap (VL.fp (LB.fp d))).count k+(own1 b.q0).count k+(own1 b.q1).count k
structure JSt (d B:Nat) (W5:World) (L0:List Nat) (b:BL (LB d)) (V:World) (cur:BL (LB d)) (rest:List (VL (LB d))):Prop where
 own:OwnL (ekB d) (OwnB B d) V B cur
 ownr:∀ v∈rest,OwnV (ekB d) (OwnB B d) V B v
 rb0:Row (ekV (LB d)) V B b.q0.v b.vals
 rb1:Row ekR V B b.q1.v b.unk
 rb1y:∀ r∈b.unk,Row ekY V B r.2.v r.1.bytes
 once:∀ k,D0v d b cur rest k≤1∧(k<W5.heap.size→D0v d b cur rest k≤L0.count k)
section
variable {d B:Nat}{W5:World}{L0:List Nat}{b:BL (LB d)}{V:World}{cur:BL (LB d)}{rest:List (VL (LB d))}
theorem JSt.lt (h:JSt d B W5 L0 b V cur rest){k:Nat}(hk:0<D0v d b cur rest k):k<V.heap.size:=by
 have h1:0<(own1 cur.q0).count k→k<V.heap.size:=fun h'=>(h.own.r0.own1 k (A1m h')).2
 have h2:0<(own1 cur.q1).count k→k<V.heap.size:=fun h'=>(h.own.r1.own1 k (A1m h')).2
 have h3:0<(cur.vals.flatMap (VL.fp (LB.fp d))).count k→k<V.heap.size:=fun h'=>by
  obtain⟨v,hv,hk⟩:=List.mem_flatMap.1 (A1m h')
  exact((h.own.r0v v hv).lt k hk).2
 have h4:0<(rest.flatMap (VL.fp (LB.fp d))).count k→k<V.heap.size:=fun h'=>by
  obtain⟨v,hv,hk⟩:=List.mem_flatMap.1 (A1m h')
  exact((h.ownr v hv).lt k hk).2
 have h5:0<(own1 b.q0).count k→k<V.heap.size:=fun h'=>(h.rb0.own1 k (A1m h')).2
 have h6:0<(own1 b.q1).count k→k<V.heap.size:=fun h'=>(h.rb1.own1 k (A1m h')).2
 unfold D0v at hk
 omega
theorem JSt.fr {F:List Nat}{V':World}(h:JSt d B W5 L0 b V cur rest)(hf:FrB F V V')(hF:∀ k∈F,D0v d b cur rest k=0):JSt d B W5 L0 b V' cur rest:=by
 have z:∀ k,0<D0v d b cur rest k→k∉F:=fun k hk hm=>by have:=hF k hm;omega
 refine⟨OwnL.fr (OwnB.fr d) h.own hf fun k hk=>z k ?_,fun v hv=>OwnV.fr (OwnB.fr d) (h.ownr v hv) hf fun k hk=>z k ?_,Row.frB h.rb0 hf fun k hk=>z k ?_,Row.frB h.rb1 hf fun k hk=>z k ?_,fun r hr=>(h.rb1y r hr).frY hf,h.once⟩
 ·have:=List.count_pos_iff.2 hk
  rw[C7c] at this
  unfold D0v
  omega
 ·have:=List.count_pos_iff.2 (List.mem_flatMap.2 ⟨v,hv,hk⟩)
  unfold D0v
  omega
 ·have:=List.count_pos_iff.2 hk
  unfold D0v
  omega
 ·have:=List.count_pos_iff.2 hk
  unfold D0v
  omega
theorem JSt.below {V':World}(h:JSt d B W5 L0 b V cur rest)(hb:Below V.heap.size V V'):JSt d B W5 L0 b V' cur rest:=h.fr (F:=[]) (.of_below hb) fun _ hk=>by simp at hk
end
def C7b (d:Nat)(b:BL (LB d))(fs:List FI)(x:FI)(cur:BL (LB d))(y:VL (LB d))(rest:List (VL (LB d)))(k:Nat):Nat:=
 (own1 cur.q0).count k+(own1 cur.q1).count k+((cur.vals.filter fun a=>!A0q fs x a.number).flatMap (VL.fp (LB.fp d))).count k+(VL.fp (LB.fp d) y).count k+(rest.flatMap (VL.fp (LB.fp d))).count k+(own1 b.q0).count k+(own1 b.q1).count k
structure JMid (d B:Nat) (W5:World) (L0:List Nat) (b:BL (LB d)) (fs:List FI) (x:FI) (V:World) (cur:BL (LB d)) (y:VL (LB d)) (rest:List (VL (LB d))) (tb:Nat):Prop where
 sh:OwnL (ekB d) (OT d) V B cur
 deep:∀ a∈cur.vals,A0q fs x a.number=false→OwnV (ekB d) (OwnB B d) V B a
 owny:OwnV (ekB d) (OwnB B d) V B y
 ownr:∀ v∈rest,OwnV (ekB d) (OwnB B d) V B v
 rb0:Row (ekV (LB d)) V B b.q0.v b.vals
 rb1:Row ekR V B b.q1.v b.unk
 rb1y:∀ r∈b.unk,Row ekY V B r.2.v r.1.bytes
 once:∀ k,C7b d b fs x cur y rest k≤1∧(k<W5.heap.size→C7b d b fs x cur y rest k≤L0.count k)
 off:C7b d b fs x cur y rest tb=0
 shl:∀ a∈cur.vals,∀ k∈VL.fp (fT d) a,k≠tb∧k∉own1 cur.q0
section
variable {d B:Nat}{W5:World}{L0:List Nat}{b:BL (LB d)}{V:World}{cur:BL (LB d)}{rest:List (VL (LB d))}{fs:List FI}{x:FI}{y v:VL (LB d)}{tb:Nat}
theorem JMid.fr {V':World}(h:JMid d B W5 L0 b fs x V cur y rest tb)(hf:FrB [tb] V V'):JMid d B W5 L0 b fs x V' cur y rest tb:=by
 have z:∀ k,0<C7b d b fs x cur y rest k→k∉[tb]:=fun k hk hm=>by
  have:=h.off
  rw[←List.mem_singleton.1 hm] at this
  omega
 have z0:∀ k∈own1 cur.q0,k∉[tb]:=fun k hk=>z k (by have:=List.count_pos_iff.2 hk;unfold C7b;omega)
 have z1:∀ k∈own1 cur.q1,k∉[tb]:=fun k hk=>z k (by have:=List.count_pos_iff.2 hk;unfold C7b;omega)
 refine⟨?_,fun a ha ho=>OwnV.fr (OwnB.fr d) (h.deep a ha ho) hf fun k hk=>z k ?_,OwnV.fr (OwnB.fr d) h.owny hf fun k hk=>z k ?_,fun v hv=>OwnV.fr (OwnB.fr d) (h.ownr v hv) hf fun k hk=>z k ?_,Row.frB h.rb0 hf fun k hk=>z k ?_,Row.frB h.rb1 hf fun k hk=>z k ?_,fun r hr=>(h.rb1y r hr).frY hf,h.once,h.off,h.shl⟩
 ·refine⟨Row.frB h.sh.r0 hf z0,fun a ha=>OwnV.fr (OT.fr d) (h.sh.r0v a ha) hf fun k hk hm=>(h.shl a ha k hk).1 (List.mem_singleton.1 hm),Row.frB h.sh.r1 hf z1,fun r hr=>(h.sh.r1y r hr).frY hf⟩
 ·have:=List.count_pos_iff.2 (List.mem_flatMap.2 ⟨a,List.mem_filter.2 ⟨ha,by rw[ho];rfl⟩,hk⟩:k∈(cur.vals.filter fun a=>!A0q fs x a.number).flatMap (VL.fp (LB.fp d)))
  unfold C7b
  omega
 ·have:=List.count_pos_iff.2 hk
  unfold C7b
  omega
 ·have:=List.count_pos_iff.2 (List.mem_flatMap.2 ⟨v,hv,hk⟩)
  unfold C7b
  omega
 ·have:=List.count_pos_iff.2 hk
  unfold C7b
  omega
 ·have:=List.count_pos_iff.2 hk
  unfold C7b
  omega
end
theorem C1v {α:Type}{p : α→Bool}{l:List α}{a : α}(h:l.find? p=some a):∃ j:Nat,A0k p l=(j:Int)∧l[j]?=some a:=by
 rw[List.find?_eq_getElem?_findIdx] at h
 have hlt:l.findIdx p<l.length:=(List.getElem?_eq_some_iff.1 h).1
 refine⟨_,?_,h⟩
 unfold A0k
 rw[List.findIdx?_eq_some_iff_findIdx_eq.2 ⟨hlt,rfl⟩]
theorem C5b {w:World}{k i:Nat}{v:Value}(h:w.cell? ⟨k,i,none⟩=some v):k<w.heap.size:=by
 rcases Nat.lt_or_ge k w.heap.size with h1|h1
 ·exact h1
 ·unfold World.cell? at h
  rw[Array.getElem?_eq_none h1] at h
  cases h
structure WIn (g:GI) (am:Option Addr) (nm cm:Nat) (ae:Option Addr) (ne ce:Nat) (msg:Int) (w:World):Prop where
 hg:GRd w (.slice am nm cm) (.slice ae ne ce) g
 n1:g.msgs.length≤140737488355328
 n2:g.enums.length≤140737488355328
 fit:Fits g
 fok:∀ M∈g.msgs,(∀ f∈M.fields,I64 f.number∧I64 f.choice)∧M.fields.length≤140737488355328
 tabs:Tabs w
 m1 : -9223372036854775808≤msg
 m2:msg≤9223372036854775807
theorem WIn.below {g:GI}{am:Option Addr}{nm cm:Nat}{ae:Option Addr}{ne ce:Nat}{msg:Int}{w w':World}(h:WIn g am nm cm ae ne ce msg w)(hb:Below w.heap.size w w'):WIn g am nm cm ae ne ce msg w':=⟨h.hg.below hb,h.n1,h.n2,h.fit,h.fok,h.tabs.below hb,h.m1,h.m2⟩
theorem WIn.wrong {g:GI}{am:Option Addr}{nm cm:Nat}{ae:Option Addr}{ne ce:Nat}{msg:Int}{w:World}(h:WIn g am nm cm ae ne ce msg w){d:Nat}{v0 v1:Value}{x:BI (d+1)}(hq:BRd d w v0 v1 x)(ac:BOk (d+1) x) :
  Calls Tryz.prog 12 #[.agg #[.slice am nm cm,.slice ae ne ce],.int .i64 msg,.agg #[v0,v1]] w fun r w'=>r = .returned (.int .i64 (A2p g d msg x))∧Below w.heap.size w w':=B5j h.hg h.n1 h.n2 h.fit hq ac h.tabs h.m1 h.m2
theorem A4u {α:Type}{f : α→Int}:∀ {l:List α},A1g f l=0→∀ a∈l,f a=0
 | b::l,h,a,ha=>by
  unfold A1g at h
  split at h
  ·rename_i hb
   rcases List.mem_cons.1 ha with rfl|ha
   ·exact hb
   ·exact A4u h a ha
  ·rename_i hb
   exact absurd h hb
theorem B2p {e:Nat→Int}:∀ {m k:Nat},A5j e k m=0→∀ i,k≤i→i<k+m→e i=0
 | 0,k,_,i,h1,h2=>by omega
 | m+1,k,h,i,h1,h2=>by
  unfold A5j at h
  split at h
  ·rename_i hb
   by_cases e:i=k
   ·rw[e];exact hb
   ·exact B2p h i (by omega) (by omega)
  ·rename_i hb
   exact absurd h hb
structure RtV {β:Type}(fs:List FI) (f:List UInt8→β→Int) (x:FI) (v:VI β):Prop where
 fld:fs.find? (isF v.number)=some x
 others:A0v x v=false
 misc:A3p x v=false
 without:A0p x v=false
 bits:∀ n∈v.bits,A2h x.kind n=0
 bytes:∀ l∈v.bytes,A2k x.kind l=0
 subs:∀ s∈v.subs,f x.type s=0
theorem D4b {β:Type}{fs:List FI}{f:List UInt8→β→Int}{v:VI β}{s:Int×List Int}(h:B7i fs f v s=0):∃ x,RtV fs f x v∧s.1<v.number∧(0<x.choice→x.choice∉s.2)∧B1h fs v s=(v.number,A8a x s.2):=by
 unfold B7i at h
 split at h
 ·cases h
 ·rename_i x hx
  have e:=B2p h
  have e0:(if decide (v.number≤s.1) then(2:Int) else 0)=0:=e 0 (by omega) (by omega)
  have e1:(if A0v x v then(8:Int) else 0)=0:=e 1 (by omega) (by omega)
  have e2:(if A3p x v then(5:Int) else 0)=0:=e 2 (by omega) (by omega)
  have e3:(if A0p x v then(2:Int) else 0)=0:=e 3 (by omega) (by omega)
  have e4:A1g (A2h x.kind) v.bits=0:=e 4 (by omega) (by omega)
  have e5:A1g (A2k x.kind) v.bytes=0:=e 5 (by omega) (by omega)
  have e6:A1g (f x.type) v.subs=0:=e 6 (by omega) (by omega)
  have e7:(if decide (0<x.choice∧x.choice∈s.2) then(8:Int) else 0)=0:=e 7 (by omega) (by omega)
  refine⟨x,⟨hx,?_,?_,?_,A4u e4,A4u e5,A4u e6⟩,?_,?_,?_⟩
  ·cases ho:A0v x v with
   | false=>rfl
   | true=>rw[ho] at e1;simp at e1
  ·cases ho:A3p x v with
   | false=>rfl
   | true=>rw[ho] at e2;simp at e2
  ·cases ho:A0p x v with
   | false=>rfl
   | true=>rw[ho] at e3;simp at e3
  ·by_cases hn:v.number≤s.1
   ·rw[if_pos (by simpa using hn)] at e0;cases e0
   ·omega
  ·intro hc hm
   rw[if_pos (by simpa using ⟨hc,hm⟩)] at e7
   cases e7
  ·unfold B1h
   have ac:fs.find? (fun y=>decide (y.number=v.number))=some x:=hx
   rw[ac]
structure RtL {β:Type}(fs:List FI) (f:List UInt8→β→Int) (l:List (VI β)):Prop where
 each:∀ v∈l,∃ x,RtV fs f x v
 rise:l.Pairwise fun a b=>a.number<b.number
 apart:l.Pairwise fun a b=>A1d fs a.number≤0∨A1d fs a.number≠A1d fs b.number
theorem A6w {β:Type}{fs:List FI}{f:List UInt8→β→Int}{x:FI}{v:VI β}(h:RtV fs f x v):A1d fs v.number=x.choice:=by
 have ac:fs.find? (fun y=>decide (y.number=v.number))=some x:=h.fld
 unfold A1d
 rw[ac]
theorem B3o {β:Type}{fs:List FI}{f:List UInt8→β→Int}:∀ {l:List (VI β)}{s:Int×List Int},A3y fs f l s=0→RtL fs f l∧(∀ v∈l,s.1<v.number)∧∀ v∈l,0<A1d fs v.number→A1d fs v.number∉s.2
 | [],_,_=>⟨⟨fun _ h=>by simp at h,.nil,.nil⟩,fun _ h=>by simp at h,fun _ h=>by simp at h⟩
 | v::l,s,h=>by
  unfold A3y at h
  split at h
  ·rename_i hv
   obtain⟨x,hx,h1,h2,h3⟩:=D4b hv
   rw[h3] at h
   obtain⟨⟨g1,g2,g3⟩,g4,g5⟩:=B3o h
   have hc:=A6w hx
   refine⟨⟨fun a ha=>?_,.cons (fun a ha=>?_) g2,.cons (fun a ha=>?_) g3⟩,fun a ha=>?_,fun a ha hp=>?_⟩
   ·rcases List.mem_cons.1 ha with rfl|ha
    ·exact⟨x,hx⟩
    ·exact g1 a ha
   ·exact g4 a ha
   ·by_cases hp:A1d fs v.number≤0
    ·exact .inl hp
    ·refine .inr fun e=>?_
     have h6:=g5 a ha (by omega)
     rw[←e,hc] at h6
     rw[hc] at hp
     unfold A8a at h6
     rw[if_pos (by omega)] at h6
     simp at h6
   ·rcases List.mem_cons.1 ha with rfl|ha
    ·exact h1
    ·have:=g4 a ha
     dsimp only at this
     omega
   ·rcases List.mem_cons.1 ha with rfl|ha
    ·rw[hc] at hp ⊢
     exact h2 hp
    ·have h6:=g5 a ha hp
     unfold A8a at h6
     split at h6
     ·simp only[List.mem_append,not_or] at h6
      exact h6.1
     ·exact h6
  ·rename_i hv
   exact absurd h hv
theorem A3d {g:GI}{d:Nat}{k:Int}{fs:List FI}{b:BI (d+1)}(h:A1j g (d+1) k fs b=0):k≤12∧RtL fs (fun name s=>A1j g d (k+1) (A0r g name) s) (BO.vals b)∧∀ r∈BO.unk b,A8r fs r=0:=by
 rw[A4l] at h
 split at h
 ·cases h
 ·split at h
  ·rename_i h1 h2
   exact⟨by omega,(B3o h2).1,A4u h⟩
  ·rename_i h1 h2
   exact absurd h h2
theorem D6d {β:Type}{x:FI}{v:VI β}(h1:A0v x v=false)(h2:A3p x v=false)(hm:x.many=false)(hk:x.kind=10):∃ s,v.subs = [s]:=by
 unfold A0v at h1
 rw[if_neg (by omega),if_pos hk] at h1
 unfold A3p A1i at h2
 rw[hm] at h2
 simp only[decide_eq_false_iff_not,Bool.or_eq_false_iff,Bool.not_false,Bool.and_true] at h1 h2
 exact List.length_eq_one_iff.1 (by omega)
def VQk {β:Type}(Q : β→Prop)(v:VI β):Prop:=I64 v.number∧(∀ n∈v.bits,n<18446744073709551616)∧(∀ l∈v.bytes,l.length*1≤reachBytes)∧∀ s∈v.subs,Q s
def BQk:(d:Nat)→BI d→Prop
 | 0=>fun _=>False
 | d+1=>fun b=>(∀ v∈BO.vals b,VQk (BQk d) v)∧∀ r∈BO.unk b,B7j r
theorem D6g:∀ (d:Nat) (b:BI d),BOk d b→BQk d b
 | 0,_,h=>h
 | d+1,b,h=>⟨fun v hv=>⟨(h.1 v hv).1,(h.1 v hv).2.1,(h.1 v hv).2.2.2.1,fun s hs=>D6g d s ((h.1 v hv).2.2.2.2.2.1 s hs)⟩,h.2.2.1⟩
theorem B6y {α:Type}(f : α→Nat){l:List α}{a : α}(h:a∈l):f a≤(l.map f).sum:=by
 induction l with
 | nil=>cases h
 | cons b l ih=>
  simp only[List.map_cons,List.sum_cons]
  rcases List.mem_cons.1 h with rfl|h
  ·omega
  ·have:=ih h;omega
theorem D2t:∀ (d:Nat) (b:BI d),BQk d b→jWB d b≤1000000000→BOk d b
 | 0,_,h,_=>h
 | d+1,b,h,hw=>by
  have hw':((BO.vals b).map (jW (jWB d))).sum+(BO.unk b).length≤1000000000:=hw
  have hl:=A5n (jW (jWB d)) (fun v=>by unfold jW;omega) (BO.vals b)
  refine⟨fun v hv=>?_,by unfold reachBytes;omega,h.2,by unfold reachBytes;omega⟩
  have h1:1+v.bits.length+v.bytes.length+(v.subs.map fun s=>1+jWB d s).sum≤((BO.vals b).map (jW (jWB d))).sum:=B6y (jW (jWB d)) hv
  have h2:=A5n (fun s=>1+jWB d s) (fun _=>by omega) v.subs
  obtain⟨q1,q2,q3,q4⟩:=h.1 v hv
  refine⟨q1,q2,by unfold reachBytes;omega,q3,by unfold reachBytes;omega,fun s hs=>D2t d s (q4 s hs) ?_,by unfold reachBytes;omega⟩
  have:=B6y (fun s=>1+jWB d s) hs
  omega
theorem D4s {β:Type}{Q : β→Prop}{J:MI→β→β→β}(hJ:∀ M s t,Q s→Q t→Q (J M s t)){ms:List MI}{x:FI}{a b:VI β}(ha:VQk Q a)(hb:VQk Q b):VQk Q (A4y J ms x a b):=by
 unfold A4y
 split
 ·refine⟨ha.1,fun n hn=>?_,fun n hn=>?_,fun n hn=>?_⟩
  ·rcases List.mem_append.1 hn with h|h
   ·exact ha.2.1 n h
   ·exact hb.2.1 n h
  ·rcases List.mem_append.1 hn with h|h
   ·exact ha.2.2.1 n h
   ·exact hb.2.2.1 n h
  ·rcases List.mem_append.1 hn with h|h
   ·exact ha.2.2.2 n h
   ·exact hb.2.2.2 n h
 ·split
  ·split
   ·rename_i M s l t m h1 h2 h3
    refine⟨ha.1,ha.2.1,ha.2.2.1,fun n hn=>?_⟩
    rw[List.mem_singleton.1 hn]
    exact hJ M s t (ha.2.2.2 s (by rw[h2];exact List.mem_cons_self ..)) (hb.2.2.2 t (by rw[h3];exact List.mem_cons_self ..))
   ·exact ha
  ·exact hb
theorem C9u {β:Type}{Q : β→Prop}{J:MI→β→β→β}(hJ:∀ M s t,Q s→Q t→Q (J M s t)){ms:List MI}{fs:List FI}{l:List (VI β)}{v:VI β}(hl:∀ a∈l,VQk Q a)(hv:VQk Q v):∀ a∈A3h J ms fs l v,VQk Q a:=by
 intro a ha
 unfold A3h at ha
 split at ha
 ·exact hl a ha
 ·split at ha
  ·rcases A7a ha with rfl|h
   ·exact hv
   ·exact hl a h
  ·rename_i u hu
   rcases A7a ha with rfl|h
   ·exact D4s hJ (hl u (List.mem_of_find?_eq_some hu)) hv
   ·exact hl a h
theorem C7q {β:Type}{Q : β→Prop}{J:MI→β→β→β}(hJ:∀ M s t,Q s→Q t→Q (J M s t)){ms:List MI}{fs:List FI}:∀ (m l:List (VI β)),(∀ a∈l,VQk Q a)→(∀ a∈m,VQk Q a)→∀ a∈m.foldl (A3h J ms fs) l,VQk Q a
 | [],_,hl,_=>hl
 | v::m,l,hl,hm=>C7q hJ m _ (C9u hJ hl (hm v (List.mem_cons_self ..))) fun a ha=>hm a (List.mem_cons_of_mem _ ha)
theorem C0n (ms:List MI):∀ (d:Nat) (M:MI) (a b:BI d),BQk d a→BQk d b→BQk d (jnB ms d M a b)
 | 0,_,_,_,h,_=>h
 | d+1,M,a,b,ha,hb=>⟨C7q (fun M s t=>C0n ms d M s t) _ _ ha.1 hb.1,fun r hr=>by
  have ac:r∈BO.unk a++BO.unk b:=hr
  rcases List.mem_append.1 ac with h|h
  ·exact ha.2 r h
  ·exact hb.2 r h⟩
def C4v (g:GI)(d:Nat)(msg:Int)(a b:BI (d+1)):Int:=
 if A1g (A2p g d msg) [a,b]≠0 then A1g (A2p g d msg) [a,b]
 else match g.msgs[msg.toNat]? with
  | some M=>A2p g d msg (jnB g.msgs (d+1) M a b)
  | none=>0
theorem C6d {g:GI}{d:Nat}{msg:Int}{x:BI (d+1)}(h:A2p g d msg x=0):(wrongL g).1=0∧0≤msg∧msg<(g.msgs.length:Int)∧∃ M,g.msgs[msg.toNat]?=some M∧A1j g (d+1) 1 M.fields x=0:=by
 unfold A2p at h
 split at h
 ·rename_i h1;exact absurd h h1
 ·rename_i h1
  split at h
  ·cases h
  ·rename_i h2
   split at h
   ·rename_i M hM
    exact⟨by simpa using h1,by omega,by omega,M,hM,h⟩
   ·cases h
section
variable {β:Type}
end
theorem D1d {d:Nat}{w:World}{base:Nat}{fs:List FI}{vf vb nm:Value}{b:BL (LB d)}{y:VL (LB d)}{x:FI}(hf:RdL 6 FAt w vf fs)(fok:∀ f∈fs,I64 f.number∧I64 f.choice)(fl:fs.length≤140737488355328)(bn:∃ ao n cap,vb = .slice ao n cap)(bh:∃ s:List UInt8,nm = .string (S s))(hb:OwnL (ekB d) (OwnB base d) w base b)(bg:(LB.fp (d+1) b).Nodup)(hy:OwnV (ekB d) (OwnB base d) w base y)(bp:(VL.fp (LB.fp d) y).Nodup)(hap:∀ k∈LB.fp (d+1) b,k∉VL.fp (LB.fp d) y)(ag:∀ a∈b.vals,I64 a.number)(hlen:(b.vals.length+1)*80≤140737488355328)(hB:base≤w.heap.size)(hx:fs.find? (isF y.number)=some x)(ba:y.bits.length≤140737488355328)(hl2:y.bytes.length≤140737488355328)(bc:y.subs.length≤140737488355328)(bk:I64 y.number) :
  Calls Tryz.prog 30 #[.agg #[nm,vf,vb],.agg #[b.q0.v,b.q1.v],.agg #[.int .i64 y.number,y.p1.v,y.p2.v,y.p3.v]] w fun e w'=>
   ∃ (l:List (VL (LB d))) (a':Option Addr) (n' c':Nat),e = .returned (.agg #[.slice a' n' c',b.q1.v])∧l.map (VL.pl (LB.pl d))=A5i fs x (b.vals.map (VL.pl (LB.pl d))) (VL.pl (LB.pl d) y)∧OwnL (ekB d) (OwnB base d) w' base ⟨l,b.unk,(a',n',c'),b.q1⟩∧(LB.fp (d+1) (⟨l,b.unk,(a',n',c'),b.q1⟩:BL (LB d))).Nodup∧FrB (own1 b.q0) w w':=by
 have on:∀ k,(own1 b.q0).count k+(own1 b.q1).count k+(b.vals.flatMap (VL.fp (LB.fp d))).count k≤1:=fun k=>by
  have h:=List.nodup_iff_count.1 bg k
  have e:LB.fp (d+1) b=own1 b.q0++own1 b.q1++b.vals.flatMap (VL.fp (LB.fp d)):=rfl
  rw[e,List.count_append,List.count_append] at h
  exact h
 have aj:∀ k,k∈own1 b.q0→k∈LB.fp (d+1) b:=fun k hk=>by
  show k∈own1 b.q0++own1 b.q1++b.vals.flatMap (VL.fp (LB.fp d))
  exact List.mem_append_left _ (List.mem_append_left _ hk)
 have ak:PutIn d w base fs vf b y:=⟨hf,fok,fl,hb.shy,hy.shy,fun k hk=>⟨fun hm=>?_,fun a ha hm=>?_,fun hm=>hap k (aj k hk) (D9p hm)⟩,ag,hlen,hB⟩
 ·have au:∃ k,fs.findIdx? (fun f=>decide (f.number=y.number))=some k∧fs[k]?=some x:=by
   have ah:fs.find? (fun f=>decide (f.number=y.number))=some x:=hx
   rw[List.find?_eq_getElem?_findIdx] at ah
   have hlt:fs.findIdx (fun f=>decide (f.number=y.number))<fs.length:=(List.getElem?_eq_some_iff.1 ah).1
   exact⟨_,List.findIdx?_eq_some_iff_findIdx_eq.2 ⟨hlt,rfl⟩,ah⟩
  obtain⟨k,aw,hk2⟩:=au
  refine(D3f ak bn bh aw hk2 ba hl2 bc bk).mono ?_
  rintro e w' ⟨⟨a',n',c'⟩,rfl,hq,hrow,ac⟩
  refine⟨_,a',n',c',rfl,D6e fs x b.vals y,⟨hrow,fun a ha=>?_,Row.frB (p:=b.q1) hb.r1 ac fun k hk hm=>?_,fun r hr=>(hb.r1y r hr).frY ac⟩,List.nodup_iff_count.2 fun k=>?_,ac⟩
  ·rcases D2l ha with rfl|⟨ha,ho⟩
   ·exact OwnV.fr (OwnB.fr d) hy ac fun k hk hm=>hap k (aj k hm) hk
   ·refine OwnV.fr (OwnB.fr d) (hb.r0v a ha) ac fun k hk hm=>?_
    have h1:=List.count_pos_iff.2 hm
    have h2:=List.count_pos_iff.2 (List.mem_flatMap.2 ⟨a,ha,hk⟩)
    have:=on k
    omega
  ·have h1:=List.count_pos_iff.2 hm
   have h2:=List.count_pos_iff.2 hk
   have:=on k
   omega
  ·show(own1 (a',n',c')++own1 b.q1++List.flatMap (VL.fp (LB.fp d)) _).count k≤1
   rw[List.count_append,List.count_append]
   dsimp only
   have hc:=C4a (VL.fp (LB.fp d)) (p:=fun a=>!A0q fs x a.number) (A0p x (VL.pl (LB.pl d) y)) b.vals (A1h y.number ((b.vals.filter fun a=>!A0q fs x a.number).map (VL.pl (LB.pl d)))) y k
   have bq:=A5u (VL.fp (LB.fp d)) (fun a=>!A0q fs x a.number) k b.vals
   have o1:=A9s (a',n',c') k
   have o2:0<(own1 (a',n',c')).count k→0<(own1 b.q0).count k∨w.heap.size≤k:=fun h'=>(hq k (A1m h')).imp List.count_pos_iff.2 id
   have o3:=on k
   have o4:=List.nodup_iff_count.1 bp k
   have l0:0<(own1 b.q0).count k→k∈LB.fp (d+1) b:=fun h'=>aj k (A1m h')
   have l1:0<(own1 b.q1).count k→k∈LB.fp (d+1) b∧k<w.heap.size:=fun h'=>⟨by
    show k∈own1 b.q0++own1 b.q1++b.vals.flatMap (VL.fp (LB.fp d))
    exact List.mem_append_left _ (List.mem_append_right _ (A1m h')),(hb.r1.own1 k (A1m h')).2⟩
   have l2:0<(b.vals.flatMap (VL.fp (LB.fp d))).count k→k∈LB.fp (d+1) b∧k<w.heap.size:=fun h'=>⟨by
    show k∈own1 b.q0++own1 b.q1++b.vals.flatMap (VL.fp (LB.fp d))
    exact List.mem_append_right _ (A1m h'),by
    obtain⟨v,hv,hk⟩:=List.mem_flatMap.1 (A1m h')
    exact((hb.r0v v hv).lt k hk).2⟩
   have l3:0<(VL.fp (LB.fp d) y).count k→k∉LB.fp (d+1) b∧k<w.heap.size:=fun h'=>⟨fun hm=>hap k hm (A1m h'),(hy.lt k (A1m h')).2⟩
   by_cases hb':k∈LB.fp (d+1) b
   ·have z1:(VL.fp (LB.fp d) y).count k=0:=Nat.eq_zero_of_not_pos fun h=>(l3 h).1 hb'
    omega
   ·have z1:(own1 b.q0).count k=0:=Nat.eq_zero_of_not_pos fun h=>hb' (l0 h)
    have z2:(own1 b.q1).count k=0:=Nat.eq_zero_of_not_pos fun h=>hb' (l1 h).1
    have z3:(b.vals.flatMap (VL.fp (LB.fp d))).count k=0:=Nat.eq_zero_of_not_pos fun h=>hb' (l2 h).1
    omega
 ·have h1:=List.count_pos_iff.2 hm
  have h2:=List.count_pos_iff.2 hk
  have:=on k
  omega
 ·have h1:=List.count_pos_iff.2 hk
  have h2:=List.count_pos_iff.2 (List.mem_flatMap.2 ⟨a,ha,D9p hm⟩)
  have:=on k
  omega
theorem D1e {d:Nat}{w:World}{fs:List FI}{s:List UInt8}{af ab:Option Addr}{nf cf nb cb:Nat}(hf:RdL 6 FAt w (.slice af nf cf) fs)(fok:∀ f∈fs,I64 f.number∧I64 f.choice)(fl:fs.length≤140737488355328){a0 a1:Option Addr}{n0 c0 n1 c1:Nat}{b:BI (d+1)}(hq:BRd d w (.slice a0 n0 c0) (.slice a1 n1 c1) b)(cg:BOk (d+1) b){y:VI (BI d)}{x:FI}(hx:fs.find? (isF y.number)=some x){b1 b2 b3:Option Addr}{m1 d1 m2 d2 m3 d3:Nat}(r1:RdL 1 UAt w (.slice b1 m1 d1) y.bits)(r2:RdL 1 ZAt w (.slice b2 m2 d2) y.bytes)(r3:RdL 2 (BAt d) w (.slice b3 m3 d3) y.subs)(hy:VOk (BOk d) y)(hlen:((BO.vals b).length+1)*80≤140737488355328) :
  Calls Tryz.prog 17 #[.agg #[.string (S s),.slice af nf cf,.slice ab nb cb],.agg #[.slice a0 n0 c0,.slice a1 n1 c1],.agg #[.int .i64 y.number,.slice b1 m1 d1,.slice b2 m2 d2,.slice b3 m3 d3]] w fun e w'=>∃ (c:LB (d+1)) (i0:Option Addr) (j0 l0:Nat) (i1:Option Addr) (j1 l1:Nat),C0f (d+1) c = [.slice i0 j0 l0,.slice i1 j1 l1]∧e = .returned (.agg #[.slice i0 j0 l0,.slice i1 j1 l1])∧LB.pl (d+1) c=(⟨A5i fs x (BO.vals b) y,BO.unk b⟩:BO (BI d))∧OwnB w.heap.size (d+1) w' c∧(LB.fp (d+1) c).Nodup∧Below w.heap.size w w':=by
 obtain⟨W1,bt⟩:∃ W1,Hid (W1=(((w.alloc (.cells #[.string (S s),.slice af nf cf,.slice ab nb cb] 38)).alloc (.cells #[.slice a0 n0 c0,.slice a1 n1 c1] 29)).alloc (.cells #[.int .i64 y.number,.slice b1 m1 d1,.slice b2 m2 d2,.slice b3 m3 d3] 62)).alloc (.cells #[.slice none 0 0,.slice none 0 0] 29)):=⟨_,rfl⟩
 obtain⟨xm,xa,xv,xr,z0⟩:=C1r w (.cells #[.string (S s),.slice af nf cf,.slice ab nb cb] 38) (.cells #[.slice a0 n0 c0,.slice a1 n1 c1] 29) (.cells #[.int .i64 y.number,.slice b1 m1 d1,.slice b2 m2 d2,.slice b3 m3 d3] 62) (.cells #[.slice none 0 0,.slice none 0 0] 29)
 rw[←bt.out] at xm xa xv xr z0
 have hb1:Below w.heap.size w W1:=by rw[bt.out];exact((((Below.refl _ _).alloc (Nat.le_refl _) _).alloc (by simp) _).alloc (by simp;omega) _).alloc (by simp;omega) _
 have hz1:w.heap.size+4≤W1.heap.size:=Nat.le_of_eq z0.symm
 obtain⟨C,HC⟩:∃ C,Hid (C=w.heap.size+3):=⟨_,rfl⟩
 have d9:C≤w.heap.size+3:=Nat.le_of_eq HC.out
 have ee:w.heap.size+3≤C:=Nat.le_of_eq HC.out.symm
 have bp:∀ V,Below C W1 V→(V.cell? ⟨w.heap.size,0,none⟩=some (.string (S s))∧V.cell? ⟨w.heap.size,1,none⟩=some (.slice af nf cf)∧V.cell? ⟨w.heap.size,2,none⟩=some (.slice ab nb cb))∧(V.cell? ⟨w.heap.size+1,0,none⟩=some (.slice a0 n0 c0)∧V.cell? ⟨w.heap.size+1,1,none⟩=some (.slice a1 n1 c1))∧(V.cell? ⟨w.heap.size+2,0,none⟩=some (.int .i64 y.number)∧V.cell? ⟨w.heap.size+2,1,none⟩=some (.slice b1 m1 d1)∧V.cell? ⟨w.heap.size+2,2,none⟩=some (.slice b2 m2 d2)∧V.cell? ⟨w.heap.size+2,3,none⟩=some (.slice b3 m3 d3)):=fun V hV=>
  ⟨A4p ((hV.block _ (by omega)).trans xm),A0y ((hV.block _ (by omega)).trans xa),A4b ((hV.block _ (by omega)).trans xv)⟩
 have hD:Below C W1 W1.drew:=(Below.refl _ _).drew
 have cw:Below W1.heap.size W1 W1.drew:=(Below.refl _ _).drew
 have dy:Below w.heap.size w W1.drew:=BTr hb1 cw
 have hown:=C0u (d+1) W1.drew W1.heap.size a0 n0 c0 a1 n1 c1 b (Nat.le_refl _) (hq.below dy) cg
 have dw:∀ V,Below W1.heap.size W1 V→Calls Tryz.prog 32 #[.agg #[.int .i64 y.number,.slice b1 m1 d1,.slice b2 m2 d2,.slice b3 m3 d3]] V fun e w'=>∃ (yv:VL (LB d)) (q0:Int) (x1:Option Addr) (y1 z1:Nat) (x2:Option Addr) (y2 z2:Nat) (x3:Option Addr) (y3 z3:Nat),(ekV (LB d)).enc yv = [.int .i64 q0,.slice x1 y1 z1,.slice x2 y2 z2,.slice x3 y3 z3]∧e = .returned (.agg #[.int .i64 q0,.slice x1 y1 z1,.slice x2 y2 z2,.slice x3 y3 z3])∧VL.pl (LB.pl d) yv=y∧OwnV (ekB d) (OwnB W1.heap.size d) w' W1.heap.size yv∧(∀ k∈VL.fp (LB.fp d) yv,V.heap.size≤k)∧(VL.fp (LB.fp d) yv).Nodup∧Below V.heap.size V w':=fun V hV=>C2k d V W1.heap.size y b1 m1 d1 b2 m2 d2 b3 m3 d3 hV.size (r1.below UAt.stays (BTr hb1 hV)) (r2.below ZAt.stays (BTr hb1 hV)) (r3.below (BAt.stays d) (BTr hb1 hV)) hy
 have hput:∀ (V2 V3:World) (yb:BL (LB d)) (yv:VL (LB d)),Below W1.heap.size W1 V2→Below V2.heap.size V2 V3→LB.pl (d+1) yb=b→OwnB W1.heap.size (d+1) V2 yb→(LB.fp (d+1) yb).Nodup→VL.pl (LB.pl d) yv=y→OwnV (ekB d) (OwnB W1.heap.size d) V3 W1.heap.size yv→(∀ k∈VL.fp (LB.fp d) yv,V2.heap.size≤k)→(VL.fp (LB.fp d) yv).Nodup→
   Calls Tryz.prog 30 #[.agg #[.string (S s),.slice af nf cf,.slice ab nb cb],.agg #[yb.q0.v,yb.q1.v],.agg #[.int .i64 yv.number,yv.p1.v,yv.p2.v,yv.p3.v]] V3 fun e w'=>∃ (l:List (VL (LB d))) (a':Option Addr) (n' c':Nat),e = .returned (.agg #[.slice a' n' c',yb.q1.v])∧(∀ V',FrB [w.heap.size+3] w' V'→OwnB W1.heap.size (d+1) V' (⟨l,yb.unk,(a',n',c'),yb.q1⟩:BL (LB d)))∧LB.pl (d+1) (⟨l,yb.unk,(a',n',c'),yb.q1⟩:BL (LB d))=(⟨A5i fs x (BO.vals b) y,BO.unk b⟩:BO (BI d))∧(LB.fp (d+1) (⟨l,yb.unk,(a',n',c'),yb.q1⟩:BL (LB d))).Nodup∧Below W1.heap.size W1 w':=by
  intro V2 V3 yb yv h2 h3 hpl bc bq ac br dr dz
  have aj:Below W1.heap.size W1 V3:=BTr h2 h3
  have bg:OwnL (ekB d) (OwnB W1.heap.size d) V3 W1.heap.size yb:=OwnB.below bc h3
  have bw:=OwnB.inB (d+1) bc
  have dg:yv.number=y.number:=by rw[←ac];rfl
  have cu:yb.vals.map (VL.pl (LB.pl d))=BO.vals b:=congrArg BO.vals hpl
  have dx:yb.unk.map Prod.fst=BO.unk b:=congrArg BO.unk hpl
  obtain⟨y1,y2,y3,y4,y5,y6,y7⟩:=hy
  unfold reachBytes at y3 y5 y7
  have e1:yv.bits=y.bits:=by rw[←ac];rfl
  have e2:yv.bytes.length=y.bytes.length:=by rw[←ac];simp[VL.pl]
  have e3:yv.subs.length=y.subs.length:=by rw[←ac];simp[VL.pl]
  refine(D1d (x:=x) (hf.below FAt.stays (BTr hb1 aj)) fok fl ⟨_,_,_,rfl⟩ ⟨_,rfl⟩ bg bq br dz (fun k hk hm=>?_) (fun a ha=>?_) ?_ aj.size (by rw[dg];exact hx) (by rw[e1];omega) (by rw[e2];omega) (by rw[e3];omega) (by rw[dg];exact y1)).mono ?_
  ·have:=(bw k hk).2
   have:=dr k hm
   omega
  ·have:VL.pl (LB.pl d) a∈BO.vals b:=by rw[←cu];exact List.mem_map_of_mem ha
   exact(cg.1 _ this).1
  ·have:yb.vals.length=(BO.vals b).length:=by rw[←cu,List.length_map]
   rw[this];exact hlen
  ·rintro e w' ⟨l,a',n',c',rfl,hmap,df,dv,dp⟩
   refine⟨l,a',n',c',rfl,fun V' dn=>?_,?_,dv,?_⟩
   ·have dt:∀ k∈LB.fp (d+1) (⟨l,yb.unk,(a',n',c'),yb.q1⟩:BL (LB d)),W1.heap.size≤k:=fun k hk=>(OwnB.inB (d+1) (w:=w') (b:=(⟨l,yb.unk,(a',n',c'),yb.q1⟩:BL (LB d))) df k hk).1
    exact OwnB.fr (d+1) [w.heap.size+3] w' V' (⟨l,yb.unk,(a',n',c'),yb.q1⟩:BL (LB d)) df dn (fun k hk hm=>by have:=dt k hk;rw[List.mem_singleton.1 hm] at this;omega)
   ·show(⟨l.map (VL.pl (LB.pl d)),yb.unk.map Prod.fst⟩:BO (BI d))=_
    rw[hmap,dx,cu,ac]
   ·exact aj.trans (dp.below aj.size (fun k hk=>(bg.r0.own1 k hk).1))
 obtain⟨⟨q0,q1,q2⟩,⟨q3,q4⟩,⟨q5,q6,q7,q8⟩⟩:=bp W1.drew hD
 clear hf fok fl hq cg hx r1 r2 r3 hy hlen xm xa xv z0
 go_enter Tryz.func17,Tryz.ntmps17
 go_upto_region 1 with fail
 rw[←bt.out]
 refine wp_region_held_drew (S:=fun V=>Below C W1 V) (by kernel_rfl) hD (fun hHeld=>?_)
 refine tK (i:=0) (v:=?vo1) rfl ⟨by rfl,?hyo1⟩ ?_
 case hyo1=>(intro W h;have:=bp W h;go_simp;first|done|with_reducible rfl)
 try simp only[pT,Act.put]
 refine tK (i:=1) (v:=?vo2) rfl ⟨by rfl,?hyo2⟩ ?_
 case hyo2=>(intro W h;have:=bp W h;go_simp;first|done|with_reducible rfl)
 try simp only[pT,Act.put]
 refine tK (i:=3) (v:=?vo3) rfl ⟨by rfl,?hyo3⟩ ?_
 case hyo3=>(intro W h;have:=bp W h;go_simp;first|done|with_reducible rfl)
 try simp only[pT,Act.put]
 refine rA (i:=2) rfl fun K hK=>?_
 go_simp
 refine hown.mono ?_
 rintro r w2 ⟨yb,i0,j0,l0,i1,j1,l1,ak,rfl,hpl,bc,bv,bq,hb2⟩
 have bh:Below W1.heap.size W1 w2:=BTr cw hb2
 have bk:Below C W1 w2:=bh.mono (by omega)
 have cj:=dw w2 bh
 refine hK.out _ _ ?_ (fun hHeld=>?_)
 ·(try dsimp only);first|with_reducible exact hD|with_reducible exact bk|with_reducible exact bn|with_reducible exact ag|exact A2w (A2w ag (by omega)) (by omega)
 clear hK K
 try simp only[pT,Act.put]
 refine rA (i:=4) rfl fun K hK=>?_
 go_simp
 refine cj.mono ?_
 rintro r w3 ⟨yv,t0,i2,j2,l2,i3,j3,l3,i4,j4,l4,au,rfl,ac,br,aw,ba,hb3⟩
 have aj:Below W1.heap.size W1 w3:=BTr bh hb3
 have bn:Below C W1 w3:=aj.mono (by omega)
 have ah:=hput w2 w3 yb yv bh hb3 hpl bc bq ac br aw ba
 obtain⟨e0,e1⟩:(BL.q0 yb).v = .slice i0 j0 l0∧(BL.q1 yb).v = .slice i1 j1 l1:=by
  have h8 : [(BL.q0 yb).v,(BL.q1 yb).v] = [.slice i0 j0 l0,.slice i1 j1 l1]:=ak
  simpa using h8
 obtain⟨e2,e3,e4,e5⟩:yv.number=t0∧yv.p1.v = .slice i2 j2 l2∧yv.p2.v = .slice i3 j3 l3∧yv.p3.v = .slice i4 j4 l4:=by
  have h8 : [Value.int .i64 yv.number,yv.p1.v,yv.p2.v,yv.p3.v] = [.int .i64 t0,.slice i2 j2 l2,.slice i3 j3 l3,.slice i4 j4 l4]:=au
  simpa using h8
 have dh:Hid ((BL.q1 yb).v = .slice i1 j1 l1):=e1
 rw[e0,e1,e2,e3,e4,e5] at ah
 clear e0 e1 e2 e3 e4 e5 ak au hpl bc bv bq ac br aw ba
 refine hK.out _ _ ?_ (fun hHeld=>?_)
 ·(try dsimp only);first|with_reducible exact hD|with_reducible exact bk|with_reducible exact bn|with_reducible exact ag|exact A2w (A2w ag (by omega)) (by omega)
 clear hK K
 try simp only[pT,Act.put]
 refine rA (i:=5) rfl fun K hK=>?_
 go_simp
 refine ah.mono ?_
 rintro r w4 ⟨ll,a',n',c',rfl,dm,dl,di,bu⟩
 have ag:Below C W1 w4:=bu.mono (by omega)
 have x4:=(bu.block _ (by omega)).trans xr
 obtain⟨g0,g1⟩:=A0y x4
 have fr4:=A0b x4
 refine hK.out _ _ ?_ (fun hHeld=>?_)
 ·(try dsimp only);first|with_reducible exact hD|with_reducible exact bk|with_reducible exact bn|with_reducible exact ag|exact A2w (A2w ag (by omega)) (by omega)
 clear hK K
 try simp only[pT,Act.put]
 refine rA (i:=6) rfl fun K hK=>?_
 go_simp
 refine hK.out _ _ ?_ (fun hHeld=>?_)
 ·(try dsimp only);first|with_reducible exact hD|with_reducible exact bk|with_reducible exact bn|with_reducible exact ag|exact A2w (A2w ag (by omega)) (by omega)
 clear hK K
 try simp only[pT,Act.put]
 refine wpAnyH_done (by kernel_rfl) ?_ _
 go_wp2_with fail
 refine bodyPost_ret (v:=.agg #[.slice a' n' c',.slice i1 j1 l1]) (by simp[results,Tryz.results17,go_sem, *]) rfl ?_
 exact⟨_,a',n',c',i1,j1,l1,by show [_,_]=_;rw[dh.out];rfl,rfl,dl,OwnB.mono (d+1) (dm _ (fr2 x4)) (by omega),di,A2w (A2w (BTr hb1 bu) (by omega)) (by omega)⟩
end L
end Go.Proofs.YtgaoojpakjjdnaaGreatDoor
