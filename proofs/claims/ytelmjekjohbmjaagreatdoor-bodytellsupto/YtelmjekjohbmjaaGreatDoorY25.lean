import Derived.Test.YtelmjekjohbmjaaGreatDoorY23
import Derived.Test.YtelmjekjohbmjaaGreatDoorY24
namespace Go.Proofs.YtelmjekjohbmjaaGreatDoor
namespace L
open Go.RowKit
set_option linter.unusedVariables false
theorem A4v {α:Type}(f : α→List Nat){a b : α}(hne:a≠b) (k:Nat):∀ {l:List α},a∈l→b∈l→(f a).count k+(f b).count k≤(l.flatMap f).count k
 | c::l,ha,hb=>by
  rw[A0v]
  rcases List.mem_cons.1 ha with rfl|ha'
  ·rcases List.mem_cons.1 hb with rfl|hb'
   ·exact absurd rfl hne
   ·have:=A1u f k hb'
    omega
  ·rcases List.mem_cons.1 hb with rfl|hb'
   ·have:=A1u f k ha'
    omega
   ·have:=A4v f hne k ha' hb'
    omega
theorem C0z {d:Nat}{v:VL (LB d)}{k:Nat}(h:k∈VL.fp (fT d) v):k∈VL.fp (LB.fp d) v:=by
 unfold VL.fp at h ⊢
 rcases List.mem_append.1 h with h|h
 ·exact List.mem_append_left _ h
 ·simp at h
theorem B6u {d:Nat}(fs:List FI) (x:FI) (l:List (VL (LB d))) (y:VL (LB d)):((if A0u x (VL.pl (LB.pl d) y) then l.filter (fun a=>!A0m fs x a.number) else(l.filter fun a=>!A0m fs x a.number).take (A0w y.number ((l.filter fun a=>!A0m fs x a.number).map (VL.pl (LB.pl d))))++[y]++(l.filter fun a=>!A0m fs x a.number).drop (A0w y.number ((l.filter fun a=>!A0m fs x a.number).map (VL.pl (LB.pl d))))).map (VL.pl (LB.pl d)))=A6d fs x (l.map (VL.pl (LB.pl d))) (VL.pl (LB.pl d) y):=by
 have hf:(l.map (VL.pl (LB.pl d))).filter (fun a=>!A0m fs x a.number)=(l.filter fun a=>!A0m fs x a.number).map (VL.pl (LB.pl d)):=by
  rw[List.filter_map]
  rfl
 unfold A6d
 rw[hf]
 split
 ·rfl
 ·rw[List.map_append,List.map_append,List.map_take,List.map_drop]
  rfl
theorem B2k {α:Type}{p : α→Bool}{c:Bool}{l:List α}{i:Nat}{y a : α}(h:a∈(if c then l.filter p else(l.filter p).take i++[y]++(l.filter p).drop i)):a=y∨(a∈l∧p a=true):=by
 split at h
 ·exact .inr (List.mem_filter.1 h)
 ·rcases List.mem_append.1 h with h|h
  ·rcases List.mem_append.1 h with h|h
   ·exact .inr (List.mem_filter.1 (List.mem_of_mem_take h))
   ·exact .inl (List.mem_singleton.1 h)
  ·exact .inr (List.mem_filter.1 (List.mem_of_mem_drop h))
theorem A8d {α:Type}(f : α→List Nat){p : α→Bool}(c:Bool) (l:List α) (i:Nat) (y : α) (k:Nat):((if c then l.filter p else(l.filter p).take i++[y]++(l.filter p).drop i).flatMap f).count k≤((l.filter p).flatMap f).count k+(f y).count k:=by
 split
 ·omega
 ·rw[A7w]
  omega
def A6h (d:Nat) (b cur:BL (LB d)) (rest:List (VL (LB d))) (k:Nat):Nat:=
 (own1 cur.q0).count k+(own1 cur.q1).count k+(cur.vals.flatMap (VL.fp (LB.fp d))).count k+(rest.flatMap (VL.fp (LB.fp d))).count k+(own1 b.q0).count k+(own1 b.q1).count k
structure JSt (d B:Nat) (W5:World) (L0:List Nat) (b:BL (LB d)) (V:World) (cur:BL (LB d)) (rest:List (VL (LB d))):Prop where
 own:OwnL (ekB d) (OwnB B d) V B cur
 ownr:∀ v∈rest,OwnV (ekB d) (OwnB B d) V B v
 rb0:Row (ekV (LB d)) V B b.q0.v b.vals
 rb1:Row ekR V B b.q1.v b.unk
 rb1y:∀ r∈b.unk,Row ekY V B r.2.v r.1.bytes
 once:∀ k,A6h d b cur rest k≤1∧(k < W5.heap.size→A6h d b cur rest k≤L0.count k)
section
variable {d B:Nat}{W5:World}{L0:List Nat}{b:BL (LB d)}{V:World}{cur:BL (LB d)}{rest:List (VL (LB d))}
theorem JSt.lt (h:JSt d B W5 L0 b V cur rest){k:Nat}(hk:0 < A6h d b cur rest k):k < V.heap.size:=by
 have h1:0 < (own1 cur.q0).count k→k < V.heap.size:=fun h'=>(h.own.r0.own1 k (A0t h')).2
 have h2:0 < (own1 cur.q1).count k→k < V.heap.size:=fun h'=>(h.own.r1.own1 k (A0t h')).2
 have h3:0 < (cur.vals.flatMap (VL.fp (LB.fp d))).count k→k < V.heap.size:=fun h'=>by
  obtain⟨v,hv,hk⟩:=List.mem_flatMap.1 (A0t h')
  exact((h.own.r0v v hv).lt k hk).2
 have h4:0 < (rest.flatMap (VL.fp (LB.fp d))).count k→k < V.heap.size:=fun h'=>by
  obtain⟨v,hv,hk⟩:=List.mem_flatMap.1 (A0t h')
  exact((h.ownr v hv).lt k hk).2
 have h5:0 < (own1 b.q0).count k→k < V.heap.size:=fun h'=>(h.rb0.own1 k (A0t h')).2
 have h6:0 < (own1 b.q1).count k→k < V.heap.size:=fun h'=>(h.rb1.own1 k (A0t h')).2
 unfold A6h at hk
 omega
theorem JSt.fr {F:List Nat}{V':World}(h:JSt d B W5 L0 b V cur rest) (hf:FrB F V V') (hF:∀ k∈F,A6h d b cur rest k=0):JSt d B W5 L0 b V' cur rest:=by
 have z:∀ k,0 < A6h d b cur rest k→k∉F:=fun k hk hm=>by have:=hF k hm;omega
 refine⟨OwnL.fr (OwnB.fr d) h.own hf fun k hk=>z k ?_,fun v hv=>OwnV.fr (OwnB.fr d) (h.ownr v hv) hf fun k hk=>z k ?_,Row.frB h.rb0 hf fun k hk=>z k ?_,Row.frB h.rb1 hf fun k hk=>z k ?_,fun r hr=>(h.rb1y r hr).frY hf,h.once⟩
 ·have:=List.count_pos_iff.2 hk
  rw[A5k] at this
  unfold A6h
  omega
 ·have:=List.count_pos_iff.2 (List.mem_flatMap.2 ⟨v,hv,hk⟩)
  unfold A6h
  omega
 ·have:=List.count_pos_iff.2 hk
  unfold A6h
  omega
 ·have:=List.count_pos_iff.2 hk
  unfold A6h
  omega
theorem JSt.below {V':World}(h:JSt d B W5 L0 b V cur rest) (hb:Below V.heap.size V V'):JSt d B W5 L0 b V' cur rest:=h.fr (F:=[]) (.of_below hb) fun _ hk=>by simp at hk
end
def A6x (d:Nat) (b:BL (LB d)) (fs:List FI) (x:FI) (cur:BL (LB d)) (y:VL (LB d)) (rest:List (VL (LB d))) (k:Nat):Nat:=
 (own1 cur.q0).count k+(own1 cur.q1).count k+((cur.vals.filter fun a=>!A0m fs x a.number).flatMap (VL.fp (LB.fp d))).count k+(VL.fp (LB.fp d) y).count k+(rest.flatMap (VL.fp (LB.fp d))).count k+(own1 b.q0).count k+(own1 b.q1).count k
structure JMid (d B:Nat) (W5:World) (L0:List Nat) (b:BL (LB d)) (fs:List FI) (x:FI) (V:World) (cur:BL (LB d)) (y:VL (LB d)) (rest:List (VL (LB d))) (tb:Nat):Prop where
 sh:OwnL (ekB d) (OT d) V B cur
 deep:∀ a∈cur.vals,A0m fs x a.number=false→OwnV (ekB d) (OwnB B d) V B a
 owny:OwnV (ekB d) (OwnB B d) V B y
 ownr:∀ v∈rest,OwnV (ekB d) (OwnB B d) V B v
 rb0:Row (ekV (LB d)) V B b.q0.v b.vals
 rb1:Row ekR V B b.q1.v b.unk
 rb1y:∀ r∈b.unk,Row ekY V B r.2.v r.1.bytes
 once:∀ k,A6x d b fs x cur y rest k≤1∧(k < W5.heap.size→A6x d b fs x cur y rest k≤L0.count k)
 off:A6x d b fs x cur y rest tb=0
 shl:∀ a∈cur.vals,∀ k∈VL.fp (fT d) a,k≠tb∧k∉own1 cur.q0
section
variable {d B:Nat}{W5:World}{L0:List Nat}{b:BL (LB d)}{V:World}{cur:BL (LB d)}{rest:List (VL (LB d))}{fs:List FI}{x:FI}{y v:VL (LB d)}{tb:Nat}
theorem JMid.fr {V':World}(h:JMid d B W5 L0 b fs x V cur y rest tb) (hf:FrB [tb] V V'):JMid d B W5 L0 b fs x V' cur y rest tb:=by
 have z:∀ k,0 < A6x d b fs x cur y rest k→k∉[tb]:=fun k hk hm=>by
  have:=h.off
  rw[←List.mem_singleton.1 hm] at this
  omega
 have z0:∀ k∈own1 cur.q0,k∉[tb]:=fun k hk=>z k (by have:=List.count_pos_iff.2 hk;unfold A6x;omega)
 have z1:∀ k∈own1 cur.q1,k∉[tb]:=fun k hk=>z k (by have:=List.count_pos_iff.2 hk;unfold A6x;omega)
 refine⟨?_,fun a ha ho=>OwnV.fr (OwnB.fr d) (h.deep a ha ho) hf fun k hk=>z k ?_,OwnV.fr (OwnB.fr d) h.owny hf fun k hk=>z k ?_,fun v hv=>OwnV.fr (OwnB.fr d) (h.ownr v hv) hf fun k hk=>z k ?_,Row.frB h.rb0 hf fun k hk=>z k ?_,Row.frB h.rb1 hf fun k hk=>z k ?_,fun r hr=>(h.rb1y r hr).frY hf,h.once,h.off,h.shl⟩
 ·refine⟨Row.frB h.sh.r0 hf z0,fun a ha=>OwnV.fr (OT.fr d) (h.sh.r0v a ha) hf fun k hk hm=>(h.shl a ha k hk).1 (List.mem_singleton.1 hm),Row.frB h.sh.r1 hf z1,fun r hr=>(h.sh.r1y r hr).frY hf⟩
 ·have:=List.count_pos_iff.2 (List.mem_flatMap.2 ⟨a,List.mem_filter.2 ⟨ha,by rw[ho];rfl⟩,hk⟩:k∈(cur.vals.filter fun a=>!A0m fs x a.number).flatMap (VL.fp (LB.fp d)))
  unfold A6x
  omega
 ·have:=List.count_pos_iff.2 hk
  unfold A6x
  omega
 ·have:=List.count_pos_iff.2 (List.mem_flatMap.2 ⟨v,hv,hk⟩)
  unfold A6x
  omega
 ·have:=List.count_pos_iff.2 hk
  unfold A6x
  omega
 ·have:=List.count_pos_iff.2 hk
  unfold A6x
  omega
theorem JSt.mid_none {V2:World}(h:JSt d B W5 L0 b V cur (v::rest)) (hb:Below V.heap.size V V2) (fs:List FI) (x:FI):JMid d B W5 L0 b fs x V2 cur v rest V.heap.size:=by
 have h2:=h.below hb
 have e:∀ k,A6x d b fs x cur v rest k≤A6h d b cur (v::rest) k:=fun k=>by
  unfold A6x A6h
  rw[A0v]
  have:=A1z (VL.fp (LB.fp d)) (fun a=>!A0m fs x a.number) k cur.vals
  omega
 refine⟨h2.own.shy,fun a ha _=>h2.own.r0v a ha,h2.ownr v (List.mem_cons_self ..),fun u hu=>h2.ownr u (List.mem_cons_of_mem _ hu),h2.rb0,h2.rb1,h2.rb1y,fun k=>?_,?_,fun a ha k hk=>?_⟩
 ·have:=h.once k
  have:=e k
  exact⟨by omega,fun hk=>by have:=this;have:=(h.once k).2 hk;omega⟩
 ·have:=e V.heap.size
  by_cases hz:A6x d b fs x cur v rest V.heap.size=0
  ·exact hz
  ·have:=h.lt (k:=V.heap.size) (by omega)
   omega
 ·have hf:=C0z hk
  have h1:=((h.own.r0v a ha).lt k hf).2
  refine⟨by omega,fun hm=>?_⟩
  have h2:=List.count_pos_iff.2 hm
  have h3:=List.count_pos_iff.2 (List.mem_flatMap.2 ⟨a,ha,hf⟩)
  have h4:=(h.once k).1
  unfold A6h at h4
  omega
theorem JSt.metIn {W0 V3:World}(h:JSt d W0.heap.size W5 L0 b V cur (v::rest)) (hb:Below V.heap.size V V3) (h0:Below W0.heap.size W0 V){u:VL (LB d)}(hu:u∈cur.vals) (hl:jW (jWB d) (VL.pl (LB.pl d) u)+jW (jWB d) (VL.pl (LB.pl d) v)≤1000000000):MetIn d W0 V3 u v:=by
 have h2:=h.below hb
 refine⟨h0.trans (hb.mono h0.size),h2.own.r0v u hu,h2.ownr v (List.mem_cons_self ..),fun k=>?_,hl⟩
 have h3:=(h.once k).1
 have h4:=A1u (VL.fp (LB.fp d)) k hu
 unfold A6h at h3
 rw[A0v] at h3
 omega
theorem JSt.mid_met {V3 V4:World}{u t:VL (LB d)}(h:JSt d B W5 L0 b V cur (v::rest)) (hb:Below V.heap.size V V3) (hs:V.heap.size < V3.heap.size) (h5:W5.heap.size≤V.heap.size) (hu:u∈cur.vals) (hou:A0m fs x u.number=true)
  (ht:OwnV (ekB d) (OwnB B d) V4 B t) (hu4:OwnV (ekB d) (OT d) V4 B u) (hfm:From V3 (VL.fp (LB.fp d) u++VL.fp (LB.fp d) v) (VL.fp (LB.fp d) t)) (hfr:FrB (VL.fp (LB.fp d) u++VL.fp (LB.fp d) v) V3 V4):JMid d B W5 L0 b fs x V4 cur t rest V.heap.size:=by
 have h2:=h.below hb
 have out:∀ k,(VL.fp (LB.fp d) u).count k+((cur.vals.filter fun a=>!A0m fs x a.number).flatMap (VL.fp (LB.fp d))).count k≤(cur.vals.flatMap (VL.fp (LB.fp d))).count k:=fun k=>A4u (VL.fp (LB.fp d)) (p:=fun a=>!A0m fs x a.number) (a:=u) (by simp[hou]) k hu
 have inu:∀ k,(VL.fp (LB.fp d) u).count k≤(cur.vals.flatMap (VL.fp (LB.fp d))).count k:=fun k=>A1u (VL.fp (LB.fp d)) k hu
 have on:∀ k,(own1 cur.q0).count k+(own1 cur.q1).count k+(cur.vals.flatMap (VL.fp (LB.fp d))).count k+((VL.fp (LB.fp d) v).count k+(rest.flatMap (VL.fp (LB.fp d))).count k)+(own1 b.q0).count k+(own1 b.q1).count k≤1:=fun k=>by
  have:=(h.once k).1
  unfold A6h at this
  rwa [A0v] at this
 have up:∀ k,k < W5.heap.size→(own1 cur.q0).count k+(own1 cur.q1).count k+(cur.vals.flatMap (VL.fp (LB.fp d))).count k+((VL.fp (LB.fp d) v).count k+(rest.flatMap (VL.fp (LB.fp d))).count k)+(own1 b.q0).count k+(own1 b.q1).count k≤L0.count k:=fun k hk=>by
  have:=(h.once k).2 hk
  unfold A6h at this
  rwa [A0v] at this
 have lt:∀ k,0 < (own1 cur.q0).count k+(own1 cur.q1).count k+(cur.vals.flatMap (VL.fp (LB.fp d))).count k+((VL.fp (LB.fp d) v).count k+(rest.flatMap (VL.fp (LB.fp d))).count k)+(own1 b.q0).count k+(own1 b.q1).count k→k < V.heap.size:=fun k hk=>h.lt (k:=k) (by unfold A6h;rw[A0v];exact hk)
 have ntv:∀ k,k∈VL.fp (LB.fp d) u++VL.fp (LB.fp d) v→0 < (VL.fp (LB.fp d) u).count k+(VL.fp (LB.fp d) v).count k:=fun k hk=>by
  have:=List.count_pos_iff.2 hk
  rwa [List.count_append] at this
 have ft:∀ k,(VL.fp (LB.fp d) t).count k≤1∧(k < V3.heap.size→(VL.fp (LB.fp d) t).count k≤(VL.fp (LB.fp d) u).count k+(VL.fp (LB.fp d) v).count k):=fun k=>by
  have:=hfm k
  rwa [List.count_append] at this
 have apa:∀ a∈cur.vals,a≠u→∀ k∈VL.fp (LB.fp d) a,k∉VL.fp (LB.fp d) u++VL.fp (LB.fp d) v:=fun a ha hne k hk hm=>by
  have h1:=A4v (VL.fp (LB.fp d)) hne k ha hu
  have h2:=ntv k hm
  have h3:=List.count_pos_iff.2 hk
  have h4:=on k
  omega
 refine⟨⟨Row.frB h2.own.r0 hfr fun k hk hm=>?_,fun a ha=>?_,Row.frB h2.own.r1 hfr fun k hk hm=>?_,fun r hr=>(h2.own.r1y r hr).frY hfr⟩,fun a ha ho=>?_,ht,fun a ha=>OwnV.fr (OwnB.fr d) (h2.ownr a (List.mem_cons_of_mem _ ha)) hfr fun k hk hm=>?_,Row.frB h2.rb0 hfr fun k hk hm=>?_,Row.frB h2.rb1 hfr fun k hk hm=>?_,fun r hr=>(h2.rb1y r hr).frY hfr,fun k=>?_,?_,fun a ha k hk=>?_⟩
 ·have:=List.count_pos_iff.2 hk;have:=ntv k hm;have:=on k;have:=inu k;omega
 ·by_cases hau:a=u
  ·rw[hau];exact hu4
  ·exact OwnV.fr (OT.fr d) (h2.own.r0v a ha).shy hfr fun k hk=>apa a ha hau k (C0z hk)
 ·have:=List.count_pos_iff.2 hk;have:=ntv k hm;have:=on k;have:=inu k;omega
 ·exact OwnV.fr (OwnB.fr d) (h2.own.r0v a ha) hfr fun k hk=>apa a ha (fun e=>by rw[e,hou] at ho;cases ho) k hk
 ·have:=List.count_pos_iff.2 (List.mem_flatMap.2 ⟨a,ha,hk⟩);have:=ntv k hm;have:=on k;have:=inu k;omega
 ·have:=List.count_pos_iff.2 hk;have:=ntv k hm;have:=on k;have:=inu k;omega
 ·have:=List.count_pos_iff.2 hk;have:=ntv k hm;have:=on k;have:=inu k;omega
 ·have h1:=on k
  have h2:=up k
  have h3:=ft k
  have h4:=out k
  have h5':=lt k
  unfold A6x
  exact⟨by omega,fun hk=>by have:=h2 hk;omega⟩
 ·have h3:=ft V.heap.size
  have h4:=out V.heap.size
  have h5':=lt V.heap.size
  unfold A6x
  omega
 ·have hf:=C0z hk
  have h1:=((h.own.r0v a ha).lt k hf).2
  refine⟨by omega,fun hm=>?_⟩
  have h2:=List.count_pos_iff.2 hm
  have h3:=List.count_pos_iff.2 (List.mem_flatMap.2 ⟨a,ha,hf⟩)
  have h4:=on k
  omega
theorem B6v (h:JMid d B W5 L0 b fs x V cur y rest tb){vf vb nm:Value}(hf:RdL 6 FAt V vf fs) (fok:∀ f∈fs,I64 f.number∧I64 f.choice) (fl:fs.length≤140737488355328) (hvb:∃ ao n cap,vb = .slice ao n cap) (hnm:∃ s:List UInt8,nm = .string (S s)) (hnum:∀ a∈cur.vals,I64 a.number) (hlen:(cur.vals.length+1)*80≤140737488355328) (hB:B≤V.heap.size) (h5:W5.heap.size≤V.heap.size)
  (hx:fs.find? (isF y.number)=some x) (hl:jW (jWB d) (VL.pl (LB.pl d) y)≤140737488355328) (hnu:I64 y.number) :
  Calls Tryz.prog 43 #[.agg #[nm,vf,vb],.agg #[cur.q0.v,cur.q1.v],.agg #[.int .i64 y.number,y.p1.v,y.p2.v,y.p3.v]] V fun e w'=>
   ∃ (l:List (VL (LB d))) (a':Option Addr) (n' c':Nat),e = .returned (.agg #[.slice a' n' c',cur.q1.v])∧Hid (l.map (VL.pl (LB.pl d))=A6d fs x (cur.vals.map (VL.pl (LB.pl d))) (VL.pl (LB.pl d) y))∧Hid (JSt d B W5 L0 b w' ⟨l,cur.unk,(a',n',c'),cur.q1⟩ rest)∧FrB (own1 cur.q0) V w':=by
 have hin:PutIn d V B fs vf cur y:=⟨hf,fok,fl,h.sh,h.owny.shy,fun k hk=>?_,hnum,hlen,hB⟩
 ·have hk':∃ k,fs.findIdx? (fun f=>decide (f.number=y.number))=some k∧fs[k]?=some x:=by
   have hx':fs.find? (fun f=>decide (f.number=y.number))=some x:=hx
   rw[List.find?_eq_getElem?_findIdx] at hx'
   have hlt:fs.findIdx (fun f=>decide (f.number=y.number)) < fs.length:=(List.getElem?_eq_some_iff.1 hx').1
   exact⟨_,List.findIdx?_eq_some_iff_findIdx_eq.2 ⟨hlt,rfl⟩,hx'⟩
  obtain⟨k,hk1,hk2⟩:=hk'
  have hls:=A2x (fun s=>1+jWB d s) (fun _=>by omega) (y.subs.map (LB.pl d))
  have hl':=hl
  simp only[jW,VL.pl,List.length_map] at hl' hls
  refine(B2p hin hvb hnm hk1 hk2 (by omega) (by omega) (by omega) hnu).mono ?_
  rintro e w' ⟨⟨a',n',c'⟩,rfl,hq,hrow,hfr⟩
  refine⟨_,a',n',c',rfl,B6u fs x cur.vals y,?_,hfr⟩
  have on:∀ k,_≤1:=fun k=>(h.once k).1
  unfold A6x at on
  have ap:∀ k,0 < ((cur.vals.filter fun a=>!A0m fs x a.number).flatMap (VL.fp (LB.fp d))).count k+(VL.fp (LB.fp d) y).count k+(rest.flatMap (VL.fp (LB.fp d))).count k+(own1 cur.q1).count k+(own1 b.q0).count k+(own1 b.q1).count k→k∉own1 cur.q0:=fun k hk hm=>by
   have:=List.count_pos_iff.2 hm
   have:=on k
   omega
  refine⟨⟨hrow,fun a ha=>?_,Row.frB (p:=cur.q1) h.sh.r1 hfr fun k hk=>ap k (by have:=List.count_pos_iff.2 hk;omega),fun r hr=>(h.sh.r1y r hr).frY hfr⟩,fun a ha=>OwnV.fr (OwnB.fr d) (h.ownr a ha) hfr fun k hk=>ap k (by have:=List.count_pos_iff.2 (List.mem_flatMap.2 ⟨a,ha,hk⟩);omega),Row.frB h.rb0 hfr fun k hk=>ap k (by have:=List.count_pos_iff.2 hk;omega),Row.frB h.rb1 hfr fun k hk=>ap k (by have:=List.count_pos_iff.2 hk;omega),fun r hr=>(h.rb1y r hr).frY hfr,fun k=>?_⟩
  ·rcases B2k ha with rfl|⟨ha,ho⟩
   ·exact OwnV.fr (OwnB.fr d) h.owny hfr fun k hk=>ap k (by have:=List.count_pos_iff.2 hk;omega)
   ·have ho':A0m fs x a.number=false:=by simpa using ho
    exact OwnV.fr (OwnB.fr d) (h.deep a ha ho') hfr fun k hk=>ap k (by have:=List.count_pos_iff.2 (List.mem_flatMap.2 ⟨a,List.mem_filter.2 ⟨ha,by rw[ho'];rfl⟩,hk⟩:k∈(cur.vals.filter fun a=>!A0m fs x a.number).flatMap (VL.fp (LB.fp d)));omega)
  ·have hc:=A8d (VL.fp (LB.fp d)) (p:=fun a=>!A0m fs x a.number) (A0u x (VL.pl (LB.pl d) y)) cur.vals (A0w y.number ((cur.vals.filter fun a=>!A0m fs x a.number).map (VL.pl (LB.pl d)))) y k
   have o1:=A3g (a',n',c') k
   have o2:0 < (own1 (a',n',c')).count k→0 < (own1 cur.q0).count k∨V.heap.size≤k:=fun h'=>(hq k (A0t h')).imp List.count_pos_iff.2 id
   have o3:=on k
   have o4:=(h.once k).2
   unfold A6x at o4
   have l1:0 < (own1 cur.q1).count k→k < V.heap.size:=fun h'=>(h.sh.r1.own1 k (A0t h')).2
   have l2:0 < ((cur.vals.filter fun a=>!A0m fs x a.number).flatMap (VL.fp (LB.fp d))).count k→k < V.heap.size:=fun h'=>by
    obtain⟨v,hv,hk⟩:=List.mem_flatMap.1 (A0t h')
    obtain⟨hv1,hv2⟩:=List.mem_filter.1 hv
    exact((h.deep v hv1 (by simpa using hv2)).lt k hk).2
   have l3:0 < (VL.fp (LB.fp d) y).count k→k < V.heap.size:=fun h'=>(h.owny.lt k (A0t h')).2
   have l4:0 < (rest.flatMap (VL.fp (LB.fp d))).count k→k < V.heap.size:=fun h'=>by
    obtain⟨v,hv,hk⟩:=List.mem_flatMap.1 (A0t h')
    exact((h.ownr v hv).lt k hk).2
   have l5:0 < (own1 b.q0).count k→k < V.heap.size:=fun h'=>(h.rb0.own1 k (A0t h')).2
   have l6:0 < (own1 b.q1).count k→k < V.heap.size:=fun h'=>(h.rb1.own1 k (A0t h')).2
   unfold A6h
   dsimp only
   exact⟨by omega,fun hk=>by have:=o4 hk;omega⟩
 ·have on:=(h.once k).1
  have hk':=List.count_pos_iff.2 hk
  unfold A6x at on
  refine⟨fun hm=>?_,fun a ha hm=>(h.shl a ha k hm).2 hk,fun hm=>?_⟩
  ·have:=List.count_pos_iff.2 hm;omega
  ·have:=List.count_pos_iff.2 (C0z hm);omega
end
end L
end Go.Proofs.YtelmjekjohbmjaaGreatDoor
