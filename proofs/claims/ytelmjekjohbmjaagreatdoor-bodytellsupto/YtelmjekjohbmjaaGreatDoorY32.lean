import Derived.Test.YtelmjekjohbmjaaGreatDoorY19
import Derived.Test.YtelmjekjohbmjaaGreatDoorY14
import Derived.Test.YtelmjekjohbmjaaGreatDoorY27
namespace Go.Proofs.YtelmjekjohbmjaaGreatDoor
namespace L
open Go.RowKit
set_option linter.unusedVariables false
theorem A2i {α:Type}{f : α→Int}:∀ {l:List α},A0g f l=0→∀ a∈l,f a=0
 | b::l,h,a,ha=>by
  unfold A0g at h
  split at h
  ·rename_i hb
   rcases List.mem_cons.1 ha with rfl|ha
   ·exact hb
   ·exact A2i h a ha
  ·rename_i hb
   exact absurd h hb
theorem A6z {e:Nat→Int}:∀ {m k:Nat},A3m e k m=0→∀ i,k≤i→i < k+m→e i=0
 | 0,k,_,i,h1,h2=>by omega
 | m+1,k,h,i,h1,h2=>by
  unfold A3m at h
  split at h
  ·rename_i hb
   by_cases e:i=k
   ·rw[e];exact hb
   ·exact A6z h i (by omega) (by omega)
  ·rename_i hb
   exact absurd h hb
structure RtV {β:Type}(fs:List FI) (f:List UInt8→β→Int) (x:FI) (v:VI β):Prop where
 fld:fs.find? (isF v.number)=some x
 others:A1d x v=false
 misc:A2z x v=false
 without:A0u x v=false
 bits:∀ n∈v.bits,A1c x.kind n=0
 bytes:∀ l∈v.bytes,A1e x.kind l=0
 subs:∀ s∈v.subs,f x.type s=0
theorem B9t {β:Type}{fs:List FI}{f:List UInt8→β→Int}{v:VI β}{s:Int×List Int}(h:A5v fs f v s=0):∃ x,RtV fs f x v∧s.1 < v.number∧(0 < x.choice→x.choice∉s.2)∧A5m fs v s=(v.number,A3i x s.2):=by
 unfold A5v at h
 split at h
 ·cases h
 ·rename_i x hx
  have e:=A6z h
  have e0:(if decide (v.number≤s.1) then(2:Int) else 0)=0:=e 0 (by omega) (by omega)
  have e1:(if A1d x v then(8:Int) else 0)=0:=e 1 (by omega) (by omega)
  have e2:(if A2z x v then(5:Int) else 0)=0:=e 2 (by omega) (by omega)
  have e3:(if A0u x v then(2:Int) else 0)=0:=e 3 (by omega) (by omega)
  have e4:A0g (A1c x.kind) v.bits=0:=e 4 (by omega) (by omega)
  have e5:A0g (A1e x.kind) v.bytes=0:=e 5 (by omega) (by omega)
  have e6:A0g (f x.type) v.subs=0:=e 6 (by omega) (by omega)
  have e7:(if decide (0 < x.choice∧x.choice∈s.2) then(8:Int) else 0)=0:=e 7 (by omega) (by omega)
  refine⟨x,⟨hx,?_,?_,?_,A2i e4,A2i e5,A2i e6⟩,?_,?_,?_⟩
  ·cases ho:A1d x v with
   | false=>rfl
   | true=>rw[ho] at e1;simp at e1
  ·cases ho:A2z x v with
   | false=>rfl
   | true=>rw[ho] at e2;simp at e2
  ·cases ho:A0u x v with
   | false=>rfl
   | true=>rw[ho] at e3;simp at e3
  ·by_cases hn:v.number≤s.1
   ·rw[if_pos (by simpa using hn)] at e0;cases e0
   ·omega
  ·intro hc hm
   rw[if_pos (by simpa using ⟨hc,hm⟩)] at e7
   cases e7
  ·unfold A5m
   have hx':fs.find? (fun y=>decide (y.number=v.number))=some x:=hx
   rw[hx']
structure RtL {β:Type}(fs:List FI) (f:List UInt8→β→Int) (l:List (VI β)):Prop where
 each:∀ v∈l,∃ x,RtV fs f x v
 rise:l.Pairwise fun a b=>a.number < b.number
 apart:l.Pairwise fun a b=>A1o fs a.number≤0∨A1o fs a.number≠A1o fs b.number
theorem B5l {β:Type}{fs:List FI}{f:List UInt8→β→Int}{x:FI}{v:VI β}(h:RtV fs f x v):A1o fs v.number=x.choice:=by
 have hx':fs.find? (fun y=>decide (y.number=v.number))=some x:=h.fld
 unfold A1o
 rw[hx']
theorem B0s {β:Type}{fs:List FI}{f:List UInt8→β→Int}:∀ {l:List (VI β)}{s:Int×List Int},A2s fs f l s=0→RtL fs f l∧(∀ v∈l,s.1 < v.number)∧∀ v∈l,0 < A1o fs v.number→A1o fs v.number∉s.2
 | [],_,_=>⟨⟨fun _ h=>by simp at h,.nil,.nil⟩,fun _ h=>by simp at h,fun _ h=>by simp at h⟩
 | v::l,s,h=>by
  unfold A2s at h
  split at h
  ·rename_i hv
   obtain⟨x,hx,h1,h2,h3⟩:=B9t hv
   rw[h3] at h
   obtain⟨⟨g1,g2,g3⟩,g4,g5⟩:=B0s h
   have hc:=B5l hx
   refine⟨⟨fun a ha=>?_,.cons (fun a ha=>?_) g2,.cons (fun a ha=>?_) g3⟩,fun a ha=>?_,fun a ha hp=>?_⟩
   ·rcases List.mem_cons.1 ha with rfl|ha
    ·exact⟨x,hx⟩
    ·exact g1 a ha
   ·exact g4 a ha
   ·by_cases hp:A1o fs v.number≤0
    ·exact .inl hp
    ·refine .inr fun e=>?_
     have h6:=g5 a ha (by omega)
     rw[←e,hc] at h6
     rw[hc] at hp
     unfold A3i at h6
     rw[if_pos (by omega)] at h6
     simp at h6
   ·rcases List.mem_cons.1 ha with rfl|ha
    ·exact h1
    ·have:=g4 a ha
     dsimp only at this
     omega
   ·rcases List.mem_cons.1 ha with rfl|ha
    ·rw[hc] at hp ⊢
     exact h2 hp
    ·have h6:=g5 a ha hp
     unfold A3i at h6
     split at h6
     ·simp only[List.mem_append,not_or] at h6
      exact h6.1
     ·exact h6
  ·rename_i hv
   exact absurd h hv
theorem A6w {g:GI}{d:Nat}{k:Int}{fs:List FI}{b:BI (d+1)}(h:A2o g (d+1) k fs b=0):k≤12∧RtL fs (fun name s=>A2o g d (k+1) (A1h g name) s) (BO.vals b)∧∀ r∈BO.unk b,A4s fs r=0:=by
 rw[A3t] at h
 split at h
 ·cases h
 ·split at h
  ·rename_i h1 h2
   exact⟨by omega,(B0s h2).1,A2i h⟩
  ·rename_i h1 h2
   exact absurd h h2
theorem B6n {β:Type}{x:FI}{v:VI β}(h1:A1d x v=false) (h2:A2z x v=false) (hm:x.many=false) (hk:x.kind=10):∃ s,v.subs = [s]:=by
 unfold A1d at h1
 rw[if_neg (by omega),if_pos hk] at h1
 unfold A2z A4j at h2
 rw[hm] at h2
 simp only[decide_eq_false_iff_not,Bool.or_eq_false_iff,Bool.not_false,Bool.and_true] at h1 h2
 exact List.length_eq_one_iff.1 (by omega)
theorem A9h {g:GI}(hsub:C0g g):∀ (d:Nat) (k:Int) (m:MI) (b:BI d),m∈g.msgs→BOk d b→A2o g d k m.fields b=0→ShB g.msgs d m b
 | 0,_,_,b,_,_,_=>nomatch (b:Empty)
 | d+1,k,m,b,hm,hok,h=>by
  obtain⟨_,hr,_⟩:=A6w h
  intro v hv
  obtain⟨x,hx⟩:=hr.each v hv
  refine⟨(hok.1 v hv).1,x,hx.fld,fun h1 h2=>?_⟩
  obtain⟨s,hs⟩:=B6n hx.others hx.misc h1 h2
  obtain⟨m',hm'⟩:=hsub m hm x (List.mem_of_find?_eq_some hx.fld) h2
  have hmm:m'∈g.msgs:=List.mem_of_find?_eq_some hm'
  have hz:=hx.subs s (by rw[hs];exact List.mem_singleton.2 rfl)
  unfold A1h at hz
  rw[hm'] at hz
  exact⟨m',s,hm',hs,A9h hsub d (k+1) m' s hmm ((hok.1 v hv).2.2.2.2.2.1 s (by rw[hs];exact List.mem_singleton.2 rfl)) hz⟩
def VQk {β:Type}(Q : β→Prop) (v:VI β):Prop:=I64 v.number∧(∀ n∈v.bits,n < 18446744073709551616)∧(∀ l∈v.bytes,l.length*1≤reachBytes)∧∀ s∈v.subs,Q s
def BQk:(d:Nat)→BI d→Prop
 | 0=>fun _=>False
 | d+1=>fun b=>(∀ v∈BO.vals b,VQk (BQk d) v)∧∀ r∈BO.unk b,B2w r
theorem C0p:∀ (d:Nat) (b:BI d),BOk d b→BQk d b
 | 0,_,h=>h
 | d+1,b,h=>⟨fun v hv=>⟨(h.1 v hv).1,(h.1 v hv).2.1,(h.1 v hv).2.2.2.1,fun s hs=>C0p d s ((h.1 v hv).2.2.2.2.2.1 s hs)⟩,h.2.2.1⟩
theorem B1x {α:Type}(f : α→Nat){l:List α}{a : α}(h:a∈l):f a≤(l.map f).sum:=by
 induction l with
 | nil=>cases h
 | cons b l ih=>
  simp only[List.map_cons,List.sum_cons]
  rcases List.mem_cons.1 h with rfl|h
  ·omega
  ·have:=ih h;omega
theorem C1l:∀ (d:Nat) (b:BI d),BQk d b→jWB d b≤1000000000→BOk d b
 | 0,_,h,_=>h
 | d+1,b,h,hw=>by
  have hw':((BO.vals b).map (jW (jWB d))).sum+(BO.unk b).length≤1000000000:=hw
  have hl:=A2x (jW (jWB d)) (fun v=>by unfold jW;omega) (BO.vals b)
  refine⟨fun v hv=>?_,by unfold reachBytes;omega,h.2,by unfold reachBytes;omega⟩
  have h1:1+v.bits.length+v.bytes.length+(v.subs.map fun s=>1+jWB d s).sum≤((BO.vals b).map (jW (jWB d))).sum:=B1x (jW (jWB d)) hv
  have h2:=A2x (fun s=>1+jWB d s) (fun _=>by omega) v.subs
  obtain⟨q1,q2,q3,q4⟩:=h.1 v hv
  refine⟨q1,q2,by unfold reachBytes;omega,q3,by unfold reachBytes;omega,fun s hs=>C1l d s (q4 s hs) ?_,by unfold reachBytes;omega⟩
  have:=B1x (fun s=>1+jWB d s) hs
  omega
theorem C1g {β:Type}{Q : β→Prop}{J:MI→β→β→β}(hJ:∀ M s t,Q s→Q t→Q (J M s t)){ms:List MI}{x:FI}{a b:VI β}(ha:VQk Q a) (hb:VQk Q b):VQk Q (A4f J ms x a b):=by
 unfold A4f
 split
 ·refine⟨ha.1,fun n hn=>?_,fun n hn=>?_,fun n hn=>?_⟩
  ·rcases List.mem_append.1 hn with h|h
   ·exact ha.2.1 n h
   ·exact hb.2.1 n h
  ·rcases List.mem_append.1 hn with h|h
   ·exact ha.2.2.1 n h
   ·exact hb.2.2.1 n h
  ·rcases List.mem_append.1 hn with h|h
   ·exact ha.2.2.2 n h
   ·exact hb.2.2.2 n h
 ·split
  ·split
   ·rename_i M s l t m h1 h2 h3
    refine⟨ha.1,ha.2.1,ha.2.2.1,fun n hn=>?_⟩
    rw[List.mem_singleton.1 hn]
    exact hJ M s t (ha.2.2.2 s (by rw[h2];exact List.mem_cons_self ..)) (hb.2.2.2 t (by rw[h3];exact List.mem_cons_self ..))
   ·exact ha
  ·exact hb
theorem C0u {β:Type}{Q : β→Prop}{J:MI→β→β→β}(hJ:∀ M s t,Q s→Q t→Q (J M s t)){ms:List MI}{fs:List FI}{l:List (VI β)}{v:VI β}(hl:∀ a∈l,VQk Q a) (hv:VQk Q v):∀ a∈A1x J ms fs l v,VQk Q a:=by
 intro a ha
 unfold A1x at ha
 split at ha
 ·exact hl a ha
 ·split at ha
  ·rcases A5y ha with rfl|h
   ·exact hv
   ·exact hl a h
  ·rename_i u hu
   rcases A5y ha with rfl|h
   ·exact C1g hJ (hl u (List.mem_of_find?_eq_some hu)) hv
   ·exact hl a h
theorem B5s {β:Type}{Q : β→Prop}{J:MI→β→β→β}(hJ:∀ M s t,Q s→Q t→Q (J M s t)){ms:List MI}{fs:List FI}:∀ (m l:List (VI β)),(∀ a∈l,VQk Q a)→(∀ a∈m,VQk Q a)→∀ a∈m.foldl (A1x J ms fs) l,VQk Q a
 | [],_,hl,_=>hl
 | v::m,l,hl,hm=>B5s hJ m _ (C0u hJ hl (hm v (List.mem_cons_self ..))) fun a ha=>hm a (List.mem_cons_of_mem _ ha)
theorem B6b (ms:List MI):∀ (d:Nat) (M:MI) (a b:BI d),BQk d a→BQk d b→BQk d (jnB ms d M a b)
 | 0,_,_,_,h,_=>h
 | d+1,M,a,b,ha,hb=>⟨B5s (fun M s t=>B6b ms d M s t) _ _ ha.1 hb.1,fun r hr=>by
  have hr':r∈BO.unk a++BO.unk b:=hr
  rcases List.mem_append.1 hr' with h|h
  ·exact ha.2 r h
  ·exact hb.2 r h⟩
theorem B6a {ms:List MI}{d:Nat}{M:MI}{a b:BI d}(ha:BOk d a) (hb:BOk d b) (hw:jWB d a+jWB d b≤1000000000):BOk d (jnB ms d M a b):=
 C1l d _ (B6b ms d M a b (C0p d a ha) (C0p d b hb)) (Nat.le_trans (A9w ms d M a b) hw)
end L
end Go.Proofs.YtelmjekjohbmjaaGreatDoor
namespace Go.Proofs.YtelmjekjohbmjaaGreatDoor
namespace L
open Go.RowKit
set_option linter.unusedVariables false
end L
end Go.Proofs.YtelmjekjohbmjaaGreatDoor
namespace Go.Proofs.YtelmjekjohbmjaaGreatDoor
namespace L
open Go.RowKit
set_option linter.unusedVariables false
def B7y {β:Type}:VI β:=⟨0,[],[],[]⟩
section
variable {β:Type}{J:MI→β→β→β}{ms:List MI}{fs:List FI}{a b:List (VI β)}{x:FI}
end
end L
end Go.Proofs.YtelmjekjohbmjaaGreatDoor
namespace Go.Proofs.YtelmjekjohbmjaaGreatDoor
namespace L
open Go.RowKit
set_option linter.unusedVariables false
section
variable {β:Type}
theorem A8m {y:VI β}:∀ {l:List (VI β)},(l.Pairwise fun a b=>a.number < b.number)→(∀ a∈l,a.number≠y.number)→((l.take (A0w y.number l)++[y]++l.drop (A0w y.number l)).Pairwise fun a b=>a.number < b.number)
 | [],_,_=>by simp[A0w]
 | a::l,h,hn=>by
  have h1:=(List.pairwise_cons.1 h).1
  have h2:=(List.pairwise_cons.1 h).2
  have ha:=hn a (List.mem_cons_self ..)
  by_cases hlt:y.number < a.number
  ·have e:A0w y.number (a::l)=0:=by
    unfold A0w
    rw[List.findIdx?_cons,if_pos (by simpa using hlt)]
    rfl
   rw[e]
   simp only[List.take_zero,List.nil_append,List.drop_zero,List.singleton_append]
   refine .cons (fun b hb=>?_) h
   rcases List.mem_cons.1 hb with rfl|hb
   ·exact hlt
   ·have:=h1 b hb;omega
  ·have e:A0w y.number (a::l)=A0w y.number l+1:=by
    unfold A0w
    rw[List.findIdx?_cons,if_neg (by simpa using hlt)]
    cases l.findIdx? fun v=>decide (y.number < v.number) with
    | none=>rfl
    | some k=>rfl
   rw[e]
   simp only[List.take_succ_cons,List.drop_succ_cons,List.cons_append]
   refine .cons (fun b hb=>?_) (A8m h2 fun b hb=>hn b (List.mem_cons_of_mem _ hb))
   rcases List.mem_append.1 hb with hb|hb
   ·rcases List.mem_append.1 hb with hb|hb
    ·exact h1 b (List.mem_of_mem_take hb)
    ·rw[List.mem_singleton.1 hb];omega
   ·exact h1 b (List.mem_of_mem_drop hb)
theorem B2o {fs:List FI}{x:FI}{l:List (VI β)}{y:VI β}(hx:fs.find? (isF y.number)=some x) (h:l.Pairwise fun a b=>a.number < b.number):(A6d fs x l y).Pairwise fun a b=>a.number < b.number:=by
 have hf:=h.filter (fun a=>!A0m fs x a.number)
 unfold A6d
 split
 ·exact hf
 ·refine A8m hf fun a ha e=>?_
  have:=(List.mem_filter.1 ha).2
  rw[e,A7l hx] at this
  cases this
theorem B7h {J:MI→β→β→β}{ms:List MI}{fs:List FI}{l:List (VI β)}{v:VI β}(h:l.Pairwise fun a b=>a.number < b.number):(A1x J ms fs l v).Pairwise fun a b=>a.number < b.number:=by
 unfold A1x
 split
 ·exact h
 ·rename_i x hx
  split
  ·exact B2o hx h
  ·rename_i u hu
   have hun:u.number=v.number:=by have:=List.find?_some hu;simpa [isV] using this
   exact B2o (by rw[A5z hun];exact hx) h
theorem A7b {J:MI→β→β→β}{ms:List MI}{fs:List FI}:∀ (m l:List (VI β)),(l.Pairwise fun a b=>a.number < b.number)→((m.foldl (A1x J ms fs) l).Pairwise fun a b=>a.number < b.number)
 | [],_,h=>h
 | v::m,_,h=>A7b m _ (B7h h)
end
end L
end Go.Proofs.YtelmjekjohbmjaaGreatDoor
namespace Go.Proofs.YtelmjekjohbmjaaGreatDoor
namespace L
open Go.RowKit
set_option linter.unusedVariables false
def GdV {β:Type}(R:MI→β→Prop) (ms:List MI) (fs:List FI) (v:VI β):Prop:=
 ∃ x,fs.find? (isF v.number)=some x∧(x.many=false→A4j v=1∧(x.kind=10→v.bits = []∧v.bytes = []∧∃ M s,ms.find? (isN x.type)=some M∧v.subs = [s]∧R M s))
def GdB (ms:List MI):(d:Nat)→MI→BI d→Prop
 | 0=>fun _ _=>False
 | d+1=>fun M b=>((BO.vals b).Pairwise fun u v=>u.number < v.number)∧∀ v∈BO.vals b,GdV (GdB ms d) ms M.fields v
section
variable {β:Type}{R:MI→β→Prop}{J:MI→β→β→β}{ms:List MI}{fs:List FI}{x:FI}
theorem GdV.fld {v:VI β}(h:GdV R ms fs v) (hx:fs.find? (isF v.number)=some x):x.many=false→A4j v=1∧(x.kind=10→v.bits = []∧v.bytes = []∧∃ M s,ms.find? (isN x.type)=some M∧v.subs = [s]∧R M s):=by
 obtain⟨y,hy,h1⟩:=h
 rw[hx] at hy
 cases hy
 exact h1
theorem B6i {a b:VI β}(hn:a.number=b.number) (hm:x.many=false) (hk:x.kind=10) (ha:a.bits = []) (hb:a.bytes = []){M:MI}{s t : β}(hM:ms.find? (isN x.type)=some M) (hs:a.subs = [s]) (ht:b.subs = [t]):A4f J ms x a b=⟨b.number,[],[],[J M s t]⟩:=by
 unfold A4f
 rw[hm,if_neg (by simp),if_pos hk,hM,hs,ht]
 show(⟨a.number,a.bits,a.bytes,[J M s t]⟩:VI β)=_
 rw[ha,hb,hn]
theorem B9z (hJ:∀ M s t,R M s→R M t→R M (J M s t)){a b:VI β}(hn:a.number=b.number) (hx:fs.find? (isF b.number)=some x) (ha:GdV R ms fs a) (hb:GdV R ms fs b):GdV R ms fs (A4f J ms x a b):=by
 refine⟨x,by rw[A5z hn];exact hx,fun hm=>?_⟩
 have h1:=ha.fld (by rw[hn];exact hx) hm
 have h2:=hb.fld hx hm
 by_cases hk:x.kind=10
 ·obtain⟨p1,p2,M,s,p3,p4,p5⟩:=h1.2 hk
  obtain⟨q1,q2,M',t,q3,q4,q5⟩:=h2.2 hk
  rw[p3] at q3
  cases q3
  rw[B6i hn hm hk p1 p2 p3 p4 q4]
  exact⟨rfl,fun _=>⟨rfl,rfl,M,J M s t,p3,rfl,hJ M s t p5 q5⟩⟩
 ·have e:A4f J ms x a b=b:=by
   unfold A4f
   rw[hm,if_neg (by simp),if_neg hk]
  rw[e]
  exact h2
theorem C0t (hJ:∀ M s t,R M s→R M t→R M (J M s t)){l:List (VI β)}{v:VI β}(hl:∀ a∈l,GdV R ms fs a) (hv:GdV R ms fs v):∀ a∈A1x J ms fs l v,GdV R ms fs a:=by
 obtain⟨x,hx,_⟩:=id hv
 unfold A1x
 rw[hx]
 intro a ha
 cases hu:l.find? (isV v.number) with
 | none=>
  rw[hu] at ha
  rcases A5y ha with rfl|h
  ·exact hv
  ·exact hl a h
 | some u=>
  rw[hu] at ha
  have hun:u.number=v.number:=by have:=List.find?_some hu;simpa [isV] using this
  rcases A5y ha with rfl|h
  ·exact B9z hJ hun hx (hl u (List.mem_of_find?_eq_some hu)) hv
  ·exact hl a h
theorem B1i (hJ:∀ M s t,R M s→R M t→R M (J M s t)):∀ (m l:List (VI β)),(∀ a∈l,GdV R ms fs a)→(∀ a∈m,GdV R ms fs a)→∀ a∈m.foldl (A1x J ms fs) l,GdV R ms fs a
 | [],_,hl,_=>hl
 | v::m,l,hl,hm=>B1i hJ m _ (C0t hJ hl (hm v (List.mem_cons_self ..))) fun a ha=>hm a (List.mem_cons_of_mem _ ha)
theorem C0s {l:List (VI β)}(hr:l.Pairwise fun u v=>u.number < v.number){v:VI β}(hv:GdV R ms fs v) (hx:fs.find? (isF v.number)=some x):A3l fs x v (!A1s x v) l=A6d fs x l v:=by
 rw[A4a (fun hm=>(hv.fld hx hm).1)]
 exact B0p hr
end
theorem B1o (ms:List MI):∀ (d:Nat) (M:MI) (a b:BI d),GdB ms d M a→GdB ms d M b→GdB ms d M (jnB ms d M a b)
 | 0,_,_,_,h,_=>h
 | d+1,_,_,_,ha,hb=>⟨A7b _ _ ha.1,B1i (fun M s t=>B1o ms d M s t) _ _ ha.2 hb.2⟩
theorem A9g {g:GI}(hsub:C0g g):∀ (d:Nat) (k:Int) (m:MI) (b:BI d),m∈g.msgs→A2o g d k m.fields b=0→GdB g.msgs d m b
 | 0,_,_,b,_,_=>nomatch (b:Empty)
 | d+1,k,m,b,hm,h=>by
  obtain⟨_,hr,_⟩:=A6w h
  refine⟨hr.rise,fun v hv=>?_⟩
  obtain⟨x,hx⟩:=hr.each v hv
  refine⟨x,hx.fld,fun h1=>⟨?_,fun h2=>?_⟩⟩
  ·have h3:=hx.misc
   unfold A2z at h3
   rw[h1] at h3
   simp only[Bool.not_false,Bool.and_true,Bool.or_eq_false_iff,decide_eq_false_iff_not] at h3
   omega
  ·obtain⟨s,hs⟩:=B6n hx.others hx.misc h1 h2
   obtain⟨m',hm'⟩:=hsub m hm x (List.mem_of_find?_eq_some hx.fld) h2
   have hmm:m'∈g.msgs:=List.mem_of_find?_eq_some hm'
   have hz:=hx.subs s (by rw[hs];exact List.mem_singleton.2 rfl)
   unfold A1h at hz
   rw[hm'] at hz
   have ho:=hx.others
   unfold A1d at ho
   rw[if_neg (by omega),if_pos h2] at ho
   simp only[decide_eq_false_iff_not] at ho
   refine⟨List.eq_nil_of_length_eq_zero (by omega),List.eq_nil_of_length_eq_zero (by omega),m',s,hm',hs,A9g hsub d (k+1) m' s hmm hz⟩
end L
end Go.Proofs.YtelmjekjohbmjaaGreatDoor
