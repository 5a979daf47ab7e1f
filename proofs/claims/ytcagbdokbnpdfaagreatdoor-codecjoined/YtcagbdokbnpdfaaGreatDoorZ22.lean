import Derived.Test.YtcagbdokbnpdfaaGreatDoorZ18
import Derived.Test.YtcagbdokbnpdfaaGreatDoorZ21
import Derived.Test.YtcagbdokbnpdfaaGreatDoorZ06
namespace Go.Proofs.YtcagbdokbnpdfaaGreatDoor
namespace L
open Go.RowKit
set_option linter.unusedVariables false
structure WIn (g:GI) (am:Option Addr) (nm cm:Nat) (ae:Option Addr) (ne ce:Nat) (msg:Int) (w:World):Prop where
 hg:GRd w (.slice am nm cm) (.slice ae ne ce) g
 n1:g.msgs.length≤140737488355328
 n2:g.enums.length≤140737488355328
 fit:Fits g
 fok:∀ M∈g.msgs,(∀ f∈M.fields,I64 f.number∧I64 f.choice)∧M.fields.length≤140737488355328
 tabs:Tabs w
 m1 : -9223372036854775808≤msg
 m2:msg≤9223372036854775807
theorem WIn.below {g:GI}{am:Option Addr}{nm cm:Nat}{ae:Option Addr}{ne ce:Nat}{msg:Int}{w w':World}(h:WIn g am nm cm ae ne ce msg w) (hb:Below w.heap.size w w'):WIn g am nm cm ae ne ce msg w':=⟨h.hg.below hb,h.n1,h.n2,h.fit,h.fok,h.tabs.below hb,h.m1,h.m2⟩
theorem WIn.wrong {g:GI}{am:Option Addr}{nm cm:Nat}{ae:Option Addr}{ne ce:Nat}{msg:Int}{w:World}(h:WIn g am nm cm ae ne ce msg w){d:Nat}{v0 v1:Value}{x:BI (d+1)}(hq:BRd d w v0 v1 x) (hok:BOk (d+1) x) :
  Calls Tryz.prog 18 #[.agg #[.slice am nm cm,.slice ae ne ce],.int .i64 msg,.agg #[v0,v1]] w fun r w'=>r = .returned (.int .i64 (A1g g d msg x))∧Below w.heap.size w w':=B3f h.hg h.n1 h.n2 h.fit hq hok h.tabs h.m1 h.m2
set_option maxHeartbeats 1000000 in
set_option maxRecDepth 100000 in
theorem B2i {g:GI}{am:Option Addr}{nm cm:Nat}{ae:Option Addr}{ne ce:Nat}{msg:Int}{w:World}(hI:WIn g am nm cm ae ne ce msg w){c cx:Nat}(hc:w.heap[c]?=some (.cells #[.slice am nm cm,.slice ae ne ce] 25 (0,0))) (hx:w.heap[cx]?=some (.cells #[.int .i64 msg] 3 (0,0))){d:Nat}{a0 a1:Option Addr}{n0 c0 n1 c1:Nat}{x:BI (d+1)}(hq:BRd d w (.slice a0 n0 c0) (.slice a1 n1 c1) x) (hok:BOk (d+1) x) :
  Calls Tryz.prog 37 #[.agg #[.slice a0 n0 c0,.slice a1 n1 c1],.pointer (some ⟨c,0,none⟩),.pointer (some ⟨cx,0,none⟩)] w fun e w'=>e = .returned (.int .i64 (A1g g d msg x))∧Below w.heap.size w w':=by
 have hb1:Below w.heap.size w (w.alloc (.cells #[.slice a0 n0 c0,.slice a1 n1 c1] 29)):=(Below.refl _ _).alloc (Nat.le_refl _) _
 have hcl:=(Array.getElem?_eq_some_iff.1 hc).1
 have hxl:=(Array.getElem?_eq_some_iff.1 hx).1
 obtain⟨k0,k1⟩:=A0v ((hb1.block c hcl).trans hc)
 have k3:(w.alloc (.cells #[.slice a0 n0 c0,.slice a1 n1 c1] 29)).cell? ⟨cx,0,none⟩=some (.int .i64 msg):=A0a ((hb1.block cx hxl).trans hx) 0 _ rfl
 have hd:=(hI.below hb1).wrong (hq.below hb1) hok
 clear hq hc hx hI
 go_enter Tryz.func37,Tryz.ntmps37
 go_wp2_with fail
 refine hd.mono ?_
 rintro e w1 ⟨rfl,hb2⟩
 go_wp2
 go_ret
 exact⟨rfl,hb1.trans (hb2.mono hb1.size)⟩
set_option maxHeartbeats 1000000 in
set_option maxRecDepth 100000 in
theorem C5b {g:GI}{am:Option Addr}{nm cm:Nat}{ae:Option Addr}{ne ce:Nat}{msg:Int}{w:World}(hI:WIn g am nm cm ae ne ce msg w){c cx:Nat}(hc:w.heap[c]?=some (.cells #[.slice am nm cm,.slice ae ne ce] 25 (0,0))) (hx:w.heap[cx]?=some (.cells #[.int .i64 msg] 3 (0,0))){d:Nat}{v:Value}{l:List (BI (d+1))}(h:RdL 2 (BAt (d+1)) w v l) (hok:∀ s∈l,BOk (d+1) s) :
  Calls Tryz.prog 38 #[v,.func (.func 37) #[] #[.pointer (some ⟨c,0,none⟩),.pointer (some ⟨cx,0,none⟩)]] w fun e w'=>e = .returned (.int .i64 (A0y (A1g g d msg) l))∧Below w.heap.size w w':=by
 obtain⟨ao,n,cap,rfl,Hn,hcap⟩:=h.shape
 obtain⟨R,HR⟩:∃ R,Hid (R=A0y (A1g g d msg) l):=⟨_,rfl⟩
 rw[←HR.out]
 go_enter Tryz.func38,Tryz.ntmps38
 go_wp2_with fail
 go_loopg [10] n (fun m i wr=>∃ k:Nat,k+m=n∧i = .int .i64 k∧Hid (R=A0y (A1g g d msg) (l.drop k))∧Below w.heap.size w wr)
 case atStart=>exact⟨0,by omega,rfl,HR,Below.refl _ _⟩
 case round=>
  obtain⟨k,hk,rfl,HK,hb⟩:=hrel
  have hcr:=(hb.block c (Array.getElem?_eq_some_iff.1 hc).1).trans hc
  have hxr:=(hb.block cx (Array.getElem?_eq_some_iff.1 hx).1).trans hx
  by_cases hlt:k < n
  ·obtain⟨a,Ha⟩:∃ a,Hid (l[k]?=some a):=⟨l[k]'(by rw[←Hn.out];exact hlt),List.getElem?_eq_getElem (by rw[←Hn.out];exact hlt)⟩
   obtain⟨b,off,rfl,hat⟩:=(h.below (BAt.stays (d+1)) hb).get (BAt.plain (d+1)) Ha.out
   obtain⟨v0,v1,s0,s1,hq⟩:=BQ.of (d+1) hat
   obtain⟨a0,n0,c0,a1,n1,c1,rfl,rfl⟩:=hq.shape
   have hki:(k:Int) < (n:Int):=by omega
   obtain⟨W1,HW1⟩:∃ W1,Hid (W1=wr.alloc (.cells #[.slice a0 n0 c0,.slice a1 n1 c1] 29)):=⟨_,rfl⟩
   have hb1:Below wr.heap.size wr W1:=by rw[HW1.out];exact(Below.refl _ _).alloc (Nat.le_refl _) _
   have hbw1:Below w.heap.size w W1:=hb.trans (hb1.mono hb.size)
   have hcall:=B2i (hI.below hbw1) ((hb1.block c (Array.getElem?_eq_some_iff.1 hcr).1).trans hcr) ((hb1.block cx (Array.getElem?_eq_some_iff.1 hxr).1).trans hxr) (show BRd d W1 _ _ a from hq.below hb1) (hok a (A4a Ha.out))
   have hst:=A5x (f:=A1g g d msg) Ha.out
   generalize hF:A1g g d msg a=F at hcall hst
   clear hq
   by_cases hz:F=0
   ·have HX:Hid (R=A0y (A1g g d msg) (l.drop (k+1))):=by
     show _=_
     rw[HK.out,hst,if_pos hz]
    have ez:(F != 0)=false:=by simp[hz]
    clear hst hF hz hat
    go_wp2_with fail
    rw[←HW1.out]
    refine hcall.mono ?_
    rintro e w1 ⟨rfl,hb2⟩
    go_wp2_with fail
    go_roundg (n - (k+1))
    case measure=>omega
    case rel=>exact⟨k+1,by omega,by go_num,HX,hbw1.trans (hb2.mono hbw1.size)⟩
   ·have HX:Hid (R=F):=by
     show _=_
     rw[HK.out,hst,if_neg hz]
    have ez:(F != 0)=true:=by simpa using hz
    clear hst hF hz hat
    go_wp2_with fail
    rw[←HW1.out]
    refine hcall.mono ?_
    rintro e w1 ⟨rfl,hb2⟩
    go_wp2
    go_ret
    exact⟨by rw[HX.out];rfl,hbw1.trans (hb2.mono hbw1.size)⟩
  ·have HX:Hid (R=0):=by
    show _=_
    rw[HK.out]
    exact A5h (by rw[←Hn.out];omega)
   go_wp2
   go_ret
   exact⟨by rw[HX.out];rfl,hb⟩
end L
end Go.Proofs.YtcagbdokbnpdfaaGreatDoor
namespace Go.Proofs.YtcagbdokbnpdfaaGreatDoor
namespace L
open Go.RowKit
set_option linter.unusedVariables false
theorem A3f {α:Type}{f : α→Int}:∀ {l:List α},A0y f l=0→∀ a∈l,f a=0
 | b::l,h,a,ha=>by
  unfold A0y at h
  split at h
  ·rename_i hb
   rcases List.mem_cons.1 ha with rfl|ha
   ·exact hb
   ·exact A3f h a ha
  ·rename_i hb
   exact absurd h hb
theorem B0j {e:Nat→Int}:∀ {m k:Nat},A4f e k m=0→∀ i,k≤i→i < k+m→e i=0
 | 0,k,_,i,h1,h2=>by omega
 | m+1,k,h,i,h1,h2=>by
  unfold A4f at h
  split at h
  ·rename_i hb
   by_cases e:i=k
   ·rw[e];exact hb
   ·exact B0j h i (by omega) (by omega)
  ·rename_i hb
   exact absurd h hb
structure RtV {β:Type}(fs:List FI) (f:List UInt8→β→Int) (x:FI) (v:VI β):Prop where
 fld:fs.find? (isF v.number)=some x
 others:A0t x v=false
 misc:A3p x v=false
 without:A0j x v=false
 bits:∀ n∈v.bits,A2i x.kind n=0
 bytes:∀ l∈v.bytes,A2k x.kind l=0
 subs:∀ s∈v.subs,f x.type s=0
theorem D0l {β:Type}{fs:List FI}{f:List UInt8→β→Int}{v:VI β}{s:Int×List Int}(h:B2w fs f v s=0):∃ x,RtV fs f x v∧s.1 < v.number∧(0 < x.choice→x.choice∉s.2)∧A7w fs v s=(v.number,A5t x s.2):=by
 unfold B2w at h
 split at h
 ·cases h
 ·rename_i x hx
  have e:=B0j h
  have e0:(if decide (v.number≤s.1) then(2:Int) else 0)=0:=e 0 (by omega) (by omega)
  have e1:(if A0t x v then(8:Int) else 0)=0:=e 1 (by omega) (by omega)
  have e2:(if A3p x v then(5:Int) else 0)=0:=e 2 (by omega) (by omega)
  have e3:(if A0j x v then(2:Int) else 0)=0:=e 3 (by omega) (by omega)
  have e4:A0y (A2i x.kind) v.bits=0:=e 4 (by omega) (by omega)
  have e5:A0y (A2k x.kind) v.bytes=0:=e 5 (by omega) (by omega)
  have e6:A0y (f x.type) v.subs=0:=e 6 (by omega) (by omega)
  have e7:(if decide (0 < x.choice∧x.choice∈s.2) then(8:Int) else 0)=0:=e 7 (by omega) (by omega)
  refine⟨x,⟨hx,?_,?_,?_,A3f e4,A3f e5,A3f e6⟩,?_,?_,?_⟩
  ·cases ho:A0t x v with
   | false=>rfl
   | true=>rw[ho] at e1;simp at e1
  ·cases ho:A3p x v with
   | false=>rfl
   | true=>rw[ho] at e2;simp at e2
  ·cases ho:A0j x v with
   | false=>rfl
   | true=>rw[ho] at e3;simp at e3
  ·by_cases hn:v.number≤s.1
   ·rw[if_pos (by simpa using hn)] at e0;cases e0
   ·omega
  ·intro hc hm
   rw[if_pos (by simpa using ⟨hc,hm⟩)] at e7
   cases e7
  ·unfold A7w
   have hx':fs.find? (fun y=>decide (y.number=v.number))=some x:=hx
   rw[hx']
structure RtL {β:Type}(fs:List FI) (f:List UInt8→β→Int) (l:List (VI β)):Prop where
 each:∀ v∈l,∃ x,RtV fs f x v
 rise:l.Pairwise fun a b=>a.number < b.number
 apart:l.Pairwise fun a b=>A0w fs a.number≤0∨A0w fs a.number≠A0w fs b.number
theorem C4f {β:Type}{fs:List FI}{f:List UInt8→β→Int}{x:FI}{v:VI β}(h:RtV fs f x v):A0w fs v.number=x.choice:=by
 have hx':fs.find? (fun y=>decide (y.number=v.number))=some x:=h.fld
 unfold A0w
 rw[hx']
theorem A6j {β:Type}{fs:List FI}{f:List UInt8→β→Int}:∀ {l:List (VI β)}{s:Int×List Int},A3q fs f l s=0→RtL fs f l∧(∀ v∈l,s.1 < v.number)∧∀ v∈l,0 < A0w fs v.number→A0w fs v.number∉s.2
 | [],_,_=>⟨⟨fun _ h=>by simp at h,.nil,.nil⟩,fun _ h=>by simp at h,fun _ h=>by simp at h⟩
 | v::l,s,h=>by
  unfold A3q at h
  split at h
  ·rename_i hv
   obtain⟨x,hx,h1,h2,h3⟩:=D0l hv
   rw[h3] at h
   obtain⟨⟨g1,g2,g3⟩,g4,g5⟩:=A6j h
   have hc:=C4f hx
   refine⟨⟨fun a ha=>?_,.cons (fun a ha=>?_) g2,.cons (fun a ha=>?_) g3⟩,fun a ha=>?_,fun a ha hp=>?_⟩
   ·rcases List.mem_cons.1 ha with rfl|ha
    ·exact⟨x,hx⟩
    ·exact g1 a ha
   ·exact g4 a ha
   ·by_cases hp:A0w fs v.number≤0
    ·exact .inl hp
    ·refine .inr fun e=>?_
     have h6:=g5 a ha (by omega)
     rw[←e,hc] at h6
     rw[hc] at hp
     unfold A5t at h6
     rw[if_pos (by omega)] at h6
     simp at h6
   ·rcases List.mem_cons.1 ha with rfl|ha
    ·exact h1
    ·have:=g4 a ha
     dsimp only at this
     omega
   ·rcases List.mem_cons.1 ha with rfl|ha
    ·rw[hc] at hp ⊢
     exact h2 hp
    ·have h6:=g5 a ha hp
     unfold A5t at h6
     split at h6
     ·simp only[List.mem_append,not_or] at h6
      exact h6.1
     ·exact h6
  ·rename_i hv
   exact absurd h hv
theorem A2g {g:GI}{d:Nat}{k:Int}{fs:List FI}{b:BI (d+1)}(h:A1d g (d+1) k fs b=0):k≤12∧RtL fs (fun name s=>A1d g d (k+1) (A0m g name) s) (BO.vals b)∧∀ r∈BO.unk b,A7l fs r=0:=by
 rw[A2v] at h
 split at h
 ·cases h
 ·split at h
  ·rename_i h1 h2
   exact⟨by omega,(A6j h2).1,A3f h⟩
  ·rename_i h1 h2
   exact absurd h h2
theorem A6c {β:Type}{x:FI}{v:VI β}(h1:A0t x v=false) (h2:A3p x v=false) (hm:x.many=false) (hk:x.kind=10):∃ s,v.subs = [s]:=by
 unfold A0t at h1
 rw[if_neg (by omega),if_pos hk] at h1
 unfold A3p A1i at h2
 rw[hm] at h2
 simp only[decide_eq_false_iff_not,Bool.or_eq_false_iff,Bool.not_false,Bool.and_true] at h1 h2
 exact List.length_eq_one_iff.1 (by omega)
theorem B4m {g:GI}(hsub:D3f g):∀ (d:Nat) (k:Int) (m:MI) (b:BI d),m∈g.msgs→BOk d b→A1d g d k m.fields b=0→ShB g.msgs d m b
 | 0,_,_,b,_,_,_=>nomatch (b:Empty)
 | d+1,k,m,b,hm,hok,h=>by
  obtain⟨_,hr,_⟩:=A2g h
  intro v hv
  obtain⟨x,hx⟩:=hr.each v hv
  refine⟨(hok.1 v hv).1,x,hx.fld,fun h1 h2=>?_⟩
  obtain⟨s,hs⟩:=A6c hx.others hx.misc h1 h2
  obtain⟨m',hm'⟩:=hsub m hm x (List.mem_of_find?_eq_some hx.fld) h2
  have hmm:m'∈g.msgs:=List.mem_of_find?_eq_some hm'
  have hz:=hx.subs s (by rw[hs];exact List.mem_singleton.2 rfl)
  unfold A0m at hz
  rw[hm'] at hz
  exact⟨m',s,hm',hs,B4m hsub d (k+1) m' s hmm ((hok.1 v hv).2.2.2.2.2.1 s (by rw[hs];exact List.mem_singleton.2 rfl)) hz⟩
def VQk {β:Type}(Q : β→Prop) (v:VI β):Prop:=I64 v.number∧(∀ n∈v.bits,n < 18446744073709551616)∧(∀ l∈v.bytes,l.length*1≤reachBytes)∧∀ s∈v.subs,Q s
def BQk:(d:Nat)→BI d→Prop
 | 0=>fun _=>False
 | d+1=>fun b=>(∀ v∈BO.vals b,VQk (BQk d) v)∧∀ r∈BO.unk b,B4u r
theorem C6g:∀ (d:Nat) (b:BI d),BOk d b→BQk d b
 | 0,_,h=>h
 | d+1,b,h=>⟨fun v hv=>⟨(h.1 v hv).1,(h.1 v hv).2.1,(h.1 v hv).2.2.2.1,fun s hs=>C6g d s ((h.1 v hv).2.2.2.2.2.1 s hs)⟩,h.2.2.1⟩
theorem B4p {α:Type}(f : α→Nat){l:List α}{a : α}(h:a∈l):f a≤(l.map f).sum:=by
 induction l with
 | nil=>cases h
 | cons b l ih=>
  simp only[List.map_cons,List.sum_cons]
  rcases List.mem_cons.1 h with rfl|h
  ·omega
  ·have:=ih h;omega
theorem B5x:∀ (d:Nat) (b:BI d),BQk d b→jWB d b≤1000000000→BOk d b
 | 0,_,h,_=>h
 | d+1,b,h,hw=>by
  have hw':((BO.vals b).map (jW (jWB d))).sum+(BO.unk b).length≤1000000000:=hw
  have hl:=A2x (jW (jWB d)) (fun v=>by unfold jW;omega) (BO.vals b)
  refine⟨fun v hv=>?_,by unfold reachBytes;omega,h.2,by unfold reachBytes;omega⟩
  have h1:1+v.bits.length+v.bytes.length+(v.subs.map fun s=>1+jWB d s).sum≤((BO.vals b).map (jW (jWB d))).sum:=B4p (jW (jWB d)) hv
  have h2:=A2x (fun s=>1+jWB d s) (fun _=>by omega) v.subs
  obtain⟨q1,q2,q3,q4⟩:=h.1 v hv
  refine⟨q1,q2,by unfold reachBytes;omega,q3,by unfold reachBytes;omega,fun s hs=>B5x d s (q4 s hs) ?_,by unfold reachBytes;omega⟩
  have:=B4p (fun s=>1+jWB d s) hs
  omega
theorem D0x {β:Type}{Q : β→Prop}{J:MI→β→β→β}(hJ:∀ M s t,Q s→Q t→Q (J M s t)){ms:List MI}{x:FI}{a b:VI β}(ha:VQk Q a) (hb:VQk Q b):VQk Q (A2o J ms x a b):=by
 unfold A2o
 split
 ·refine⟨ha.1,fun n hn=>?_,fun n hn=>?_,fun n hn=>?_⟩
  ·rcases List.mem_append.1 hn with h|h
   ·exact ha.2.1 n h
   ·exact hb.2.1 n h
  ·rcases List.mem_append.1 hn with h|h
   ·exact ha.2.2.1 n h
   ·exact hb.2.2.1 n h
  ·rcases List.mem_append.1 hn with h|h
   ·exact ha.2.2.2 n h
   ·exact hb.2.2.2 n h
 ·split
  ·split
   ·rename_i M s l t m h1 h2 h3
    refine⟨ha.1,ha.2.1,ha.2.2.1,fun n hn=>?_⟩
    rw[List.mem_singleton.1 hn]
    exact hJ M s t (ha.2.2.2 s (by rw[h2];exact List.mem_cons_self ..)) (hb.2.2.2 t (by rw[h3];exact List.mem_cons_self ..))
   ·exact ha
  ·exact hb
theorem C6v {β:Type}{Q : β→Prop}{J:MI→β→β→β}(hJ:∀ M s t,Q s→Q t→Q (J M s t)){ms:List MI}{fs:List FI}{l:List (VI β)}{v:VI β}(hl:∀ a∈l,VQk Q a) (hv:VQk Q v):∀ a∈A2c J ms fs l v,VQk Q a:=by
 intro a ha
 unfold A2c at ha
 split at ha
 ·exact hl a ha
 ·split at ha
  ·rcases A6a ha with rfl|h
   ·exact hv
   ·exact hl a h
  ·rename_i u hu
   rcases A6a ha with rfl|h
   ·exact D0x hJ (hl u (List.mem_of_find?_eq_some hu)) hv
   ·exact hl a h
theorem C4q {β:Type}{Q : β→Prop}{J:MI→β→β→β}(hJ:∀ M s t,Q s→Q t→Q (J M s t)){ms:List MI}{fs:List FI}:∀ (m l:List (VI β)),(∀ a∈l,VQk Q a)→(∀ a∈m,VQk Q a)→∀ a∈m.foldl (A2c J ms fs) l,VQk Q a
 | [],_,hl,_=>hl
 | v::m,l,hl,hm=>C4q hJ m _ (C6v hJ hl (hm v (List.mem_cons_self ..))) fun a ha=>hm a (List.mem_cons_of_mem _ ha)
theorem B3s (ms:List MI):∀ (d:Nat) (M:MI) (a b:BI d),BQk d a→BQk d b→BQk d (jnB ms d M a b)
 | 0,_,_,_,h,_=>h
 | d+1,M,a,b,ha,hb=>⟨C4q (fun M s t=>B3s ms d M s t) _ _ ha.1 hb.1,fun r hr=>by
  have hr':r∈BO.unk a++BO.unk b:=hr
  rcases List.mem_append.1 hr' with h|h
  ·exact ha.2 r h
  ·exact hb.2 r h⟩
theorem D1z {ms:List MI}{d:Nat}{M:MI}{a b:BI d}(ha:BOk d a) (hb:BOk d b) (hw:jWB d a+jWB d b≤1000000000):BOk d (jnB ms d M a b):=
 B5x d _ (B3s ms d M a b (C6g d a ha) (C6g d b hb)) (Nat.le_trans (B2j ms d M a b) hw)
end L
end Go.Proofs.YtcagbdokbnpdfaaGreatDoor
