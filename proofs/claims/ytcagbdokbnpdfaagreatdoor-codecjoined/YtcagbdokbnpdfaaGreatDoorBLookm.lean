import Derived.Test.YtcagbdokbnpdfaaGreatDoorZ22
import Derived.Test.YtcagbdokbnpdfaaGreatDoorZ23
namespace Go.Proofs.YtcagbdokbnpdfaaGreatDoor
namespace L
open Go.RowKit
set_option linter.unusedVariables false
theorem B0i {β:Type}(q:Int→Bool) (n:Int):∀ l:List (VI β),(l.filter fun a=>q a.number).find? (isV n)=if q n then l.find? (isV n) else none
 | []=>by simp
 | a::l=>by
  have ih:=B0i q n l
  by_cases ha:a.number=n
  ·cases hq:q n with
   | true=>
    rw[List.filter_cons_of_pos (by rw[ha];exact hq),List.find?_cons_of_pos (by simp[isV,ha]),if_pos rfl,List.find?_cons_of_pos (by simp[isV,ha])]
   | false=>
    rw[List.filter_cons_of_neg (by rw[ha,hq];simp),ih,hq]
    rfl
  ·rw[List.find?_cons_of_neg (l:=l) (by simp[isV,ha])]
   by_cases hq:q a.number=true
   ·rw[List.filter_cons_of_pos (p:=fun a:VI β=>q a.number) hq,List.find?_cons_of_neg (by simp[isV,ha]),ih]
   ·rw[List.filter_cons_of_neg (p:=fun a:VI β=>q a.number) hq,ih]
theorem B3x {β:Type}{fs:List FI}{x:FI}{l:List (VI β)}{y:VI β}(hx:fs.find? (isF y.number)=some x) (n:Int) :
  (A1x fs x l y).find? (isV n)=if n=y.number then(if A0j x y then none else some y) else if A0o fs x n then none else l.find? (isV n):=by
 have hf:=B0i (fun n=>!A0o fs x n) n l
 have hs:=A6e hx
 unfold A1x
 by_cases hn:n=y.number
 ·rw[if_pos hn]
  subst hn
  rw[hs] at hf
  simp only[Bool.not_true,Bool.false_eq_true,if_false] at hf
  split
  ·exact hf
  ·have h1:∀ k,((l.filter fun a=>!A0o fs x a.number).take k).find? (isV y.number)=none:=fun k=>by
    rw[List.find?_eq_none] at hf ⊢
    exact fun a ha=>hf a (List.mem_of_mem_take ha)
   rw[List.append_assoc,List.find?_append,h1,Option.none_or,List.singleton_append,List.find?_cons_of_pos (by simp[isV])]
 ·rw[if_neg hn]
  have e:(if (!A0o fs x n)=true then l.find? (isV n) else none)=if A0o fs x n then none else l.find? (isV n):=by cases A0o fs x n <;> rfl
  rw[e] at hf
  split
  ·exact hf
  ·rw[←hf,List.append_assoc,List.find?_append,List.singleton_append,List.find?_cons_of_neg (by simp[isV];exact fun h=>hn h.symm),←List.find?_append,List.take_append_drop]
def ouB (fs:List FI) (m n:Int):Bool:=decide (0 < A0w fs m∧A0w fs n=A0w fs m)
theorem A8n {fs:List FI}{m:Int}{x:FI}(hx:fs.find? (isF m)=some x):A0w fs m=x.choice:=by
 have hx':fs.find? (fun y=>decide (y.number=m))=some x:=hx
 unfold A0w
 rw[hx']
theorem A8r {fs:List FI}{m n:Int}{x:FI}(hx:fs.find? (isF m)=some x) (hn:n≠m):A0o fs x n=ouB fs m n:=by
 have hm:=A3x hx
 have hc:=A8n hx
 unfold A0o ouB
 rw[hc,hm]
 by_cases h:x.choice≤0
 ·rw[if_pos h,decide_eq_false hn,decide_eq_false (by omega)]
 ·rw[if_neg h]
  by_cases e:A0w fs n=x.choice
  ·rw[decide_eq_true e,decide_eq_true ⟨by omega,e⟩]
  ·rw[decide_eq_false e,decide_eq_false (fun h=>e h.2)]
def orN {β:Type}(J:MI→β→β→β) (ms:List MI) (x:FI) (u:Option (VI β)) (v:VI β):VI β:=match u with
 | some u=>A2o J ms x u v
 | none=>v
theorem B0s {β:Type}{J:MI→β→β→β}{ms:List MI}{fs:List FI}{x:FI}{l:List (VI β)}{v:VI β}(hx:fs.find? (isF v.number)=some x) (hw:A0j x v=false) (n:Int) :
  (A2c J ms fs l v).find? (isV n)=if n=v.number then some (orN J ms x (l.find? (isV n)) v) else if ouB fs v.number n then none else l.find? (isV n):=by
 have hww:∀ u:VI β,A0j x (A2o J ms x u v)=false:=fun u=>by
  unfold A2o
  by_cases hm:x.many=true
  ·rw[if_pos hm];unfold A0j;rw[if_pos (.inl hm)]
  ·rw[if_neg hm]
   by_cases hk:x.kind=10
   ·rw[if_pos hk];unfold A0j;rw[if_pos (.inr (.inr hk))]
   ·rw[if_neg hk];exact hw
 unfold A2c
 rw[hx]
 cases hu:l.find? (isV v.number) with
 | none=>
  show(A1x fs x l v).find? (isV n)=_
  rw[B3x hx n,hw]
  by_cases hn:n=v.number
  ·rw[if_pos hn,if_pos hn,hn,hu];rfl
  ·rw[if_neg hn,if_neg hn,A8r hx hn]
 | some u=>
  have hun:u.number=v.number:=by have:=List.find?_some hu;simpa [isV] using this
  have hyn:(A2o J ms x u v).number=v.number:=A4p hun
  show(A1x fs x l (A2o J ms x u v)).find? (isV n)=_
  rw[B3x (by rw[hyn];exact hx) n,hww,hyn]
  by_cases hn:n=v.number
  ·rw[if_pos hn,if_pos hn,hn,hu];rfl
  ·rw[if_neg hn,if_neg hn,A8r hx hn]
def B8c {β:Type}(J:MI→β→β→β) (ms:List MI) (fs:List FI) (n:Int) (l m:List (VI β)):Option (VI β):=match m.find? (isV n) with
 | some v=>some (orN J ms ((fs.find? (isF n)).getD ⟨[],0,0,[],false,0⟩) (l.find? (isV n)) v)
 | none=>if m.any (fun v=>ouB fs v.number n) then none else l.find? (isV n)
theorem A7u {β:Type}{J:MI→β→β→β}{ms:List MI}{fs:List FI}{f:List UInt8→β→Int}(n:Int):∀ (m l:List (VI β)),RtL fs f m→
  (m.foldl (A2c J ms fs) l).find? (isV n)=B8c J ms fs n l m
 | [],l,_=>by simp[B8c]
 | v::m,l,h=>by
  obtain⟨x,hx⟩:=h.each v (List.mem_cons_self ..)
  have h':RtL fs f m:=⟨fun a ha=>h.each a (List.mem_cons_of_mem _ ha),(List.pairwise_cons.1 h.rise).2,(List.pairwise_cons.1 h.apart).2⟩
  have hr:=(List.pairwise_cons.1 h.rise).1
  have hap:=(List.pairwise_cons.1 h.apart).1
  rw[List.foldl_cons,A7u n m _ h']
  unfold B8c
  rw[B0s hx.fld hx.without n]
  by_cases hn:n=v.number
  ·have e1:m.find? (isV n)=none:=List.find?_eq_none.2 fun a ha=>by
    have:=hr a ha
    simp[isV]
    omega
   have e2:m.any (fun a=>ouB fs a.number n)=false:=List.any_eq_false.2 fun a ha=>by
    have h3:=hap a ha
    unfold ouB
    rw[hn]
    simp only[decide_eq_true_eq,not_and]
    intro h4 h5
    rcases h3 with h3|h3
    ·omega
    ·exact h3 h5
   rw[e1,List.find?_cons_of_pos (by simp[isV,hn]),if_pos hn]
   simp only[e2,Bool.false_eq_true,if_false]
   rw[hn,hx.fld]
   rfl
  ·rw[if_neg hn,List.find?_cons_of_neg (by simp[isV];exact fun h=>hn h.symm)]
   cases hf:m.find? (isV n) with
   | none=>
    simp only[List.any_cons]
    by_cases h1:ouB fs v.number n=true <;> by_cases h2:(m.any fun v=>ouB fs v.number n)=true <;> simp only[h1,h2,if_true,if_false,Bool.or_true,Bool.false_eq_true,Bool.or_false]
   | some v2=>
    have h2m:=List.mem_of_find?_eq_some hf
    have h2n:v2.number=n:=by have:=List.find?_some hf;simpa [isV] using this
    have e3:ouB fs v.number n=false:=by
     have h3:=hap v2 h2m
     unfold ouB
     rw[←h2n]
     refine decide_eq_false fun h4=>?_
     rcases h3 with h3|h3
     ·omega
     ·exact h3 h4.2.symm
    rw[e3]
    rfl
theorem C5h {g:GI}{d:Nat}{M:MI}{a b:BI (d+1)}{f:List UInt8→BI d→Int}(hb:RtL M.fields f (BO.vals b)) (n:Int) :
  (BO.vals (jnB g.msgs (d+1) M a b)).find? (isV n)=B8c (jnB g.msgs d) g.msgs M.fields n (BO.vals a) (BO.vals b):=
 A7u (J:=jnB g.msgs d) (ms:=g.msgs) n (BO.vals b) (BO.vals a) hb
end L
end Go.Proofs.YtcagbdokbnpdfaaGreatDoor
namespace Go.Proofs.YtcagbdokbnpdfaaGreatDoor
namespace L
open Go.RowKit
set_option linter.unusedVariables false
section
variable {β:Type}{J:MI→β→β→β}{ms:List MI}{fs:List FI}{a b:List (VI β)}{x:FI}
end
end L
end Go.Proofs.YtcagbdokbnpdfaaGreatDoor
namespace Go.Proofs.YtcagbdokbnpdfaaGreatDoor
namespace L
open Go.RowKit
set_option linter.unusedVariables false
theorem C0p {β:Type}:∀ {l m:List (VI β)},(l.Pairwise fun a b=>a.number < b.number)→(m.Pairwise fun a b=>a.number < b.number)→(∀ n,l.find? (isV n)=m.find? (isV n))→l=m
 | [],[],_,_,_=>rfl
 | [],b::m,_,_,h=>by
  have:=h b.number
  rw[List.find?_cons_of_pos (by simp[isV])] at this
  cases this
 | a::l,[],_,_,h=>by
  have:=h a.number
  rw[List.find?_cons_of_pos (by simp[isV])] at this
  cases this
 | a::l,b::m,hl,hm,h=>by
  have ha:=h a.number
  have hb:=h b.number
  rw[List.find?_cons_of_pos (by simp[isV])] at ha
  rw[List.find?_cons_of_pos (l:=m) (by simp[isV])] at hb
  have ma:=List.mem_of_find?_eq_some ha.symm
  have mb:=List.mem_of_find?_eq_some hb
  have hl1:=(List.pairwise_cons.1 hl).1
  have hm1:=(List.pairwise_cons.1 hm).1
  have hab:a=b:=by
   rcases List.mem_cons.1 ma with e|ma'
   ·exact e
   ·rcases List.mem_cons.1 mb with e|mb'
    ·exact e.symm
    ·have h1:=hm1 a ma'
     have h2:=hl1 b mb'
     omega
  subst hab
  congr 1
  refine C0p (List.pairwise_cons.1 hl).2 (List.pairwise_cons.1 hm).2 fun n=>?_
  by_cases hn:a.number=n
  ·have e1:l.find? (isV n)=none:=List.find?_eq_none.2 fun c hc=>by
    have:=hl1 c hc
    simp[isV]
    omega
   have e2:m.find? (isV n)=none:=List.find?_eq_none.2 fun c hc=>by
    have:=hm1 c hc
    simp[isV]
    omega
   rw[e1,e2]
  ·have:=h n
   rwa [List.find?_cons_of_neg (by simp[isV,hn]),List.find?_cons_of_neg (by simp[isV,hn])] at this
section
variable {β:Type}
theorem B2r {y:VI β}:∀ {l:List (VI β)},(l.Pairwise fun a b=>a.number < b.number)→(∀ a∈l,a.number≠y.number)→((l.take (A1f y.number l)++[y]++l.drop (A1f y.number l)).Pairwise fun a b=>a.number < b.number)
 | [],_,_=>by simp[A1f]
 | a::l,h,hn=>by
  have h1:=(List.pairwise_cons.1 h).1
  have h2:=(List.pairwise_cons.1 h).2
  have ha:=hn a (List.mem_cons_self ..)
  by_cases hlt:y.number < a.number
  ·have e:A1f y.number (a::l)=0:=by
    unfold A1f
    rw[List.findIdx?_cons,if_pos (by simpa using hlt)]
    rfl
   rw[e]
   simp only[List.take_zero,List.nil_append,List.drop_zero,List.singleton_append]
   refine .cons (fun b hb=>?_) h
   rcases List.mem_cons.1 hb with rfl|hb
   ·exact hlt
   ·have:=h1 b hb;omega
  ·have e:A1f y.number (a::l)=A1f y.number l+1:=by
    unfold A1f
    rw[List.findIdx?_cons,if_neg (by simpa using hlt)]
    cases l.findIdx? fun v=>decide (y.number < v.number) with
    | none=>rfl
    | some k=>rfl
   rw[e]
   simp only[List.take_succ_cons,List.drop_succ_cons,List.cons_append]
   refine .cons (fun b hb=>?_) (B2r h2 fun b hb=>hn b (List.mem_cons_of_mem _ hb))
   rcases List.mem_append.1 hb with hb|hb
   ·rcases List.mem_append.1 hb with hb|hb
    ·exact h1 b (List.mem_of_mem_take hb)
    ·rw[List.mem_singleton.1 hb];omega
   ·exact h1 b (List.mem_of_mem_drop hb)
theorem B4k {fs:List FI}{x:FI}{l:List (VI β)}{y:VI β}(hx:fs.find? (isF y.number)=some x) (h:l.Pairwise fun a b=>a.number < b.number):(A1x fs x l y).Pairwise fun a b=>a.number < b.number:=by
 have hf:=h.filter (fun a=>!A0o fs x a.number)
 unfold A1x
 split
 ·exact hf
 ·refine B2r hf fun a ha e=>?_
  have:=(List.mem_filter.1 ha).2
  rw[e,A6e hx] at this
  cases this
theorem C6w {J:MI→β→β→β}{ms:List MI}{fs:List FI}{l:List (VI β)}{v:VI β}(h:l.Pairwise fun a b=>a.number < b.number):(A2c J ms fs l v).Pairwise fun a b=>a.number < b.number:=by
 unfold A2c
 split
 ·exact h
 ·rename_i x hx
  split
  ·exact B4k hx h
  ·rename_i u hu
   have hun:u.number=v.number:=by have:=List.find?_some hu;simpa [isV] using this
   exact B4k (by rw[A4p hun];exact hx) h
theorem B0m {J:MI→β→β→β}{ms:List MI}{fs:List FI}:∀ (m l:List (VI β)),(l.Pairwise fun a b=>a.number < b.number)→((m.foldl (A2c J ms fs) l).Pairwise fun a b=>a.number < b.number)
 | [],_,h=>h
 | v::m,_,h=>B0m m _ (C6w h)
theorem B5d {l:List (VI β)}(h:l.Pairwise fun a b=>a.number < b.number){a:VI β}(ha:a∈l):l.find? (isV a.number)=some a:=by
 induction l with
 | nil=>cases ha
 | cons b l ih=>
  rcases List.mem_cons.1 ha with rfl|ha'
  ·exact List.find?_cons_of_pos (by simp[isV])
  ·have:=(List.pairwise_cons.1 h).1 a ha'
   rw[List.find?_cons_of_neg (by simp[isV];omega)]
   exact ih (List.pairwise_cons.1 h).2 ha'
def A9i (fs:List FI) (l:List (VI β)):Prop:=∀ a∈l,∀ b∈l,a.number≠b.number→0 < A0w fs a.number→A0w fs a.number≠A0w fs b.number
theorem A9p {fs:List FI}{l:List (VI β)}(h:l.Pairwise fun a b=>A0w fs a.number≤0∨A0w fs a.number≠A0w fs b.number):A9i fs l:=by
 induction l with
 | nil=>intro a ha;cases ha
 | cons c l ih=>
  have h1:=(List.pairwise_cons.1 h).1
  have h2:=ih (List.pairwise_cons.1 h).2
  intro a ha b hb hne hp e
  rcases List.mem_cons.1 ha with ea|ha'
  ·rcases List.mem_cons.1 hb with eb|hb'
   ·exact hne (by rw[ea,eb])
   ·subst ea
    rcases h1 b hb' with h|h
    ·omega
    ·exact h e
  ·rcases List.mem_cons.1 hb with eb|hb'
   ·subst eb
    rcases h1 a ha' with h|h
    ·omega
    ·exact h e.symm
   ·exact h2 a ha' b hb' hne hp e
theorem C3h {J:MI→β→β→β}{ms:List MI}{fs:List FI}{l:List (VI β)}{v:VI β}(h:A9i fs l):A9i fs (A2c J ms fs l v):=by
 have key:∀ {x:FI}{y:VI β},fs.find? (isF y.number)=some x→A9i fs (A1x fs x l y):=by
  intro x y hx a ha b hb hne hp
  have hmem:∀ c∈A1x fs x l y,c=y∨(c∈l∧A0o fs x c.number=false):=fun c hc=>by
   unfold A1x at hc
   split at hc
   ·exact .inr ⟨(List.mem_filter.1 hc).1,by simpa using (List.mem_filter.1 hc).2⟩
   ·rcases List.mem_append.1 hc with hc|hc
    ·rcases List.mem_append.1 hc with hc|hc
     ·have:=List.mem_filter.1 (List.mem_of_mem_take hc)
      exact .inr ⟨this.1,by simpa using this.2⟩
     ·exact .inl (List.mem_singleton.1 hc)
    ·have:=List.mem_filter.1 (List.mem_of_mem_drop hc)
     exact .inr ⟨this.1,by simpa using this.2⟩
  rcases hmem a ha with rfl|⟨ha,hoa⟩
  ·rcases hmem b hb with rfl|⟨hb,hob⟩
   ·exact absurd rfl hne
   ·rw[A8r hx (fun e=>hne e.symm)] at hob
    intro e
    unfold ouB at hob
    exact(of_decide_eq_false hob) ⟨hp,e.symm⟩
  ·rcases hmem b hb with rfl|⟨hb,hob⟩
   ·rw[A8r hx hne] at hoa
    intro e
    unfold ouB at hoa
    exact(of_decide_eq_false hoa) ⟨by omega,e⟩
   ·exact h a ha b hb hne hp
 unfold A2c
 split
 ·exact h
 ·rename_i x hx
  split
  ·exact key hx
  ·rename_i u hu
   have hun:u.number=v.number:=by have:=List.find?_some hu;simpa [isV] using this
   exact key (by rw[A4p hun];exact hx)
theorem B2e {J:MI→β→β→β}{ms:List MI}{fs:List FI}:∀ (m l:List (VI β)),A9i fs l→A9i fs (m.foldl (A2c J ms fs) l)
 | [],_,h=>h
 | v::m,_,h=>B2e m _ (C3h h)
end
end L
end Go.Proofs.YtcagbdokbnpdfaaGreatDoor
namespace Go.Proofs.YtcagbdokbnpdfaaGreatDoor
namespace L
open Go.RowKit
set_option linter.unusedVariables false
theorem B0v {β:Type}{l:List (VI β)}{n:Int}{v:VI β}(h:l.find? (isV n)=some v):v.number=n:=by have:=List.find?_some h;simpa [isV] using this
theorem C9y {β:Type}{fs:List FI}{f:List UInt8→β→Int}{l:List (VI β)}(h:RtL fs f l){n:Int}{v:VI β}(hv:l.find? (isV n)=some v):∃ x,RtV fs f x v∧fs.find? (isF n)=some x:=by
 obtain⟨x,hx⟩:=h.each v (List.mem_of_find?_eq_some hv)
 exact⟨x,hx,by rw[←B0v hv];exact hx.fld⟩
section
variable {g:GI}{d:Nat}
theorem A3n {x:FI}{M:MI}(h:g.msgs.find? (isN x.type)=some M):A0m g x.type=M.fields:=by
 have h':g.msgs.find? (fun m=>decide (m.name=x.type))=some M:=h
 unfold A0m
 rw[h']
end
end L
end Go.Proofs.YtcagbdokbnpdfaaGreatDoor
namespace Go.Proofs.YtcagbdokbnpdfaaGreatDoor
namespace L
open Go.RowKit
set_option linter.unusedVariables false
def Z5 (n:Int):Prop:=n=0∨n=5
theorem B9l {α:Type}{f : α→Int}:∀ {l:List α},(∀ a∈l,Z5 (f a))→Z5 (A0y f l)
  | [],_=>.inl rfl
  | a::l,h=>by
    unfold A0y
    split
    · exact B9l fun b hb=>h b (List.mem_cons_of_mem _ hb)
    · exact h a (List.mem_cons_self ..)
theorem A4x {α:Type}{f : α→Int}:∀ {l:List α},(∀ a∈l,f a=0)→A0y f l=0
  | [],_=>rfl
  | a::l,h=>by
    unfold A0y
    rw[if_pos (h a (List.mem_cons_self ..))]
    exact A4x fun b hb=>h b (List.mem_cons_of_mem _ hb)
theorem B9m {e:Nat→Int}:∀ {m k:Nat},(∀ i,k≤i→i < k+m→Z5 (e i))→Z5 (A4f e k m)
  | 0,_,_=>.inl rfl
  | m+1,k,h=>by
    unfold A4f
    split
    · exact B9m fun i h1 h2=>h i (by omega) (by omega)
    · exact h k (Nat.le_refl _) (by omega)
structure AlV {β:Type}(fs:List FI) (f:List UInt8→β→Int) (x:FI) (v:VI β):Prop where
  fld:fs.find? (isF v.number)=some x
  others:A0t x v=false
  without:A0j x v=false
  bits:∀ n∈v.bits,A2i x.kind n=0
  bytes:∀ l∈v.bytes,A2k x.kind l=0
  subs:∀ s∈v.subs,Z5 (f x.type s)
theorem RtV.al {β:Type}{fs:List FI}{f:List UInt8→β→Int}{x:FI}{v:VI β}(h:RtV fs f x v):AlV fs f x v:=⟨h.fld,h.others,h.without,h.bits,h.bytes,fun s hs=>.inl (h.subs s hs)⟩
theorem D1i {β:Type}{fs:List FI}{f:List UInt8→β→Int}:∀ {l:List (VI β)}{s:Int×List Int},(∀ v∈l,∃ x,AlV fs f x v)→(l.Pairwise fun a b=>a.number < b.number)→(∀ v∈l,s.1 < v.number)→(∀ v∈l,0 < A0w fs v.number→A0w fs v.number∉s.2)→A9i fs l→Z5 (A3q fs f l s)
  | [],_,_,_,_,_,_=>.inl rfl
  | v::l,s,h,hr,h1,h2,hap=>by
    obtain⟨x,hx⟩:=h v (List.mem_cons_self ..)
    have hc:A0w fs v.number=x.choice:=A8n hx.fld
    have hxf:fs.find? (fun y=>decide (y.number=v.number))=some x:=hx.fld
    have hv:Z5 (B2w fs f v s):=by
      unfold B2w
      rw[hxf]
      refine B9m fun i _ hi=>?_
      match i,hi with
      | 0,_=>
        left
        have:=h1 v (List.mem_cons_self ..)
        show(if decide (v.number≤s.1) then(2:Int) else 0)=0
        rw[if_neg (by simp;omega)]
      | 1,_=>left;show(if A0t x v then(8:Int) else 0)=0;rw[hx.others];rfl
      | 2,_=>show Z5 (if A3p x v then(5:Int) else 0);split;exact .inr rfl;exact .inl rfl
      | 3,_=>left;show(if A0j x v then(2:Int) else 0)=0;rw[hx.without];rfl
      | 4,_=>exact .inl (A4x hx.bits)
      | 5,_=>exact .inl (A4x hx.bytes)
      | 6,_=>exact B9l hx.subs
      | 7,_=>
        left
        show(if decide (0 < x.choice∧x.choice∈s.2) then(8:Int) else 0)=0
        rw[if_neg]
        have:=h2 v (List.mem_cons_self ..)
        rw[hc] at this
        simpa using this
    unfold A3q
    split
    · have hn:A7w fs v s=(v.number,A5t x s.2):=by
        unfold A7w
        rw[hxf]
      rw[hn]
      refine D1i (fun a ha=>h a (List.mem_cons_of_mem _ ha)) (List.pairwise_cons.1 hr).2 (fun a ha=>(List.pairwise_cons.1 hr).1 a ha) (fun a ha hp=>?_) (fun a ha b hb=>hap a (List.mem_cons_of_mem _ ha) b (List.mem_cons_of_mem _ hb))
      have h3:=h2 a (List.mem_cons_of_mem _ ha) hp
      have h4:=(List.pairwise_cons.1 hr).1 a ha
      have h5:=hap a (List.mem_cons_of_mem _ ha) v (List.mem_cons_self ..) (by omega) hp
      unfold A5t
      split
      · simp only[List.mem_append,List.mem_singleton,not_or]
        exact⟨h3,by rw[←hc];exact h5⟩
      · exact h3
    · exact hv
theorem B2p {β:Type}{J:MI→β→β→β}{ms:List MI}{x:FI}{t v:VI β}(h1:A0t x t=false) (h2:A0t x v=false) (hM:x.many=false→x.kind=10→∃ M s1 s2,ms.find? (isN x.type)=some M∧t.subs = [s1]∧v.subs = [s2]):A0t x (A2o J ms x t v)=false:=by
  cases hm:x.many with
  | true=>
    have e:A2o J ms x t v=⟨t.number,t.bits++v.bits,t.bytes++v.bytes,t.subs++v.subs⟩:=by unfold A2o;rw[hm,if_pos rfl]
    rw[e]
    unfold A0t at h1 h2 ⊢
    split
    · rename_i hk;rw[if_pos hk] at h1 h2;simp only[decide_eq_false_iff_not,List.length_append] at h1 h2 ⊢;omega
    · rename_i hk
      rw[if_neg hk] at h1 h2
      split
      · rename_i hk';rw[if_pos hk'] at h1 h2;simp only[decide_eq_false_iff_not,List.length_append] at h1 h2 ⊢;omega
      · rename_i hk';rw[if_neg hk'] at h1 h2;simp only[decide_eq_false_iff_not,List.length_append] at h1 h2 ⊢;omega
  | false=>
    by_cases hk:x.kind=10
    · obtain⟨M,s1,s2,h0,e1,e2⟩:=hM hm hk
      have e:A2o J ms x t v=⟨t.number,t.bits,t.bytes,[J M s1 s2]⟩:=by
        unfold A2o
        rw[hm,if_neg (by simp),if_pos hk,h0,e1,e2]
      rw[e]
      unfold A0t at h1 ⊢
      rw[if_neg (by omega),if_pos hk] at h1 ⊢
      exact h1
    · have e:A2o J ms x t v=v:=by unfold A2o;rw[hm,if_neg (by simp),if_neg hk]
      rw[e];exact h2
theorem B9b {β:Type}{J:MI→β→β→β}{ms:List MI}{x:FI}{t v:VI β}(hw:A0j x v=false):A0j x (A2o J ms x t v)=false:=by
  unfold A2o
  by_cases hm:x.many=true
  · rw[if_pos hm];unfold A0j;rw[if_pos (.inl hm)]
  · rw[if_neg hm]
    by_cases hk:x.kind=10
    · rw[if_pos hk];unfold A0j;rw[if_pos (.inr (.inr hk))]
    · rw[if_neg hk];exact hw
theorem B7y {g:GI}(hrl:(A1c g).1=0):∀ (d:Nat) (k:Int) (m:MI) (a b:BI d),m∈g.msgs→A1d g d k m.fields a=0→A1d g d k m.fields b=0→Z5 (A1d g d k m.fields (jnB g.msgs d m a b))
  | 0,_,_,a,_,_,_,_=>nomatch (a:Empty)
  | d+1,k,m,a,b,hm,ha,hb=>by
    obtain⟨hk,ra,ua⟩:=A2g ha
    obtain⟨_,rb,ub⟩:=A2g hb
    have pa:∀ v∈BO.vals a,0 < v.number:=by
      rw[A2v] at ha
      split at ha
      · cases ha
      · split at ha
        · rename_i h1 h2;exact(A6j h2).2.1
        · rename_i h1 h2;exact absurd ha h2
    have pb:∀ v∈BO.vals b,0 < v.number:=by
      rw[A2v] at hb
      split at hb
      · cases hb
      · split at hb
        · rename_i h1 h2;exact(A6j h2).2.1
        · rename_i h1 h2;exact absurd hb h2
    have hrise:(BO.vals (jnB g.msgs (d+1) m a b)).Pairwise fun a b=>a.number < b.number:=B0m (BO.vals b) _ ra.rise
    have hall:∀ w∈BO.vals (jnB g.msgs (d+1) m a b),(∃ x,AlV m.fields (fun name s=>A1d g d (k+1) (A0m g name) s) x w)∧0 < w.number:=fun w hw=>by
      have hf:=B5d hrise hw
      rw[C5h (g:=g) (a:=a) rb w.number] at hf
      unfold B8c at hf
      cases hB:(BO.vals b).find? (isV w.number) with
      | none=>
        rw[hB] at hf
        simp only at hf
        split at hf
        · cases hf
        · obtain⟨x,hx,_⟩:=C9y ra hf
          exact⟨⟨x,hx.al⟩,pa w (List.mem_of_find?_eq_some hf)⟩
      | some v=>
        obtain⟨x,hxv,hx⟩:=C9y rb hB
        have hwp:0 < w.number:=by rw[←B0v hB];exact pb v (List.mem_of_find?_eq_some hB)
        rw[hB,hx] at hf
        cases hA:(BO.vals a).find? (isV w.number) with
        | none=>
          rw[hA] at hf
          obtain rfl:v=w:=Option.some.inj hf
          exact⟨⟨x,hxv.al⟩,hwp⟩
        | some t=>
          obtain⟨xt,hxt,hxt'⟩:=C9y ra hA
          obtain rfl:xt=x:=by rw[hx] at hxt';exact(Option.some.inj hxt').symm
          rw[hA] at hf
          obtain rfl:A2o (jnB g.msgs d) g.msgs xt t v=w:=Option.some.inj hf
          have hsh:xt.many=false→xt.kind=10→∃ M s1 s2,g.msgs.find? (isN xt.type)=some M∧t.subs = [s1]∧v.subs = [s2]:=fun h1 h2=>by
            obtain⟨M,hM⟩:=A2e hrl m hm xt (List.mem_of_find?_eq_some hx) h2
            obtain⟨s1,e1⟩:=A6c hxt.others hxt.misc h1 h2
            obtain⟨s2,e2⟩:=A6c hxv.others hxv.misc h1 h2
            exact⟨M,s1,s2,hM,e1,e2⟩
          refine⟨⟨xt,by rw[A4p (by rw[B0v hA,←B0v hB])];exact hxv.fld,B2p hxt.others hxv.others hsh,B9b hxv.without,?_,?_,?_⟩,hwp⟩
          all_goals
            cases hmm:xt.many with
            | true=>
              have e:A2o (jnB g.msgs d) g.msgs xt t v=⟨t.number,t.bits++v.bits,t.bytes++v.bytes,t.subs++v.subs⟩:=by unfold A2o;rw[hmm,if_pos rfl]
              rw[e]
              intro n hn
              rcases List.mem_append.1 hn with hn|hn
              · first|exact hxt.bits n hn|exact hxt.bytes n hn|exact .inl (hxt.subs n hn)
              · first|exact hxv.bits n hn|exact hxv.bytes n hn|exact .inl (hxv.subs n hn)
            | false=>
              by_cases hkk:xt.kind=10
              · obtain⟨M,s1,s2,h0,e1,e2⟩:=hsh hmm hkk
                have e:A2o (jnB g.msgs d) g.msgs xt t v=⟨t.number,t.bits,t.bytes,[jnB g.msgs d M s1 s2]⟩:=by
                  unfold A2o
                  rw[hmm,if_neg (by simp),if_pos hkk,h0,e1,e2]
                rw[e]
                intro n hn
                first
                  | exact hxt.bits n hn
                  | exact hxt.bytes n hn
                  | (obtain rfl:=List.mem_singleton.1 hn
                     have z1:=hxt.subs s1 (by rw[e1];exact List.mem_singleton.2 rfl)
                     have z2:=hxv.subs s2 (by rw[e2];exact List.mem_singleton.2 rfl)
                     rw[A3n h0] at z1 z2 ⊢
                     exact B7y hrl d (k+1) M s1 s2 (List.mem_of_find?_eq_some h0) z1 z2)
              · have e:A2o (jnB g.msgs d) g.msgs xt t v=v:=by unfold A2o;rw[hmm,if_neg (by simp),if_neg hkk]
                rw[e]
                intro n hn
                first|exact hxv.bits n hn|exact hxv.bytes n hn|exact .inl (hxv.subs n hn)
    have hz:=D1i (s:=(0,[])) (fun v hv=>(hall v hv).1) hrise (fun v hv=>(hall v hv).2) (fun v hv _=>by simp) (B2e (BO.vals b) _ (A9p ra.apart))
    rw[A2v,if_neg (by omega)]
    split
    · refine .inl (A4x fun r hr=>?_)
      have hr':r∈BO.unk a++BO.unk b:=hr
      rcases List.mem_append.1 hr' with h|h
      · exact ua r h
      · exact ub r h
    · exact hz
def D5n (d:Nat):BI (d+1):=(⟨[],[]⟩:BO (BI d))
theorem C5s {g:GI}{d:Nat}{k:Int}{m:MI}{a:BI (d+1)}(ha:A1d g (d+1) k m.fields a=0):jnB g.msgs (d+1) m (D5n d) a=a:=by
  obtain⟨_,ra,_⟩:=A2g ha
  have hv:(BO.vals a).foldl (A2c (jnB g.msgs d) g.msgs m.fields) []=BO.vals a:=by
    refine C0p (B0m _ _ .nil) ra.rise fun n=>?_
    rw[A7u n (BO.vals a) [] ra]
    unfold B8c
    cases hA:(BO.vals a).find? (isV n) with
    | some v=>rfl
    | none=>simp
  show(⟨(BO.vals a).foldl (A2c (jnB g.msgs d) g.msgs m.fields) [],[]++BO.unk a⟩:BO (BI d))=a
  rw[hv,List.nil_append]
  rfl
end L
end Go.Proofs.YtcagbdokbnpdfaaGreatDoor
