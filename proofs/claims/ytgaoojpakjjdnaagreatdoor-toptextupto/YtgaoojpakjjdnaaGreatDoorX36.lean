import Derived.Test.YtgaoojpakjjdnaaGreatDoorX35
set_option maxHeartbeats 32000000
set_option maxRecDepth 100000
set_option linter.unusedVariables false
namespace Go.Proofs.YtgaoojpakjjdnaaGreatDoor
namespace L
open Go.RowKit
theorem B2m {β:Type}(q:Int→Bool)(n:Int):∀ l:List (VI β),(l.filter fun a=>q a.number).find? (isV n)=if q n then l.find? (isV n) else none
 | []=>by simp
 | a::l=>by
  have ih:=B2m q n l
  by_cases ha:a.number=n
  ·cases hq:q n with
   | true=>
    rw[List.filter_cons_of_pos (by rw[ha];exact hq),List.find?_cons_of_pos (by simp[isV,ha]),if_pos rfl,List.find?_cons_of_pos (by simp[isV,ha])]
   | false=>
    rw[List.filter_cons_of_neg (by rw[ha,hq];simp),ih,hq]
    rfl
  ·rw[List.find?_cons_of_neg (l:=l) (by simp[isV,ha])]
   by_cases hq:q a.number=true
   ·rw[List.filter_cons_of_pos (p:=fun a:VI β=>q a.number) hq,List.find?_cons_of_neg (by simp[isV,ha]),ih]
   ·rw[List.filter_cons_of_neg (p:=fun a:VI β=>q a.number) hq,ih]
theorem B6o {β:Type}{fs:List FI}{x:FI}{l:List (VI β)}{y:VI β}(hx:fs.find? (isF y.number)=some x)(n:Int) :
  (A6v fs x l y).find? (isV n)=if n=y.number then(if A0p x y then none else some y) else if A0m fs x n then none else l.find? (isV n):=by
 have hf:=B2m (fun n=>!A0m fs x n) n l
 have hs:=A9u hx
 unfold A6v
 by_cases hn:n=y.number
 ·rw[if_pos hn]
  subst hn
  rw[hs] at hf
  simp only[Bool.not_true,Bool.false_eq_true,if_false] at hf
  split
  ·exact hf
  ·have h1:∀ k,((l.filter fun a=>!A0m fs x a.number).take k).find? (isV y.number)=none:=fun k=>by
    rw[List.find?_eq_none] at hf ⊢
    exact fun a ha=>hf a (List.mem_of_mem_take ha)
   rw[List.append_assoc,List.find?_append,h1,Option.none_or,List.singleton_append,List.find?_cons_of_pos (by simp[isV])]
 ·rw[if_neg hn]
  have e:(if (!A0m fs x n)=true then l.find? (isV n) else none)=if A0m fs x n then none else l.find? (isV n):=by cases A0m fs x n <;> rfl
  rw[e] at hf
  split
  ·exact hf
  ·rw[←hf,List.append_assoc,List.find?_append,List.singleton_append,List.find?_cons_of_neg (by simp[isV];exact fun h=>hn h.symm),←List.find?_append,List.take_append_drop]
def ouB (fs:List FI)(m n:Int):Bool:=decide (0<A1u fs m∧A1u fs n=A1u fs m)
theorem C4z {fs:List FI}{m:Int}{x:FI}(hx:fs.find? (isF m)=some x):A1u fs m=x.choice:=by
 have ac:fs.find? (fun y=>decide (y.number=m))=some x:=hx
 unfold A1u
 rw[ac]
theorem D0j {fs:List FI}{m n:Int}{x:FI}(hx:fs.find? (isF m)=some x)(hn:n≠m):A0m fs x n=ouB fs m n:=by
 have hm:=A4r hx
 have hc:=C4z hx
 unfold A0m ouB
 rw[hc,hm]
 by_cases h:x.choice≤0
 ·rw[if_pos h,decide_eq_false hn,decide_eq_false (by omega)]
 ·rw[if_neg h]
  by_cases e:A1u fs n=x.choice
  ·rw[decide_eq_true e,decide_eq_true ⟨by omega,e⟩]
  ·rw[decide_eq_false e,decide_eq_false (fun h=>e h.2)]
def orN {β:Type}(J:MI→β→β→β)(ms:List MI)(x:FI)(u:Option (VI β))(v:VI β):VI β:=match u with
 | some u=>A6y J ms x u v
 | none=>v
theorem B8r {β:Type}{J:MI→β→β→β}{ms:List MI}{fs:List FI}{x:FI}{l:List (VI β)}{v:VI β}(hx:fs.find? (isF v.number)=some x)(hw:A0p x v=false)(n:Int) :
  (A4b J ms fs l v).find? (isV n)=if n=v.number then some (orN J ms x (l.find? (isV n)) v) else if ouB fs v.number n then none else l.find? (isV n):=by
 have ah:∀ u:VI β,A0p x (A6y J ms x u v)=false:=fun u=>by
  unfold A6y
  by_cases hm:x.many=true
  ·rw[if_pos hm];unfold A0p;rw[if_pos (.inl hm)]
  ·rw[if_neg hm]
   by_cases hk:x.kind=10
   ·rw[if_pos hk];unfold A0p;rw[if_pos (.inr (.inr hk))]
   ·rw[if_neg hk];exact hw
 unfold A4b
 rw[hx]
 cases hu:l.find? (isV v.number) with
 | none=>
  show(A6v fs x l v).find? (isV n)=_
  rw[B6o hx n,hw]
  by_cases hn:n=v.number
  ·rw[if_pos hn,if_pos hn,hn,hu];rfl
  ·rw[if_neg hn,if_neg hn,D0j hx hn]
 | some u=>
  have ag:u.number=v.number:=by have:=List.find?_some hu;simpa [isV] using this
  have ac:(A6y J ms x u v).number=v.number:=B2y ag
  show(A6v fs x l (A6y J ms x u v)).find? (isV n)=_
  rw[B6o (by rw[ac];exact hx) n,ah,ac]
  by_cases hn:n=v.number
  ·rw[if_pos hn,if_pos hn,hn,hu];rfl
  ·rw[if_neg hn,if_neg hn,D0j hx hn]
def D4m {β:Type}(J:MI→β→β→β)(ms:List MI)(fs:List FI)(n:Int)(l m:List (VI β)):Option (VI β):=match m.find? (isV n) with
 | some v=>some (orN J ms ((fs.find? (isF n)).getD ⟨[],0,0,[],false,0⟩) (l.find? (isV n)) v)
 | none=>if m.any (fun v=>ouB fs v.number n) then none else l.find? (isV n)
theorem B8q {β:Type}{J:MI→β→β→β}{ms:List MI}{fs:List FI}{f:List UInt8→β→Int}(n:Int):∀ (m l:List (VI β)),RtL fs f m→
  (m.foldl (A4b J ms fs) l).find? (isV n)=D4m J ms fs n l m
 | [],l,_=>by simp[D4m]
 | v::m,l,h=>by
  obtain⟨x,hx⟩:=h.each v (List.mem_cons_self ..)
  have h':RtL fs f m:=⟨fun a ha=>h.each a (List.mem_cons_of_mem _ ha),(List.pairwise_cons.1 h.rise).2,(List.pairwise_cons.1 h.apart).2⟩
  have hr:=(List.pairwise_cons.1 h.rise).1
  have hap:=(List.pairwise_cons.1 h.apart).1
  rw[List.foldl_cons,B8q n m _ h']
  unfold D4m
  rw[B8r hx.fld hx.without n]
  by_cases hn:n=v.number
  ·have e1:m.find? (isV n)=none:=List.find?_eq_none.2 fun a ha=>by
    have:=hr a ha
    simp[isV]
    omega
   have e2:m.any (fun a=>ouB fs a.number n)=false:=List.any_eq_false.2 fun a ha=>by
    have h3:=hap a ha
    unfold ouB
    rw[hn]
    simp only[decide_eq_true_eq,not_and]
    intro h4 h5
    rcases h3 with h3|h3
    ·omega
    ·exact h3 h5
   rw[e1,List.find?_cons_of_pos (by simp[isV,hn]),if_pos hn]
   simp only[e2,Bool.false_eq_true,if_false]
   rw[hn,hx.fld]
   rfl
  ·rw[if_neg hn,List.find?_cons_of_neg (by simp[isV];exact fun h=>hn h.symm)]
   cases hf:m.find? (isV n) with
   | none=>
    simp only[List.any_cons]
    by_cases h1:ouB fs v.number n=true <;> by_cases h2:(m.any fun v=>ouB fs v.number n)=true <;> simp only[h1,h2,if_true,if_false,Bool.or_true,Bool.false_eq_true,Bool.or_false]
   | some v2=>
    have ac:=List.mem_of_find?_eq_some hf
    have ag:v2.number=n:=by have:=List.find?_some hf;simpa [isV] using this
    have e3:ouB fs v.number n=false:=by
     have h3:=hap v2 ac
     unfold ouB
     rw[←ag]
     refine decide_eq_false fun h4=>?_
     rcases h3 with h3|h3
     ·omega
     ·exact h3 h4.2.symm
    rw[e3]
    rfl
section
variable {β:Type}{J:MI→β→β→β}{ms:List MI}{fs:List FI}{a b:List (VI β)}{x:FI}
end
theorem C3v {β:Type}:∀ {l m:List (VI β)},(l.Pairwise fun a b=>a.number<b.number)→(m.Pairwise fun a b=>a.number<b.number)→(∀ n,l.find? (isV n)=m.find? (isV n))→l=m
 | [],[],_,_,_=>rfl
 | [],b::m,_,_,h=>by
  have:=h b.number
  rw[List.find?_cons_of_pos (by simp[isV])] at this
  cases this
 | a::l,[],_,_,h=>by
  have:=h a.number
  rw[List.find?_cons_of_pos (by simp[isV])] at this
  cases this
 | a::l,b::m,hl,hm,h=>by
  have ha:=h a.number
  have hb:=h b.number
  rw[List.find?_cons_of_pos (by simp[isV])] at ha
  rw[List.find?_cons_of_pos (l:=m) (by simp[isV])] at hb
  have ma:=List.mem_of_find?_eq_some ha.symm
  have mb:=List.mem_of_find?_eq_some hb
  have ac:=(List.pairwise_cons.1 hl).1
  have ag:=(List.pairwise_cons.1 hm).1
  have hab:a=b:=by
   rcases List.mem_cons.1 ma with e|ma'
   ·exact e
   ·rcases List.mem_cons.1 mb with e|mb'
    ·exact e.symm
    ·have h1:=ag a ma'
     have h2:=ac b mb'
     omega
  subst hab
  congr 1
  refine C3v (List.pairwise_cons.1 hl).2 (List.pairwise_cons.1 hm).2 fun n=>?_
  by_cases hn:a.number=n
  ·have e1:l.find? (isV n)=none:=List.find?_eq_none.2 fun c hc=>by
    have:=ac c hc
    simp[isV]
    omega
   have e2:m.find? (isV n)=none:=List.find?_eq_none.2 fun c hc=>by
    have:=ag c hc
    simp[isV]
    omega
   rw[e1,e2]
  ·have:=h n
   rwa [List.find?_cons_of_neg (by simp[isV,hn]),List.find?_cons_of_neg (by simp[isV,hn])] at this
section
variable {β:Type}
theorem B4x {y:VI β}:∀ {l:List (VI β)},(l.Pairwise fun a b=>a.number<b.number)→(∀ a∈l,a.number≠y.number)→((l.take (A1a y.number l)++[y]++l.drop (A1a y.number l)).Pairwise fun a b=>a.number<b.number)
 | [],_,_=>by simp[A1a]
 | a::l,h,hn=>by
  have h1:=(List.pairwise_cons.1 h).1
  have h2:=(List.pairwise_cons.1 h).2
  have ha:=hn a (List.mem_cons_self ..)
  by_cases hlt:y.number<a.number
  ·have e:A1a y.number (a::l)=0:=by
    unfold A1a
    rw[List.findIdx?_cons,if_pos (by simpa using hlt)]
    rfl
   rw[e]
   simp only[List.take_zero,List.nil_append,List.drop_zero,List.singleton_append]
   refine .cons (fun b hb=>?_) h
   rcases List.mem_cons.1 hb with rfl|hb
   ·exact hlt
   ·have:=h1 b hb;omega
  ·have e:A1a y.number (a::l)=A1a y.number l+1:=by
    unfold A1a
    rw[List.findIdx?_cons,if_neg (by simpa using hlt)]
    cases l.findIdx? fun v=>decide (y.number<v.number) with
    | none=>rfl
    | some k=>rfl
   rw[e]
   simp only[List.take_succ_cons,List.drop_succ_cons,List.cons_append]
   refine .cons (fun b hb=>?_) (B4x h2 fun b hb=>hn b (List.mem_cons_of_mem _ hb))
   rcases List.mem_append.1 hb with hb|hb
   ·rcases List.mem_append.1 hb with hb|hb
    ·exact h1 b (List.mem_of_mem_take hb)
    ·rw[List.mem_singleton.1 hb];omega
   ·exact h1 b (List.mem_of_mem_drop hb)
theorem C3p {fs:List FI}{x:FI}{l:List (VI β)}{y:VI β}(hx:fs.find? (isF y.number)=some x)(h:l.Pairwise fun a b=>a.number<b.number):(A6v fs x l y).Pairwise fun a b=>a.number<b.number:=by
 have hf:=h.filter (fun a=>!A0m fs x a.number)
 unfold A6v
 split
 ·exact hf
 ·refine B4x hf fun a ha e=>?_
  have:=(List.mem_filter.1 ha).2
  rw[e,A9u hx] at this
  cases this
theorem D1r {J:MI→β→β→β}{ms:List MI}{fs:List FI}{l:List (VI β)}{v:VI β}(h:l.Pairwise fun a b=>a.number<b.number):(A4b J ms fs l v).Pairwise fun a b=>a.number<b.number:=by
 unfold A4b
 split
 ·exact h
 ·rename_i x hx
  split
  ·exact C3p hx h
  ·rename_i u hu
   have ac:u.number=v.number:=by have:=List.find?_some hu;simpa [isV] using this
   exact C3p (by rw[B2y ac];exact hx) h
theorem B8k {J:MI→β→β→β}{ms:List MI}{fs:List FI}:∀ (m l:List (VI β)),(l.Pairwise fun a b=>a.number<b.number)→((m.foldl (A4b J ms fs) l).Pairwise fun a b=>a.number<b.number)
 | [],_,h=>h
 | v::m,_,h=>B8k m _ (D1r h)
end
section
variable {g:GI}{d:Nat}
theorem A9m {x:FI}{M:MI}(h:g.msgs.find? (isN x.type)=some M):A1l g x.type=M.fields:=by
 have h':g.msgs.find? (fun m=>decide (m.name=x.type))=some M:=h
 unfold A1l
 rw[h']
end
def Z5 (n:Int):Prop:=n=0∨n=5
structure AlV {β:Type}(fs:List FI) (f:List UInt8→β→Int) (x:FI) (v:VI β):Prop where
  fld:fs.find? (isF v.number)=some x
  others:A1b x v=false
  without:A0p x v=false
  bits:∀ n∈v.bits,A2r x.kind n=0
  bytes:∀ l∈v.bytes,A2h x.kind l=0
  subs:∀ s∈v.subs,Z5 (f x.type s)
theorem RtV.al {β:Type}{fs:List FI}{f:List UInt8→β→Int}{x:FI}{v:VI β}(h:RtV fs f x v):AlV fs f x v:=⟨h.fld,h.others,h.without,h.bits,h.bytes,fun s hs=>.inl (h.subs s hs)⟩
def E3f (d:Nat):BI (d+1):=(⟨[],[]⟩:BO (BI d))
theorem D0a {g:GI}{d:Nat}{k:Int}{m:MI}{a:BI (d+1)}(ha:A2g g (d+1) k m.fields a=0):jnB g.msgs (d+1) m (E3f d) a=a:=by
  obtain⟨_,ra,_⟩:=A5z ha
  have hv:(BO.vals a).foldl (A4b (jnB g.msgs d) g.msgs m.fields) []=BO.vals a:=by
    refine C3v (B8k _ _ .nil) ra.rise fun n=>?_
    rw[B8q n (BO.vals a) [] ra]
    unfold D4m
    cases hA:(BO.vals a).find? (isV n) with
    | some v=>rfl
    | none=>simp
  show(⟨(BO.vals a).foldl (A4b (jnB g.msgs d) g.msgs m.fields) [],[]++BO.unk a⟩:BO (BI d))=a
  rw[hv,List.nil_append]
  rfl
def B5q {α β:Type}(r:Except Int α)(f : α→Except Int β):Except Int β:=match r with
 | .error E=>.error E
 | .ok a=>f a
theorem C4n {α β γ:Type}(r:Except Int α)(f : α→Except Int β)(h : β→Except Int γ):B5q (B5q r f) h=B5q r fun a=>B5q (f a) h:=by cases r <;> rfl
theorem C7u {α:Type}(r:Except Int α):(B5q r fun a=>.ok a)=r:=by cases r <;> rfl
def A7x {β:Type}(a b:VI β):VI β:=⟨a.number,a.bits++b.bits,a.bytes++b.bytes,a.subs++b.subs⟩
theorem C4o {β:Type}(a b c:VI β):A7x (A7x a b) c=A7x a (A7x b c):=by
 unfold A7x
 simp only[List.append_assoc]
theorem B1u {β:Type}(a b:VI β):A1h (A7x a b)=A1h a+A1h b:=by
 unfold A1h A7x
 simp only[List.length_append]
 omega
theorem B8s {β:Type}{J:MI→β→β→β}{ms:List MI}{x:FI}(hm:x.many=true)(a b:VI β):A6y J ms x a b=A7x a b:=by
 unfold A6y
 rw[if_pos hm]
 rfl
theorem B2x {g:GI}{x:FI}(hm:x.many=true):∀ (d:Nat) (a b:VI (BI d)),D2w g d x a b = .ok (A7x a b)
 | 0,a,b=>by
  show Except.ok (A6y (jnB g.msgs 0) g.msgs x a b)=_
  rw[B8s hm]
 | d+1,a,b=>by
  rw[A9r,if_neg (by rw[hm];simp),B8s hm]
theorem C0a {β:Type}{x:FI}(hm:x.many=true)(v:VI β):A0p x v=false:=by
 unfold A0p
 rw[if_pos (.inl hm)]
theorem D9b {β:Type}{fs:List FI}{x:FI}{l:List (VI β)}{y:VI β}(hx:fs.find? (isF y.number)=some x)(y':VI β):A6v fs x (A6v fs x l y) y'=A6v fs x l y':=by
 have e:(A6v fs x l y).filter (fun a=>!A0m fs x a.number)=l.filter fun a=>!A0m fs x a.number:=by
  unfold A6v
  split
  ·rw[List.filter_filter]
   congr 1
   funext a
   simp
  ·rw[List.filter_append,List.filter_append,List.filter_cons_of_neg (by rw[A9u hx];simp),List.filter_nil,List.append_nil,←List.filter_append,List.take_append_drop,List.filter_filter]
   congr 1
   funext a
   simp
 have key:∀ L:List (VI β),L.filter (fun a=>!A0m fs x a.number)=l.filter (fun a=>!A0m fs x a.number)→A6v fs x L y'=A6v fs x l y':=fun L h=>by
  unfold A6v
  rw[h]
 exact key _ e
theorem D6p {g:GI}{n:Nat}{fs:List FI}{x:FI}(b:BO (BI n)){v1 v2:VI (BI n)}(hx:fs.find? (isF v1.number)=some x)(hm:x.many=true)(hn:v2.number=v1.number)(h1:A1h v1≠0)(h2:A1h v2≠0) :
  A2b g n fs x b (A7x v1 v2)=B5q (A2b g n fs x b v1) fun b'=>A2b g n fs x b' v2:=by
 have key:∀ y:VI (BI n),y.number=v1.number→A2b g n fs x ⟨A6v fs x b.vals y,b.unk⟩ v2=if 60<A1h (A7x y v2) then .error 5 else .ok ⟨A6v fs x b.vals (A7x y v2),b.unk⟩:=by
  intro y hy
  have ac:fs.find? (isF y.number)=some x:=by rw[hy];exact hx
  have hl:=B6o (l:=b.vals) ac y.number
  rw[if_pos rfl,C0a hm,if_neg (by simp),hy,←hn] at hl
  unfold A2b
  rw[if_neg h2]
  dsimp only
  rw[hl]
  dsimp only
  rw[B2x hm]
  dsimp only
  rw[D9b ac]
 have hs:A1h (A7x v1 v2)≠0:=by rw[B1u];omega
 have e1:(A7x v1 v2).number=v1.number:=rfl
 cases hf:b.vals.find? (isV v1.number) with
 | none=>
  have w1:A2b g n fs x b v1=if 60<A1h v1 then .error 5 else .ok ⟨A6v fs x b.vals v1,b.unk⟩:=by
   unfold A2b
   rw[if_neg h1,hf]
  have w2:A2b g n fs x b (A7x v1 v2)=if 60<A1h (A7x v1 v2) then .error 5 else .ok ⟨A6v fs x b.vals (A7x v1 v2),b.unk⟩:=by
   unfold A2b
   rw[if_neg hs,e1,hf]
  rw[w1,w2]
  by_cases h60:60<A1h v1
  ·rw[if_pos h60,if_pos (by rw[B1u];omega)]
   rfl
  ·rw[if_neg h60]
   exact(key v1 rfl).symm
 | some u=>
  have hu:u.number=v1.number:=by have:=List.find?_some hf;simpa [isV] using this
  have w1:A2b g n fs x b v1=if 60<A1h (A7x u v1) then .error 5 else .ok ⟨A6v fs x b.vals (A7x u v1),b.unk⟩:=by
   unfold A2b
   rw[if_neg h1,hf]
   dsimp only
   rw[B2x hm]
  have w2:A2b g n fs x b (A7x v1 v2)=if 60<A1h (A7x (A7x u v1) v2) then .error 5 else .ok ⟨A6v fs x b.vals (A7x (A7x u v1) v2),b.unk⟩:=by
   unfold A2b
   rw[if_neg hs,e1,hf]
   dsimp only
   rw[B2x hm,C4o]
  rw[w1,w2]
  by_cases h60:60<A1h (A7x u v1)
  ·rw[if_pos h60,if_pos (by rw[B1u];omega)]
   rfl
  ·rw[if_neg h60]
   exact(key (A7x u v1) hu).symm
def A7v {n:Nat}(g:GI)(fs:List FI)(x:FI):BO (BI n)→List (VI (BI n))→Except Int (BO (BI n))
 | b,[]=>.ok b
 | b,v::vs=>B5q (A2b g n fs x b v) fun b'=>A7v g fs x b' vs
theorem B7k {g:GI}{n:Nat}{fs:List FI}{x:FI}:∀ (vs:List (VI (BI n))) (v:VI (BI n)) (b:BO (BI n)),fs.find? (isF v.number)=some x→(vs≠[]→x.many=true)→A1h v≠0→(∀ u∈vs,u.number=v.number∧A1h u≠0)→A7v g fs x b (v::vs)=A2b g n fs x b (vs.foldl A7x v)
 | [],v,b,_,_,_,_=>C7u _
 | u::vs,v,b,hx,hm,h0,h=>by
  obtain⟨h1,h2⟩:=h u (List.mem_cons_self ..)
  have ag:=hm (by simp)
  have e:A7v g fs x b (v::u::vs)=A7v g fs x b (A7x v u::vs):=by
   have ha:=D6p (g:=g) b hx ag h1 h0 h2
   show(B5q (A2b g n fs x b v) fun b'=>B5q (A2b g n fs x b' u) fun ac=>A7v g fs x ac vs)=B5q (A2b g n fs x b (A7x v u)) fun ac=>A7v g fs x ac vs
   rw[ha,C4n]
  rw[e,B7k vs (A7x v u) b hx (fun _=>ag) (by rw[B1u];omega) (fun q hq=>h q (List.mem_cons_of_mem _ hq))]
  rfl
theorem B0u {α:Type}{g:GI}{n:Nat}{rd:List UInt8→List UInt8→Except Int (BI n)}{fs:List FI}{x:FI}{R : α→RI}{V : α→VI (BI n)}(hx:∀ a,fs.find? (isF (R a).number)=some x):∀ (l:List α),(∀ a∈l,A4m rd x (R a) = .ok (V a))→∀ (rest:List RI) (b:BO (BI n)) (un:List RI),
  A1p g rd fs (l.map R++rest) b un=B5q (A7v g fs x b (l.map V)) fun b'=>A1p g rd fs rest b' un
 | [],_,_,_,_=>rfl
 | a::l,h,rest,b,un=>by
  have ht:=h a (List.mem_cons_self ..)
  rw[List.map_cons,List.cons_append,List.map_cons]
  show _=B5q (B5q (A2b g n fs x b (V a)) fun b'=>A7v g fs x b' (l.map V)) fun b'=>A1p g rd fs rest b' un
  cases hw:A2b g n fs x b (V a) with
  | error E=>
   rw[A6w (hx a) ht hw]
   rfl
  | ok b'=>
   rw[A9x (hx a) ht hw]
   exact B0u hx l (fun q hq=>h q (List.mem_cons_of_mem _ hq)) rest b' un
theorem B4y {g:GI}{n:Nat}{rd:List UInt8→List UInt8→Except Int (BI n)}{fs:List FI}{r:RI}{rs:List RI}{b:BO (BI n)}{un:List RI}{x:FI}{v:VI (BI n)}(h:fs.find? (isF r.number)=some x)(ht:A4m rd x r = .ok v):A1p g rd fs (r::rs) b un=B5q (A2b g n fs x b v) fun b'=>A1p g rd fs rs b' un:=by
 cases hw:A2b g n fs x b v with
 | error E=>exact A6w h ht hw
 | ok b'=>exact A9x h ht hw
theorem B2a {β:Type}{f : β→List UInt8×Int}:∀ (l:List β) (acc:List (List UInt8)),(A5q f acc l).2=0→(A5q f acc l).1=acc++l.map (fun b=>(f b).1)∧∀ b∈l,(f b).2=0
 | [],acc,_=>⟨by simp[A5q],fun _ h=>by cases h⟩
 | b::l,acc,h=>by
  unfold A5q at h ⊢
  by_cases h1:(f b).2≠0
  ·rw[if_pos h1] at h;exact absurd h h1
  ·rw[if_neg h1] at h ⊢
   obtain⟨e1,e2⟩:=B2a l _ h
   refine⟨by rw[e1];simp,fun c hc=>?_⟩
   rcases List.mem_cons.1 hc with rfl|hc
   ·exact Decidable.not_not.1 h1
   ·exact e2 c hc
theorem B4r {β:Type}(k:Int):∀ (zs:List (List UInt8)) (ys:List (List UInt8)),(zs.map fun z=>(⟨k,[],[z],[]⟩:VI β)).foldl A7x ⟨k,[],ys,[]⟩=⟨k,[],ys++zs,[]⟩
 | [],ys=>by simp
 | z::zs,ys=>by
  rw[List.map_cons,List.foldl_cons]
  show(zs.map fun z=>(⟨k,[],[z],[]⟩:VI β)).foldl A7x ⟨k,[],ys++[z],[]⟩=_
  rw[B4r k zs,List.append_assoc]
  rfl
theorem B8l {β:Type}(k:Int):∀ (zs:List β) (ys:List β),(zs.map fun z=>(⟨k,[],[],[z]⟩:VI β)).foldl A7x ⟨k,[],[],ys⟩=⟨k,[],[],ys++zs⟩
 | [],ys=>by simp
 | z::zs,ys=>by
  rw[List.map_cons,List.foldl_cons]
  show(zs.map fun z=>(⟨k,[],[],[z]⟩:VI β)).foldl A7x ⟨k,[],[],ys++[z]⟩=_
  rw[B8l k zs,List.append_assoc]
  rfl
theorem B1v {β:Type}{x:FI}{v:VI β}(h:A5h x v=false):1≤A1h v∧A1h v≤60∧(1<A1h v→x.many=true):=by
 unfold A5h at h
 simp only[Bool.or_eq_false_iff,Bool.and_eq_false_iff,decide_eq_false_iff_not,Bool.not_eq_eq_eq_not,Bool.not_false] at h
 obtain⟨h1,h2,h3⟩:=h
 refine⟨by omega,by omega,fun h4=>?_⟩
 rcases h3 with h3|h3
 ·omega
 ·exact h3
theorem D5r {β:Type}{x:FI}{v:VI β}(h:A1b x v=false)(hk:x.kind=8∨x.kind=9):v.bits = []∧v.subs = []:=by
 unfold A1b at h
 rw[if_pos hk] at h
 simp only[decide_eq_false_iff_not] at h
 exact⟨List.eq_nil_of_length_eq_zero (by omega),List.eq_nil_of_length_eq_zero (by omega)⟩
theorem D1h {β:Type}{x:FI}{v:VI β}(h:A1b x v=false)(hk:x.kind=10):v.bits = []∧v.bytes = []:=by
 unfold A1b at h
 rw[if_neg (by omega),if_pos hk] at h
 simp only[decide_eq_false_iff_not] at h
 exact⟨List.eq_nil_of_length_eq_zero (by omega),List.eq_nil_of_length_eq_zero (by omega)⟩
theorem D1g {β:Type}{x:FI}{v:VI β}(h:A1b x v=false)(h8:¬ (x.kind=8∨x.kind=9))(hk:¬ x.kind=10):v.bytes = []∧v.subs = []:=by
 unfold A1b at h
 rw[if_neg h8,if_neg hk] at h
 simp only[decide_eq_false_iff_not] at h
 exact⟨List.eq_nil_of_length_eq_zero (by omega),List.eq_nil_of_length_eq_zero (by omega)⟩
theorem C9f {k:Int}(h8:k=8∨k=9):A2e k=2:=by unfold A2e;rcases h8 with h|h <;> simp[h]
theorem D4b {k:Int}(h:A2e k=2)(h10:¬ k=10):k=8∨k=9:=by
 unfold A2e at h
 split at h
 ·cases h
 ·split at h
  ·cases h
  ·split at h
   ·omega
   ·cases h
theorem D1a {g:GI}{n:Nat}{rd:List UInt8→List UInt8→Except Int (BI n)}{fs:List FI}{f:List UInt8→BI n→Int}{x:FI}{v:VI (BI n)}{deep:List UInt8→BI n→List UInt8×Int}(hv:RtV fs f x v)(hb:∀ m∈v.bits,m<18446744073709551616)
  (hd:∀ s∈v.subs,(deep x.type s).2=0→rd x.type (deep x.type s).1 = .ok s) (h0:(A3e deep x v).2=0) (rest:List RI) (b:BO (BI n)) (un:List RI) :
  A1p g rd fs ((A3e deep x v).1++rest) b un=B5q (A2b g n fs x b v) fun b'=>A1p g rd fs rest b' un:=by
 have bp:=A4r hv.fld
 obtain⟨m1,bq,mm⟩:=B1v hv.misc
 obtain⟨k,bi,ac,su⟩:=v
 have ah:x.number=k:=bp
 have ak:fs.find? (isF k)=some x:=hv.fld
 unfold A3e at h0 ⊢
 by_cases h10:x.kind=10
 ·rw[if_pos h10] at h0 ⊢
  obtain⟨e1,e2⟩:=D1h hv.others h10
  have e1:bi = []:=e1
  have e2:ac = []:=e2
  subst e1 e2
  obtain⟨q1,q2⟩:=B2a su [] h0
  dsimp only at h0 q1 ⊢
  rw[q1,List.nil_append,List.map_map]
  have aj:∀ s∈su,A4m rd x ((B7b x.number∘fun s=>(deep x.type s).1) s) = .ok ⟨k,[],[],[s]⟩:=fun s hs=>by
   have hr:=hd s hs (q2 s hs)
   unfold A4m
   rw[if_neg (by rw[h10];decide),if_neg (by show ¬ (2:Int)≠2;simp),if_pos h10]
   show(match rd x.type (deep x.type s).1 with|.error E=>Except.error E|.ok s=>Except.ok (⟨x.number,[],[],[s]⟩:VI (BI n)))=_
   rw[hr,ah]
  rw[B0u (V:=fun s=>⟨k,[],[],[s]⟩) (fun a=>by show fs.find? (isF x.number)=some x;rw[ah];exact ak) su aj]
  have a8:1≤su.length∧(1<su.length→x.many=true):=by
   have e:A1h (⟨k,[],[],su⟩:VI (BI n))=su.length:=by simp[A1h]
   rw[e] at m1 mm
   exact⟨m1,mm⟩
  cases su with
  | nil=>simp at a8
  | cons s ss=>
   rw[List.map_cons,B7k _ _ _ (by exact ak) (fun hne=>a8.2 (by
    cases ss with
    | nil=>simp at hne
    | cons _ _=>simp)) (by simp[A1h]) (fun u hu=>by
     obtain⟨z,_,rfl⟩:=List.mem_map.1 hu
     exact⟨rfl,by simp[A1h]⟩),B8l]
   rfl
 ·rw[if_neg h10] at h0 ⊢
  by_cases hh2:A2e x.kind=2
  ·rw[if_pos hh2] at h0 ⊢
   have bg:=D4b hh2 h10
   obtain⟨e1,e2⟩:=D5r hv.others bg
   have e1:bi = []:=e1
   have e2:su = []:=e2
   subst e1 e2
   have aj:∀ z∈ac,A4m rd x (B7b x.number z) = .ok ⟨k,[],[z],[]⟩:=fun z hz=>by
    have au:=hv.bytes z hz
    unfold A4m
    rw[if_neg (by rw[hh2];simp),if_neg (by show ¬ (2:Int)≠2;simp),if_neg h10,if_neg,ah]
    ·rfl
    ·rintro⟨a1,a2⟩
     unfold A2h at au
     split at au
     ·cases au
     ·rw[if_pos ⟨a1,a2⟩] at au
      cases au
   dsimp only
   rw[B0u (R:=B7b x.number) (V:=fun z=>⟨k,[],[z],[]⟩) (fun a=>by show fs.find? (isF x.number)=some x;rw[ah];exact ak) ac aj]
   have a8:1≤ac.length∧(1<ac.length→x.many=true):=by
    have e:A1h (⟨k,[],ac,[]⟩:VI (BI n))=ac.length:=by simp[A1h]
    rw[e] at m1 mm
    exact⟨m1,mm⟩
   cases ac with
   | nil=>simp at a8
   | cons s ss=>
    rw[List.map_cons,B7k _ _ _ (by exact ak) (fun hne=>a8.2 (by
     cases ss with
     | nil=>simp at hne
     | cons _ _=>simp)) (by simp[A1h]) (fun u hu=>by
      obtain⟨z,_,rfl⟩:=List.mem_map.1 hu
      exact⟨rfl,by simp[A1h]⟩),B4r]
    rfl
  ·rw[if_neg hh2] at h0 ⊢
   have bg:¬ (x.kind=8∨x.kind=9):=fun h=>hh2 (C9f h)
   obtain⟨e1,e2⟩:=D1g hv.others bg h10
   have e1:ac = []:=e1
   have e2:su = []:=e2
   subst e1 e2
   have bh:=B6h hh2
   have aw:∀ m∈bi,A2r x.kind m=0:=hv.bits
   have hb:∀ m∈bi,m<18446744073709551616:=hb
   have ag:∀ m∈bi,A4w x.kind (A4o x.kind m)=m:=fun m hm=>D6d (hb m hm) (aw m hm)
   by_cases hmx:x.many=true
   ·rw[if_pos hmx] at h0 ⊢
    have ht:A4m rd x (B7b x.number (packedN (A2e x.kind) (bi.map (A4o x.kind)))) = .ok ⟨k,bi,[],[]⟩:=by
     have hu:unpR (A2e x.kind) (packedN (A2e x.kind) (bi.map (A4o x.kind)))=(bi.map (A4o x.kind),0):=B7i bh fun q hq=>by
      obtain⟨m,hm,rfl⟩:=List.mem_map.1 hq
      exact⟨B2f _ _ (by have:=hb m hm;omega),fun h5=>B4k (aw m hm) h5⟩
     have bk:tnN x (B7b x.number (packedN (A2e x.kind) (bi.map (A4o x.kind))))=(bi,0):=by
      unfold tnN
      rw[if_neg (by show ¬ (2:Int)=A2e x.kind;exact fun e=>hh2 e.symm),if_pos ⟨rfl,hmx⟩]
      show((unpR (A2e x.kind) (packedN (A2e x.kind) (bi.map (A4o x.kind)))).1.map (A4w x.kind),(unpR (A2e x.kind) (packedN (A2e x.kind) (bi.map (A4o x.kind)))).2)=_
      rw[hu]
      dsimp only
      rw[List.map_map,show bi.map (A4w x.kind∘A4o x.kind)=bi from (List.map_congr_left (fun m hm=>ag m hm)).trans (List.map_id _)]
     unfold A4m
     rw[if_pos hh2,bk,if_pos rfl,ah]
    show A1p g rd fs ([B7b x.number (packedN (A2e x.kind) (bi.map (A4o x.kind)))]++rest) b un=_
    rw[List.singleton_append,B4y (by show fs.find? (isF x.number)=some x;rw[ah];exact ak) ht]
   ·rw[if_neg hmx] at h0 ⊢
    obtain⟨q,rfl⟩:∃ q,bi = [q]:=by
     have e:A1h (⟨k,bi,[],[]⟩:VI (BI n))=bi.length:=by simp[A1h]
     rw[e] at m1 mm
     exact List.length_eq_one_iff.1 (by
      rcases Nat.lt_or_ge 1 bi.length with h|h
      ·exact absurd (mm h) hmx
      ·omega)
    have ht:A4m rd x ⟨x.number,A2e x.kind,A4o x.kind q,[]⟩ = .ok ⟨k,[q],[],[]⟩:=by
     unfold A4m tnN
     rw[if_pos hh2,if_pos rfl]
     dsimp only
     rw[if_pos rfl,ag q (by simp),ah]
    show A1p g rd fs ([⟨x.number,A2e x.kind,A4o x.kind q,[]⟩]++rest) b un=_
    rw[List.singleton_append,B4y (by show fs.find? (isF x.number)=some x;rw[ah];exact ak) ht]
theorem B1y {β:Type}{deep:List UInt8→β→List UInt8×Int}{fs:List FI}:∀ (l:List (VI β)) (acc:List RI),(A2v deep fs acc l).2=0→(A2v deep fs acc l).1=acc++l.flatMap (fun v=>(A3e deep (A0h fs v.number) v).1)∧∀ v∈l,(A3e deep (A0h fs v.number) v).2=0
 | [],acc,_=>⟨by simp[A2v],fun _ h=>by cases h⟩
 | v::l,acc,h=>by
  unfold A2v at h ⊢
  by_cases h1:(A3e deep (A0h fs v.number) v).2≠0
  ·rw[if_pos h1] at h;exact absurd h h1
  ·rw[if_neg h1] at h ⊢
   obtain⟨e1,e2⟩:=B1y l _ h
   refine⟨by rw[e1];simp,fun c hc=>?_⟩
   rcases List.mem_cons.1 hc with rfl|hc
   ·exact Decidable.not_not.1 h1
   ·exact e2 c hc
def B5e {n:Nat}(g:GI)(fs:List FI):BO (BI n)→List (VI (BI n))→Except Int (BO (BI n))
 | b,[]=>.ok b
 | b,v::vs=>B5q (A2b g n fs (A0h fs v.number) b v) fun b'=>B5e g fs b' vs
theorem B3k {g:GI}{n:Nat}{rd:List UInt8→List UInt8→Except Int (BI n)}{fs:List FI}{f:List UInt8→BI n→Int}{deep:List UInt8→BI n→List UInt8×Int}:∀ (l:List (VI (BI n))),(∀ v∈l,∃ x,RtV fs f x v)→(∀ v∈l,∀ m∈v.bits,m<18446744073709551616)→
  (∀ v∈l,∀ s∈v.subs,(deep (A0h fs v.number).type s).2=0→rd (A0h fs v.number).type (deep (A0h fs v.number).type s).1 = .ok s)→(∀ v∈l,(A3e deep (A0h fs v.number) v).2=0)→∀ (rest:List RI) (b:BO (BI n)) (un:List RI),
  A1p g rd fs (l.flatMap (fun v=>(A3e deep (A0h fs v.number) v).1)++rest) b un=B5q (B5e g fs b l) fun b'=>A1p g rd fs rest b' un
 | [],_,_,_,_,_,_,_=>rfl
 | v::l,h1,h2,h3,h4,rest,b,un=>by
  obtain⟨x,hx⟩:=h1 v (List.mem_cons_self ..)
  have ex:=A4k hx.fld
  have ac:=h3 v (List.mem_cons_self ..)
  have ag:=h4 v (List.mem_cons_self ..)
  rw[ex] at ac ag
  rw[List.flatMap_cons,List.append_assoc,ex,D1a hx (h2 v (List.mem_cons_self ..)) ac ag]
  show _=B5q (B5q (A2b g n fs (A0h fs v.number) b v) fun b'=>B5e g fs b' l) fun b'=>A1p g rd fs rest b' un
  rw[ex]
  cases hw:A2b g n fs x b v with
  | error E=>rfl
  | ok b'=>exact B3k l (fun q hq=>h1 q (List.mem_cons_of_mem _ hq)) (fun q hq=>h2 q (List.mem_cons_of_mem _ hq)) (fun q hq=>h3 q (List.mem_cons_of_mem _ hq)) (fun q hq=>h4 q (List.mem_cons_of_mem _ hq)) rest b' un
theorem B0z {fs:List FI}{r:RI}(h:B1l fs r=0):A1c r.number r.how r.bits r.bytes.length=0∧fs.find? (isF r.number)=none:=by
 unfold B1l at h
 split at h
 ·rename_i h1
  refine⟨h1,?_⟩
  split at h
  ·cases h
  ·rename_i h2
   unfold A0g at h2
   cases hf:fs.findIdx? (fun f=>decide (f.number=r.number)) with
   | some j=>rw[hf] at h2;exact absurd (by simp) h2
   | none=>
    rw[List.findIdx?_eq_none_iff] at hf
    exact List.find?_eq_none.2 fun y hy=>by
     have:=hf y hy
     simpa [isF] using this
 ·rename_i h1
  exact absurd h h1
theorem B3j {g:GI}{n:Nat}{rd:List UInt8→List UInt8→Except Int (BI n)}{fs:List FI}:∀ (l:List RI),(∀ r∈l,fs.find? (isF r.number)=none)→∀ (b:BO (BI n)) (un:List RI),A1p g rd fs l b un = .ok ⟨b.vals,un++l⟩
 | [],_,b,un=>by rw[List.append_nil];rfl
 | r::l,h,b,un=>by
  rw[A8v (h r (List.mem_cons_self ..)),B3j l (fun q hq=>h q (List.mem_cons_of_mem _ hq)),List.append_assoc]
  rfl
theorem D6q {g:GI}{n:Nat}{fs:List FI}{f:List UInt8→BI n→Int}{x:FI}{v:VI (BI n)}{b:BO (BI n)}(hv:RtV fs f x v)(hf:b.vals.find? (isV v.number)=none):A2b g n fs x b v = .ok ⟨A4b (jnB g.msgs n) g.msgs fs b.vals v,b.unk⟩:=by
 obtain⟨h1,h2,_⟩:=B1v hv.misc
 unfold A2b A4b
 rw[if_neg (by omega),hf,hv.fld]
 dsimp only
 rw[if_neg (by omega)]
theorem B5f {g:GI}{n:Nat}{fs:List FI}{f:List UInt8→BI n→Int}:∀ (l:List (VI (BI n))) (b:BO (BI n)),RtL fs f l→(∀ v∈l,b.vals.find? (isV v.number)=none)→B5e g fs b l = .ok ⟨l.foldl (A4b (jnB g.msgs n) g.msgs fs) b.vals,b.unk⟩
 | [],_,_,_=>rfl
 | v::l,b,h,hn=>by
  obtain⟨x,hx⟩:=h.each v (List.mem_cons_self ..)
  have h':RtL fs f l:=⟨fun a ha=>h.each a (List.mem_cons_of_mem _ ha),(List.pairwise_cons.1 h.rise).2,(List.pairwise_cons.1 h.apart).2⟩
  unfold B5e
  rw[A4k hx.fld,D6q hx (hn v (List.mem_cons_self ..))]
  show B5e g fs _ l=_
  rw[B5f l _ h' (fun a ha=>by
   have hr:=(List.pairwise_cons.1 h.rise).1 a ha
   show(A4b (jnB g.msgs n) g.msgs fs b.vals v).find? (isV a.number)=none
   rw[B8r hx.fld hx.without a.number,if_neg (by omega),hn a (List.mem_cons_of_mem _ ha)]
   split <;> rfl)]
  rfl
theorem C6t {β:Type}{deep:List UInt8→β→List UInt8×Int}{x:FI}{v:VI β}(hb:∀ m∈v.bits,m<18446744073709551616):∀ r∈(A3e deep x v).1,r.bits≤18446744073709551615:=by
 intro r hr
 unfold A3e at hr
 split at hr
 ·obtain⟨z,_,rfl⟩:=List.mem_map.1 hr
  exact Nat.zero_le _
 ·split at hr
  ·obtain⟨z,_,rfl⟩:=List.mem_map.1 hr
   exact Nat.zero_le _
  ·split at hr
   ·rw[List.mem_singleton.1 hr]
    exact Nat.zero_le _
   ·rw[List.mem_singleton.1 hr]
    show A4o x.kind (v.bits.headD 0)≤_
    cases hbi:v.bits with
    | nil=>exact B2f _ _ (by simp)
    | cons a l=>exact B2f _ _ (by have:=hb a (by rw[hbi];simp);simp only[List.headD_cons];omega)
theorem C9u {g:GI}{t:List UInt8}{m:MI}(h:g.msgs.find? (isN t)=some m):msgD g t=m:=by
 unfold msgD
 rw[h]
 rfl
theorem D0w {g:GI}{n:Nat}{m:MI}{l:List UInt8}{rs:List RI}{A:Nat}(hp:A2n l=(rs.map D7l,0,A)):A5u g (n+1) m l=A1p g (fun t l=>A5u g n (msgD g t) l) m.fields rs ⟨[],[]⟩ []:=by
 rw[B6z hp,E1z]
theorem B7l {g:GI}{n:Nat}{m:MI}{x:BI (n+1)}(h:(A1t g (n+1) m x).2=0):(∀ v∈BO.vals x,(A3e (fun t x=>A1t g n (A4f g t) x) (A0h m.fields v.number) v).2=0)∧
  (A1t g (n+1) m x)=A9f [] ((BO.vals x).flatMap (fun v=>(A3e (fun t x=>A1t g n (A4f g t) x) (A0h m.fields v.number) v).1)++BO.unk x):=by
 have e:A1t g (n+1) m x=A9c (fun t x=>A1t g n (A4f g t) x) m x:=rfl
 rw[e] at h ⊢
 unfold A9c at h ⊢
 by_cases h1:(A2v (fun t x=>A1t g n (A4f g t) x) m.fields [] (BO.vals x)).2≠0
 ·rw[if_pos h1] at h;exact absurd h h1
 ·rw[if_neg h1] at h ⊢
  obtain⟨e1,e2⟩:=B1y _ _ (Decidable.not_not.1 h1)
  rw[e1,List.nil_append]
  exact⟨e2,rfl⟩
theorem B5h {g:GI}{n:Nat}{m:MI}{x:BI (n+1)}(hq:BQk (n+1) x)(h:(A1t g (n+1) m x).2=0):A2n (A1t g (n+1) m x).1=(((BO.vals x).flatMap (fun v=>(A3e (fun t x=>A1t g n (A4f g t) x) (A0h m.fields v.number) v).1)++BO.unk x).map D7l,0,0):=by
 obtain⟨_,e⟩:=B7l h
 rw[e] at h ⊢
 refine D0m (fun r hr=>?_) h
 rcases List.mem_append.1 hr with hr|hr
 ·obtain⟨v,hv,hr⟩:=List.mem_flatMap.1 hr
  exact C6t (fun q hq'=>(hq.1 v hv).2.1 q hq') r hr
 ·have:=(hq.2 r hr).2.2.1
  omega
theorem A9l {g:GI}(ac:(wrongL g).1=0){m:MI}(hm:m∈g.msgs){β:Type}{f:List UInt8→β→Int}{x:FI}{v:VI β}(hx:RtV m.fields f x v){s : β}(hs:s∈v.subs):x.kind=10∧∃ M,g.msgs.find? (isN x.type)=some M:=by
 have hk:x.kind=10:=B3e hx.others (fun e=>by rw[e] at hs;cases hs)
 exact⟨hk,B0w ac m hm x (List.mem_of_find?_eq_some hx.fld) hk⟩
theorem B9t {g:GI}(ac:(wrongL g).1=0):∀ (n:Nat) (k:Int) (m:MI) (x:BI n),m∈g.msgs→A2g g n k m.fields x=0→BQk n x→(A1t g n m x).2=0→A5u g n m (A1t g n m x).1 = .ok x
 | 0,_,_,x,_,_,_,_=>nomatch (x:Empty)
 | n+1,k,m,x,hm,he,hq,h=>by
  obtain⟨_,hr,hu⟩:=A5z he
  obtain⟨hz,_⟩:=B7l h
  rw[D0w (B5h hq h),B3k (f:=fun name s=>A2g g n (k+1) (A1l g name) s) _ hr.each (fun v hv=>(hq.1 v hv).2.1) (fun v hv s hs h0=>?_) hz,B5f _ _ hr (fun v _=>rfl)]
  ·show A1p _ _ _ (BO.unk x) _ _=_
   rw[B3j _ (fun r ah=>(B0z (hu r ah)).2)]
   have hn:=D0a (g:=g) he
   exact congrArg Except.ok hn
  ·obtain⟨y,hy⟩:=hr.each v hv
   have ey:=A4k hy.fld
   rw[ey] at h0 ⊢
   obtain⟨ag,M,hM⟩:=A9l ac hm hy hs
   have e1:A4f g y.type=M:=B6p hM
   have e2:msgD g y.type=M:=C9u hM
   have hz':=hy.subs s hs
   rw[A9m hM] at hz'
   rw[e1] at h0 ⊢
   rw[e2]
   exact B9t ac n (k+1) M s (List.mem_of_find?_eq_some hM) hz' ((hq.1 v hv).2.2.2 s hs) h0
theorem C6u {g:GI}(hr:(wrongL g).1=0){m:MI}(hm:m∈g.msgs){x:FI}(hx:x∈m.fields):(1≤x.kind∧x.kind≤10)∧1≤x.number∧x.number<536870912:=by
 obtain⟨s,hs⟩:=B0t _ _ _ (D7p ((A7s hr).2.2 m hm)).2.2.2 x hx
 simp only[A7m,Bool.and_eq_true,Bool.not_eq_true',Bool.or_eq_false_iff,decide_eq_false_iff_not] at hs
 have h1:=hs.2.2.2.1
 have hh:C2p x.number=true:=hs.2.1
 unfold C2p at hh
 simp at hh
 omega
theorem RtV.imp {β:Type}{fs:List FI}{f f':List UInt8→β→Int}{x:FI}{v:VI β}(h:RtV fs f x v)(hf:∀ s∈v.subs,f x.type s=0→f' x.type s=0):RtV fs f' x v:=⟨h.fld,h.others,h.misc,h.without,h.bits,h.bytes,fun s hs=>hf s hs (h.subs s hs)⟩
end L
end Go.Proofs.YtgaoojpakjjdnaaGreatDoor
