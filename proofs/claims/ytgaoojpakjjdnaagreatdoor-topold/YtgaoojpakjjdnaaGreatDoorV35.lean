import Derived.Test.YtgaoojpakjjdnaaGreatDoorV34
set_option maxHeartbeats 32000000
set_option maxRecDepth 100000
set_option linter.unusedVariables false
namespace Go.Proofs.YtgaoojpakjjdnaaGreatDoor
namespace L
open Go.RowKit
theorem A4t {β:Type}(q:Int→Bool)(n:Int):∀ l:List (VI β),(l.filter fun a=>q a.number).find? (isV n)=if q n then l.find? (isV n) else none
 | []=>by simp
 | a::l=>by
  have ih:=A4t q n l
  by_cases ha:a.number=n
  ·cases hq:q n with
   | true=>
    rw[List.filter_cons_of_pos (by rw[ha];exact hq),List.find?_cons_of_pos (by simp[isV,ha]),if_pos rfl,List.find?_cons_of_pos (by simp[isV,ha])]
   | false=>
    rw[List.filter_cons_of_neg (by rw[ha,hq];simp),ih,hq]
    rfl
  ·rw[List.find?_cons_of_neg (l:=l) (by simp[isV,ha])]
   by_cases hq:q a.number=true
   ·rw[List.filter_cons_of_pos (p:=fun a:VI β=>q a.number) hq,List.find?_cons_of_neg (by simp[isV,ha]),ih]
   ·rw[List.filter_cons_of_neg (p:=fun a:VI β=>q a.number) hq,ih]
theorem B6g {β:Type}{fs:List FI}{x:FI}{l:List (VI β)}{y:VI β}(hx:fs.find? (isF y.number)=some x)(n:Int) :
  (A5i fs x l y).find? (isV n)=if n=y.number then(if A0p x y then none else some y) else if A0q fs x n then none else l.find? (isV n):=by
 have hf:=A4t (fun n=>!A0q fs x n) n l
 have hs:=A9q hx
 unfold A5i
 by_cases hn:n=y.number
 ·rw[if_pos hn]
  subst hn
  rw[hs] at hf
  simp only[Bool.not_true,Bool.false_eq_true,if_false] at hf
  split
  ·exact hf
  ·have h1:∀ k,((l.filter fun a=>!A0q fs x a.number).take k).find? (isV y.number)=none:=fun k=>by
    rw[List.find?_eq_none] at hf ⊢
    exact fun a ha=>hf a (List.mem_of_mem_take ha)
   rw[List.append_assoc,List.find?_append,h1,Option.none_or,List.singleton_append,List.find?_cons_of_pos (by simp[isV])]
 ·rw[if_neg hn]
  have e:(if (!A0q fs x n)=true then l.find? (isV n) else none)=if A0q fs x n then none else l.find? (isV n):=by cases A0q fs x n <;> rfl
  rw[e] at hf
  split
  ·exact hf
  ·rw[←hf,List.append_assoc,List.find?_append,List.singleton_append,List.find?_cons_of_neg (by simp[isV];exact fun h=>hn h.symm),←List.find?_append,List.take_append_drop]
def ouB (fs:List FI)(m n:Int):Bool:=decide (0<A1d fs m∧A1d fs n=A1d fs m)
theorem B4k {fs:List FI}{m:Int}{x:FI}(hx:fs.find? (isF m)=some x):A1d fs m=x.choice:=by
 have ac:fs.find? (fun y=>decide (y.number=m))=some x:=hx
 unfold A1d
 rw[ac]
theorem B6m {fs:List FI}{m n:Int}{x:FI}(hx:fs.find? (isF m)=some x)(hn:n≠m):A0q fs x n=ouB fs m n:=by
 have hm:=A2d hx
 have hc:=B4k hx
 unfold A0q ouB
 rw[hc,hm]
 by_cases h:x.choice≤0
 ·rw[if_pos h,decide_eq_false hn,decide_eq_false (by omega)]
 ·rw[if_neg h]
  by_cases e:A1d fs n=x.choice
  ·rw[decide_eq_true e,decide_eq_true ⟨by omega,e⟩]
  ·rw[decide_eq_false e,decide_eq_false (fun h=>e h.2)]
def orN {β:Type}(J:MI→β→β→β)(ms:List MI)(x:FI)(u:Option (VI β))(v:VI β):VI β:=match u with
 | some u=>A4y J ms x u v
 | none=>v
theorem B8g {β:Type}{J:MI→β→β→β}{ms:List MI}{fs:List FI}{x:FI}{l:List (VI β)}{v:VI β}(hx:fs.find? (isF v.number)=some x)(hw:A0p x v=false)(n:Int) :
  (A3h J ms fs l v).find? (isV n)=if n=v.number then some (orN J ms x (l.find? (isV n)) v) else if ouB fs v.number n then none else l.find? (isV n):=by
 have ah:∀ u:VI β,A0p x (A4y J ms x u v)=false:=fun u=>by
  unfold A4y
  by_cases hm:x.many=true
  ·rw[if_pos hm];unfold A0p;rw[if_pos (.inl hm)]
  ·rw[if_neg hm]
   by_cases hk:x.kind=10
   ·rw[if_pos hk];unfold A0p;rw[if_pos (.inr (.inr hk))]
   ·rw[if_neg hk];exact hw
 unfold A3h
 rw[hx]
 cases hu:l.find? (isV v.number) with
 | none=>
  show(A5i fs x l v).find? (isV n)=_
  rw[B6g hx n,hw]
  by_cases hn:n=v.number
  ·rw[if_pos hn,if_pos hn,hn,hu];rfl
  ·rw[if_neg hn,if_neg hn,B6m hx hn]
 | some u=>
  have ag:u.number=v.number:=by have:=List.find?_some hu;simpa [isV] using this
  have ac:(A4y J ms x u v).number=v.number:=B0n ag
  show(A5i fs x l (A4y J ms x u v)).find? (isV n)=_
  rw[B6g (by rw[ac];exact hx) n,ah,ac]
  by_cases hn:n=v.number
  ·rw[if_pos hn,if_pos hn,hn,hu];rfl
  ·rw[if_neg hn,if_neg hn,B6m hx hn]
def C5a {β:Type}(J:MI→β→β→β)(ms:List MI)(fs:List FI)(n:Int)(l m:List (VI β)):Option (VI β):=match m.find? (isV n) with
 | some v=>some (orN J ms ((fs.find? (isF n)).getD ⟨[],0,0,[],false,0⟩) (l.find? (isV n)) v)
 | none=>if m.any (fun v=>ouB fs v.number n) then none else l.find? (isV n)
theorem A9g {β:Type}{J:MI→β→β→β}{ms:List MI}{fs:List FI}{f:List UInt8→β→Int}(n:Int):∀ (m l:List (VI β)),RtL fs f m→
  (m.foldl (A3h J ms fs) l).find? (isV n)=C5a J ms fs n l m
 | [],l,_=>by simp[C5a]
 | v::m,l,h=>by
  obtain⟨x,hx⟩:=h.each v (List.mem_cons_self ..)
  have h':RtL fs f m:=⟨fun a ha=>h.each a (List.mem_cons_of_mem _ ha),(List.pairwise_cons.1 h.rise).2,(List.pairwise_cons.1 h.apart).2⟩
  have hr:=(List.pairwise_cons.1 h.rise).1
  have hap:=(List.pairwise_cons.1 h.apart).1
  rw[List.foldl_cons,A9g n m _ h']
  unfold C5a
  rw[B8g hx.fld hx.without n]
  by_cases hn:n=v.number
  ·have e1:m.find? (isV n)=none:=List.find?_eq_none.2 fun a ha=>by
    have:=hr a ha
    simp[isV]
    omega
   have e2:m.any (fun a=>ouB fs a.number n)=false:=List.any_eq_false.2 fun a ha=>by
    have h3:=hap a ha
    unfold ouB
    rw[hn]
    simp only[decide_eq_true_eq,not_and]
    intro h4 h5
    rcases h3 with h3|h3
    ·omega
    ·exact h3 h5
   rw[e1,List.find?_cons_of_pos (by simp[isV,hn]),if_pos hn]
   simp only[e2,Bool.false_eq_true,if_false]
   rw[hn,hx.fld]
   rfl
  ·rw[if_neg hn,List.find?_cons_of_neg (by simp[isV];exact fun h=>hn h.symm)]
   cases hf:m.find? (isV n) with
   | none=>
    simp only[List.any_cons]
    by_cases h1:ouB fs v.number n=true <;> by_cases h2:(m.any fun v=>ouB fs v.number n)=true <;> simp only[h1,h2,if_true,if_false,Bool.or_true,Bool.false_eq_true,Bool.or_false]
   | some v2=>
    have ac:=List.mem_of_find?_eq_some hf
    have ag:v2.number=n:=by have:=List.find?_some hf;simpa [isV] using this
    have e3:ouB fs v.number n=false:=by
     have h3:=hap v2 ac
     unfold ouB
     rw[←ag]
     refine decide_eq_false fun h4=>?_
     rcases h3 with h3|h3
     ·omega
     ·exact h3 h4.2.symm
    rw[e3]
    rfl
section
variable {β:Type}{J:MI→β→β→β}{ms:List MI}{fs:List FI}{a b:List (VI β)}{x:FI}
end
theorem B1w {β:Type}:∀ {l m:List (VI β)},(l.Pairwise fun a b=>a.number<b.number)→(m.Pairwise fun a b=>a.number<b.number)→(∀ n,l.find? (isV n)=m.find? (isV n))→l=m
 | [],[],_,_,_=>rfl
 | [],b::m,_,_,h=>by
  have:=h b.number
  rw[List.find?_cons_of_pos (by simp[isV])] at this
  cases this
 | a::l,[],_,_,h=>by
  have:=h a.number
  rw[List.find?_cons_of_pos (by simp[isV])] at this
  cases this
 | a::l,b::m,hl,hm,h=>by
  have ha:=h a.number
  have hb:=h b.number
  rw[List.find?_cons_of_pos (by simp[isV])] at ha
  rw[List.find?_cons_of_pos (l:=m) (by simp[isV])] at hb
  have ma:=List.mem_of_find?_eq_some ha.symm
  have mb:=List.mem_of_find?_eq_some hb
  have ac:=(List.pairwise_cons.1 hl).1
  have ag:=(List.pairwise_cons.1 hm).1
  have hab:a=b:=by
   rcases List.mem_cons.1 ma with e|ma'
   ·exact e
   ·rcases List.mem_cons.1 mb with e|mb'
    ·exact e.symm
    ·have h1:=ag a ma'
     have h2:=ac b mb'
     omega
  subst hab
  congr 1
  refine B1w (List.pairwise_cons.1 hl).2 (List.pairwise_cons.1 hm).2 fun n=>?_
  by_cases hn:a.number=n
  ·have e1:l.find? (isV n)=none:=List.find?_eq_none.2 fun c hc=>by
    have:=ac c hc
    simp[isV]
    omega
   have e2:m.find? (isV n)=none:=List.find?_eq_none.2 fun c hc=>by
    have:=ag c hc
    simp[isV]
    omega
   rw[e1,e2]
  ·have:=h n
   rwa [List.find?_cons_of_neg (by simp[isV,hn]),List.find?_cons_of_neg (by simp[isV,hn])] at this
section
variable {β:Type}
theorem B4u {y:VI β}:∀ {l:List (VI β)},(l.Pairwise fun a b=>a.number<b.number)→(∀ a∈l,a.number≠y.number)→((l.take (A1h y.number l)++[y]++l.drop (A1h y.number l)).Pairwise fun a b=>a.number<b.number)
 | [],_,_=>by simp[A1h]
 | a::l,h,hn=>by
  have h1:=(List.pairwise_cons.1 h).1
  have h2:=(List.pairwise_cons.1 h).2
  have ha:=hn a (List.mem_cons_self ..)
  by_cases hlt:y.number<a.number
  ·have e:A1h y.number (a::l)=0:=by
    unfold A1h
    rw[List.findIdx?_cons,if_pos (by simpa using hlt)]
    rfl
   rw[e]
   simp only[List.take_zero,List.nil_append,List.drop_zero,List.singleton_append]
   refine .cons (fun b hb=>?_) h
   rcases List.mem_cons.1 hb with rfl|hb
   ·exact hlt
   ·have:=h1 b hb;omega
  ·have e:A1h y.number (a::l)=A1h y.number l+1:=by
    unfold A1h
    rw[List.findIdx?_cons,if_neg (by simpa using hlt)]
    cases l.findIdx? fun v=>decide (y.number<v.number) with
    | none=>rfl
    | some k=>rfl
   rw[e]
   simp only[List.take_succ_cons,List.drop_succ_cons,List.cons_append]
   refine .cons (fun b hb=>?_) (B4u h2 fun b hb=>hn b (List.mem_cons_of_mem _ hb))
   rcases List.mem_append.1 hb with hb|hb
   ·rcases List.mem_append.1 hb with hb|hb
    ·exact h1 b (List.mem_of_mem_take hb)
    ·rw[List.mem_singleton.1 hb];omega
   ·exact h1 b (List.mem_of_mem_drop hb)
theorem B6r {fs:List FI}{x:FI}{l:List (VI β)}{y:VI β}(hx:fs.find? (isF y.number)=some x)(h:l.Pairwise fun a b=>a.number<b.number):(A5i fs x l y).Pairwise fun a b=>a.number<b.number:=by
 have hf:=h.filter (fun a=>!A0q fs x a.number)
 unfold A5i
 split
 ·exact hf
 ·refine B4u hf fun a ha e=>?_
  have:=(List.mem_filter.1 ha).2
  rw[e,A9q hx] at this
  cases this
theorem C9v {J:MI→β→β→β}{ms:List MI}{fs:List FI}{l:List (VI β)}{v:VI β}(h:l.Pairwise fun a b=>a.number<b.number):(A3h J ms fs l v).Pairwise fun a b=>a.number<b.number:=by
 unfold A3h
 split
 ·exact h
 ·rename_i x hx
  split
  ·exact B6r hx h
  ·rename_i u hu
   have ac:u.number=v.number:=by have:=List.find?_some hu;simpa [isV] using this
   exact B6r (by rw[B0n ac];exact hx) h
theorem A9d {J:MI→β→β→β}{ms:List MI}{fs:List FI}:∀ (m l:List (VI β)),(l.Pairwise fun a b=>a.number<b.number)→((m.foldl (A3h J ms fs) l).Pairwise fun a b=>a.number<b.number)
 | [],_,h=>h
 | v::m,_,h=>A9d m _ (C9v h)
def C3g (fs:List FI)(l:List (VI β)):Prop:=∀ a∈l,∀ b∈l,a.number≠b.number→0<A1d fs a.number→A1d fs a.number≠A1d fs b.number
theorem B1p {fs:List FI}{l:List (VI β)}(h:l.Pairwise fun a b=>A1d fs a.number≤0∨A1d fs a.number≠A1d fs b.number):C3g fs l:=by
 induction l with
 | nil=>intro a ha;cases ha
 | cons c l ih=>
  have h1:=(List.pairwise_cons.1 h).1
  have h2:=ih (List.pairwise_cons.1 h).2
  intro a ha b hb hne hp e
  rcases List.mem_cons.1 ha with ea|ha'
  ·rcases List.mem_cons.1 hb with eb|hb'
   ·exact hne (by rw[ea,eb])
   ·subst ea
    rcases h1 b hb' with h|h
    ·omega
    ·exact h e
  ·rcases List.mem_cons.1 hb with eb|hb'
   ·subst eb
    rcases h1 a ha' with h|h
    ·omega
    ·exact h e.symm
   ·exact h2 a ha' b hb' hne hp e
end
theorem D4u {β:Type}{l:List (VI β)}{n:Int}{v:VI β}(h:l.find? (isV n)=some v):v.number=n:=by have:=List.find?_some h;simpa [isV] using this
theorem D8y {β:Type}{fs:List FI}{f:List UInt8→β→Int}{l:List (VI β)}(h:RtL fs f l){n:Int}{v:VI β}(hv:l.find? (isV n)=some v):∃ x,RtV fs f x v∧fs.find? (isF n)=some x:=by
 obtain⟨x,hx⟩:=h.each v (List.mem_of_find?_eq_some hv)
 exact⟨x,hx,by rw[←D4u hv];exact hx.fld⟩
section
variable {g:GI}{d:Nat}
theorem A8z {x:FI}{M:MI}(h:g.msgs.find? (isN x.type)=some M):A0r g x.type=M.fields:=by
 have h':g.msgs.find? (fun m=>decide (m.name=x.type))=some M:=h
 unfold A0r
 rw[h']
end
def Z5 (n:Int):Prop:=n=0∨n=5
theorem A9b {α:Type}{f : α→Int}:∀ {l:List α},(∀ a∈l,f a=0)→A1g f l=0
  | [],_=>rfl
  | a::l,h=>by
    unfold A1g
    rw[if_pos (h a (List.mem_cons_self ..))]
    exact A9b fun b hb=>h b (List.mem_cons_of_mem _ hb)
structure AlV {β:Type}(fs:List FI) (f:List UInt8→β→Int) (x:FI) (v:VI β):Prop where
  fld:fs.find? (isF v.number)=some x
  others:A0v x v=false
  without:A0p x v=false
  bits:∀ n∈v.bits,A2h x.kind n=0
  bytes:∀ l∈v.bytes,A2k x.kind l=0
  subs:∀ s∈v.subs,Z5 (f x.type s)
theorem RtV.al {β:Type}{fs:List FI}{f:List UInt8→β→Int}{x:FI}{v:VI β}(h:RtV fs f x v):AlV fs f x v:=⟨h.fld,h.others,h.without,h.bits,h.bytes,fun s hs=>.inl (h.subs s hs)⟩
theorem C5f {β:Type}{J:MI→β→β→β}{ms:List MI}{x:FI}{t v:VI β}(h1:A0v x t=false)(h2:A0v x v=false)(hM:x.many=false→x.kind=10→∃ M s1 s2,ms.find? (isN x.type)=some M∧t.subs = [s1]∧v.subs = [s2]):A0v x (A4y J ms x t v)=false:=by
  cases hm:x.many with
  | true=>
    have e:A4y J ms x t v=⟨t.number,t.bits++v.bits,t.bytes++v.bytes,t.subs++v.subs⟩:=by unfold A4y;rw[hm,if_pos rfl]
    rw[e]
    unfold A0v at h1 h2 ⊢
    split
    · rename_i hk;rw[if_pos hk] at h1 h2;simp only[decide_eq_false_iff_not,List.length_append] at h1 h2 ⊢;omega
    · rename_i hk
      rw[if_neg hk] at h1 h2
      split
      · rename_i hk';rw[if_pos hk'] at h1 h2;simp only[decide_eq_false_iff_not,List.length_append] at h1 h2 ⊢;omega
      · rename_i hk';rw[if_neg hk'] at h1 h2;simp only[decide_eq_false_iff_not,List.length_append] at h1 h2 ⊢;omega
  | false=>
    by_cases hk:x.kind=10
    · obtain⟨M,s1,s2,h0,e1,e2⟩:=hM hm hk
      have e:A4y J ms x t v=⟨t.number,t.bits,t.bytes,[J M s1 s2]⟩:=by
        unfold A4y
        rw[hm,if_neg (by simp),if_pos hk,h0,e1,e2]
      rw[e]
      unfold A0v at h1 ⊢
      rw[if_neg (by omega),if_pos hk] at h1 ⊢
      exact h1
    · have e:A4y J ms x t v=v:=by unfold A4y;rw[hm,if_neg (by simp),if_neg hk]
      rw[e];exact h2
def E0b (d:Nat):BI (d+1):=(⟨[],[]⟩:BO (BI d))
theorem C8l {g:GI}{d:Nat}{k:Int}{m:MI}{a:BI (d+1)}(ha:A1j g (d+1) k m.fields a=0):jnB g.msgs (d+1) m (E0b d) a=a:=by
  obtain⟨_,ra,_⟩:=A3d ha
  have hv:(BO.vals a).foldl (A3h (jnB g.msgs d) g.msgs m.fields) []=BO.vals a:=by
    refine B1w (A9d _ _ .nil) ra.rise fun n=>?_
    rw[A9g n (BO.vals a) [] ra]
    unfold C5a
    cases hA:(BO.vals a).find? (isV n) with
    | some v=>rfl
    | none=>simp
  show(⟨(BO.vals a).foldl (A3h (jnB g.msgs d) g.msgs m.fields) [],[]++BO.unk a⟩:BO (BI d))=a
  rw[hv,List.nil_append]
  rfl
def B2c {α β:Type}(r:Except Int α)(f : α→Except Int β):Except Int β:=match r with
 | .error E=>.error E
 | .ok a=>f a
theorem C3l {α β γ:Type}(r:Except Int α)(f : α→Except Int β)(h : β→Except Int γ):B2c (B2c r f) h=B2c r fun a=>B2c (f a) h:=by cases r <;> rfl
theorem C6p {α:Type}(r:Except Int α):(B2c r fun a=>.ok a)=r:=by cases r <;> rfl
def A6u {β:Type}(a b:VI β):VI β:=⟨a.number,a.bits++b.bits,a.bytes++b.bytes,a.subs++b.subs⟩
theorem C3m {β:Type}(a b c:VI β):A6u (A6u a b) c=A6u a (A6u b c):=by
 unfold A6u
 simp only[List.append_assoc]
theorem A7s {β:Type}(a b:VI β):A1i (A6u a b)=A1i a+A1i b:=by
 unfold A1i A6u
 simp only[List.length_append]
 omega
theorem A9j {β:Type}{J:MI→β→β→β}{ms:List MI}{x:FI}(hm:x.many=true)(a b:VI β):A4y J ms x a b=A6u a b:=by
 unfold A4y
 rw[if_pos hm]
 rfl
theorem B3b {g:GI}{x:FI}(hm:x.many=true):∀ (d:Nat) (a b:VI (BI d)),C8e g d x a b = .ok (A6u a b)
 | 0,a,b=>by
  show Except.ok (A4y (jnB g.msgs 0) g.msgs x a b)=_
  rw[A9j hm]
 | d+1,a,b=>by
  rw[A7b,if_neg (by rw[hm];simp),A9j hm]
theorem B9i {β:Type}{x:FI}(hm:x.many=true)(v:VI β):A0p x v=false:=by
 unfold A0p
 rw[if_pos (.inl hm)]
theorem D6f {β:Type}{fs:List FI}{x:FI}{l:List (VI β)}{y:VI β}(hx:fs.find? (isF y.number)=some x)(y':VI β):A5i fs x (A5i fs x l y) y'=A5i fs x l y':=by
 have e:(A5i fs x l y).filter (fun a=>!A0q fs x a.number)=l.filter fun a=>!A0q fs x a.number:=by
  unfold A5i
  split
  ·rw[List.filter_filter]
   congr 1
   funext a
   simp
  ·rw[List.filter_append,List.filter_append,List.filter_cons_of_neg (by rw[A9q hx];simp),List.filter_nil,List.append_nil,←List.filter_append,List.take_append_drop,List.filter_filter]
   congr 1
   funext a
   simp
 have key:∀ L:List (VI β),L.filter (fun a=>!A0q fs x a.number)=l.filter (fun a=>!A0q fs x a.number)→A5i fs x L y'=A5i fs x l y':=fun L h=>by
  unfold A5i
  rw[h]
 exact key _ e
theorem D4g {g:GI}{n:Nat}{fs:List FI}{x:FI}(b:BO (BI n)){v1 v2:VI (BI n)}(hx:fs.find? (isF v1.number)=some x)(hm:x.many=true)(hn:v2.number=v1.number)(h1:A1i v1≠0)(h2:A1i v2≠0) :
  A1w g n fs x b (A6u v1 v2)=B2c (A1w g n fs x b v1) fun b'=>A1w g n fs x b' v2:=by
 have key:∀ y:VI (BI n),y.number=v1.number→A1w g n fs x ⟨A5i fs x b.vals y,b.unk⟩ v2=if 60<A1i (A6u y v2) then .error 5 else .ok ⟨A5i fs x b.vals (A6u y v2),b.unk⟩:=by
  intro y hy
  have ac:fs.find? (isF y.number)=some x:=by rw[hy];exact hx
  have hl:=B6g (l:=b.vals) ac y.number
  rw[if_pos rfl,B9i hm,if_neg (by simp),hy,←hn] at hl
  unfold A1w
  rw[if_neg h2]
  dsimp only
  rw[hl]
  dsimp only
  rw[B3b hm]
  dsimp only
  rw[D6f ac]
 have hs:A1i (A6u v1 v2)≠0:=by rw[A7s];omega
 have e1:(A6u v1 v2).number=v1.number:=rfl
 cases hf:b.vals.find? (isV v1.number) with
 | none=>
  have w1:A1w g n fs x b v1=if 60<A1i v1 then .error 5 else .ok ⟨A5i fs x b.vals v1,b.unk⟩:=by
   unfold A1w
   rw[if_neg h1,hf]
  have w2:A1w g n fs x b (A6u v1 v2)=if 60<A1i (A6u v1 v2) then .error 5 else .ok ⟨A5i fs x b.vals (A6u v1 v2),b.unk⟩:=by
   unfold A1w
   rw[if_neg hs,e1,hf]
  rw[w1,w2]
  by_cases h60:60<A1i v1
  ·rw[if_pos h60,if_pos (by rw[A7s];omega)]
   rfl
  ·rw[if_neg h60]
   exact(key v1 rfl).symm
 | some u=>
  have hu:u.number=v1.number:=by have:=List.find?_some hf;simpa [isV] using this
  have w1:A1w g n fs x b v1=if 60<A1i (A6u u v1) then .error 5 else .ok ⟨A5i fs x b.vals (A6u u v1),b.unk⟩:=by
   unfold A1w
   rw[if_neg h1,hf]
   dsimp only
   rw[B3b hm]
  have w2:A1w g n fs x b (A6u v1 v2)=if 60<A1i (A6u (A6u u v1) v2) then .error 5 else .ok ⟨A5i fs x b.vals (A6u (A6u u v1) v2),b.unk⟩:=by
   unfold A1w
   rw[if_neg hs,e1,hf]
   dsimp only
   rw[B3b hm,C3m]
  rw[w1,w2]
  by_cases h60:60<A1i (A6u u v1)
  ·rw[if_pos h60,if_pos (by rw[A7s];omega)]
   rfl
  ·rw[if_neg h60]
   exact(key (A6u u v1) hu).symm
def A7k {n:Nat}(g:GI)(fs:List FI)(x:FI):BO (BI n)→List (VI (BI n))→Except Int (BO (BI n))
 | b,[]=>.ok b
 | b,v::vs=>B2c (A1w g n fs x b v) fun b'=>A7k g fs x b' vs
theorem B7f {g:GI}{n:Nat}{fs:List FI}{x:FI}:∀ (vs:List (VI (BI n))) (v:VI (BI n)) (b:BO (BI n)),fs.find? (isF v.number)=some x→(vs≠[]→x.many=true)→A1i v≠0→(∀ u∈vs,u.number=v.number∧A1i u≠0)→A7k g fs x b (v::vs)=A1w g n fs x b (vs.foldl A6u v)
 | [],v,b,_,_,_,_=>C6p _
 | u::vs,v,b,hx,hm,h0,h=>by
  obtain⟨h1,h2⟩:=h u (List.mem_cons_self ..)
  have ag:=hm (by simp)
  have e:A7k g fs x b (v::u::vs)=A7k g fs x b (A6u v u::vs):=by
   have ha:=D4g (g:=g) b hx ag h1 h0 h2
   show(B2c (A1w g n fs x b v) fun b'=>B2c (A1w g n fs x b' u) fun ac=>A7k g fs x ac vs)=B2c (A1w g n fs x b (A6u v u)) fun ac=>A7k g fs x ac vs
   rw[ha,C3l]
  rw[e,B7f vs (A6u v u) b hx (fun _=>ag) (by rw[A7s];omega) (fun q hq=>h q (List.mem_cons_of_mem _ hq))]
  rfl
theorem B0r {α:Type}{g:GI}{n:Nat}{rd:List UInt8→List UInt8→Except Int (BI n)}{fs:List FI}{x:FI}{R : α→RI}{V : α→VI (BI n)}(hx:∀ a,fs.find? (isF (R a).number)=some x):∀ (l:List α),(∀ a∈l,A3q rd x (R a) = .ok (V a))→∀ (rest:List RI) (b:BO (BI n)) (un:List RI),
  A1f g rd fs (l.map R++rest) b un=B2c (A7k g fs x b (l.map V)) fun b'=>A1f g rd fs rest b' un
 | [],_,_,_,_=>rfl
 | a::l,h,rest,b,un=>by
  have ht:=h a (List.mem_cons_self ..)
  rw[List.map_cons,List.cons_append,List.map_cons]
  show _=B2c (B2c (A1w g n fs x b (V a)) fun b'=>A7k g fs x b' (l.map V)) fun b'=>A1f g rd fs rest b' un
  cases hw:A1w g n fs x b (V a) with
  | error E=>
   rw[A5d (hx a) ht hw]
   rfl
  | ok b'=>
   rw[A7f (hx a) ht hw]
   exact B0r hx l (fun q hq=>h q (List.mem_cons_of_mem _ hq)) rest b' un
theorem B4v {g:GI}{n:Nat}{rd:List UInt8→List UInt8→Except Int (BI n)}{fs:List FI}{r:RI}{rs:List RI}{b:BO (BI n)}{un:List RI}{x:FI}{v:VI (BI n)}(h:fs.find? (isF r.number)=some x)(ht:A3q rd x r = .ok v):A1f g rd fs (r::rs) b un=B2c (A1w g n fs x b v) fun b'=>A1f g rd fs rs b' un:=by
 cases hw:A1w g n fs x b v with
 | error E=>exact A5d h ht hw
 | ok b'=>exact A7f h ht hw
theorem A5l {β:Type}{f : β→List UInt8×Int}:∀ (l:List β) (acc:List (List UInt8)),(A4c f acc l).2=0→(A4c f acc l).1=acc++l.map (fun b=>(f b).1)∧∀ b∈l,(f b).2=0
 | [],acc,_=>⟨by simp[A4c],fun _ h=>by cases h⟩
 | b::l,acc,h=>by
  unfold A4c at h ⊢
  by_cases h1:(f b).2≠0
  ·rw[if_pos h1] at h;exact absurd h h1
  ·rw[if_neg h1] at h ⊢
   obtain⟨e1,e2⟩:=A5l l _ h
   refine⟨by rw[e1];simp,fun c hc=>?_⟩
   rcases List.mem_cons.1 hc with rfl|hc
   ·exact Decidable.not_not.1 h1
   ·exact e2 c hc
theorem B4o {β:Type}(k:Int):∀ (zs:List (List UInt8)) (ys:List (List UInt8)),(zs.map fun z=>(⟨k,[],[z],[]⟩:VI β)).foldl A6u ⟨k,[],ys,[]⟩=⟨k,[],ys++zs,[]⟩
 | [],ys=>by simp
 | z::zs,ys=>by
  rw[List.map_cons,List.foldl_cons]
  show(zs.map fun z=>(⟨k,[],[z],[]⟩:VI β)).foldl A6u ⟨k,[],ys++[z],[]⟩=_
  rw[B4o k zs,List.append_assoc]
  rfl
theorem B7y {α β:Type}(k:Int)(u : α→β):∀ (zs:List α) (ys:List β),(zs.map fun z=>(⟨k,[],[],[u z]⟩:VI β)).foldl A6u ⟨k,[],[],ys⟩=⟨k,[],[],ys++zs.map u⟩
 | [],ys=>by simp
 | z::zs,ys=>by
  rw[List.map_cons,List.foldl_cons]
  show(zs.map fun z=>(⟨k,[],[],[u z]⟩:VI β)).foldl A6u ⟨k,[],[],ys++[u z]⟩=_
  rw[B7y k u zs,List.append_assoc]
  rfl
theorem A9k {β:Type}{x:FI}{v:VI β}(h:A3p x v=false):1≤A1i v∧A1i v≤60∧(1<A1i v→x.many=true):=by
 unfold A3p at h
 simp only[Bool.or_eq_false_iff,Bool.and_eq_false_iff,decide_eq_false_iff_not,Bool.not_eq_eq_eq_not,Bool.not_false] at h
 obtain⟨h1,h2,h3⟩:=h
 refine⟨by omega,by omega,fun h4=>?_⟩
 rcases h3 with h3|h3
 ·omega
 ·exact h3
theorem D3m {β:Type}{x:FI}{v:VI β}(h:A0v x v=false)(hk:x.kind=8∨x.kind=9):v.bits = []∧v.subs = []:=by
 unfold A0v at h
 rw[if_pos hk] at h
 simp only[decide_eq_false_iff_not] at h
 exact⟨List.eq_nil_of_length_eq_zero (by omega),List.eq_nil_of_length_eq_zero (by omega)⟩
theorem B6v {β:Type}{x:FI}{v:VI β}(h:A0v x v=false)(hk:x.kind=10):v.bits = []∧v.bytes = []:=by
 unfold A0v at h
 rw[if_neg (by omega),if_pos hk] at h
 simp only[decide_eq_false_iff_not] at h
 exact⟨List.eq_nil_of_length_eq_zero (by omega),List.eq_nil_of_length_eq_zero (by omega)⟩
theorem C9p {β:Type}{x:FI}{v:VI β}(h:A0v x v=false)(h8:¬ (x.kind=8∨x.kind=9))(hk:¬ x.kind=10):v.bytes = []∧v.subs = []:=by
 unfold A0v at h
 rw[if_neg h8,if_neg hk] at h
 simp only[decide_eq_false_iff_not] at h
 exact⟨List.eq_nil_of_length_eq_zero (by omega),List.eq_nil_of_length_eq_zero (by omega)⟩
theorem C0k {k:Int}(h8:k=8∨k=9):A3z k=2:=by unfold A3z;rcases h8 with h|h <;> simp[h]
theorem C1y {k:Int}(h:A3z k=2)(h10:¬ k=10):k=8∨k=9:=by
 unfold A3z at h
 split at h
 ·cases h
 ·split at h
  ·cases h
  ·split at h
   ·omega
   ·cases h
def upV {β γ:Type}(u : β→γ)(v:VI β):VI γ:=⟨v.number,v.bits,v.bytes,v.subs.map u⟩
theorem B4w {β:Type}{g:GI}{n:Nat}{rd:List UInt8→List UInt8→Except Int (BI n)}{fs:List FI}{f:List UInt8→β→Int}{x:FI}{v:VI β}{deep:List UInt8→β→List UInt8×Int}{u : β→BI n}(hv:RtV fs f x v)(hb:∀ m∈v.bits,m<18446744073709551616)
  (hd:∀ s∈v.subs,(deep x.type s).2=0→rd x.type (deep x.type s).1 = .ok (u s)) (h0:(A1a deep x v).2=0) (rest:List RI) (b:BO (BI n)) (un:List RI) :
  A1f g rd fs ((A1a deep x v).1++rest) b un=B2c (A1w g n fs x b (upV u v)) fun b'=>A1f g rd fs rest b' un:=by
 have bk:=A2d hv.fld
 obtain⟨m1,bn,mm⟩:=A9k hv.misc
 obtain⟨k,bi,ac,su⟩:=v
 have ah:x.number=k:=bk
 have ak:fs.find? (isF k)=some x:=hv.fld
 unfold A1a at h0 ⊢
 by_cases h10:x.kind=10
 ·rw[if_pos h10] at h0 ⊢
  obtain⟨e1,e2⟩:=B6v hv.others h10
  have e1:bi = []:=e1
  have e2:ac = []:=e2
  subst e1 e2
  obtain⟨q1,q2⟩:=A5l su [] h0
  dsimp only at h0 q1 ⊢
  rw[q1,List.nil_append,List.map_map]
  have aj:∀ s∈su,A3q rd x ((B1k x.number∘fun s=>(deep x.type s).1) s) = .ok ⟨k,[],[],[u s]⟩:=fun s hs=>by
   have hr:=hd s hs (q2 s hs)
   unfold A3q
   rw[if_neg (by rw[h10];decide),if_neg (by show ¬ (2:Int)≠2;simp),if_pos h10]
   show(match rd x.type (deep x.type s).1 with|.error E=>Except.error E|.ok s=>Except.ok (⟨x.number,[],[],[s]⟩:VI (BI n)))=_
   rw[hr,ah]
  rw[B0r (V:=fun s=>⟨k,[],[],[u s]⟩) (fun a=>by show fs.find? (isF x.number)=some x;rw[ah];exact ak) su aj]
  have ba:1≤su.length∧(1<su.length→x.many=true):=by
   have e:A1i (⟨k,[],[],su⟩:VI β)=su.length:=by simp[A1i]
   rw[e] at m1 mm
   exact⟨m1,mm⟩
  cases su with
  | nil=>simp at ba
  | cons s ss=>
   rw[List.map_cons,B7f _ _ _ (by exact ak) (fun hne=>ba.2 (by
    cases ss with
    | nil=>simp at hne
    | cons _ _=>simp)) (by simp[A1i]) (fun u hu=>by
     obtain⟨z,_,rfl⟩:=List.mem_map.1 hu
     exact⟨rfl,by simp[A1i]⟩),B7y]
   rfl
 ·rw[if_neg h10] at h0 ⊢
  by_cases hh2:A3z x.kind=2
  ·rw[if_pos hh2] at h0 ⊢
   have bc:=C1y hh2 h10
   obtain⟨e1,e2⟩:=D3m hv.others bc
   have e1:bi = []:=e1
   have e2:su = []:=e2
   subst e1 e2
   have aj:∀ z∈ac,A3q rd x (B1k x.number z) = .ok ⟨k,[],[z],[]⟩:=fun z hz=>by
    have au:=hv.bytes z hz
    unfold A3q
    rw[if_neg (by rw[hh2];simp),if_neg (by show ¬ (2:Int)≠2;simp),if_neg h10,if_neg,ah]
    ·rfl
    ·rintro⟨a1,a2⟩
     unfold A2k at au
     split at au
     ·cases au
     ·rw[if_pos ⟨a1,a2⟩] at au
      cases au
   dsimp only
   rw[B0r (R:=B1k x.number) (V:=fun z=>⟨k,[],[z],[]⟩) (fun a=>by show fs.find? (isF x.number)=some x;rw[ah];exact ak) ac aj]
   have ba:1≤ac.length∧(1<ac.length→x.many=true):=by
    have e:A1i (⟨k,[],ac,[]⟩:VI β)=ac.length:=by simp[A1i]
    rw[e] at m1 mm
    exact⟨m1,mm⟩
   cases ac with
   | nil=>simp at ba
   | cons s ss=>
    rw[List.map_cons,B7f _ _ _ (by exact ak) (fun hne=>ba.2 (by
     cases ss with
     | nil=>simp at hne
     | cons _ _=>simp)) (by simp[A1i]) (fun u hu=>by
      obtain⟨z,_,rfl⟩:=List.mem_map.1 hu
      exact⟨rfl,by simp[A1i]⟩),B4o]
    rfl
  ·rw[if_neg hh2] at h0 ⊢
   have bc:¬ (x.kind=8∨x.kind=9):=fun h=>hh2 (C0k h)
   obtain⟨e1,e2⟩:=C9p hv.others bc h10
   have e1:ac = []:=e1
   have e2:su = []:=e2
   subst e1 e2
   have bg:=B5z hh2
   have aw:∀ m∈bi,A2h x.kind m=0:=hv.bits
   have hb:∀ m∈bi,m<18446744073709551616:=hb
   have ag:∀ m∈bi,A3i x.kind (A5t x.kind m)=m:=fun m hm=>D3v (hb m hm) (aw m hm)
   by_cases hmx:x.many=true
   ·rw[if_pos hmx] at h0 ⊢
    have ht:A3q rd x (B1k x.number (packedN (A3z x.kind) (bi.map (A5t x.kind)))) = .ok ⟨k,bi,[],[]⟩:=by
     have hu:unpR (A3z x.kind) (packedN (A3z x.kind) (bi.map (A5t x.kind)))=(bi.map (A5t x.kind),0):=B7e bg fun q hq=>by
      obtain⟨m,hm,rfl⟩:=List.mem_map.1 hq
      exact⟨B0g _ _ (by have:=hb m hm;omega),fun h5=>B4j (aw m hm) h5⟩
     have bh:tnN x (B1k x.number (packedN (A3z x.kind) (bi.map (A5t x.kind))))=(bi,0):=by
      unfold tnN
      rw[if_neg (by show ¬ (2:Int)=A3z x.kind;exact fun e=>hh2 e.symm),if_pos ⟨rfl,hmx⟩]
      show((unpR (A3z x.kind) (packedN (A3z x.kind) (bi.map (A5t x.kind)))).1.map (A3i x.kind),(unpR (A3z x.kind) (packedN (A3z x.kind) (bi.map (A5t x.kind)))).2)=_
      rw[hu]
      dsimp only
      rw[List.map_map,show bi.map (A3i x.kind∘A5t x.kind)=bi from (List.map_congr_left (fun m hm=>ag m hm)).trans (List.map_id _)]
     unfold A3q
     rw[if_pos hh2,bh,if_pos rfl,ah]
    show A1f g rd fs ([B1k x.number (packedN (A3z x.kind) (bi.map (A5t x.kind)))]++rest) b un=_
    rw[List.singleton_append,B4v (by show fs.find? (isF x.number)=some x;rw[ah];exact ak) ht]
    rfl
   ·rw[if_neg hmx] at h0 ⊢
    obtain⟨q,rfl⟩:∃ q,bi = [q]:=by
     have e:A1i (⟨k,bi,[],[]⟩:VI β)=bi.length:=by simp[A1i]
     rw[e] at m1 mm
     exact List.length_eq_one_iff.1 (by
      rcases Nat.lt_or_ge 1 bi.length with h|h
      ·exact absurd (mm h) hmx
      ·omega)
    have ht:A3q rd x ⟨x.number,A3z x.kind,A5t x.kind q,[]⟩ = .ok ⟨k,[q],[],[]⟩:=by
     unfold A3q tnN
     rw[if_pos hh2,if_pos rfl]
     dsimp only
     rw[if_pos rfl,ag q (by simp),ah]
    show A1f g rd fs ([⟨x.number,A3z x.kind,A5t x.kind q,[]⟩]++rest) b un=_
    rw[List.singleton_append,B4v (by show fs.find? (isF x.number)=some x;rw[ah];exact ak) ht]
    rfl
theorem D5e {β:Type}(v:VI β):upV id v=v:=by
 unfold upV
 rw[List.map_id]
theorem C9j {g:GI}{n:Nat}{rd:List UInt8→List UInt8→Except Int (BI n)}{fs:List FI}{f:List UInt8→BI n→Int}{x:FI}{v:VI (BI n)}{deep:List UInt8→BI n→List UInt8×Int}(hv:RtV fs f x v)(hb:∀ m∈v.bits,m<18446744073709551616)
  (hd:∀ s∈v.subs,(deep x.type s).2=0→rd x.type (deep x.type s).1 = .ok s) (h0:(A1a deep x v).2=0) (rest:List RI) (b:BO (BI n)) (un:List RI) :
  A1f g rd fs ((A1a deep x v).1++rest) b un=B2c (A1w g n fs x b v) fun b'=>A1f g rd fs rest b' un:=by
 rw[B4w (u:=id) hv hb hd h0,D5e]
end L
end Go.Proofs.YtgaoojpakjjdnaaGreatDoor
