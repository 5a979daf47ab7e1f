import Derived.Test.YtgaoojpakjjdnaaGreatDoorV37
import Derived.Laws.BytesArg
import Derived.Laws.StructEq
set_option maxHeartbeats 32000000
set_option maxRecDepth 100000
set_option linter.unusedVariables false
namespace Go.Proofs.YtgaoojpakjjdnaaGreatDoor
namespace L
open Go.RowKit
theorem B2q {g:GI}{ac:List Int}:∀ (l:List FI) (i:Nat) (s:Mem),(A0i (A1n g ac) A4s i l s).1=0→l.Pairwise fun a b=>a.number≠b.number
 | [],_,_,_=>.nil
 | x::l,i,s,h=>by
  obtain⟨_,h2⟩:=A7p h
  exact .cons (fun y hy e=>(B7v l _ _ h2 y hy).2.2 (by rw[←e];exact(A8t x.number s.nums).1)) (B2q l _ _ h2)
theorem A9a {n:Int}:∀ {fs:List FI},(fs.Pairwise fun a b=>a.number≠b.number)→∀ {y:FI},y∈fs→y.number=n→fs.find? (isF n)=some y
 | [],_,_,hy,_=>by cases hy
 | x::fs,h,y,hy,hn=>by
  obtain⟨h1,h2⟩:=List.pairwise_cons.1 h
  rcases List.mem_cons.1 hy with rfl|hy
  ·exact List.find?_cons_of_pos (by simp[isF,hn])
  ·rw[List.find?_cons_of_neg (by have:=h1 y hy;simp[isF];omega)]
   exact A9a h2 hy hn
theorem B0o {g:GI}(ac:(wrongL g).1=0){m:MI}(hm:m∈g.msgs):m.fields.Pairwise fun a b=>a.number≠b.number:=B2q _ _ _ (B4y ((A5f ac).2.2 m hm)).2.2.2
section
variable {lacks:List Int}{fs:List FI}{n:Int}{x:FI}
theorem B2o (hp:fs.Pairwise fun a b=>a.number≠b.number)(h:fs.find? (isF n)=some x)(hk:A2n lacks x=true):(fs.filter (A2n lacks)).find? (isF n)=some x:=A9a (hp.filter _) (List.mem_filter.2 ⟨List.mem_of_find?_eq_some h,hk⟩) (A2d h)
theorem C7j (hp:fs.Pairwise fun a b=>a.number≠b.number)(h:(fs.filter (A2n lacks)).find? (isF n)=some x):fs.find? (isF n)=some x:=A9a hp (List.mem_filter.1 (List.mem_of_find?_eq_some h)).1 (A2d h)
theorem C7k (hp:fs.Pairwise fun a b=>a.number≠b.number)(h:fs.find? (isF n)=some x)(hk:A2n lacks x=false):(fs.filter (A2n lacks)).find? (isF n)=none:=List.find?_eq_none.2 fun y hy e=>by
 obtain⟨h1,h2⟩:=List.mem_filter.1 hy
 have:=A9a hp h1 (of_decide_eq_true e)
 rw[h] at this
 rw[←Option.some.inj this,hk] at h2
 cases h2
theorem C8m (h:fs.find? (isF n)=none):(fs.filter (A2n lacks)).find? (isF n)=none:=List.find?_eq_none.2 fun y hy=>List.find?_eq_none.1 h y (List.mem_filter.1 hy).1
end
theorem A9m (lacks:List Int)(g:GI)(t:List UInt8):A2j (A1p lacks g) t=A2e lacks (A2j g t):=by
 unfold A2j
 show((g.msgs.map (A2e lacks)).find? _).getD D6z=_
 rw[List.find?_map]
 show(Option.map (A2e lacks) (g.msgs.find? fun m=>decide (m.name=t))).getD D6z=_
 cases g.msgs.find? fun m=>decide (m.name=t) <;> rfl
theorem D4t (g:GI)(t:List UInt8):msgD g t=A2j g t:=rfl
theorem A9i {lacks:List Int}{g:GI}{m:MI}(h:m∈g.msgs):A2e lacks m∈(A1p lacks g).msgs:=List.mem_map_of_mem h
theorem B0m {lacks:List Int}{g:GI}(h:FGd g):FGd (A1p lacks g):=by
 refine⟨fun M hM x hx=>?_,fun M hM x hx hk=>?_⟩
 ·obtain⟨m,hm,rfl⟩:=List.mem_map.1 hM
  exact h.num m hm x (List.mem_filter.1 hx).1
 ·obtain⟨m,hm,rfl⟩:=List.mem_map.1 hM
  obtain⟨N,hN⟩:=h.sub m hm x (List.mem_filter.1 hx).1 hk
  refine⟨A2e lacks N,?_⟩
  show(g.msgs.map (A2e lacks)).find? (isN x.type)=_
  rw[List.find?_map]
  show Option.map (A2e lacks) (g.msgs.find? (isN x.type))=_
  rw[hN]
  rfl
def A3v (lacks:List Int)(fs:List FI)(n:Int):Bool:=A2n lacks (A0l fs n)
def A3f (f:GI)(lacks:List Int):(n:Nat)→MI→BI n→BI n
 | 0=>fun _ b=>b
 | n+1=>fun m b=>(⟨((BO.vals b).filter fun v=>A3v lacks m.fields v.number).map fun v=>upV (A3f f lacks n (A2j f (A0l m.fields v.number).type)) v,
   ((BO.vals b).filter fun v=>!A3v lacks m.fields v.number).flatMap (fun v=>(A1a (fun t s=>A0x f n (A2j f t) s) (A0l m.fields v.number) v).1)++BO.unk b⟩:BO (BI n))
theorem A4o {β:Type}{fs:List FI}{f:List UInt8→β→Int}{l:List (VI β)}(h:RtL fs f l)(p:VI β→Bool):RtL fs f (l.filter p):=⟨fun v hv=>h.each v (List.mem_filter.1 hv).1,h.rise.filter _,h.apart.filter _⟩
theorem B1x {β γ:Type}{lacks:List Int}{fs:List FI}(hp:fs.Pairwise fun a b=>a.number≠b.number){f:List UInt8→β→Int}{x:FI}{v:VI β}(h:RtV fs f x v)(hk:A2n lacks x=true)(u : β→γ):RtV (fs.filter (A2n lacks)) (fun _ _=>0) x (upV u v):=by
 have hm:A1i (upV u v)=A1i v:=by unfold A1i upV;simp
 refine⟨B2o hp h.fld hk,?_,?_,?_,h.bits,h.bytes,fun _ _=>rfl⟩
 ·have:=h.others
  unfold A0v at this ⊢
  rw[show(upV u v).subs.length=v.subs.length by unfold upV;simp]
  exact this
 ·have:=h.misc
  unfold A3p at this ⊢
  rw[hm]
  exact this
 ·have:=h.without
  unfold A0p at this ⊢
  rw[hm]
  exact this
theorem B6d {β:Type}{lacks:List Int}{fs:List FI}{f:List UInt8→β→Int}{x:FI}{v:VI β}(h:RtV fs f x v):A3v lacks fs v.number=A2n lacks x:=by
 unfold A3v
 rw[A1b h.fld]
theorem C2w {β γ:Type}{lacks:List Int}{fs:List FI}(hp:fs.Pairwise fun a b=>a.number≠b.number){f:List UInt8→β→Int}{l:List (VI β)}(h:RtL fs f l)(u:VI β→β→γ):RtL (fs.filter (A2n lacks)) (fun _ _=>0) ((l.filter fun v=>A3v lacks fs v.number).map fun v=>upV (u v) v):=by
 have hx:∀ v∈l.filter fun v=>A3v lacks fs v.number,∃ x,RtV fs f x v∧A2n lacks x=true:=fun v hv=>by
  obtain⟨h1,h2⟩:=List.mem_filter.1 hv
  obtain⟨x,hx⟩:=h.each v h1
  rw[B6d hx] at h2
  exact⟨x,hx,h2⟩
 refine⟨fun v' hv'=>?_,List.pairwise_map.2 (h.rise.filter _),List.pairwise_map.2 (List.Pairwise.imp_of_mem (fun {a b} ha hb hab=>?_) (h.apart.filter _))⟩
 ·obtain⟨v,hv,rfl⟩:=List.mem_map.1 hv'
  obtain⟨x,h1,h2⟩:=hx v hv
  exact⟨x,B1x hp h1 h2 (u v)⟩
 ·obtain⟨x,h1,h2⟩:=hx a ha
  obtain⟨y,h3,h4⟩:=hx b hb
  have e1:=A6w (B1x hp h1 h2 (u a))
  have e2:=A6w (B1x hp h3 h4 (u b))
  rw[A6w h1,A6w h3] at hab
  rw[e1,e2]
  exact hab
theorem B2t {β:Type}{J:MI→β→β→β}{ms:List MI}{fs:List FI}{f:List UInt8→β→Int}{l:List (VI β)}(h:RtL fs f l):l.foldl (A3h J ms fs) []=l:=by
 refine B1w (A9d _ _ .nil) h.rise fun n=>?_
 rw[A9g n l [] h]
 unfold C5a
 cases hA:l.find? (isV n) with
 | some v=>rfl
 | none=>simp
theorem D1u {β:Type}{J:MI→β→β→β}{ms:List MI}{fs:List FI}{f:List UInt8→β→Int}{l:List (VI β)}(h:RtL fs f l)(q:Int→Bool):(l.filter fun v=>!q v.number).foldl (A3h J ms fs) ((l.filter fun v=>q v.number).foldl (A3h J ms fs) [])=l:=by
 rw[B2t (A4o h _)]
 refine B1w (A9d _ _ (h.rise.filter _)) h.rise fun n=>?_
 rw[A9g n _ _ (A4o h _)]
 unfold C5a
 have e1:=A4t (fun m=>!q m) n l
 have e2:=A4t q n l
 rw[e1,e2]
 cases hq:q n with
 | false=>
  simp only[Bool.not_false,if_true,Bool.false_eq_true,if_false]
  cases hA:l.find? (isV n) with
  | some v=>rfl
  | none=>simp
 | true=>
  simp only[Bool.not_true,if_true,Bool.false_eq_true,if_false]
  cases hA:l.find? (isV n) with
  | none=>simp
  | some a=>
   have ha:=List.mem_of_find?_eq_some hA
   have hn:a.number=n:=of_decide_eq_true (List.find?_some (p:=isV n) hA)
   rw[if_neg]
   intro e
   obtain⟨v,hv,ho⟩:=List.any_eq_true.1 e
   obtain⟨h1,h2⟩:=List.mem_filter.1 hv
   unfold ouB at ho
   obtain⟨o1,o2⟩:=of_decide_eq_true ho
   refine B1p h.apart v h1 a ha (fun e=>?_) o1 (by rw[hn];exact o2.symm)
   rw[e,hn,hq] at h2
   cases h2
theorem B3h {g:GI}{n:Nat}{rd:List UInt8→List UInt8→Except Int (BI n)}{fs:List FI}:∀ (l rest:List RI),(∀ r∈l,fs.find? (isF r.number)=none)→∀ (b:BO (BI n)) (un:List RI),A1f g rd fs (l++rest) b un=A1f g rd fs rest b (un++l)
 | [],rest,_,b,un=>by rw[List.append_nil];rfl
 | r::l,rest,h,b,un=>by
  rw[List.cons_append,A5c (h r (List.mem_cons_self ..)),B3h l rest (fun q hq=>h q (List.mem_cons_of_mem _ hq)),List.append_assoc]
  rfl
theorem B3f {β:Type}{g:GI}{n:Nat}{rd:List UInt8→List UInt8→Except Int (BI n)}{lacks:List Int}{fs:List FI}(hp:fs.Pairwise fun a b=>a.number≠b.number){f:List UInt8→β→Int}{deep:List UInt8→β→List UInt8×Int}{u:List UInt8→β→BI n}:∀ (l:List (VI β)),(∀ v∈l,∃ x,RtV fs f x v)→(∀ v∈l,∀ m∈v.bits,m<18446744073709551616)→
  (∀ v∈l,∀ s∈v.subs,(deep (A0l fs v.number).type s).2=0→rd (A0l fs v.number).type (deep (A0l fs v.number).type s).1 = .ok (u (A0l fs v.number).type s))→(∀ v∈l,(A1a deep (A0l fs v.number) v).2=0)→∀ (rest:List RI) (b:BO (BI n)) (un:List RI),
  A1f g rd (fs.filter (A2n lacks)) (l.flatMap (fun v=>(A1a deep (A0l fs v.number) v).1)++rest) b un=B2c (B1d g (fs.filter (A2n lacks)) b ((l.filter fun v=>A3v lacks fs v.number).map fun v=>upV (u (A0l fs v.number).type) v)) fun b'=>A1f g rd (fs.filter (A2n lacks)) rest b' (un++(l.filter fun v=>!A3v lacks fs v.number).flatMap fun v=>(A1a deep (A0l fs v.number) v).1)
 | [],_,_,_,_,rest,b,un=>by
  show _=A1f g rd _ rest b (un++[])
  rw[List.append_nil]
  rfl
 | v::l,h1,h2,h3,h4,rest,b,un=>by
  obtain⟨x,hx⟩:=h1 v (List.mem_cons_self ..)
  have ex:=A1b hx.fld
  have ek:=B6d (lacks:=lacks) hx
  have ac:=h3 v (List.mem_cons_self ..)
  have ag:=h4 v (List.mem_cons_self ..)
  rw[ex] at ac ag
  have ih:=B3f (g:=g) (rd:=rd) (lacks:=lacks) hp (u:=u) l (fun q hq=>h1 q (List.mem_cons_of_mem _ hq)) (fun q hq=>h2 q (List.mem_cons_of_mem _ hq)) (fun q hq=>h3 q (List.mem_cons_of_mem _ hq)) (fun q hq=>h4 q (List.mem_cons_of_mem _ hq)) rest
  rw[List.flatMap_cons,List.append_assoc]
  cases hk:A2n lacks x with
  | true=>
   have hr:=B1x hp hx hk (id : β→β)
   rw[D5e] at hr
   rw[ex,B4w (u:=u x.type) hr (h2 v (List.mem_cons_self ..)) ac ag,List.filter_cons_of_pos (by rw[ek,hk]),List.filter_cons_of_neg (by rw[ek,hk];simp),List.map_cons]
   show _=B2c (B2c (A1w g n _ (A0l (fs.filter (A2n lacks)) v.number) b (upV (u (A0l fs v.number).type) v)) fun b'=>B1d g _ b' _) _
   rw[A1b hr.fld,ex]
   cases A1w g n (fs.filter (A2n lacks)) x b (upV (u x.type) v) with
   | error E=>rfl
   | ok b'=>exact ih b' un
  | false=>
   rw[B3h _ _ (fun r hr=>by rw[ex] at hr;rw[A7v r hr,A2d hx.fld];exact C7k hp hx.fld hk),List.filter_cons_of_neg (by rw[ek,hk];simp),List.filter_cons_of_pos (by rw[ek,hk];rfl),ih,List.flatMap_cons,←List.append_assoc]
theorem C2z {β:Type}{f : β→List UInt8×Int}:∀ (l:List β) (acc:List (List UInt8)),(∀ b∈l,(f b).2=0)→(A4c f acc l).2=0
 | [],_,_=>rfl
 | b::l,acc,h=>by
  unfold A4c
  rw[if_neg (by rw[h b (List.mem_cons_self ..)];simp)]
  exact C2z l _ fun q hq=>h q (List.mem_cons_of_mem _ hq)
theorem C9i {β:Type}{deep:List UInt8→β→List UInt8×Int}{x:FI}{v:VI β}(h:x.kind=10→∀ s∈v.subs,(deep x.type s).2=0):(A1a deep x v).2=0:=by
 unfold A1a
 split
 ·rename_i hk
  exact C2z _ _ (h hk)
 ·split
  ·rfl
  ·split <;> rfl
theorem C2s {β:Type}{deep:List UInt8→β→List UInt8×Int}{fs:List FI}:∀ (l:List (VI β)) (acc:List RI),(∀ v∈l,(A1a deep (A0l fs v.number) v).2=0)→(A2i deep fs acc l).2=0
 | [],_,_=>rfl
 | v::l,acc,h=>by
  unfold A2i
  rw[if_neg (by rw[h v (List.mem_cons_self ..)];simp)]
  exact C2s l _ fun q hq=>h q (List.mem_cons_of_mem _ hq)
theorem C2o {β:Type}{a b : β→List UInt8}(k:Int):∀ (l:List β),(∀ s∈l,(a s).length=(b s).length)→(B1j ((l.map a).map (B1k k))).length=(B1j ((l.map b).map (B1k k))).length
 | [],_=>rfl
 | s::l,h=>by
  have ih:=C2o k l fun q hq=>h q (List.mem_cons_of_mem _ hq)
  have e:=h s (List.mem_cons_self ..)
  show(recN k 2 0 (a s)++B1j ((l.map a).map (B1k k))).length=(recN k 2 0 (b s)++B1j ((l.map b).map (B1k k))).length
  rw[List.length_append,List.length_append,ih]
  congr 1
  unfold recN
  rw[if_pos rfl,if_pos rfl,List.length_append,List.length_append,List.length_append,List.length_append,e]
theorem C9h {β:Type}{d1 d2:List UInt8→β→List UInt8×Int}{x:FI}{v:VI β}(h:x.kind=10→∀ s∈v.subs,(d1 x.type s).2=0∧(d2 x.type s).2=0∧(d1 x.type s).1.length=(d2 x.type s).1.length):(B1j (A1a d1 x v).1).length=(B1j (A1a d2 x v).1).length:=by
 unfold A1a
 by_cases hk:x.kind=10
 ·rw[if_pos hk,if_pos hk]
  have h:=h hk
  obtain⟨e1,_⟩:=A5l v.subs [] (C2z (f:=d1 x.type) _ [] fun s hs=>(h s hs).1)
  obtain⟨e2,_⟩:=A5l v.subs [] (C2z (f:=d2 x.type) _ [] fun s hs=>(h s hs).2.1)
  dsimp only
  rw[e1,e2]
  exact C2o _ _ fun s hs=>(h s hs).2.2
 ·rw[if_neg hk,if_neg hk]
theorem C8z {α:Type}{A B : α→List RI}(q : α→Bool):∀ (l:List α),(∀ v∈l,q v=true→(B1j (A v)).length=(B1j (B v)).length)→(B1j ((l.filter q).flatMap A)).length+(B1j ((l.filter fun v=>!q v).flatMap B)).length=(B1j (l.flatMap B)).length
 | [],_=>rfl
 | v::l,h=>by
  have ih:=C8z q l fun a ha=>h a (List.mem_cons_of_mem _ ha)
  have e:=h v (List.mem_cons_self ..)
  cases hq:q v with
  | true=>
   have:=e hq
   rw[List.filter_cons_of_pos hq,List.filter_cons_of_neg (by simp[hq]),List.flatMap_cons,List.flatMap_cons,A6n,A6n,List.length_append,List.length_append]
   omega
  | false=>
   rw[List.filter_cons_of_neg (by simp[hq]),List.filter_cons_of_pos (by simp[hq]),List.flatMap_cons,List.flatMap_cons,A6n,A6n,List.length_append,List.length_append]
   omega
theorem D1g {l:List RI}(hw:∀ r∈l,A0t r.number r.how r.bits r.bytes.length=0)(h:(A3n [] l).2=0):(A3n [] l).1=B1j l∧(B1j l).length≤4000:=by
 have e:=B9y l [] (by simp) hw
 rw[List.nil_append] at e
 rw[e] at h ⊢
 by_cases h4:(B1j l).length≤4000
 ·rw[if_pos h4]
  exact⟨rfl,h4⟩
 ·rw[if_neg h4] at h
  cases h
structure OldR (f:GI) (lacks:List Int) (n:Nat) (m:MI) (x:BI n):Prop where
 rd:A3t (A1p lacks f) n (A2e lacks m) (A0x f n m x).1 = .ok (A3f f lacks n m x)
 ok:(A0x (A1p lacks f) n (A2e lacks m) (A3f f lacks n m x)).2=0
 len:(A0x (A1p lacks f) n (A2e lacks m) (A3f f lacks n m x)).1.length=(A0x f n m x).1.length
 back:A3t f n m (A0x (A1p lacks f) n (A2e lacks m) (A3f f lacks n m x)).1 = .ok x
theorem C4n {α β:Type}{A B : α→List β}{l:List α}(h:∀ a∈l,A a=B a):l.flatMap A=l.flatMap B:=by
 rw[List.flatMap_def,List.flatMap_def,List.map_congr_left h]
theorem B3a {f:GI}{lacks:List Int}{n:Nat}{m:MI}{l:List (VI (BI n))}{F:List UInt8→BI n→Int}(hp:m.fields.Pairwise fun a b=>a.number≠b.number)(h:∀ v∈l,∃ x,RtV m.fields F x v):((l.filter fun v=>A3v lacks m.fields v.number).map fun v=>upV (A3f f lacks n (A2j f (A0l m.fields v.number).type)) v).flatMap (fun v=>(A1a (fun t s=>A0x (A1p lacks f) n (A2j (A1p lacks f) t) s) (A0l (m.fields.filter (A2n lacks)) v.number) v).1) =
  (l.filter fun v=>A3v lacks m.fields v.number).flatMap fun v=>(A1a (fun t s=>A0x (A1p lacks f) n (A2e lacks (A2j f t)) (A3f f lacks n (A2j f t) s)) (A0l m.fields v.number) v).1:=by
 rw[List.flatMap_map]
 refine C4n fun v hv=>?_
 obtain⟨h1,h2⟩:=List.mem_filter.1 hv
 obtain⟨x,hx⟩:=h v h1
 rw[B6d hx] at h2
 show(A1a _ (A0l _ v.number) _).1=_
 rw[A1b (B2o hp hx.fld h2),A1b hx.fld,C1e]
 simp only[A9m]
 rfl
theorem B1t {f:GI}(lacks:List Int)(aj:(wrongL f).1=0)(hgd:FGd f):∀ (n:Nat) (k:Int) (m:MI) (x:BI n),m∈f.msgs→k+(n:Int)≤13→A1j f n k m.fields x=0→BQk n x→(A0x f n m x).2=0→OldR f lacks n m x
 | 0,_,_,x,_,_,_,_,_=>nomatch (x:Empty)
 | n+1,k,m,x,hm,hk,he,hq,h=>by
  have hp:=B0o aj hm
  obtain⟨_,hr,hu⟩:=A3d he
  obtain⟨hz,hwr⟩:=B0d h
  have bq:∀ r∈BO.unk x,m.fields.find? (isF r.number)=none:=fun r hr=>(B0x (hu r hr)).2
  have ih:∀ v∈BO.vals x,∀ y,RtV m.fields (fun name s=>A1j f n (k+1) (A0r f name) s) y v→∀ s∈v.subs,(A0x f n (A2j f y.type) s).2=0→OldR f lacks n (A2j f y.type) s:=fun v hv y hy s hs h0=>by
   obtain⟨w1,w2,w3⟩:=B5f aj hm hy hs
   rw[←w2] at w1 w3
   exact B1t lacks aj hgd n (k+1) (A2j f y.type) s w1 (by omega) w3 ((hq.1 v hv).2.2.2 s hs) h0
  have h10:∀ v∈BO.vals x,∀ y,RtV m.fields (fun name s=>A1j f n (k+1) (A0r f name) s) y v→y.kind=10→∀ s∈v.subs,(A0x f n (A2j f y.type) s).2=0:=fun v hv y hy ac s hs=>by
   have bg:=hz v hv
   rw[A1b hy.fld] at bg
   unfold A1a at bg
   rw[if_pos ac] at bg
   exact(A5l v.subs [] bg).2 s hs
  have ag:A3t (A1p lacks f) (n+1) (A2e lacks m) (A0x f (n+1) m x).1 = .ok (A3f f lacks (n+1) m x):=by
   rw[B3j (A6d hq h)]
   show A1f _ _ (m.fields.filter (A2n lacks)) _ _ _=_
   rw[B3f hp (u:=fun t s=>A3f f lacks n (A2j f t) s) (f:=fun name s=>A1j f n (k+1) (A0r f name) s) _ hr.each (fun v hv=>(hq.1 v hv).2.1) (fun v hv s hs h0=>?_) hz,A6c _ _ (C2w hp hr fun v=>A3f f lacks n (A2j f (A0l m.fields v.number).type)) (fun v _=>rfl)]
   ·show A1f _ _ _ (BO.unk x) _ _=_
    rw[A6o _ (fun r ba=>C8m (bq r ba)),B2t (C2w hp hr fun v=>A3f f lacks n (A2j f (A0l m.fields v.number).type))]
    rfl
   ·obtain⟨y,hy⟩:=hr.each v hv
    rw[A1b hy.fld] at h0 ⊢
    have:=(ih v hv y hy s hs h0).rd
    rw[D4t,A9m]
    exact this
  obtain⟨hq',_⟩:=B8v (B0m hgd) (n+1) (A2e lacks m) _ _ ((B0m hgd).fs (A9i hm)) ag
  have br:=B0t (B4z lacks aj) (n+1) k (A2e lacks m) _ _ hk (A9i hm) ag
  obtain⟨_,ba,bt⟩:=A3d br
  have ah:BO.vals (A3f f lacks (n+1) m x)=((BO.vals x).filter fun v=>A3v lacks m.fields v.number).map fun v=>upV (A3f f lacks n (A2j f (A0l m.fields v.number).type)) v:=rfl
  have bc:BO.unk (A3f f lacks (n+1) m x)=((BO.vals x).filter fun v=>!A3v lacks m.fields v.number).flatMap (fun v=>(A1a (fun t s=>A0x f n (A2j f t) s) (A0l m.fields v.number) v).1)++BO.unk x:=rfl
  have bk:∀ v∈(BO.vals x).filter fun v=>A3v lacks m.fields v.number,(A1a (fun t s=>A0x (A1p lacks f) n (A2e lacks (A2j f t)) (A3f f lacks n (A2j f t) s)) (A0l m.fields v.number) v).2=0:=fun v hv=>by
   have hv:=(List.mem_filter.1 hv).1
   obtain⟨y,hy⟩:=hr.each v hv
   rw[A1b hy.fld]
   exact C9i fun ac s hs=>(ih v hv y hy s hs (h10 v hv y hy ac s hs)).ok
  have hgo:∀ v∈BO.vals (A3f f lacks (n+1) m x),(A1a (fun t s=>A0x (A1p lacks f) n (A2j (A1p lacks f) t) s) (A0l (m.fields.filter (A2n lacks)) v.number) v).2=0:=fun v' hv'=>by
   rw[ah] at hv'
   obtain⟨v,hv,rfl⟩:=List.mem_map.1 hv'
   have h1:=bk v hv
   obtain⟨bu,hv2⟩:=List.mem_filter.1 hv
   obtain⟨y,hy⟩:=hr.each v bu
   rw[B6d hy] at hv2
   show(A1a _ (A0l _ v.number) _).2=0
   rw[A1b hy.fld] at h1
   rw[A1b (B2o hp hy.fld hv2),A1b hy.fld,C1e]
   simp only[A9m]
   exact h1
  have hw:A0x (A1p lacks f) (n+1) (A2e lacks m) (A3f f lacks (n+1) m x)=A3n [] (((BO.vals x).filter fun v=>A3v lacks m.fields v.number).flatMap (fun v=>(A1a (fun t s=>A0x (A1p lacks f) n (A2e lacks (A2j f t)) (A3f f lacks n (A2j f t) s)) (A0l m.fields v.number) v).1)++BO.unk (A3f f lacks (n+1) m x)):=by
   show B4d (fun t s=>A0x (A1p lacks f) n (A2j (A1p lacks f) t) s) (A2e lacks m) _=_
   have h0:=C2s (deep:=fun t s=>A0x (A1p lacks f) n (A2j (A1p lacks f) t) s) (fs:=m.fields.filter (A2n lacks)) _ [] hgo
   have e1:=(B6t _ _ h0).1
   rw[List.nil_append,ah,B3a hp hr.each] at e1
   unfold B4d
   show(if (A2i _ (m.fields.filter (A2n lacks)) [] _).2≠0 then _ else A3n [] ((A2i _ (m.fields.filter (A2n lacks)) [] _).1++_))=_
   rw[if_neg (by rw[h0];simp),ah,e1]
  have aw:∀ r∈((BO.vals x).filter fun v=>A3v lacks m.fields v.number).flatMap (fun v=>(A1a (fun t s=>A0x (A1p lacks f) n (A2e lacks (A2j f t)) (A3f f lacks n (A2j f t) s)) (A0l m.fields v.number) v).1)++BO.unk (A3f f lacks (n+1) m x),A0t r.number r.how r.bits r.bytes.length=0:=fun r ba=>by
   rcases List.mem_append.1 ba with h|h
   ·obtain⟨v,hv,h⟩:=List.mem_flatMap.1 h
    obtain⟨y,hy⟩:=hr.each v (List.mem_filter.1 hv).1
    rw[A1b hy.fld] at h
    exact B4x aj hm (deep:=fun t s=>A0x (A1p lacks f) n (A2e lacks (A2j f t)) (A3f f lacks n (A2j f t) s)) (fun t s=>B0c (A1p lacks f) n _ _) hy r h
   ·exact(B0x (bt r h)).1
  have ak:∀ r∈(BO.vals x).flatMap (fun v=>(A1a (fun t x=>A0x f n (A2j f t) x) (A0l m.fields v.number) v).1)++BO.unk x,A0t r.number r.how r.bits r.bytes.length=0:=fun r ba=>by
   rcases List.mem_append.1 ba with h|h
   ·obtain⟨v,hv,h⟩:=List.mem_flatMap.1 h
    obtain⟨y,hy⟩:=hr.each v hv
    rw[A1b hy.fld] at h
    exact B4x aj hm (fun t s=>B0c f n (A2j f t) s) hy r h
   ·exact(B0x (hu r h)).1
  have hlen:(B1j (((BO.vals x).filter fun v=>A3v lacks m.fields v.number).flatMap (fun v=>(A1a (fun t s=>A0x (A1p lacks f) n (A2e lacks (A2j f t)) (A3f f lacks n (A2j f t) s)) (A0l m.fields v.number) v).1)++BO.unk (A3f f lacks (n+1) m x))).length=(B1j ((BO.vals x).flatMap (fun v=>(A1a (fun t x=>A0x f n (A2j f t) x) (A0l m.fields v.number) v).1)++BO.unk x)).length:=by
   rw[bc,A6n,A6n,A6n,List.length_append,List.length_append,List.length_append]
   have:=C8z (A:=fun v=>(A1a (fun t s=>A0x (A1p lacks f) n (A2e lacks (A2j f t)) (A3f f lacks n (A2j f t) s)) (A0l m.fields v.number) v).1) (B:=fun v=>(A1a (fun t x=>A0x f n (A2j f t) x) (A0l m.fields v.number) v).1) (fun v=>A3v lacks m.fields v.number) (BO.vals x) fun v hv _=>by
    obtain⟨y,hy⟩:=hr.each v hv
    rw[A1b hy.fld]
    refine C9h fun ac s hs=>?_
    have h0:=h10 v hv y hy ac s hs
    have hi:=ih v hv y hy s hs h0
    exact⟨hi.ok,h0,hi.len⟩
   omega
  rw[hwr] at h
  obtain⟨b1,b2⟩:=D1g ak h
  have au:=B9y _ [] (by simp) aw
  rw[List.nil_append,hlen,if_pos b2] at au
  have bn:(A0x (A1p lacks f) (n+1) (A2e lacks m) (A3f f lacks (n+1) m x)).2=0:=by rw[hw,au]
  refine⟨ag,bn,by rw[hw,au,hwr,b1];exact hlen,?_⟩
  have bp:=A6d hq' bn
  have e0:(BO.vals (A3f f lacks (n+1) m x)).flatMap (fun v=>(A1a (fun t s=>A0x (A1p lacks f) n (A2j (A1p lacks f) t) s) (A0l (A2e lacks m).fields v.number) v).1)=_:=B3a hp hr.each
  rw[e0,bc] at bp
  have bh:=A4o hr fun v=>A3v lacks m.fields v.number
  have hrg:=A4o hr fun v=>!A3v lacks m.fields v.number
  rw[B3j bp,A6p (f:=fun name s=>A1j f n (k+1) (A0r f name) s) _ bh.each (fun v hv=>(hq.1 v (List.mem_filter.1 hv).1).2.1) (fun v hv s hs h0=>?_) bk,A6c _ _ bh (fun v _=>rfl)]
  ·show A1f _ _ _ (_++BO.unk x) _ _=_
   rw[A6p (f:=fun name s=>A1j f n (k+1) (A0r f name) s) _ hrg.each (fun v hv=>(hq.1 v (List.mem_filter.1 hv).1).2.1) (fun v hv s hs h0=>?_) (fun v hv=>hz v (List.mem_filter.1 hv).1),A6c _ _ hrg (fun v hv=>?_)]
   ·show A1f _ _ _ (BO.unk x) _ _=_
    rw[A6o _ bq]
    exact congrArg Except.ok (congrArg (fun l=>(⟨l,BO.unk x⟩:BO (BI n))) (D1u hr (A3v lacks m.fields)))
   ·show(((BO.vals x).filter fun v=>A3v lacks m.fields v.number).foldl (A3h (jnB f.msgs n) f.msgs m.fields) []).find? (isV v.number)=none
    rw[B2t bh,A4t (A3v lacks m.fields) v.number,if_neg]
    have:=(List.mem_filter.1 hv).2
    intro e
    rw[e] at this
    cases this
   ·have hv:=(List.mem_filter.1 hv).1
    obtain⟨y,hy⟩:=hr.each v hv
    rw[A1b hy.fld] at h0 ⊢
    obtain⟨w1,w2,w3⟩:=B5f aj hm hy hs
    rw[w2] at h0 ⊢
    exact B9c aj n (k+1) _ s w1 w3 ((hq.1 v hv).2.2.2 s hs) h0
  ·have hv:=(List.mem_filter.1 hv).1
   obtain⟨y,hy⟩:=hr.each v hv
   have ac:=(B2n aj hm hy hs).1
   rw[A1b hy.fld]
   exact(ih v hv y hy s hs (h10 v hv y hy ac s hs)).back
def D8m (f:GI)(lacks:List Int)(n:Nat)(M:MI)(l:List UInt8):Prop:=∃ m,M=A2e lacks m∧WrN f n m l
theorem D6c {f:GI}(lacks:List Int)(ac:(wrongL f).1=0):NjC (A1p lacks f) (D8m f lacks):=by
 refine⟨fun {n M l rs A i r x} ⟨m,hm,hN⟩ _ hp hr hx hk=>?_⟩
 subst hm
 obtain⟨h1,h2⟩:=D0q ac hN hp hr (C7j (B0o ac hN.1) hx) hk
 exact⟨⟨_,by rw[D4t,A9m];rfl,h1⟩,fun hm=>.inr (h2 hm)⟩
def D8l (f:GI)(lacks:List Int)(n:Nat)(m:MI)(l:List UInt8):Prop:=WrN f n m l∨m∈f.msgs∧∃ (k:Int) (x:BI n),k+(n:Int)≤13∧A1j f n k m.fields x=0∧BQk n x∧(A0x f n m x).2=0∧l=(A0x (A1p lacks f) n (A2e lacks m) (A3f f lacks n m x)).1
theorem D6b {f:GI}(lacks:List Int)(ag:(wrongL f).1=0)(hgd:FGd f):NjC f (D8l f lacks):=by
 refine⟨fun {n M l rs A i r x} hN _ hps hr hx hk=>?_⟩
 rcases hN with hN|⟨hM,k,b,hkn,he,hq,hz,hl⟩
 ·obtain⟨h1,h2⟩:=D0q ag hN hps hr hx hk
  exact⟨.inl h1,fun hm=>.inr (h2 hm)⟩
 subst hl
 have hp:=B0o ag hM
 have ho:=B1t lacks ag hgd (n+1) k M b hM hkn he hq hz
 obtain⟨_,hrt,hu⟩:=A3d he
 obtain⟨hz',_⟩:=B0d hz
 obtain⟨hq',_⟩:=B8v (B0m hgd) (n+1) (A2e lacks M) _ _ ((B0m hgd).fs (A9i hM)) ho.rd
 have hw:=A6d hq' ho.ok
 rw[hps] at hw
 have bh:=(Prod.mk.inj hw).1
 have e0:(BO.vals (A3f f lacks (n+1) M b)).flatMap (fun v=>(A1a (fun t s=>A0x (A1p lacks f) n (A2j (A1p lacks f) t) s) (A0l (A2e lacks M).fields v.number) v).1)=_:=B3a hp hrt.each
 have bg:BO.unk (A3f f lacks (n+1) M b)=((BO.vals b).filter fun v=>!A3v lacks M.fields v.number).flatMap (fun v=>(A1a (fun t s=>A0x f n (A2j f t) s) (A0l M.fields v.number) v).1)++BO.unk b:=rfl
 rw[e0,bg,←List.append_assoc] at bh
 have bk:∀ r∈BO.unk b,M.fields.find? (isF r.number)=none:=fun r hr=>(B0x (hu r hr)).2
 have bc:=A4o hrt fun v=>A3v lacks M.fields v.number
 have hrg:=A4o hrt fun v=>!A3v lacks M.fields v.number
 have ah:∀ v∈BO.vals b,∀ y,RtV M.fields (fun name s=>A1j f n (k+1) (A0r f name) s) y v→y.kind=10→∀ s∈v.subs,(A0x f n (A2j f y.type) s).2=0∧BQk n s:=fun v hv y hy ac s hs=>by
  have au:=hz' v hv
  rw[A1b hy.fld] at au
  unfold A1a at au
  rw[if_pos ac] at au
  exact⟨(A5l v.subs [] au).2 s hs,(hq.1 v hv).2.2.2 s hs⟩
 have bp:∀ v∈(BO.vals b).filter fun v=>A3v lacks M.fields v.number,(A1a (fun t s=>A0x (A1p lacks f) n (A2e lacks (A2j f t)) (A3f f lacks n (A2j f t) s)) (A0l M.fields v.number) v).2=0:=fun v hv=>by
  have hv:=(List.mem_filter.1 hv).1
  obtain⟨y,hy⟩:=hrt.each v hv
  rw[A1b hy.fld]
  refine C9i fun ac s hs=>?_
  obtain⟨w1,w2,w3⟩:=B5f ag hM hy hs
  rw[←w2] at w1 w3
  obtain⟨h0,ak⟩:=ah v hv y hy ac s hs
  exact(B1t lacks ag hgd n (k+1) _ s w1 (by omega) w3 ak h0).ok
 have bn:∀ v∈(BO.vals b).filter fun v=>!A3v lacks M.fields v.number,(A1a (fun t s=>A0x f n (A2j f t) s) (A0l M.fields v.number) v).2=0:=fun v hv=>hz' v (List.mem_filter.1 hv).1
 have aj:∀ {deep:List UInt8→BI n→List UInt8×Int}{p:VI (BI n)→Bool}{q:RI},q∈((BO.vals b).filter p).flatMap (fun v=>(A1a deep (A0l M.fields v.number) v).1)→∃ v∈BO.vals b,p v=true∧q.number=v.number:=fun {deep p q} h=>by
  obtain⟨v,hv,h⟩:=List.mem_flatMap.1 h
  obtain⟨h1,h2⟩:=List.mem_filter.1 hv
  obtain⟨y,hy⟩:=hrt.each v h1
  rw[A1b hy.fld] at h
  exact⟨v,h1,h2,by rw[A7v q h,A2d hy.fld]⟩
 obtain⟨q,ba,rfl,aw⟩:=D4v (C2g (List.pairwise_append.2 ⟨B6u bc.each (C1f bc.rise) bp,B6u hrg.each (C1f hrg.rise) bn,fun a ha c hc e=>by
  obtain⟨v,_,h2,h3⟩:=aj ha
  obtain⟨v',_,h5,h6⟩:=aj hc
  rw[←h6,←e,h3,h2] at h5
  cases h5⟩) bk) bh hr
 rw[B3k] at hx ⊢
 refine⟨?_,fun hm=>.inr (aw x hx hk hm)⟩
 rcases List.mem_append.1 (List.mem_of_getElem? ba) with h|h
 ·rcases List.mem_append.1 h with h|h
  ·obtain⟨v,hv,hy,s,hs,e,h4⟩:=C1k bc.each bp h hx hk
   have hv:=(List.mem_filter.1 hv).1
   obtain⟨w1,w2,w3⟩:=B5f ag hM hy hs
   obtain⟨h0,ak⟩:=ah v hv x hy hk s hs
   rw[←w2] at w1 w3
   rw[e,←w2]
   exact .inr ⟨w1,k+1,s,by omega,w3,ak,h0,rfl⟩
  ·obtain⟨v,hv,hy,s,hs,e,h4⟩:=C1k hrg.each bn h hx hk
   have hv:=(List.mem_filter.1 hv).1
   obtain⟨w1,w2,w3⟩:=B5f ag hM hy hs
   obtain⟨h0,ak⟩:=ah v hv x hy hk s hs
   rw[←w2] at w1 w3
   rw[e,←w2]
   exact .inl ⟨w1,k+1,s,w3,ak,h0,rfl⟩
 ·rw[bk q h] at hx
  cases hx
theorem A8v {w:World}{ao:Option Addr}{len cap:Nat}{l:List UInt8}(h:RdL 1 YAt w (.slice ao len cap) l):(convert 32 9 (.slice ao len cap)).run Tryz.prog w = .ok (.string ⟨l.toArray⟩) w:=by
 obtain⟨ac,n',cap',e,h1,h2,h3,h4,h5⟩:=h
 cases e
 cases ao with
 | none=>
  have hc0:=(h4 rfl).1
  have hm:l = []:=List.eq_nil_of_length_eq_zero (by omega)
  subst hm
  rw[run_convert_bytes_nil w 32 5 Tryz.underlying32 Tryz.underlying5 len cap 9 Tryz.underlying9]
  rfl
 | some x=>
  have hl:(loadCells x len).run Tryz.prog w = .ok ((l.map fun c=>((c.toNat:Nat):Int)).map (Value.int .u8)).toArray w:=by
   have:=run_loadCells_list (P:=Tryz.prog) w x ((l.map fun c=>((c.toNat:Nat):Int)).map (Value.int .u8)) (fun j v hj=>by
    rw[List.getElem?_map,List.getElem?_map] at hj
    cases hc:l[j]? with
    | none=>rw[hc] at hj;cases hj
    | some c=>
     rw[hc] at hj
     have:=h5 x rfl j c hc
     rw[Nat.mul_one] at this
     rw[show w.cell? (x.add j)=_ from this]
     exact hj)
   simpa [h1] using this
  rw[run_convert_bytes_string w 32 9 5 _ len cap Tryz.underlying32 Tryz.underlying5 Tryz.underlying9,run_bytesToString w _ len cap _ hl,foldl_push_bytes]
  have e:∀ l:List UInt8,(l.map fun c=>((c.toNat:Nat):Int)).map (fun n:Int=>UInt8.ofNat n.toNat)=l:=by
   intro l
   rw[List.map_map]
   conv=>rhs;rw[←List.map_id l]
   apply List.map_congr_left
   intro c _
   simp
  rw[e]
  simp[ByteArray.empty,ByteArray.emptyWithCapacity]
  rfl
theorem A8g (B:Nat)(w:World){n:Nat}:Below B w (w.drewN n):=⟨rfl,rfl,rfl,Nat.le_refl _,fun _ _=>rfl⟩
theorem A6g {w:World}{v:Value}{l:List UInt8}(h:RdL 1 YAt w v l)(n:Nat):RdL 1 YAt (w.drewN n) v l:=h
theorem C9k {va vb:Value}{rs:List RI}{w:World}(ha:RdL 4 RAt w va rs)(hb:RdL 4 RAt w vb rs) :
  Calls Tryz.prog 29 #[va,vb] w fun e w'=>e = .returned (.bool true)∧Below w.heap.size w w':=by
 obtain⟨ao,n,ca,rfl,Ha,bg⟩:=ha.shape
 obtain⟨bo,n',cb,rfl,Hb,_⟩:=hb.shape
 obtain rfl:n=n':=by rw[Ha.out,Hb.out]
 go_enter Tryz.func29,Tryz.ntmps29
 go_wp2_with fail
 go_loopg [13] n (fun m i wr=>∃ (k d:Nat),k+m=n∧i = .int .i64 (k:Int)∧wr=w.drewN d)
 case atStart=>exact⟨0,0,by omega,rfl,rfl⟩
 case round=>
  obtain⟨k,d,hk,rfl,rfl⟩:=hrel
  by_cases hlt:k<n
  ·obtain⟨r,Hr⟩:∃ r,Hid (rs[k]?=some r):=⟨rs[k]'(by rw[←Ha.out];exact hlt),List.getElem?_eq_getElem (by rw[←Ha.out];exact hlt)⟩
   obtain⟨b,off,rfl,hat⟩:=ha.get RAt.plain Hr.out
   obtain⟨b',off',rfl,hat'⟩:=hb.get RAt.plain Hr.out
   obtain⟨v1,c0,c1,c2,c3,aj⟩:=hat.at
   obtain⟨v2,d0,d1,d2,d3,ac⟩:=hat'.at
   obtain⟨aw,ak,ag,rfl,_,_⟩:=aj.shape
   obtain⟨ba,au,ah,rfl,_,_⟩:=ac.shape
   have s1:∀ n,(convert 32 9 (.slice aw ak ag)).run Tryz.prog (w.drewN n) = .ok (.string ⟨r.bytes.toArray⟩) (w.drewN n):=fun n=>A8v (A6g aj n)
   have s2:∀ n,(convert 32 9 (.slice ba au ah)).run Tryz.prog (w.drewN n) = .ok (.string ⟨r.bytes.toArray⟩) (w.drewN n):=fun n=>A8v (A6g ac n)
   have bc:(k:Int)<(n:Int):=by omega
   clear aj ac ha hb hat hat'
   go_wp2_with fail
   go_quiet (fail)
   go_wp2_with fail
   go_roundg (n-(k+1))
   case measure=>omega
   case rel=>exact⟨k+1,_,by omega,by go_num,rfl⟩
  ·go_wp2
   go_ret
   exact⟨rfl,A8g _ _⟩
end L
end Go.Proofs.YtgaoojpakjjdnaaGreatDoor
