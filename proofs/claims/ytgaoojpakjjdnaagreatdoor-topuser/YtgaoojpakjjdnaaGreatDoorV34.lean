import Derived.Test.YtgaoojpakjjdnaaGreatDoorV33
import Derived.Test.YtgaoojpakjjdnaaGreatDoorV19
set_option maxHeartbeats 32000000
set_option maxRecDepth 100000
namespace Go.Proofs.YtgaoojpakjjdnaaGreatDoor
namespace L
open Go.RowKit
set_option linter.unusedVariables false
def Z5 (n:Int):Prop:=n=0∨n=5
theorem A7y {α:Type}{f : α→Int}:∀ {l:List α},(∀ a∈l,f a=0)→A1e f l=0
  | [],_=>rfl
  | a::l,h=>by
    unfold A1e
    rw[if_pos (h a (List.mem_cons_self ..))]
    exact A7y fun b hb=>h b (List.mem_cons_of_mem _ hb)
structure AlV {β:Type}(fs:List FI) (f:List UInt8→β→Int) (x:FI) (v:VI β):Prop where
  fld:fs.find? (isF v.number)=some x
  others:A1d x v=false
  without:A0p x v=false
  bits:∀ n∈v.bits,A2t x.kind n=0
  bytes:∀ l∈v.bytes,A2l x.kind l=0
  subs:∀ s∈v.subs,Z5 (f x.type s)
theorem RtV.al {β:Type}{fs:List FI}{f:List UInt8→β→Int}{x:FI}{v:VI β}(h:RtV fs f x v):AlV fs f x v:=⟨h.fld,h.others,h.without,h.bits,h.bytes,fun s hs=>.inl (h.subs s hs)⟩
def D7r (d:Nat):BI (d+1):=(⟨[],[]⟩:BO (BI d))
theorem C5z {g:GI}{d:Nat}{k:Int}{m:MI}{a:BI (d+1)}(ha:A3n g (d+1) k m.fields a=0):jnB g.msgs (d+1) m (D7r d) a=a:=by
  obtain⟨_,ra,_⟩:=A5w ha
  have hv:(BO.vals a).foldl (A3q (jnB g.msgs d) g.msgs m.fields) []=BO.vals a:=by
    refine C0m (B5z _ _ .nil) ra.rise fun n=>?_
    rw[B6i n (BO.vals a) [] ra]
    unfold D0e
    cases hA:(BO.vals a).find? (isV n) with
    | some v=>rfl
    | none=>simp
  show(⟨(BO.vals a).foldl (A3q (jnB g.msgs d) g.msgs m.fields) [],[]++BO.unk a⟩:BO (BI d))=a
  rw[hv,List.nil_append]
  rfl
open Go.RowKit
set_option linter.unusedVariables false
def B3k {α β:Type}(r:Except Int α) (f : α→Except Int β):Except Int β:=match r with
 | .error E=>.error E
 | .ok a=>f a
theorem C1e {α β γ:Type}(r:Except Int α) (f : α→Except Int β) (h : β→Except Int γ):B3k (B3k r f) h=B3k r fun a=>B3k (f a) h:=by cases r <;> rfl
theorem C4c {α:Type}(r:Except Int α):(B3k r fun a=>.ok a)=r:=by cases r <;> rfl
def A6n {β:Type}(a b:VI β):VI β:=⟨a.number,a.bits++b.bits,a.bytes++b.bytes,a.subs++b.subs⟩
theorem C1f {β:Type}(a b c:VI β):A6n (A6n a b) c=A6n a (A6n b c):=by
 unfold A6n
 simp only[List.append_assoc]
theorem B0g {β:Type}(a b:VI β):A1h (A6n a b)=A1h a+A1h b:=by
 unfold A1h A6n
 simp only[List.length_append]
 omega
theorem B6l {β:Type}{J:MI→β→β→β}{ms:List MI}{x:FI}(hm:x.many=true) (a b:VI β):A5r J ms x a b=A6n a b:=by
 unfold A5r
 rw[if_pos hm]
 rfl
theorem B1h {g:GI}{x:FI}(hm:x.many=true):∀ (d:Nat) (a b:VI (BI d)),C8s g d x a b = .ok (A6n a b)
 | 0,a,b=>by
  show Except.ok (A5r (jnB g.msgs 0) g.msgs x a b)=_
  rw[B6l hm]
 | d+1,a,b=>by
  rw[A8e,if_neg (by rw[hm];simp),B6l hm]
theorem B7i {β:Type}{x:FI}(hm:x.many=true) (v:VI β):A0p x v=false:=by
 unfold A0p
 rw[if_pos (.inl hm)]
theorem D3t {β:Type}{fs:List FI}{x:FI}{l:List (VI β)}{y:VI β}(hx:fs.find? (isF y.number)=some x) (y':VI β):A3h fs x (A3h fs x l y) y'=A3h fs x l y':=by
 have e:(A3h fs x l y).filter (fun a=>!A0n fs x a.number)=l.filter fun a=>!A0n fs x a.number:=by
  unfold A3h
  split
  ·rw[List.filter_filter]
   congr 1
   funext a
   simp
  ·rw[List.filter_append,List.filter_append,List.filter_cons_of_neg (by rw[A8i hx];simp),List.filter_nil,List.append_nil,←List.filter_append,List.take_append_drop,List.filter_filter]
   congr 1
   funext a
   simp
 have key:∀ L:List (VI β),L.filter (fun a=>!A0n fs x a.number)=l.filter (fun a=>!A0n fs x a.number)→A3h fs x L y'=A3h fs x l y':=fun L h=>by
  unfold A3h
  rw[h]
 exact key _ e
theorem D1u {g:GI}{n:Nat}{fs:List FI}{x:FI}(b:BO (BI n)){v1 v2:VI (BI n)}(hx:fs.find? (isF v1.number)=some x) (hm:x.many=true) (hn:v2.number=v1.number) (h1:A1h v1≠0) (h2:A1h v2≠0) :
  A1w g n fs x b (A6n v1 v2)=B3k (A1w g n fs x b v1) fun b'=>A1w g n fs x b' v2:=by
 have key:∀ y:VI (BI n),y.number=v1.number→A1w g n fs x ⟨A3h fs x b.vals y,b.unk⟩ v2=if 60 < A1h (A6n y v2) then .error 5 else .ok ⟨A3h fs x b.vals (A6n y v2),b.unk⟩:=by
  intro y hy
  have ac:fs.find? (isF y.number)=some x:=by rw[hy];exact hx
  have hl:=B4f (l:=b.vals) ac y.number
  rw[if_pos rfl,B7i hm,if_neg (by simp),hy,←hn] at hl
  unfold A1w
  rw[if_neg h2]
  dsimp only
  rw[hl]
  dsimp only
  rw[B1h hm]
  dsimp only
  rw[D3t ac]
 have hs:A1h (A6n v1 v2)≠0:=by rw[B0g];omega
 have e1:(A6n v1 v2).number=v1.number:=rfl
 cases hf:b.vals.find? (isV v1.number) with
 | none=>
  have w1:A1w g n fs x b v1=if 60 < A1h v1 then .error 5 else .ok ⟨A3h fs x b.vals v1,b.unk⟩:=by
   unfold A1w
   rw[if_neg h1,hf]
  have w2:A1w g n fs x b (A6n v1 v2)=if 60 < A1h (A6n v1 v2) then .error 5 else .ok ⟨A3h fs x b.vals (A6n v1 v2),b.unk⟩:=by
   unfold A1w
   rw[if_neg hs,e1,hf]
  rw[w1,w2]
  by_cases h60:60 < A1h v1
  ·rw[if_pos h60,if_pos (by rw[B0g];omega)]
   rfl
  ·rw[if_neg h60]
   exact(key v1 rfl).symm
 | some u=>
  have hu:u.number=v1.number:=by have:=List.find?_some hf;simpa [isV] using this
  have w1:A1w g n fs x b v1=if 60 < A1h (A6n u v1) then .error 5 else .ok ⟨A3h fs x b.vals (A6n u v1),b.unk⟩:=by
   unfold A1w
   rw[if_neg h1,hf]
   dsimp only
   rw[B1h hm]
  have w2:A1w g n fs x b (A6n v1 v2)=if 60 < A1h (A6n (A6n u v1) v2) then .error 5 else .ok ⟨A3h fs x b.vals (A6n (A6n u v1) v2),b.unk⟩:=by
   unfold A1w
   rw[if_neg hs,e1,hf]
   dsimp only
   rw[B1h hm,C1f]
  rw[w1,w2]
  by_cases h60:60 < A1h (A6n u v1)
  ·rw[if_pos h60,if_pos (by rw[B0g];omega)]
   rfl
  ·rw[if_neg h60]
   exact(key (A6n u v1) hu).symm
def A6l {n:Nat}(g:GI) (fs:List FI) (x:FI):BO (BI n)→List (VI (BI n))→Except Int (BO (BI n))
 | b,[]=>.ok b
 | b,v::vs=>B3k (A1w g n fs x b v) fun b'=>A6l g fs x b' vs
theorem B5g {g:GI}{n:Nat}{fs:List FI}{x:FI}:∀ (vs:List (VI (BI n))) (v:VI (BI n)) (b:BO (BI n)),fs.find? (isF v.number)=some x→(vs≠[]→x.many=true)→A1h v≠0→(∀ u∈vs,u.number=v.number∧A1h u≠0)→A6l g fs x b (v::vs)=A1w g n fs x b (vs.foldl A6n v)
 | [],v,b,_,_,_,_=>C4c _
 | u::vs,v,b,hx,hm,h0,h=>by
  obtain⟨h1,h2⟩:=h u (List.mem_cons_self ..)
  have ag:=hm (by simp)
  have e:A6l g fs x b (v::u::vs)=A6l g fs x b (A6n v u::vs):=by
   have ha:=D1u (g:=g) b hx ag h1 h0 h2
   show(B3k (A1w g n fs x b v) fun b'=>B3k (A1w g n fs x b' u) fun ac=>A6l g fs x ac vs)=B3k (A1w g n fs x b (A6n v u)) fun ac=>A6l g fs x ac vs
   rw[ha,C1e]
  rw[e,B5g vs (A6n v u) b hx (fun _=>ag) (by rw[B0g];omega) (fun q hq=>h q (List.mem_cons_of_mem _ hq))]
  rfl
theorem A9d {α:Type}{g:GI}{n:Nat}{rd:List UInt8→List UInt8→Except Int (BI n)}{fs:List FI}{x:FI}{R : α→RI}{V : α→VI (BI n)}(hx:∀ a,fs.find? (isF (R a).number)=some x):∀ (l:List α),(∀ a∈l,A3o rd x (R a) = .ok (V a))→∀ (rest:List RI) (b:BO (BI n)) (un:List RI),
  A1l g rd fs (l.map R++rest) b un=B3k (A6l g fs x b (l.map V)) fun b'=>A1l g rd fs rest b' un
 | [],_,_,_,_=>rfl
 | a::l,h,rest,b,un=>by
  have ht:=h a (List.mem_cons_self ..)
  rw[List.map_cons,List.cons_append,List.map_cons]
  show _=B3k (B3k (A1w g n fs x b (V a)) fun b'=>A6l g fs x b' (l.map V)) fun b'=>A1l g rd fs rest b' un
  cases hw:A1w g n fs x b (V a) with
  | error E=>
   rw[A5q (hx a) ht hw]
   rfl
  | ok b'=>
   rw[A8l (hx a) ht hw]
   exact A9d hx l (fun q hq=>h q (List.mem_cons_of_mem _ hq)) rest b' un
theorem B2z {g:GI}{n:Nat}{rd:List UInt8→List UInt8→Except Int (BI n)}{fs:List FI}{r:RI}{rs:List RI}{b:BO (BI n)}{un:List RI}{x:FI}{v:VI (BI n)}(h:fs.find? (isF r.number)=some x) (ht:A3o rd x r = .ok v):A1l g rd fs (r::rs) b un=B3k (A1w g n fs x b v) fun b'=>A1l g rd fs rs b' un:=by
 cases hw:A1w g n fs x b v with
 | error E=>exact A5q h ht hw
 | ok b'=>exact A8l h ht hw
theorem C0q {β:Type}{f : β→List UInt8×Int}:∀ (l:List β) (acc:List (List UInt8)),(A3v f acc l).2=0→(A3v f acc l).1=acc++l.map (fun b=>(f b).1)∧∀ b∈l,(f b).2=0
 | [],acc,_=>⟨by simp[A3v],fun _ h=>by cases h⟩
 | b::l,acc,h=>by
  unfold A3v at h ⊢
  by_cases h1:(f b).2≠0
  ·rw[if_pos h1] at h;exact absurd h h1
  ·rw[if_neg h1] at h ⊢
   obtain⟨e1,e2⟩:=C0q l _ h
   refine⟨by rw[e1];simp,fun c hc=>?_⟩
   rcases List.mem_cons.1 hc with rfl|hc
   ·exact Decidable.not_not.1 h1
   ·exact e2 c hc
theorem B2t {β:Type}(k:Int):∀ (zs:List (List UInt8)) (ys:List (List UInt8)),(zs.map fun z=>(⟨k,[],[z],[]⟩:VI β)).foldl A6n ⟨k,[],ys,[]⟩=⟨k,[],ys++zs,[]⟩
 | [],ys=>by simp
 | z::zs,ys=>by
  rw[List.map_cons,List.foldl_cons]
  show(zs.map fun z=>(⟨k,[],[z],[]⟩:VI β)).foldl A6n ⟨k,[],ys++[z],[]⟩=_
  rw[B2t k zs,List.append_assoc]
  rfl
theorem B6a {β:Type}(k:Int):∀ (zs:List β) (ys:List β),(zs.map fun z=>(⟨k,[],[],[z]⟩:VI β)).foldl A6n ⟨k,[],[],ys⟩=⟨k,[],[],ys++zs⟩
 | [],ys=>by simp
 | z::zs,ys=>by
  rw[List.map_cons,List.foldl_cons]
  show(zs.map fun z=>(⟨k,[],[],[z]⟩:VI β)).foldl A6n ⟨k,[],[],ys++[z]⟩=_
  rw[B6a k zs,List.append_assoc]
  rfl
theorem B4i {β:Type}{x:FI}{v:VI β}(h:A5f x v=false):1≤A1h v∧A1h v≤60∧(1 < A1h v→x.many=true):=by
 unfold A5f at h
 simp only[Bool.or_eq_false_iff,Bool.and_eq_false_iff,decide_eq_false_iff_not,Bool.not_eq_eq_eq_not,Bool.not_false] at h
 obtain⟨h1,h2,h3⟩:=h
 refine⟨by omega,by omega,fun h4=>?_⟩
 rcases h3 with h3|h3
 ·omega
 ·exact h3
theorem D1c {β:Type}{x:FI}{v:VI β}(h:A1d x v=false) (hk:x.kind=8∨x.kind=9):v.bits = []∧v.subs = []:=by
 unfold A1d at h
 rw[if_pos hk] at h
 simp only[decide_eq_false_iff_not] at h
 exact⟨List.eq_nil_of_length_eq_zero (by omega),List.eq_nil_of_length_eq_zero (by omega)⟩
theorem D4e {β:Type}{x:FI}{v:VI β}(h:A1d x v=false) (hk:x.kind=10):v.bits = []∧v.bytes = []:=by
 unfold A1d at h
 rw[if_neg (by omega),if_pos hk] at h
 simp only[decide_eq_false_iff_not] at h
 exact⟨List.eq_nil_of_length_eq_zero (by omega),List.eq_nil_of_length_eq_zero (by omega)⟩
theorem C7a {β:Type}{x:FI}{v:VI β}(h:A1d x v=false) (h8:¬ (x.kind=8∨x.kind=9)) (hk:¬ x.kind=10):v.bytes = []∧v.subs = []:=by
 unfold A1d at h
 rw[if_neg h8,if_neg hk] at h
 simp only[decide_eq_false_iff_not] at h
 exact⟨List.eq_nil_of_length_eq_zero (by omega),List.eq_nil_of_length_eq_zero (by omega)⟩
theorem C5g {k:Int}(h8:k=8∨k=9):A3j k=2:=by unfold A3j;rcases h8 with h|h <;> simp[h]
theorem C9u {k:Int}(h:A3j k=2) (h10:¬ k=10):k=8∨k=9:=by
 unfold A3j at h
 split at h
 ·cases h
 ·split at h
  ·cases h
  ·split at h
   ·omega
   ·cases h
theorem C6t {g:GI}{n:Nat}{rd:List UInt8→List UInt8→Except Int (BI n)}{fs:List FI}{f:List UInt8→BI n→Int}{x:FI}{v:VI (BI n)}{deep:List UInt8→BI n→List UInt8×Int}(hv:RtV fs f x v) (hb:∀ m∈v.bits,m < 18446744073709551616)
  (hd:∀ s∈v.subs,(deep x.type s).2=0→rd x.type (deep x.type s).1 = .ok s) (h0:(A2i deep x v).2=0) (rest:List RI) (b:BO (BI n)) (un:List RI) :
  A1l g rd fs ((A2i deep x v).1++rest) b un=B3k (A1w g n fs x b v) fun b'=>A1l g rd fs rest b' un:=by
 have bh:=A4o hv.fld
 obtain⟨m1,bk,mm⟩:=B4i hv.misc
 obtain⟨k,bi,ac,su⟩:=v
 have ah:x.number=k:=bh
 have ak:fs.find? (isF k)=some x:=hv.fld
 unfold A2i at h0 ⊢
 by_cases h10:x.kind=10
 ·rw[if_pos h10] at h0 ⊢
  obtain⟨e1,e2⟩:=D4e hv.others h10
  have e1:bi = []:=e1
  have e2:ac = []:=e2
  subst e1 e2
  obtain⟨q1,q2⟩:=C0q su [] h0
  dsimp only at h0 q1 ⊢
  rw[q1,List.nil_append,List.map_map]
  have aj:∀ s∈su,A3o rd x ((B0h x.number∘fun s=>(deep x.type s).1) s) = .ok ⟨k,[],[],[s]⟩:=fun s hs=>by
   have hr:=hd s hs (q2 s hs)
   unfold A3o
   rw[if_neg (by rw[h10];decide),if_neg (by show ¬ (2:Int)≠2;simp),if_pos h10]
   show(match rd x.type (deep x.type s).1 with|.error E=>Except.error E|.ok s=>Except.ok (⟨x.number,[],[],[s]⟩:VI (BI n)))=_
   rw[hr,ah]
  rw[A9d (V:=fun s=>⟨k,[],[],[s]⟩) (fun a=>by show fs.find? (isF x.number)=some x;rw[ah];exact ak) su aj]
  have a8:1≤su.length∧(1 < su.length→x.many=true):=by
   have e:A1h (⟨k,[],[],su⟩:VI (BI n))=su.length:=by simp[A1h]
   rw[e] at m1 mm
   exact⟨m1,mm⟩
  cases su with
  | nil=>simp at a8
  | cons s ss=>
   rw[List.map_cons,B5g _ _ _ (by exact ak) (fun hne=>a8.2 (by
    cases ss with
    | nil=>simp at hne
    | cons _ _=>simp)) (by simp[A1h]) (fun u hu=>by
     obtain⟨z,_,rfl⟩:=List.mem_map.1 hu
     exact⟨rfl,by simp[A1h]⟩),B6a]
   rfl
 ·rw[if_neg h10] at h0 ⊢
  by_cases hh2:A3j x.kind=2
  ·rw[if_pos hh2] at h0 ⊢
   have ba:=C9u hh2 h10
   obtain⟨e1,e2⟩:=D1c hv.others ba
   have e1:bi = []:=e1
   have e2:su = []:=e2
   subst e1 e2
   have aj:∀ z∈ac,A3o rd x (B0h x.number z) = .ok ⟨k,[],[z],[]⟩:=fun z hz=>by
    have au:=hv.bytes z hz
    unfold A3o
    rw[if_neg (by rw[hh2];simp),if_neg (by show ¬ (2:Int)≠2;simp),if_neg h10,if_neg,ah]
    ·rfl
    ·rintro⟨a1,a2⟩
     unfold A2l at au
     split at au
     ·cases au
     ·rw[if_pos ⟨a1,a2⟩] at au
      cases au
   dsimp only
   rw[A9d (R:=B0h x.number) (V:=fun z=>⟨k,[],[z],[]⟩) (fun a=>by show fs.find? (isF x.number)=some x;rw[ah];exact ak) ac aj]
   have a8:1≤ac.length∧(1 < ac.length→x.many=true):=by
    have e:A1h (⟨k,[],ac,[]⟩:VI (BI n))=ac.length:=by simp[A1h]
    rw[e] at m1 mm
    exact⟨m1,mm⟩
   cases ac with
   | nil=>simp at a8
   | cons s ss=>
    rw[List.map_cons,B5g _ _ _ (by exact ak) (fun hne=>a8.2 (by
     cases ss with
     | nil=>simp at hne
     | cons _ _=>simp)) (by simp[A1h]) (fun u hu=>by
      obtain⟨z,_,rfl⟩:=List.mem_map.1 hu
      exact⟨rfl,by simp[A1h]⟩),B2t]
    rfl
  ·rw[if_neg hh2] at h0 ⊢
   have ba:¬ (x.kind=8∨x.kind=9):=fun h=>hh2 (C5g h)
   obtain⟨e1,e2⟩:=C7a hv.others ba h10
   have e1:ac = []:=e1
   have e2:su = []:=e2
   subst e1 e2
   have bc:=B3z hh2
   have aw:∀ m∈bi,A2t x.kind m=0:=hv.bits
   have hb:∀ m∈bi,m < 18446744073709551616:=hb
   have ag:∀ m∈bi,A3w x.kind (A4r x.kind m)=m:=fun m hm=>D1l (hb m hm) (aw m hm)
   by_cases hmx:x.many=true
   ·rw[if_pos hmx] at h0 ⊢
    have ht:A3o rd x (B0h x.number (packedN (A3j x.kind) (bi.map (A4r x.kind)))) = .ok ⟨k,bi,[],[]⟩:=by
     have hu:unpR (A3j x.kind) (packedN (A3j x.kind) (bi.map (A4r x.kind)))=(bi.map (A4r x.kind),0):=B5b bc fun q hq=>by
      obtain⟨m,hm,rfl⟩:=List.mem_map.1 hq
      exact⟨A8x _ _ (by have:=hb m hm;omega),fun h5=>B2o (aw m hm) h5⟩
     have bg:tnN x (B0h x.number (packedN (A3j x.kind) (bi.map (A4r x.kind))))=(bi,0):=by
      unfold tnN
      rw[if_neg (by show ¬ (2:Int)=A3j x.kind;exact fun e=>hh2 e.symm),if_pos ⟨rfl,hmx⟩]
      show((unpR (A3j x.kind) (packedN (A3j x.kind) (bi.map (A4r x.kind)))).1.map (A3w x.kind),(unpR (A3j x.kind) (packedN (A3j x.kind) (bi.map (A4r x.kind)))).2)=_
      rw[hu]
      dsimp only
      rw[List.map_map,show bi.map (A3w x.kind∘A4r x.kind)=bi from (List.map_congr_left (fun m hm=>ag m hm)).trans (List.map_id _)]
     unfold A3o
     rw[if_pos hh2,bg,if_pos rfl,ah]
    show A1l g rd fs ([B0h x.number (packedN (A3j x.kind) (bi.map (A4r x.kind)))]++rest) b un=_
    rw[List.singleton_append,B2z (by show fs.find? (isF x.number)=some x;rw[ah];exact ak) ht]
   ·rw[if_neg hmx] at h0 ⊢
    obtain⟨q,rfl⟩:∃ q,bi = [q]:=by
     have e:A1h (⟨k,bi,[],[]⟩:VI (BI n))=bi.length:=by simp[A1h]
     rw[e] at m1 mm
     exact List.length_eq_one_iff.1 (by
      rcases Nat.lt_or_ge 1 bi.length with h|h
      ·exact absurd (mm h) hmx
      ·omega)
    have ht:A3o rd x ⟨x.number,A3j x.kind,A4r x.kind q,[]⟩ = .ok ⟨k,[q],[],[]⟩:=by
     unfold A3o tnN
     rw[if_pos hh2,if_pos rfl]
     dsimp only
     rw[if_pos rfl,ag q (by simp),ah]
    show A1l g rd fs ([⟨x.number,A3j x.kind,A4r x.kind q,[]⟩]++rest) b un=_
    rw[List.singleton_append,B2z (by show fs.find? (isF x.number)=some x;rw[ah];exact ak) ht]
open Go.RowKit
set_option linter.unusedVariables false
theorem B4v {β:Type}{deep:List UInt8→β→List UInt8×Int}{fs:List FI}:∀ (l:List (VI β)) (acc:List RI),(A2d deep fs acc l).2=0→(A2d deep fs acc l).1=acc++l.flatMap (fun v=>(A2i deep (A0q fs v.number) v).1)∧∀ v∈l,(A2i deep (A0q fs v.number) v).2=0
 | [],acc,_=>⟨by simp[A2d],fun _ h=>by cases h⟩
 | v::l,acc,h=>by
  unfold A2d at h ⊢
  by_cases h1:(A2i deep (A0q fs v.number) v).2≠0
  ·rw[if_pos h1] at h;exact absurd h h1
  ·rw[if_neg h1] at h ⊢
   obtain⟨e1,e2⟩:=B4v l _ h
   refine⟨by rw[e1];simp,fun c hc=>?_⟩
   rcases List.mem_cons.1 hc with rfl|hc
   ·exact Decidable.not_not.1 h1
   ·exact e2 c hc
def B3e {n:Nat}(g:GI) (fs:List FI):BO (BI n)→List (VI (BI n))→Except Int (BO (BI n))
 | b,[]=>.ok b
 | b,v::vs=>B3k (A1w g n fs (A0q fs v.number) b v) fun b'=>B3e g fs b' vs
theorem B1p {g:GI}{n:Nat}{rd:List UInt8→List UInt8→Except Int (BI n)}{fs:List FI}{f:List UInt8→BI n→Int}{deep:List UInt8→BI n→List UInt8×Int}:∀ (l:List (VI (BI n))),(∀ v∈l,∃ x,RtV fs f x v)→(∀ v∈l,∀ m∈v.bits,m < 18446744073709551616)→
  (∀ v∈l,∀ s∈v.subs,(deep (A0q fs v.number).type s).2=0→rd (A0q fs v.number).type (deep (A0q fs v.number).type s).1 = .ok s)→(∀ v∈l,(A2i deep (A0q fs v.number) v).2=0)→∀ (rest:List RI) (b:BO (BI n)) (un:List RI),
  A1l g rd fs (l.flatMap (fun v=>(A2i deep (A0q fs v.number) v).1)++rest) b un=B3k (B3e g fs b l) fun b'=>A1l g rd fs rest b' un
 | [],_,_,_,_,_,_,_=>rfl
 | v::l,h1,h2,h3,h4,rest,b,un=>by
  obtain⟨x,hx⟩:=h1 v (List.mem_cons_self ..)
  have ex:=A5b hx.fld
  have ac:=h3 v (List.mem_cons_self ..)
  have ag:=h4 v (List.mem_cons_self ..)
  rw[ex] at ac ag
  rw[List.flatMap_cons,List.append_assoc,ex,C6t hx (h2 v (List.mem_cons_self ..)) ac ag]
  show _=B3k (B3k (A1w g n fs (A0q fs v.number) b v) fun b'=>B3e g fs b' l) fun b'=>A1l g rd fs rest b' un
  rw[ex]
  cases hw:A1w g n fs x b v with
  | error E=>rfl
  | ok b'=>exact B1p l (fun q hq=>h1 q (List.mem_cons_of_mem _ hq)) (fun q hq=>h2 q (List.mem_cons_of_mem _ hq)) (fun q hq=>h3 q (List.mem_cons_of_mem _ hq)) (fun q hq=>h4 q (List.mem_cons_of_mem _ hq)) rest b' un
theorem C7t {fs:List FI}{r:RI}(h:B0i fs r=0):A0x r.number r.how r.bits r.bytes.length=0∧fs.find? (isF r.number)=none:=by
 unfold B0i at h
 split at h
 ·rename_i h1
  refine⟨h1,?_⟩
  split at h
  ·cases h
  ·rename_i h2
   unfold A0l at h2
   cases hf:fs.findIdx? (fun f=>decide (f.number=r.number)) with
   | some j=>rw[hf] at h2;exact absurd (by simp) h2
   | none=>
    rw[List.findIdx?_eq_none_iff] at hf
    exact List.find?_eq_none.2 fun y hy=>by
     have:=hf y hy
     simpa [isF] using this
 ·rename_i h1
  exact absurd h h1
theorem B1o {g:GI}{n:Nat}{rd:List UInt8→List UInt8→Except Int (BI n)}{fs:List FI}:∀ (l:List RI),(∀ r∈l,fs.find? (isF r.number)=none)→∀ (b:BO (BI n)) (un:List RI),A1l g rd fs l b un = .ok ⟨b.vals,un++l⟩
 | [],_,b,un=>by rw[List.append_nil];rfl
 | r::l,h,b,un=>by
  rw[A7k (h r (List.mem_cons_self ..)),B1o l (fun q hq=>h q (List.mem_cons_of_mem _ hq)),List.append_assoc]
  rfl
theorem D1v {g:GI}{n:Nat}{fs:List FI}{f:List UInt8→BI n→Int}{x:FI}{v:VI (BI n)}{b:BO (BI n)}(hv:RtV fs f x v) (hf:b.vals.find? (isV v.number)=none):A1w g n fs x b v = .ok ⟨A3q (jnB g.msgs n) g.msgs fs b.vals v,b.unk⟩:=by
 obtain⟨h1,h2,_⟩:=B4i hv.misc
 unfold A1w A3q
 rw[if_neg (by omega),hf,hv.fld]
 dsimp only
 rw[if_neg (by omega)]
theorem B3f {g:GI}{n:Nat}{fs:List FI}{f:List UInt8→BI n→Int}:∀ (l:List (VI (BI n))) (b:BO (BI n)),RtL fs f l→(∀ v∈l,b.vals.find? (isV v.number)=none)→B3e g fs b l = .ok ⟨l.foldl (A3q (jnB g.msgs n) g.msgs fs) b.vals,b.unk⟩
 | [],_,_,_=>rfl
 | v::l,b,h,hn=>by
  obtain⟨x,hx⟩:=h.each v (List.mem_cons_self ..)
  have h':RtL fs f l:=⟨fun a ha=>h.each a (List.mem_cons_of_mem _ ha),(List.pairwise_cons.1 h.rise).2,(List.pairwise_cons.1 h.apart).2⟩
  unfold B3e
  rw[A5b hx.fld,D1v hx (hn v (List.mem_cons_self ..))]
  show B3e g fs _ l=_
  rw[B3f l _ h' (fun a ha=>by
   have hr:=(List.pairwise_cons.1 h.rise).1 a ha
   show(A3q (jnB g.msgs n) g.msgs fs b.vals v).find? (isV a.number)=none
   rw[B6j hx.fld hx.without a.number,if_neg (by omega),hn a (List.mem_cons_of_mem _ ha)]
   split <;> rfl)]
  rfl
theorem C3c {β:Type}{deep:List UInt8→β→List UInt8×Int}{x:FI}{v:VI β}(hb:∀ m∈v.bits,m < 18446744073709551616):∀ r∈(A2i deep x v).1,r.bits≤18446744073709551615:=by
 intro r hr
 unfold A2i at hr
 split at hr
 ·obtain⟨z,_,rfl⟩:=List.mem_map.1 hr
  exact Nat.zero_le _
 ·split at hr
  ·obtain⟨z,_,rfl⟩:=List.mem_map.1 hr
   exact Nat.zero_le _
  ·split at hr
   ·rw[List.mem_singleton.1 hr]
    exact Nat.zero_le _
   ·rw[List.mem_singleton.1 hr]
    show A4r x.kind (v.bits.headD 0)≤_
    cases hbi:v.bits with
    | nil=>exact A8x _ _ (by simp)
    | cons a l=>exact A8x _ _ (by have:=hb a (by rw[hbi];simp);simp only[List.headD_cons];omega)
theorem D3m {g:GI}{t:List UInt8}{m:MI}(h:g.msgs.find? (isN t)=some m):msgD g t=m:=by
 unfold msgD
 rw[h]
 rfl
theorem C6p {g:GI}{n:Nat}{m:MI}{l:List UInt8}{rs:List RI}{A:Nat}(hp:A2r l=(rs.map D4r,0,A)):A4u g (n+1) m l=A1l g (fun t l=>A4u g n (msgD g t) l) m.fields rs ⟨[],[]⟩ []:=by
 rw[B4t hp,D6n]
theorem C0x {g:GI}{n:Nat}{m:MI}{x:BI (n+1)}(h:(A1q g (n+1) m x).2=0):(∀ v∈BO.vals x,(A2i (fun t x=>A1q g n (A4i g t) x) (A0q m.fields v.number) v).2=0)∧
  (A1q g (n+1) m x)=A3z [] ((BO.vals x).flatMap (fun v=>(A2i (fun t x=>A1q g n (A4i g t) x) (A0q m.fields v.number) v).1)++BO.unk x):=by
 have e:A1q g (n+1) m x=B5h (fun t x=>A1q g n (A4i g t) x) m x:=rfl
 rw[e] at h ⊢
 unfold B5h at h ⊢
 by_cases h1:(A2d (fun t x=>A1q g n (A4i g t) x) m.fields [] (BO.vals x)).2≠0
 ·rw[if_pos h1] at h;exact absurd h h1
 ·rw[if_neg h1] at h ⊢
  obtain⟨e1,e2⟩:=B4v _ _ (Decidable.not_not.1 h1)
  rw[e1,List.nil_append]
  exact⟨e2,rfl⟩
theorem C3t {g:GI}{n:Nat}{m:MI}{x:BI (n+1)}(hq:BQk (n+1) x) (h:(A1q g (n+1) m x).2=0):A2r (A1q g (n+1) m x).1=(((BO.vals x).flatMap (fun v=>(A2i (fun t x=>A1q g n (A4i g t) x) (A0q m.fields v.number) v).1)++BO.unk x).map D4r,0,0):=by
 obtain⟨_,e⟩:=C0x h
 rw[e] at h ⊢
 refine C6h (fun r hr=>?_) h
 rcases List.mem_append.1 hr with hr|hr
 ·obtain⟨v,hv,hr⟩:=List.mem_flatMap.1 hr
  exact C3c (fun q hq'=>(hq.1 v hv).2.1 q hq') r hr
 ·have:=(hq.2 r hr).2.2.1
  omega
theorem B5v {g:GI}(ac:(wrongL g).1=0){m:MI}(hm:m∈g.msgs){β:Type}{f:List UInt8→β→Int}{x:FI}{v:VI β}(hx:RtV m.fields f x v){s : β}(hs:s∈v.subs):x.kind=10∧∃ M,g.msgs.find? (isN x.type)=some M:=by
 have hk:x.kind=10:=A7i hx.others (fun e=>by rw[e] at hs;cases hs)
 exact⟨hk,A5i ac m hm x (List.mem_of_find?_eq_some hx.fld) hk⟩
theorem B7c {g:GI}(ac:(wrongL g).1=0):∀ (n:Nat) (k:Int) (m:MI) (x:BI n),m∈g.msgs→A3n g n k m.fields x=0→BQk n x→(A1q g n m x).2=0→A4u g n m (A1q g n m x).1 = .ok x
 | 0,_,_,x,_,_,_,_=>nomatch (x:Empty)
 | n+1,k,m,x,hm,he,hq,h=>by
  obtain⟨_,hr,hu⟩:=A5w he
  obtain⟨hz,_⟩:=C0x h
  rw[C6p (C3t hq h),B1p (f:=fun name s=>A3n g n (k+1) (A2a g name) s) _ hr.each (fun v hv=>(hq.1 v hv).2.1) (fun v hv s hs h0=>?_) hz,B3f _ _ hr (fun v _=>rfl)]
  ·show A1l _ _ _ (BO.unk x) _ _=_
   rw[B1o _ (fun r ah=>(C7t (hu r ah)).2)]
   have hn:=C5z (g:=g) he
   exact congrArg Except.ok hn
  ·obtain⟨y,hy⟩:=hr.each v hv
   have ey:=A5b hy.fld
   rw[ey] at h0 ⊢
   obtain⟨ag,M,hM⟩:=B5v ac hm hy hs
   have e1:A4i g y.type=M:=B8j hM
   have e2:msgD g y.type=M:=D3m hM
   have hz':=hy.subs s hs
   rw[B5w hM] at hz'
   rw[e1] at h0 ⊢
   rw[e2]
   exact B7c ac n (k+1) M s (List.mem_of_find?_eq_some hM) hz' ((hq.1 v hv).2.2.2 s hs) h0
open Go.RowKit
set_option linter.unusedVariables false
theorem C3e {g:GI}(hr:(wrongL g).1=0){m:MI}(hm:m∈g.msgs){x:FI}(hx:x∈m.fields):(1≤x.kind∧x.kind≤10)∧1≤x.number∧x.number < 536870912:=by
 obtain⟨s,hs⟩:=A9c _ _ _ (C6y ((B1q hr).2.2 m hm)).2.2.2 x hx
 simp only[B4p,Bool.and_eq_true,Bool.not_eq_true',Bool.or_eq_false_iff,decide_eq_false_iff_not] at hs
 have h1:=hs.2.2.2.1
 have hh:C8q x.number=true:=hs.2.1
 unfold C8q at hh
 simp at hh
 omega
theorem D2q {β:Type}{fs:List FI}{f:List UInt8→β→Int}:∀ {l:List (VI β)}{s:Int×List Int},(∀ v∈l,∃ x,RtV fs f x v)→(l.Pairwise fun a b=>a.number < b.number)→(∀ v∈l,s.1 < v.number)→(∀ v∈l,0 < A1b fs v.number→A1b fs v.number∉s.2)→D2u fs l→A5k fs f l s=0
 | [],_,_,_,_,_,_=>rfl
 | v::l,s,h,hr,h1,h2,hap=>by
  obtain⟨x,hx⟩:=h v (List.mem_cons_self ..)
  have hc:A1b fs v.number=x.choice:=B2p hx.fld
  have ac:fs.find? (fun y=>decide (y.number=v.number))=some x:=hx.fld
  have hv:B9c fs f v s=0:=by
   unfold B9c
   rw[ac]
   have hall:∀ i,i < 8→eAt x v f s i=0:=by
    intro i hi
    match i,hi with
    | 0,_=>
     have:=h1 v (List.mem_cons_self ..)
     show(if decide (v.number≤s.1) then(2:Int) else 0)=0
     rw[if_neg (by simp;omega)]
    | 1,_=>show(if A1d x v then(8:Int) else 0)=0;rw[hx.others];rfl
    | 2,_=>show(if A5f x v then(5:Int) else 0)=0;rw[hx.misc];rfl
    | 3,_=>show(if A0p x v then(2:Int) else 0)=0;rw[hx.without];rfl
    | 4,_=>exact A7y hx.bits
    | 5,_=>exact A7y hx.bytes
    | 6,_=>exact A7y hx.subs
    | 7,_=>
     show(if decide (0 < x.choice∧x.choice∈s.2) then(8:Int) else 0)=0
     rw[if_neg]
     have:=h2 v (List.mem_cons_self ..)
     rw[hc] at this
     simpa using this
   have hfn:∀ (m k:Nat),k+m≤8→A4p (eAt x v f s) k m=0:=by
    intro m
    induction m with
    | zero=>intro k _;rfl
    | succ m ih=>
     intro k hk
     unfold A4p
     rw[if_pos (hall k (by omega))]
     exact ih (k+1) (by omega)
   exact hfn 8 0 (by omega)
  unfold A5k
  rw[if_pos hv]
  have hn:A9v fs v s=(v.number,A6y x s.2):=by
   unfold A9v
   rw[ac]
  rw[hn]
  refine D2q (fun a ha=>h a (List.mem_cons_of_mem _ ha)) (List.pairwise_cons.1 hr).2 (fun a ha=>(List.pairwise_cons.1 hr).1 a ha) (fun a ha hp=>?_) (fun a ha b hb=>hap a (List.mem_cons_of_mem _ ha) b (List.mem_cons_of_mem _ hb))
  have h3:=h2 a (List.mem_cons_of_mem _ ha) hp
  have h4:=(List.pairwise_cons.1 hr).1 a ha
  have h5:=hap a (List.mem_cons_of_mem _ ha) v (List.mem_cons_self ..) (by omega) hp
  unfold A6y
  split
  ·simp only[List.mem_append,List.mem_singleton,not_or]
   exact⟨h3,by rw[←hc];exact h5⟩
  ·exact h3
theorem C8z {g:GI}{d:Nat}{k:Int}{fs:List FI}{b:BI (d+1)}(hk:k≤12) (h:∀ v∈BO.vals b,∃ x,RtV fs (fun name s=>A3n g d (k+1) (A2a g name) s) x v) (hr:(BO.vals b).Pairwise fun a b=>a.number < b.number) (hp:∀ v∈BO.vals b,0 < v.number) (ha:D2u fs (BO.vals b)) (hu:∀ r∈BO.unk b,B0i fs r=0):A3n g (d+1) k fs b=0:=by
 rw[A6o,if_neg (by omega),if_pos (D2q h hr hp (fun v hv _=>by simp) ha)]
 exact A7y hu
theorem RtV.imp {β:Type}{fs:List FI}{f f':List UInt8→β→Int}{x:FI}{v:VI β}(h:RtV fs f x v) (hf:∀ s∈v.subs,f x.type s=0→f' x.type s=0):RtV fs f' x v:=⟨h.fld,h.others,h.misc,h.without,h.bits,h.bytes,fun s hs=>hf s hs (h.subs s hs)⟩
open Go.RowKit
set_option linter.unusedVariables false
section
variable {β γ:Type}{u : β→γ}
end
theorem C3d {g:GI}(ah:(wrongL g).1=0){m:MI}(hm:m∈g.msgs){β:Type}{f:List UInt8→β→Int}{deep:List UInt8→β→List UInt8×Int}(hf:∀ t x,(deep t x).1.length≤4000){x:FI}{v:VI β}(hx:RtV m.fields f x v):∀ r∈(A2i deep x v).1,A0x r.number r.how r.bits r.bytes.length=0:=by
 obtain⟨_,au,aw⟩:=C3e ah hm (List.mem_of_find?_eq_some hx.fld)
 obtain⟨m1,aj,mm⟩:=B4i hx.misc
 have hz:∀ z:List UInt8,z.length≤4000→A0x (B0h x.number z).number (B0h x.number z).how (B0h x.number z).bits (B0h x.number z).bytes.length=0:=fun z hz=>by
  show A0x x.number 2 0 z.length=0
  unfold A0x
  rw[if_neg (by decide),if_neg (by omega),if_neg (by omega),if_neg (by omega),if_neg (by omega),if_neg (by omega)]
 intro r hr
 unfold A2i at hr
 split at hr
 ·obtain⟨z,hz',rfl⟩:=List.mem_map.1 hr
  exact hz z ((B8w (deep x.type) (hf x.type) v.subs [] (fun z hz=>by cases hz)).1 z hz')
 ·split at hr
  ·obtain⟨z,hz',rfl⟩:=List.mem_map.1 hr
   have:=hx.bytes z hz'
   unfold A2l at this
   split at this
   ·cases this
   ·exact hz z (by omega)
  ·rename_i h10 hh2
   split at hr
   ·rw[List.mem_singleton.1 hr]
    refine hz _ ?_
    have:=B2w (A3j x.kind) (v.bits.map (A4r x.kind))
    rw[List.length_map] at this
    unfold A1h at aj
    omega
   ·rename_i hmx
    rw[List.mem_singleton.1 hr]
    show A0x x.number (A3j x.kind) (A4r x.kind (v.bits.headD 0)) 0=0
    have ak:=B3z hh2
    have ac:¬ (x.kind=8∨x.kind=9):=fun h=>hh2 (C5g h)
    obtain⟨e1,e2⟩:=C7a hx.others ac h10
    have hsm:A3j x.kind=5→A4r x.kind (v.bits.headD 0) < 4294967296:=fun h5=>by
     cases hb:v.bits with
     | nil=>
      unfold A1h at m1
      rw[hb,e1,e2] at m1
      simp at m1
     | cons a l=>exact B2o (hx.bits a (by rw[hb];simp)) h5
    have ag:¬ A1t (A3j x.kind)=false:=B0z (by omega)
    unfold A0x
    rw[if_neg ag,if_neg (by omega),if_neg (by omega),if_neg (by rintro⟨h1,h2⟩;have:=hsm h1;omega),if_neg (by omega),if_neg (by omega)]
theorem C6g {g:GI}{j:Nat}{m:MI}(ac:(wrongL g).1=0) (hm:g.msgs[j]?=some m) (l:List UInt8):A6f g (j:Int) l=A4u g 12 m l:=by
 have hj:=(List.getElem?_eq_some_iff.1 hm).1
 unfold A6f
 rw[if_neg (by rw[ac];simp),if_neg (by omega),Int.toNat_natCast,hm]
theorem C8m {g:GI}{d j:Nat}{m:MI}(ac:(wrongL g).1=0) (hm:g.msgs[j]?=some m) (x:BI (d+1)):A2u g d (j:Int) x=A3n g (d+1) 1 m.fields x:=by
 have hj:=(List.getElem?_eq_some_iff.1 hm).1
 unfold A2u
 rw[if_neg (by rw[ac];simp),if_neg (by omega),Int.toNat_natCast,hm]
theorem D3a {g:GI}{d j:Nat}{m:MI}{x:BI (d+1)}(hw:A2u g d (j:Int) x=0) (hm:g.msgs[j]?=some m):C1i g d (j:Int) x=A1q g (d+1) m x:=by
 unfold C1i
 rw[if_neg (by rw[hw];simp),Int.toNat_natCast,hm]
end L
end Go.Proofs.YtgaoojpakjjdnaaGreatDoor
