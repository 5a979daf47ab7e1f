import Derived.Test.YtcagbdokbnpdfaaGreatDoorWNumm
import Derived.Test.YtcagbdokbnpdfaaGreatDoorBLookm
namespace Go.Proofs.YtcagbdokbnpdfaaGreatDoor
namespace L
open Go.RowKit
set_option linter.unusedVariables false
def B2a {α β:Type}(r:Except Int α) (f : α→Except Int β):Except Int β:=match r with
 | .error E=>.error E
 | .ok a=>f a
theorem C1g {α β γ:Type}(r:Except Int α) (f : α→Except Int β) (h : β→Except Int γ):B2a (B2a r f) h=B2a r fun a=>B2a (f a) h:=by cases r <;> rfl
theorem C3w {α:Type}(r:Except Int α):(B2a r fun a=>.ok a)=r:=by cases r <;> rfl
def A5v {β:Type}(a b:VI β):VI β:=⟨a.number,a.bits++b.bits,a.bytes++b.bytes,a.subs++b.subs⟩
theorem C1h {β:Type}(a b c:VI β):A5v (A5v a b) c=A5v a (A5v b c):=by
 unfold A5v
 simp only[List.append_assoc]
theorem A6o {β:Type}(a b:VI β):A1i (A5v a b)=A1i a+A1i b:=by
 unfold A1i A5v
 simp only[List.length_append]
 omega
theorem A7v {β:Type}{J:MI→β→β→β}{ms:List MI}{x:FI}(hm:x.many=true) (a b:VI β):A2o J ms x a b=A5v a b:=by
 unfold A2o
 rw[if_pos hm]
 rfl
theorem B0t {g:GI}{x:FI}(hm:x.many=true):∀ (d:Nat) (a b:VI (BI d)),C2n g d x a b = .ok (A5v a b)
 | 0,a,b=>by
  show Except.ok (A2o (jnB g.msgs 0) g.msgs x a b)=_
  rw[A7v hm]
 | d+1,a,b=>by
  rw[A4b,if_neg (by rw[hm];simp),A7v hm]
theorem B6p {β:Type}{x:FI}(hm:x.many=true) (v:VI β):A0j x v=false:=by
 unfold A0j
 rw[if_pos (.inl hm)]
theorem D2h {β:Type}{fs:List FI}{x:FI}{l:List (VI β)}{y:VI β}(hx:fs.find? (isF y.number)=some x) (y':VI β):A1x fs x (A1x fs x l y) y'=A1x fs x l y':=by
 have e:(A1x fs x l y).filter (fun a=>!A0o fs x a.number)=l.filter fun a=>!A0o fs x a.number:=by
  unfold A1x
  split
  ·rw[List.filter_filter]
   congr 1
   funext a
   simp
  ·rw[List.filter_append,List.filter_append,List.filter_cons_of_neg (by rw[A6e hx];simp),List.filter_nil,List.append_nil,←List.filter_append,List.take_append_drop,List.filter_filter]
   congr 1
   funext a
   simp
 have key:∀ L:List (VI β),L.filter (fun a=>!A0o fs x a.number)=l.filter (fun a=>!A0o fs x a.number)→A1x fs x L y'=A1x fs x l y':=fun L h=>by
  unfold A1x
  rw[h]
 exact key _ e
theorem D0p {g:GI}{n:Nat}{fs:List FI}{x:FI}(b:BO (BI n)){v1 v2:VI (BI n)}(hx:fs.find? (isF v1.number)=some x) (hm:x.many=true) (hn:v2.number=v1.number) (h1:A1i v1≠0) (h2:A1i v2≠0) :
  A1m g n fs x b (A5v v1 v2)=B2a (A1m g n fs x b v1) fun b'=>A1m g n fs x b' v2:=by
 have key:∀ y:VI (BI n),y.number=v1.number→A1m g n fs x ⟨A1x fs x b.vals y,b.unk⟩ v2=if 60 < A1i (A5v y v2) then .error 5 else .ok ⟨A1x fs x b.vals (A5v y v2),b.unk⟩:=by
  intro y hy
  have hxy:fs.find? (isF y.number)=some x:=by rw[hy];exact hx
  have hl:=B3x (l:=b.vals) hxy y.number
  rw[if_pos rfl,B6p hm,if_neg (by simp),hy,←hn] at hl
  unfold A1m
  rw[if_neg h2]
  dsimp only
  rw[hl]
  dsimp only
  rw[B0t hm]
  dsimp only
  rw[D2h hxy]
 have hs:A1i (A5v v1 v2)≠0:=by rw[A6o];omega
 have e1:(A5v v1 v2).number=v1.number:=rfl
 cases hf:b.vals.find? (isV v1.number) with
 | none=>
  have w1:A1m g n fs x b v1=if 60 < A1i v1 then .error 5 else .ok ⟨A1x fs x b.vals v1,b.unk⟩:=by
   unfold A1m
   rw[if_neg h1,hf]
  have w2:A1m g n fs x b (A5v v1 v2)=if 60 < A1i (A5v v1 v2) then .error 5 else .ok ⟨A1x fs x b.vals (A5v v1 v2),b.unk⟩:=by
   unfold A1m
   rw[if_neg hs,e1,hf]
  rw[w1,w2]
  by_cases h60:60 < A1i v1
  ·rw[if_pos h60,if_pos (by rw[A6o];omega)]
   rfl
  ·rw[if_neg h60]
   exact(key v1 rfl).symm
 | some u=>
  have hu:u.number=v1.number:=by have:=List.find?_some hf;simpa [isV] using this
  have w1:A1m g n fs x b v1=if 60 < A1i (A5v u v1) then .error 5 else .ok ⟨A1x fs x b.vals (A5v u v1),b.unk⟩:=by
   unfold A1m
   rw[if_neg h1,hf]
   dsimp only
   rw[B0t hm]
  have w2:A1m g n fs x b (A5v v1 v2)=if 60 < A1i (A5v (A5v u v1) v2) then .error 5 else .ok ⟨A1x fs x b.vals (A5v (A5v u v1) v2),b.unk⟩:=by
   unfold A1m
   rw[if_neg hs,e1,hf]
   dsimp only
   rw[B0t hm,C1h]
  rw[w1,w2]
  by_cases h60:60 < A1i (A5v u v1)
  ·rw[if_pos h60,if_pos (by rw[A6o];omega)]
   rfl
  ·rw[if_neg h60]
   exact(key (A5v u v1) hu).symm
def A6k {n:Nat}(g:GI) (fs:List FI) (x:FI):BO (BI n)→List (VI (BI n))→Except Int (BO (BI n))
 | b,[]=>.ok b
 | b,v::vs=>B2a (A1m g n fs x b v) fun b'=>A6k g fs x b' vs
theorem B4r {g:GI}{n:Nat}{fs:List FI}{x:FI}:∀ (vs:List (VI (BI n))) (v:VI (BI n)) (b:BO (BI n)),fs.find? (isF v.number)=some x→(vs≠[]→x.many=true)→A1i v≠0→(∀ u∈vs,u.number=v.number∧A1i u≠0)→A6k g fs x b (v::vs)=A1m g n fs x b (vs.foldl A5v v)
 | [],v,b,_,_,_,_=>C3w _
 | u::vs,v,b,hx,hm,h0,h=>by
  obtain⟨h1,h2⟩:=h u (List.mem_cons_self ..)
  have hmt:=hm (by simp)
  have e:A6k g fs x b (v::u::vs)=A6k g fs x b (A5v v u::vs):=by
   have ha:=D0p (g:=g) b hx hmt h1 h0 h2
   show(B2a (A1m g n fs x b v) fun b'=>B2a (A1m g n fs x b' u) fun b''=>A6k g fs x b'' vs)=B2a (A1m g n fs x b (A5v v u)) fun b''=>A6k g fs x b'' vs
   rw[ha,C1g]
  rw[e,B4r vs (A5v v u) b hx (fun _=>hmt) (by rw[A6o];omega) (fun q hq=>h q (List.mem_cons_of_mem _ hq))]
  rfl
theorem A8v {α:Type}{g:GI}{n:Nat}{rd:List UInt8→List UInt8→Except Int (BI n)}{fs:List FI}{x:FI}{R : α→RI}{V : α→VI (BI n)}(hx:∀ a,fs.find? (isF (R a).number)=some x):∀ (l:List α),(∀ a∈l,A3j rd x (R a) = .ok (V a))→∀ (rest:List RI) (b:BO (BI n)) (un:List RI),
  A1j g rd fs (l.map R++rest) b un=B2a (A6k g fs x b (l.map V)) fun b'=>A1j g rd fs rest b' un
 | [],_,_,_,_=>rfl
 | a::l,h,rest,b,un=>by
  have ht:=h a (List.mem_cons_self ..)
  rw[List.map_cons,List.cons_append,List.map_cons]
  show _=B2a (B2a (A1m g n fs x b (V a)) fun b'=>A6k g fs x b' (l.map V)) fun b'=>A1j g rd fs rest b' un
  cases hw:A1m g n fs x b (V a) with
  | error E=>
   rw[A3h (hx a) ht hw]
   rfl
  | ok b'=>
   rw[A4r (hx a) ht hw]
   exact A8v hx l (fun q hq=>h q (List.mem_cons_of_mem _ hq)) rest b' un
theorem B2s {g:GI}{n:Nat}{rd:List UInt8→List UInt8→Except Int (BI n)}{fs:List FI}{r:RI}{rs:List RI}{b:BO (BI n)}{un:List RI}{x:FI}{v:VI (BI n)}(h:fs.find? (isF r.number)=some x) (ht:A3j rd x r = .ok v):A1j g rd fs (r::rs) b un=B2a (A1m g n fs x b v) fun b'=>A1j g rd fs rs b' un:=by
 cases hw:A1m g n fs x b v with
 | error E=>exact A3h h ht hw
 | ok b'=>exact A4r h ht hw
theorem C0s {β:Type}{f : β→List UInt8×Int}:∀ (l:List β) (acc:List (List UInt8)),(A4d f acc l).2=0→(A4d f acc l).1=acc++l.map (fun b=>(f b).1)∧∀ b∈l,(f b).2=0
 | [],acc,_=>⟨by simp[A4d],fun _ h=>by cases h⟩
 | b::l,acc,h=>by
  unfold A4d at h ⊢
  by_cases h1:(f b).2≠0
  ·rw[if_pos h1] at h;exact absurd h h1
  ·rw[if_neg h1] at h ⊢
   obtain⟨e1,e2⟩:=C0s l _ h
   refine⟨by rw[e1];simp,fun c hc=>?_⟩
   rcases List.mem_cons.1 hc with rfl|hc
   ·exact Decidable.not_not.1 h1
   ·exact e2 c hc
theorem B2f {β:Type}(k:Int):∀ (zs:List (List UInt8)) (ys:List (List UInt8)),(zs.map fun z=>(⟨k,[],[z],[]⟩:VI β)).foldl A5v ⟨k,[],ys,[]⟩=⟨k,[],ys++zs,[]⟩
 | [],ys=>by simp
 | z::zs,ys=>by
  rw[List.map_cons,List.foldl_cons]
  show(zs.map fun z=>(⟨k,[],[z],[]⟩:VI β)).foldl A5v ⟨k,[],ys++[z],[]⟩=_
  rw[B2f k zs,List.append_assoc]
  rfl
theorem B5i {β:Type}(k:Int):∀ (zs:List β) (ys:List β),(zs.map fun z=>(⟨k,[],[],[z]⟩:VI β)).foldl A5v ⟨k,[],[],ys⟩=⟨k,[],[],ys++zs⟩
 | [],ys=>by simp
 | z::zs,ys=>by
  rw[List.map_cons,List.foldl_cons]
  show(zs.map fun z=>(⟨k,[],[],[z]⟩:VI β)).foldl A5v ⟨k,[],[],ys++[z]⟩=_
  rw[B5i k zs,List.append_assoc]
  rfl
theorem D5v {β:Type}(k:Int):∀ (zs:List Nat) (ys:List Nat),(zs.map fun z=>(⟨k,[z],[],[]⟩:VI β)).foldl A5v ⟨k,ys,[],[]⟩=⟨k,ys++zs,[],[]⟩
 | [],ys=>by simp
 | z::zs,ys=>by
  rw[List.map_cons,List.foldl_cons]
  show(zs.map fun z=>(⟨k,[z],[],[]⟩:VI β)).foldl A5v ⟨k,ys++[z],[],[]⟩=_
  rw[D5v k zs,List.append_assoc]
  rfl
theorem A4h {β:Type}{x:FI}{v:VI β}(h:A3p x v=false):1≤A1i v∧A1i v≤60∧(1 < A1i v→x.many=true):=by
 unfold A3p at h
 simp only[Bool.or_eq_false_iff,Bool.and_eq_false_iff,decide_eq_false_iff_not,Bool.not_eq_eq_eq_not,Bool.not_false] at h
 obtain⟨h1,h2,h3⟩:=h
 refine⟨by omega,by omega,fun h4=>?_⟩
 rcases h3 with h3|h3
 ·omega
 ·exact h3
theorem C9z {β:Type}{x:FI}{v:VI β}(h:A0t x v=false) (hk:x.kind=8∨x.kind=9):v.bits = []∧v.subs = []:=by
 unfold A0t at h
 rw[if_pos hk] at h
 simp only[decide_eq_false_iff_not] at h
 exact⟨List.eq_nil_of_length_eq_zero (by omega),List.eq_nil_of_length_eq_zero (by omega)⟩
theorem B8t {β:Type}{x:FI}{v:VI β}(h:A0t x v=false) (hk:x.kind=10):v.bits = []∧v.bytes = []:=by
 unfold A0t at h
 rw[if_neg (by omega),if_pos hk] at h
 simp only[decide_eq_false_iff_not] at h
 exact⟨List.eq_nil_of_length_eq_zero (by omega),List.eq_nil_of_length_eq_zero (by omega)⟩
theorem C6t {β:Type}{x:FI}{v:VI β}(h:A0t x v=false) (h8:¬ (x.kind=8∨x.kind=9)) (hk:¬ x.kind=10):v.bytes = []∧v.subs = []:=by
 unfold A0t at h
 rw[if_neg h8,if_neg hk] at h
 simp only[decide_eq_false_iff_not] at h
 exact⟨List.eq_nil_of_length_eq_zero (by omega),List.eq_nil_of_length_eq_zero (by omega)⟩
theorem B7u {k:Int}(h8:k=8∨k=9):A3t k=2:=by unfold A3t;rcases h8 with h|h <;> simp[h]
theorem B9q {k:Int}(h:A3t k=2) (h10:¬ k=10):k=8∨k=9:=by
 unfold A3t at h
 split at h
 ·cases h
 ·split at h
  ·cases h
  ·split at h
   ·omega
   ·cases h
theorem C6n {g:GI}{n:Nat}{rd:List UInt8→List UInt8→Except Int (BI n)}{fs:List FI}{f:List UInt8→BI n→Int}{x:FI}{v:VI (BI n)}{deep:List UInt8→BI n→List UInt8×Int}(hv:RtV fs f x v) (hb:∀ m∈v.bits,m < 18446744073709551616)
  (hd:∀ s∈v.subs,(deep x.type s).2=0→rd x.type (deep x.type s).1 = .ok s) (h0:(A2j deep x v).2=0) (rest:List RI) (b:BO (BI n)) (un:List RI) :
  A1j g rd fs ((A2j deep x v).1++rest) b un=B2a (A1m g n fs x b v) fun b'=>A1j g rd fs rest b' un:=by
 have hxn:=A3x hv.fld
 obtain⟨m1,m60,mm⟩:=A4h hv.misc
 obtain⟨k,bi,by',su⟩:=v
 have hxk:x.number=k:=hxn
 have hfk:fs.find? (isF k)=some x:=hv.fld
 unfold A2j at h0 ⊢
 by_cases h10:x.kind=10
 ·rw[if_pos h10] at h0 ⊢
  obtain⟨e1,e2⟩:=B8t hv.others h10
  have e1:bi = []:=e1
  have e2:by' = []:=e2
  subst e1 e2
  obtain⟨q1,q2⟩:=C0s su [] h0
  dsimp only at h0 q1 ⊢
  rw[q1,List.nil_append,List.map_map]
  have hone:∀ s∈su,A3j rd x ((B2t x.number∘fun s=>(deep x.type s).1) s) = .ok ⟨k,[],[],[s]⟩:=fun s hs=>by
   have hr:=hd s hs (q2 s hs)
   unfold A3j
   rw[if_neg (by rw[h10];decide),if_neg (by show ¬ (2:Int)≠2;simp),if_pos h10]
   show(match rd x.type (deep x.type s).1 with|.error E=>Except.error E|.ok s=>Except.ok (⟨x.number,[],[],[s]⟩:VI (BI n)))=_
   rw[hr,hxk]
  rw[A8v (V:=fun s=>⟨k,[],[],[s]⟩) (fun a=>by show fs.find? (isF x.number)=some x;rw[hxk];exact hfk) su hone]
  have hms:1≤su.length∧(1 < su.length→x.many=true):=by
   have e:A1i (⟨k,[],[],su⟩:VI (BI n))=su.length:=by simp[A1i]
   rw[e] at m1 mm
   exact⟨m1,mm⟩
  cases su with
  | nil=>simp at hms
  | cons s ss=>
   rw[List.map_cons,B4r _ _ _ (by exact hfk) (fun hne=>hms.2 (by
    cases ss with
    | nil=>simp at hne
    | cons _ _=>simp)) (by simp[A1i]) (fun u hu=>by
     obtain⟨z,_,rfl⟩:=List.mem_map.1 hu
     exact⟨rfl,by simp[A1i]⟩),B5i]
   rfl
 ·rw[if_neg h10] at h0 ⊢
  by_cases hh2:A3t x.kind=2
  ·rw[if_pos hh2] at h0 ⊢
   have h89:=B9q hh2 h10
   obtain⟨e1,e2⟩:=C9z hv.others h89
   have e1:bi = []:=e1
   have e2:su = []:=e2
   subst e1 e2
   have hone:∀ z∈by',A3j rd x (B2t x.number z) = .ok ⟨k,[],[z],[]⟩:=fun z hz=>by
    have hbz:=hv.bytes z hz
    unfold A3j
    rw[if_neg (by rw[hh2];simp),if_neg (by show ¬ (2:Int)≠2;simp),if_neg h10,if_neg,hxk]
    ·rfl
    ·rintro⟨a1,a2⟩
     unfold A2k at hbz
     split at hbz
     ·cases hbz
     ·rw[if_pos ⟨a1,a2⟩] at hbz
      cases hbz
   dsimp only
   rw[A8v (R:=B2t x.number) (V:=fun z=>⟨k,[],[z],[]⟩) (fun a=>by show fs.find? (isF x.number)=some x;rw[hxk];exact hfk) by' hone]
   have hms:1≤by'.length∧(1 < by'.length→x.many=true):=by
    have e:A1i (⟨k,[],by',[]⟩:VI (BI n))=by'.length:=by simp[A1i]
    rw[e] at m1 mm
    exact⟨m1,mm⟩
   cases by' with
   | nil=>simp at hms
   | cons s ss=>
    rw[List.map_cons,B4r _ _ _ (by exact hfk) (fun hne=>hms.2 (by
     cases ss with
     | nil=>simp at hne
     | cons _ _=>simp)) (by simp[A1i]) (fun u hu=>by
      obtain⟨z,_,rfl⟩:=List.mem_map.1 hu
      exact⟨rfl,by simp[A1i]⟩),B2f]
    rfl
  ·rw[if_neg hh2] at h0 ⊢
   have h89:¬ (x.kind=8∨x.kind=9):=fun h=>hh2 (B7u h)
   obtain⟨e1,e2⟩:=C6t hv.others h89 h10
   have e1:by' = []:=e1
   have e2:su = []:=e2
   subst e1 e2
   have hhb:=B3q hh2
   have hfit:∀ m∈bi,A2i x.kind m=0:=hv.bits
   have hb:∀ m∈bi,m < 18446744073709551616:=hb
   have htell:∀ m∈bi,A3i x.kind (A5f x.kind m)=m:=fun m hm=>D0h (hb m hm) (hfit m hm)
   by_cases hmx:x.many=true
   ·rw[if_pos hmx] at h0 ⊢
    have ht:A3j rd x (B2t x.number (packedN (A3t x.kind) (bi.map (A5f x.kind)))) = .ok ⟨k,bi,[],[]⟩:=by
     have hu:unpR (A3t x.kind) (packedN (A3t x.kind) (bi.map (A5f x.kind)))=(bi.map (A5f x.kind),0):=B4q hhb fun q hq=>by
      obtain⟨m,hm,rfl⟩:=List.mem_map.1 hq
      exact⟨A8m _ _ (by have:=hb m hm;omega),fun h5=>B2b (hfit m hm) h5⟩
     have htn:tnN x (B2t x.number (packedN (A3t x.kind) (bi.map (A5f x.kind))))=(bi,0):=by
      unfold tnN
      rw[if_neg (by show ¬ (2:Int)=A3t x.kind;exact fun e=>hh2 e.symm),if_pos ⟨rfl,hmx⟩]
      show((unpR (A3t x.kind) (packedN (A3t x.kind) (bi.map (A5f x.kind)))).1.map (A3i x.kind),(unpR (A3t x.kind) (packedN (A3t x.kind) (bi.map (A5f x.kind)))).2)=_
      rw[hu]
      dsimp only
      rw[List.map_map,show bi.map (A3i x.kind∘A5f x.kind)=bi from (List.map_congr_left (fun m hm=>htell m hm)).trans (List.map_id _)]
     unfold A3j
     rw[if_pos hh2,htn,if_pos rfl,hxk]
    show A1j g rd fs ([B2t x.number (packedN (A3t x.kind) (bi.map (A5f x.kind)))]++rest) b un=_
    rw[List.singleton_append,B2s (by show fs.find? (isF x.number)=some x;rw[hxk];exact hfk) ht]
   ·rw[if_neg hmx] at h0 ⊢
    obtain⟨q,rfl⟩:∃ q,bi = [q]:=by
     have e:A1i (⟨k,bi,[],[]⟩:VI (BI n))=bi.length:=by simp[A1i]
     rw[e] at m1 mm
     exact List.length_eq_one_iff.1 (by
      rcases Nat.lt_or_ge 1 bi.length with h|h
      ·exact absurd (mm h) hmx
      ·omega)
    have ht:A3j rd x ⟨x.number,A3t x.kind,A5f x.kind q,[]⟩ = .ok ⟨k,[q],[],[]⟩:=by
     unfold A3j tnN
     rw[if_pos hh2,if_pos rfl]
     dsimp only
     rw[if_pos rfl,htell q (by simp),hxk]
    show A1j g rd fs ([⟨x.number,A3t x.kind,A5f x.kind q,[]⟩]++rest) b un=_
    rw[List.singleton_append,B2s (by show fs.find? (isF x.number)=some x;rw[hxk];exact hfk) ht]
end L
end Go.Proofs.YtcagbdokbnpdfaaGreatDoor
namespace Go.Proofs.YtcagbdokbnpdfaaGreatDoor
namespace L
open Go.RowKit
set_option linter.unusedVariables false
theorem B4l {β:Type}{deep:List UInt8→β→List UInt8×Int}{fs:List FI}:∀ (l:List (VI β)) (acc:List RI),(A2f deep fs acc l).2=0→(A2f deep fs acc l).1=acc++l.flatMap (fun v=>(A2j deep (A1n fs v.number) v).1)∧∀ v∈l,(A2j deep (A1n fs v.number) v).2=0
 | [],acc,_=>⟨by simp[A2f],fun _ h=>by cases h⟩
 | v::l,acc,h=>by
  unfold A2f at h ⊢
  by_cases h1:(A2j deep (A1n fs v.number) v).2≠0
  ·rw[if_pos h1] at h;exact absurd h h1
  ·rw[if_neg h1] at h ⊢
   obtain⟨e1,e2⟩:=B4l l _ h
   refine⟨by rw[e1];simp,fun c hc=>?_⟩
   rcases List.mem_cons.1 hc with rfl|hc
   ·exact Decidable.not_not.1 h1
   ·exact e2 c hc
def A4u {n:Nat}(g:GI) (fs:List FI):BO (BI n)→List (VI (BI n))→Except Int (BO (BI n))
 | b,[]=>.ok b
 | b,v::vs=>B2a (A1m g n fs (A1n fs v.number) b v) fun b'=>A4u g fs b' vs
theorem A7h {g:GI}{n:Nat}{rd:List UInt8→List UInt8→Except Int (BI n)}{fs:List FI}{f:List UInt8→BI n→Int}{deep:List UInt8→BI n→List UInt8×Int}:∀ (l:List (VI (BI n))),(∀ v∈l,∃ x,RtV fs f x v)→(∀ v∈l,∀ m∈v.bits,m < 18446744073709551616)→
  (∀ v∈l,∀ s∈v.subs,(deep (A1n fs v.number).type s).2=0→rd (A1n fs v.number).type (deep (A1n fs v.number).type s).1 = .ok s)→(∀ v∈l,(A2j deep (A1n fs v.number) v).2=0)→∀ (rest:List RI) (b:BO (BI n)) (un:List RI),
  A1j g rd fs (l.flatMap (fun v=>(A2j deep (A1n fs v.number) v).1)++rest) b un=B2a (A4u g fs b l) fun b'=>A1j g rd fs rest b' un
 | [],_,_,_,_,_,_,_=>rfl
 | v::l,h1,h2,h3,h4,rest,b,un=>by
  obtain⟨x,hx⟩:=h1 v (List.mem_cons_self ..)
  have ex:=A2y hx.fld
  have h3':=h3 v (List.mem_cons_self ..)
  have h4':=h4 v (List.mem_cons_self ..)
  rw[ex] at h3' h4'
  rw[List.flatMap_cons,List.append_assoc,ex,C6n hx (h2 v (List.mem_cons_self ..)) h3' h4']
  show _=B2a (B2a (A1m g n fs (A1n fs v.number) b v) fun b'=>A4u g fs b' l) fun b'=>A1j g rd fs rest b' un
  rw[ex]
  cases hw:A1m g n fs x b v with
  | error E=>rfl
  | ok b'=>exact A7h l (fun q hq=>h1 q (List.mem_cons_of_mem _ hq)) (fun q hq=>h2 q (List.mem_cons_of_mem _ hq)) (fun q hq=>h3 q (List.mem_cons_of_mem _ hq)) (fun q hq=>h4 q (List.mem_cons_of_mem _ hq)) rest b' un
theorem B8z {fs:List FI}{r:RI}(h:A7l fs r=0):A0s r.number r.how r.bits r.bytes.length=0∧fs.find? (isF r.number)=none:=by
 unfold A7l at h
 split at h
 ·rename_i h1
  refine⟨h1,?_⟩
  split at h
  ·cases h
  ·rename_i h2
   unfold A0k at h2
   cases hf:fs.findIdx? (fun f=>decide (f.number=r.number)) with
   | some j=>rw[hf] at h2;exact absurd (by simp) h2
   | none=>
    rw[List.findIdx?_eq_none_iff] at hf
    exact List.find?_eq_none.2 fun y hy=>by
     have:=hf y hy
     simpa [isF] using this
 ·rename_i h1
  exact absurd h h1
theorem A7g {g:GI}{n:Nat}{rd:List UInt8→List UInt8→Except Int (BI n)}{fs:List FI}:∀ (l:List RI),(∀ r∈l,fs.find? (isF r.number)=none)→∀ (b:BO (BI n)) (un:List RI),A1j g rd fs l b un = .ok ⟨b.vals,un++l⟩
 | [],_,b,un=>by rw[List.append_nil];rfl
 | r::l,h,b,un=>by
  rw[A3v (h r (List.mem_cons_self ..)),A7g l (fun q hq=>h q (List.mem_cons_of_mem _ hq)),List.append_assoc]
  rfl
theorem C0v {g:GI}{n:Nat}{fs:List FI}{f:List UInt8→BI n→Int}{x:FI}{v:VI (BI n)}{b:BO (BI n)}(hv:RtV fs f x v) (hf:b.vals.find? (isV v.number)=none):A1m g n fs x b v = .ok ⟨A2c (jnB g.msgs n) g.msgs fs b.vals v,b.unk⟩:=by
 obtain⟨h1,h2,_⟩:=A4h hv.misc
 unfold A1m A2c
 rw[if_neg (by omega),hf,hv.fld]
 dsimp only
 rw[if_neg (by omega)]
theorem B2y {g:GI}{n:Nat}{fs:List FI}{f:List UInt8→BI n→Int}:∀ (l:List (VI (BI n))) (b:BO (BI n)),RtL fs f l→(∀ v∈l,b.vals.find? (isV v.number)=none)→A4u g fs b l = .ok ⟨l.foldl (A2c (jnB g.msgs n) g.msgs fs) b.vals,b.unk⟩
 | [],_,_,_=>rfl
 | v::l,b,h,hn=>by
  obtain⟨x,hx⟩:=h.each v (List.mem_cons_self ..)
  have h':RtL fs f l:=⟨fun a ha=>h.each a (List.mem_cons_of_mem _ ha),(List.pairwise_cons.1 h.rise).2,(List.pairwise_cons.1 h.apart).2⟩
  unfold A4u
  rw[A2y hx.fld,C0v hx (hn v (List.mem_cons_self ..))]
  show A4u g fs _ l=_
  rw[B2y l _ h' (fun a ha=>by
   have hr:=(List.pairwise_cons.1 h.rise).1 a ha
   show(A2c (jnB g.msgs n) g.msgs fs b.vals v).find? (isV a.number)=none
   rw[B0s hx.fld hx.without a.number,if_neg (by omega),hn a (List.mem_cons_of_mem _ ha)]
   split <;> rfl)]
  rfl
theorem C3c {β:Type}{deep:List UInt8→β→List UInt8×Int}{x:FI}{v:VI β}(hb:∀ m∈v.bits,m < 18446744073709551616):∀ r∈(A2j deep x v).1,r.bits≤18446744073709551615:=by
 intro r hr
 unfold A2j at hr
 split at hr
 ·obtain⟨z,_,rfl⟩:=List.mem_map.1 hr
  exact Nat.zero_le _
 ·split at hr
  ·obtain⟨z,_,rfl⟩:=List.mem_map.1 hr
   exact Nat.zero_le _
  ·split at hr
   ·rw[List.mem_singleton.1 hr]
    exact Nat.zero_le _
   ·rw[List.mem_singleton.1 hr]
    show A5f x.kind (v.bits.headD 0)≤_
    cases hbi:v.bits with
    | nil=>exact A8m _ _ (by simp)
    | cons a l=>exact A8m _ _ (by have:=hb a (by rw[hbi];simp);simp only[List.headD_cons];omega)
theorem B8d {g:GI}{t:List UInt8}{m:MI}(h:g.msgs.find? (isN t)=some m):msgD g t=m:=by
 unfold msgD
 rw[h]
 rfl
theorem C6j {g:GI}{n:Nat}{m:MI}{l:List UInt8}{rs:List RI}{A:Nat}(hp:A1t l=(rs.map D1c,0,A)):A3b g (n+1) m l=A1j g (fun t l=>A3b g n (msgD g t) l) m.fields rs ⟨[],[]⟩ []:=by
 rw[A7z hp,D3v]
theorem B4s {g:GI}{n:Nat}{m:MI}{x:BI (n+1)}(h:(A1h g (n+1) m x).2=0):(∀ v∈BO.vals x,(A2j (fun t x=>A1h g n (A4z g t) x) (A1n m.fields v.number) v).2=0)∧
  (A1h g (n+1) m x)=A2m [] ((BO.vals x).flatMap (fun v=>(A2j (fun t x=>A1h g n (A4z g t) x) (A1n m.fields v.number) v).1)++BO.unk x):=by
 have e:A1h g (n+1) m x=A9c (fun t x=>A1h g n (A4z g t) x) m x:=rfl
 rw[e] at h ⊢
 unfold A9c at h ⊢
 by_cases h1:(A2f (fun t x=>A1h g n (A4z g t) x) m.fields [] (BO.vals x)).2≠0
 ·rw[if_pos h1] at h;exact absurd h h1
 ·rw[if_neg h1] at h ⊢
  obtain⟨e1,e2⟩:=B4l _ _ (Decidable.not_not.1 h1)
  rw[e1,List.nil_append]
  exact⟨e2,rfl⟩
theorem B2z {g:GI}{n:Nat}{m:MI}{x:BI (n+1)}(hq:BQk (n+1) x) (h:(A1h g (n+1) m x).2=0):A1t (A1h g (n+1) m x).1=(((BO.vals x).flatMap (fun v=>(A2j (fun t x=>A1h g n (A4z g t) x) (A1n m.fields v.number) v).1)++BO.unk x).map D1c,0,0):=by
 obtain⟨_,e⟩:=B4s h
 rw[e] at h ⊢
 refine C5z (fun r hr=>?_) h
 rcases List.mem_append.1 hr with hr|hr
 ·obtain⟨v,hv,hr⟩:=List.mem_flatMap.1 hr
  exact C3c (fun q hq'=>(hq.1 v hv).2.1 q hq') r hr
 ·have:=(hq.2 r hr).2.2.1
  omega
theorem B0h {g:GI}(hrl:(A1c g).1=0){m:MI}(hm:m∈g.msgs){β:Type}{f:List UInt8→β→Int}{x:FI}{v:VI β}(hx:RtV m.fields f x v){s : β}(hs:s∈v.subs):x.kind=10∧∃ M,g.msgs.find? (isN x.type)=some M:=by
 have hk:x.kind=10:=A7d hx.others (fun e=>by rw[e] at hs;cases hs)
 exact⟨hk,A2e hrl m hm x (List.mem_of_find?_eq_some hx.fld) hk⟩
theorem A8d {g:GI}(hrl:(A1c g).1=0):∀ (n:Nat) (k:Int) (m:MI) (x:BI n),m∈g.msgs→A1d g n k m.fields x=0→BQk n x→(A1h g n m x).2=0→A3b g n m (A1h g n m x).1 = .ok x
 | 0,_,_,x,_,_,_,_=>nomatch (x:Empty)
 | n+1,k,m,x,hm,he,hq,h=>by
  obtain⟨_,hr,hu⟩:=A2g he
  obtain⟨hz,_⟩:=B4s h
  rw[C6j (B2z hq h),A7h (f:=fun name s=>A1d g n (k+1) (A0m g name) s) _ hr.each (fun v hv=>(hq.1 v hv).2.1) (fun v hv s hs h0=>?_) hz,B2y _ _ hr (fun v _=>rfl)]
  ·show A1j _ _ _ (BO.unk x) _ _=_
   rw[A7g _ (fun r hr'=>(B8z (hu r hr')).2)]
   have hn:=C5s (g:=g) he
   exact congrArg Except.ok hn
  ·obtain⟨y,hy⟩:=hr.each v hv
   have ey:=A2y hy.fld
   rw[ey] at h0 ⊢
   obtain⟨hk10,M,hM⟩:=B0h hrl hm hy hs
   have e1:A4z g y.type=M:=B3z hM
   have e2:msgD g y.type=M:=B8d hM
   have hz':=hy.subs s hs
   rw[A3n hM] at hz'
   rw[e1] at h0 ⊢
   rw[e2]
   exact A8d hrl n (k+1) M s (List.mem_of_find?_eq_some hM) hz' ((hq.1 v hv).2.2.2 s hs) h0
end L
end Go.Proofs.YtcagbdokbnpdfaaGreatDoor
