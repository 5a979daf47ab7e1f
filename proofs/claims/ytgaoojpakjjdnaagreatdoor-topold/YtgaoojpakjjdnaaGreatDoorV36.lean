import Derived.Test.YtgaoojpakjjdnaaGreatDoorV35
set_option maxHeartbeats 32000000
set_option maxRecDepth 100000
set_option linter.unusedVariables false
namespace Go.Proofs.YtgaoojpakjjdnaaGreatDoor
namespace L
open Go.RowKit
theorem B6t {β:Type}{deep:List UInt8→β→List UInt8×Int}{fs:List FI}:∀ (l:List (VI β)) (acc:List RI),(A2i deep fs acc l).2=0→(A2i deep fs acc l).1=acc++l.flatMap (fun v=>(A1a deep (A0l fs v.number) v).1)∧∀ v∈l,(A1a deep (A0l fs v.number) v).2=0
 | [],acc,_=>⟨by simp[A2i],fun _ h=>by cases h⟩
 | v::l,acc,h=>by
  unfold A2i at h ⊢
  by_cases h1:(A1a deep (A0l fs v.number) v).2≠0
  ·rw[if_pos h1] at h;exact absurd h h1
  ·rw[if_neg h1] at h ⊢
   obtain⟨e1,e2⟩:=B6t l _ h
   refine⟨by rw[e1];simp,fun c hc=>?_⟩
   rcases List.mem_cons.1 hc with rfl|hc
   ·exact Decidable.not_not.1 h1
   ·exact e2 c hc
def B1d {n:Nat}(g:GI)(fs:List FI):BO (BI n)→List (VI (BI n))→Except Int (BO (BI n))
 | b,[]=>.ok b
 | b,v::vs=>B2c (A1w g n fs (A0l fs v.number) b v) fun b'=>B1d g fs b' vs
theorem A6p {g:GI}{n:Nat}{rd:List UInt8→List UInt8→Except Int (BI n)}{fs:List FI}{f:List UInt8→BI n→Int}{deep:List UInt8→BI n→List UInt8×Int}:∀ (l:List (VI (BI n))),(∀ v∈l,∃ x,RtV fs f x v)→(∀ v∈l,∀ m∈v.bits,m<18446744073709551616)→
  (∀ v∈l,∀ s∈v.subs,(deep (A0l fs v.number).type s).2=0→rd (A0l fs v.number).type (deep (A0l fs v.number).type s).1 = .ok s)→(∀ v∈l,(A1a deep (A0l fs v.number) v).2=0)→∀ (rest:List RI) (b:BO (BI n)) (un:List RI),
  A1f g rd fs (l.flatMap (fun v=>(A1a deep (A0l fs v.number) v).1)++rest) b un=B2c (B1d g fs b l) fun b'=>A1f g rd fs rest b' un
 | [],_,_,_,_,_,_,_=>rfl
 | v::l,h1,h2,h3,h4,rest,b,un=>by
  obtain⟨x,hx⟩:=h1 v (List.mem_cons_self ..)
  have ex:=A1b hx.fld
  have ac:=h3 v (List.mem_cons_self ..)
  have ag:=h4 v (List.mem_cons_self ..)
  rw[ex] at ac ag
  rw[List.flatMap_cons,List.append_assoc,ex,C9j hx (h2 v (List.mem_cons_self ..)) ac ag]
  show _=B2c (B2c (A1w g n fs (A0l fs v.number) b v) fun b'=>B1d g fs b' l) fun b'=>A1f g rd fs rest b' un
  rw[ex]
  cases hw:A1w g n fs x b v with
  | error E=>rfl
  | ok b'=>exact A6p l (fun q hq=>h1 q (List.mem_cons_of_mem _ hq)) (fun q hq=>h2 q (List.mem_cons_of_mem _ hq)) (fun q hq=>h3 q (List.mem_cons_of_mem _ hq)) (fun q hq=>h4 q (List.mem_cons_of_mem _ hq)) rest b' un
theorem B0x {fs:List FI}{r:RI}(h:A8r fs r=0):A0t r.number r.how r.bits r.bytes.length=0∧fs.find? (isF r.number)=none:=by
 unfold A8r at h
 split at h
 ·rename_i h1
  refine⟨h1,?_⟩
  split at h
  ·cases h
  ·rename_i h2
   unfold A0k at h2
   cases hf:fs.findIdx? (fun f=>decide (f.number=r.number)) with
   | some j=>rw[hf] at h2;exact absurd (by simp) h2
   | none=>
    rw[List.findIdx?_eq_none_iff] at hf
    exact List.find?_eq_none.2 fun y hy=>by
     have:=hf y hy
     simpa [isF] using this
 ·rename_i h1
  exact absurd h h1
theorem A6o {g:GI}{n:Nat}{rd:List UInt8→List UInt8→Except Int (BI n)}{fs:List FI}:∀ (l:List RI),(∀ r∈l,fs.find? (isF r.number)=none)→∀ (b:BO (BI n)) (un:List RI),A1f g rd fs l b un = .ok ⟨b.vals,un++l⟩
 | [],_,b,un=>by rw[List.append_nil];rfl
 | r::l,h,b,un=>by
  rw[A5c (h r (List.mem_cons_self ..)),A6o l (fun q hq=>h q (List.mem_cons_of_mem _ hq)),List.append_assoc]
  rfl
theorem D4h {g:GI}{n:Nat}{fs:List FI}{f:List UInt8→BI n→Int}{x:FI}{v:VI (BI n)}{b:BO (BI n)}(hv:RtV fs f x v)(hf:b.vals.find? (isV v.number)=none):A1w g n fs x b v = .ok ⟨A3h (jnB g.msgs n) g.msgs fs b.vals v,b.unk⟩:=by
 obtain⟨h1,h2,_⟩:=A9k hv.misc
 unfold A1w A3h
 rw[if_neg (by omega),hf,hv.fld]
 dsimp only
 rw[if_neg (by omega)]
theorem A6c {g:GI}{n:Nat}{fs:List FI}{f:List UInt8→BI n→Int}:∀ (l:List (VI (BI n))) (b:BO (BI n)),RtL fs f l→(∀ v∈l,b.vals.find? (isV v.number)=none)→B1d g fs b l = .ok ⟨l.foldl (A3h (jnB g.msgs n) g.msgs fs) b.vals,b.unk⟩
 | [],_,_,_=>rfl
 | v::l,b,h,hn=>by
  obtain⟨x,hx⟩:=h.each v (List.mem_cons_self ..)
  have h':RtL fs f l:=⟨fun a ha=>h.each a (List.mem_cons_of_mem _ ha),(List.pairwise_cons.1 h.rise).2,(List.pairwise_cons.1 h.apart).2⟩
  unfold B1d
  rw[A1b hx.fld,D4h hx (hn v (List.mem_cons_self ..))]
  show B1d g fs _ l=_
  rw[A6c l _ h' (fun a ha=>by
   have hr:=(List.pairwise_cons.1 h.rise).1 a ha
   show(A3h (jnB g.msgs n) g.msgs fs b.vals v).find? (isV a.number)=none
   rw[B8g hx.fld hx.without a.number,if_neg (by omega),hn a (List.mem_cons_of_mem _ ha)]
   split <;> rfl)]
  rfl
theorem C5q {β:Type}{deep:List UInt8→β→List UInt8×Int}{x:FI}{v:VI β}(hb:∀ m∈v.bits,m<18446744073709551616):∀ r∈(A1a deep x v).1,r.bits≤18446744073709551615:=by
 intro r hr
 unfold A1a at hr
 split at hr
 ·obtain⟨z,_,rfl⟩:=List.mem_map.1 hr
  exact Nat.zero_le _
 ·split at hr
  ·obtain⟨z,_,rfl⟩:=List.mem_map.1 hr
   exact Nat.zero_le _
  ·split at hr
   ·rw[List.mem_singleton.1 hr]
    exact Nat.zero_le _
   ·rw[List.mem_singleton.1 hr]
    show A5t x.kind (v.bits.headD 0)≤_
    cases hbi:v.bits with
    | nil=>exact B0g _ _ (by simp)
    | cons a l=>exact B0g _ _ (by have:=hb a (by rw[hbi];simp);simp only[List.headD_cons];omega)
theorem C0s {g:GI}{t:List UInt8}{m:MI}(h:g.msgs.find? (isN t)=some m):msgD g t=m:=by
 unfold msgD
 rw[h]
 rfl
theorem B3j {g:GI}{n:Nat}{m:MI}{l:List UInt8}{rs:List RI}{A:Nat}(hp:A2b l=(rs.map C9a,0,A)):A3t g (n+1) m l=A1f g (fun t l=>A3t g n (msgD g t) l) m.fields rs ⟨[],[]⟩ []:=by
 rw[B1v hp,D8w]
theorem B0d {g:GI}{n:Nat}{m:MI}{x:BI (n+1)}(h:(A0x g (n+1) m x).2=0):(∀ v∈BO.vals x,(A1a (fun t x=>A0x g n (A2j g t) x) (A0l m.fields v.number) v).2=0)∧
  (A0x g (n+1) m x)=A3n [] ((BO.vals x).flatMap (fun v=>(A1a (fun t x=>A0x g n (A2j g t) x) (A0l m.fields v.number) v).1)++BO.unk x):=by
 have e:A0x g (n+1) m x=B4d (fun t x=>A0x g n (A2j g t) x) m x:=rfl
 rw[e] at h ⊢
 unfold B4d at h ⊢
 by_cases h1:(A2i (fun t x=>A0x g n (A2j g t) x) m.fields [] (BO.vals x)).2≠0
 ·rw[if_pos h1] at h;exact absurd h h1
 ·rw[if_neg h1] at h ⊢
  obtain⟨e1,e2⟩:=B6t _ _ (Decidable.not_not.1 h1)
  rw[e1,List.nil_append]
  exact⟨e2,rfl⟩
theorem A6d {g:GI}{n:Nat}{m:MI}{x:BI (n+1)}(hq:BQk (n+1) x)(h:(A0x g (n+1) m x).2=0):A2b (A0x g (n+1) m x).1=(((BO.vals x).flatMap (fun v=>(A1a (fun t x=>A0x g n (A2j g t) x) (A0l m.fields v.number) v).1)++BO.unk x).map C9a,0,0):=by
 obtain⟨_,e⟩:=B0d h
 rw[e] at h ⊢
 refine C8u (fun r hr=>?_) h
 rcases List.mem_append.1 hr with hr|hr
 ·obtain⟨v,hv,hr⟩:=List.mem_flatMap.1 hr
  exact C5q (fun q hq'=>(hq.1 v hv).2.1 q hq') r hr
 ·have:=(hq.2 r hr).2.2.1
  omega
theorem B2n {g:GI}(ac:(wrongL g).1=0){m:MI}(hm:m∈g.msgs){β:Type}{f:List UInt8→β→Int}{x:FI}{v:VI β}(hx:RtV m.fields f x v){s : β}(hs:s∈v.subs):x.kind=10∧∃ M,g.msgs.find? (isN x.type)=some M:=by
 have hk:x.kind=10:=A8k hx.others (fun e=>by rw[e] at hs;cases hs)
 exact⟨hk,A3x ac m hm x (List.mem_of_find?_eq_some hx.fld) hk⟩
theorem B9c {g:GI}(ac:(wrongL g).1=0):∀ (n:Nat) (k:Int) (m:MI) (x:BI n),m∈g.msgs→A1j g n k m.fields x=0→BQk n x→(A0x g n m x).2=0→A3t g n m (A0x g n m x).1 = .ok x
 | 0,_,_,x,_,_,_,_=>nomatch (x:Empty)
 | n+1,k,m,x,hm,he,hq,h=>by
  obtain⟨_,hr,hu⟩:=A3d he
  obtain⟨hz,_⟩:=B0d h
  rw[B3j (A6d hq h),A6p (f:=fun name s=>A1j g n (k+1) (A0r g name) s) _ hr.each (fun v hv=>(hq.1 v hv).2.1) (fun v hv s hs h0=>?_) hz,A6c _ _ hr (fun v _=>rfl)]
  ·show A1f _ _ _ (BO.unk x) _ _=_
   rw[A6o _ (fun r ah=>(B0x (hu r ah)).2)]
   have hn:=C8l (g:=g) he
   exact congrArg Except.ok hn
  ·obtain⟨y,hy⟩:=hr.each v hv
   have ey:=A1b hy.fld
   rw[ey] at h0 ⊢
   obtain⟨ag,M,hM⟩:=B2n ac hm hy hs
   have e1:A2j g y.type=M:=C0t hM
   have e2:msgD g y.type=M:=C0s hM
   have hz':=hy.subs s hs
   rw[A8z hM] at hz'
   rw[e1] at h0 ⊢
   rw[e2]
   exact B9c ac n (k+1) M s (List.mem_of_find?_eq_some hM) hz' ((hq.1 v hv).2.2.2 s hs) h0
def WrN (g:GI)(n:Nat)(M:MI)(l:List UInt8):Prop:=M∈g.msgs∧∃ (k:Int) (x:BI n),A1j g n k M.fields x=0∧BQk n x∧(A0x g n M x).2=0∧l=(A0x g n M x).1
theorem A7v {β:Type}{deep:List UInt8→β→List UInt8×Int}{x:FI}{v:VI β}:∀ r∈(A1a deep x v).1,r.number=x.number:=by
 intro r hr
 unfold A1a at hr
 split at hr
 ·obtain⟨z,_,rfl⟩:=List.mem_map.1 hr
  rfl
 ·split at hr
  ·obtain⟨z,_,rfl⟩:=List.mem_map.1 hr
   rfl
  ·split at hr <;> rw[List.mem_singleton.1 hr] <;> rfl
theorem B3k (q:RI):A6e (C9a q)=q:=rfl
def D8e (fs:List FI)(a b:RI):Prop:=a.number=b.number→∀ y,fs.find? (isF a.number)=some y→y.many=false→y.kind=10→False
theorem B6u {β:Type}{fs:List FI}{f:List UInt8→β→Int}{deep:List UInt8→β→List UInt8×Int}{l:List (VI β)}(he:∀ v∈l,∃ x,RtV fs f x v)(hp:l.Pairwise fun a b=>a.number≠b.number)(hz:∀ v∈l,(A1a deep (A0l fs v.number) v).2=0):(l.flatMap fun v=>(A1a deep (A0l fs v.number) v).1).Pairwise (D8e fs):=by
 have ag:∀ v∈l,∃ y,RtV fs f y v∧A0l fs v.number=y∧y.number=v.number:=fun v hv=>by
  obtain⟨y,hy⟩:=he v hv
  exact⟨y,hy,A1b hy.fld,A2d hy.fld⟩
 refine List.pairwise_flatMap.2 ⟨fun v hv=>?_,?_⟩
 ·obtain⟨y,hy,ey,en⟩:=ag v hv
  have ac:=hz v hv
  rw[ey] at ac ⊢
  by_cases hs:y.many=false∧y.kind=10
  ·obtain⟨m1,au,mm⟩:=A9k hy.misc
   obtain⟨s1,s2⟩:=B6v hy.others hs.2
   have ak:v.subs.length≤1:=by
    unfold A1i at mm
    rw[s1,s2] at mm
    simp only[List.length_nil,Nat.zero_add] at mm
    by_cases h:1<v.subs.length
    ·rw[hs.1] at mm
     exact absurd (mm h) (by decide)
    ·omega
   unfold A1a at ac ⊢
   rw[if_pos hs.2] at ac ⊢
   obtain⟨e1,_⟩:=A5l v.subs [] ac
   show List.Pairwise _ ((A4c (deep y.type) [] v.subs).1.map (B1k y.number))
   rw[e1,List.nil_append]
   match hvs:v.subs,ak with
   | [],_=>simp
   | [s],_=>simp
  ·refine List.Pairwise.imp_of_mem (R:=fun _ _=>True) (fun {a c} ha hc _ _ z hz h1 h2=>?_) (List.pairwise_of_forall fun _ _=>trivial)
   have hz2:z=y:=by
    have h3:=hy.fld
    rw[←en,←A7v a ha,hz] at h3
    exact Option.some.inj h3
   subst hz2
   exact hs ⟨h1,h2⟩
 ·refine List.Pairwise.imp_of_mem (fun {v v'} hv hv' hne a ha c hc e=>?_) hp
  obtain⟨y,hy,ey,en⟩:=ag v hv
  obtain⟨y',hy',aj,ah⟩:=ag v' hv'
  rw[ey] at ha
  rw[aj] at hc
  rw[A7v a ha,A7v c hc,en,ah] at e
  exact absurd e hne
theorem C2g {fs:List FI}{R U:List RI}(h:R.Pairwise (D8e fs))(hu:∀ r∈U,fs.find? (isF r.number)=none):(R++U).Pairwise (D8e fs):=by
 refine List.pairwise_append.2 ⟨h,?_,?_⟩
 ·refine List.Pairwise.imp_of_mem (R:=fun _ _=>True) (fun {a c} ha hc _ _ z hz _ _=>?_) (List.pairwise_of_forall fun _ _=>trivial)
  rw[hu a ha] at hz
  cases hz
 ·intro a ha c hc e z hz _ _
  rw[e,hu c hc] at hz
  cases hz
theorem D4v {fs:List FI}{R:List RI}(h:R.Pairwise (D8e fs)){rs:List Rcd}(aw:rs=R.map C9a){i:Nat}{r:Rcd}(hr:rs[i]?=some r):∃ q,R[i]?=some q∧r=C9a q∧∀ x,fs.find? (isF q.number)=some x→x.kind=10→x.many=false→∀ j,j<i→∀ r',rs[j]?=some r'→(A6e r').number≠q.number:=by
 have hat:∀ (j:Nat) (r:Rcd),rs[j]?=some r→∃ q,R[j]?=some q∧r=C9a q:=fun j r hr=>by
  rw[aw,List.getElem?_map] at hr
  cases hq:R[j]? with
  | none=>rw[hq] at hr;cases hr
  | some q=>rw[hq] at hr;exact⟨q,rfl,(Option.some.inj hr).symm⟩
 obtain⟨q,hq',rfl⟩:=hat i r hr
 refine⟨q,hq',rfl,fun x hx hk hm j hj r' au hn=>?_⟩
 obtain⟨q',ac,rfl⟩:=hat j r' au
 rw[B3k] at hn
 obtain⟨aj,ak⟩:=List.getElem?_eq_some_iff.1 ac
 obtain⟨ag,ah⟩:=List.getElem?_eq_some_iff.1 hq'
 have:=List.pairwise_iff_getElem.1 h j i aj ag hj
 rw[ak,ah] at this
 exact this hn x (by rw[hn];exact hx) hm hk
theorem C1k {β:Type}{fs:List FI}{f:List UInt8→β→Int}{deep:List UInt8→β→List UInt8×Int}{l:List (VI β)}(he:∀ v∈l,∃ x,RtV fs f x v)(hz:∀ v∈l,(A1a deep (A0l fs v.number) v).2=0){q:RI}(hq:q∈l.flatMap fun v=>(A1a deep (A0l fs v.number) v).1){x:FI}(hx:fs.find? (isF q.number)=some x)(hk:x.kind=10):∃ v∈l,RtV fs f x v∧∃ s∈v.subs,q.bytes=(deep x.type s).1∧(deep x.type s).2=0:=by
 obtain⟨v,hv,ac⟩:=List.mem_flatMap.1 hq
 obtain⟨y,hy⟩:=he v hv
 have ey:=A1b hy.fld
 have ag:=hz v hv
 rw[ey] at ac ag
 have aj:x=y:=by
  have h1:=hy.fld
  rw[←A2d hy.fld,←A7v q ac,hx] at h1
  exact Option.some.inj h1
 subst aj
 unfold A1a at ac ag
 rw[if_pos hk] at ac ag
 obtain⟨z,ah,rfl⟩:=List.mem_map.1 ac
 obtain⟨e1,e2⟩:=A5l v.subs [] ag
 rw[e1,List.nil_append] at ah
 obtain⟨s,hs,rfl⟩:=List.mem_map.1 ah
 exact⟨v,hv,hy,s,hs,rfl,e2 s hs⟩
theorem C1f {β:Type}{l:List (VI β)}(h:l.Pairwise fun a b=>a.number<b.number):l.Pairwise fun a b=>a.number≠b.number:=h.imp fun h=>by omega
theorem B5f {g:GI}(ac:(wrongL g).1=0){M:MI}(hM:M∈g.msgs){n:Nat}{k:Int}{x:FI}{v:VI (BI n)}(hy:RtV M.fields (fun name s=>A1j g n k (A0r g name) s) x v){s:BI n}(hs:s∈v.subs):msgD g x.type∈g.msgs∧A2j g x.type=msgD g x.type∧A1j g n k (msgD g x.type).fields s=0:=by
 obtain⟨_,N,hN⟩:=B2n ac hM hy hs
 have h3:=hy.subs s hs
 rw[A8z hN] at h3
 rw[C0s hN,C0t hN]
 exact⟨List.mem_of_find?_eq_some hN,rfl,h3⟩
theorem D0q {g:GI}(ah:(wrongL g).1=0){n:Nat}{M:MI}{l:List UInt8}{rs:List Rcd}{A i:Nat}{r:Rcd}{x:FI}(hN:WrN g (n+1) M l)(hp:A2b l=(rs,0,A))(hr:rs[i]?=some r)(hx:M.fields.find? (isF (A6e r).number)=some x)(hk:x.kind=10):WrN g n (msgD g x.type) (A6e r).bytes∧(x.many=false→∀ j,j<i→∀ r',rs[j]?=some r'→(A6e r').number≠(A6e r).number):=by
 obtain⟨hM,k,b,he,hq,hz,rfl⟩:=hN
 obtain⟨_,hrt,hu⟩:=A3d he
 have hw:=A6d hq hz
 rw[hp] at hw
 obtain⟨hz',_⟩:=B0d hz
 have ag:∀ r∈BO.unk b,M.fields.find? (isF r.number)=none:=fun r hr=>(B0x (hu r hr)).2
 obtain⟨q,hq',rfl,ac⟩:=D4v (C2g (B6u hrt.each (C1f hrt.rise) hz') ag) (Prod.mk.inj hw).1 hr
 rw[B3k] at hx ⊢
 refine⟨?_,ac x hx hk⟩
 rcases List.mem_append.1 (List.mem_of_getElem? hq') with h|h
 ·obtain⟨v,hv,hy,s,hs,e,h4⟩:=C1k hrt.each hz' h hx hk
  obtain⟨w1,w2,w3⟩:=B5f ah hM hy hs
  have h4:(A0x g n (A2j g x.type) s).2=0:=h4
  rw[e]
  rw[w2] at h4
  show WrN g n (msgD g x.type) (A0x g n (A2j g x.type) s).1
  rw[w2]
  exact⟨w1,k+1,s,w3,(hq.1 v hv).2.2.2 s hs,h4,rfl⟩
 ·rw[ag q h] at hx
  cases hx
def A2n (lacks:List Int)(f:FI):Bool:=!(decide (0<f.choice)&&decide (0<lacks.length))&&!decide (f.number∈lacks)
def A2e (lacks:List Int)(m:MI):MI:=⟨m.name,m.fields.filter (A2n lacks),m.barred⟩
def A1p (lacks:List Int)(g:GI):GI:=⟨g.msgs.map (A2e lacks),g.enums⟩
theorem D2e (f:FI):A2n [] f=true:=by simp[A2n]
theorem D2h (g:GI):A1p [] g=g:=by
 obtain⟨ms,es⟩:=g
 unfold A1p A2e
 congr 1
 conv=>rhs;rw[←List.map_id ms]
 refine List.map_congr_left fun m _=>?_
 obtain⟨n,fs,b⟩:=m
 show(⟨n,fs.filter (A2n []),b⟩:MI)=⟨n,fs,b⟩
 rw[List.filter_eq_self.2 fun f _=>D2e f]
theorem C0o {lacks:List Int}(hl:lacks≠[]){f:FI}(h:A2n lacks f=true):¬ 0<f.choice:=by
 intro hc
 have hp:0<lacks.length:=List.length_pos_iff.2 hl
 unfold A2n at h
 rw[decide_eq_true hc,decide_eq_true hp] at h
 simp at h
theorem C1p {α:Type}[DecidableEq α]{x : α}{l l':List α}(h:∀ a∈l,a∈l'):∀ a∈A6t x l,a∈A6t x l':=by
 intro a ha
 obtain⟨q1,q2⟩:=A8t x l'
 unfold A6t at ha
 split at ha
 ·exact q2 a (h a ha)
 ·rcases List.mem_append.1 ha with ha|ha
  ·exact q2 a (h a ha)
  ·rw[List.mem_singleton.1 ha];exact q1
theorem B0j {g g':GI}(hh:∀ x,B5v g' x=B5v g x){keep:FI→Bool}(hk:∀ x,keep x=true→¬ 0<x.choice){ac:List Int}:∀ (l:List FI) (i i':Nat) (s s':Mem),(A0i (A1n g ac) A4s i l s').1=0→(∀ a∈s.names,a∈s'.names)→(∀ a∈s.nums,a∈s'.nums)→0≤s'.last→0≤s'.begun→(A0i (A1n g' ac) A4s i' (l.filter keep) s).1=0
 | [],_,_,_,_,_,_,_,_,_=>rfl
 | x::l,i,i',s,s',h,h1,h2,h3,h4=>by
  obtain⟨hp,hr⟩:=A7p h
  have ag:=hp
  simp only[A9t,Bool.and_eq_true,Bool.not_eq_true',Bool.or_eq_false_iff,decide_eq_false_iff_not] at ag
  obtain⟨⟨p1,p2⟩,p3,⟨p4,p5⟩,p6,p7,p8,p9⟩:=ag
  have hc:0≤x.choice:=by
   unfold B9n at p9
   by_cases c0:x.choice=0
   ·omega
   ·by_cases c1:x.choice=s'.last
    ·omega
    ·by_cases c2:x.choice=s'.begun+1
     ·omega
     ·simp[c0,c1,c2] at p9
  have n1:0≤(B8m x s').last:=hc
  have n2:0≤(B8m x s').begun:=by show 0≤max s'.begun x.choice;omega
  cases hkx:keep x with
  | false=>
   rw[List.filter_cons_of_neg (by rw[hkx];simp)]
   exact B0j hh hk l (i+1) i' s (B8m x s') hr (fun a ha=>(A8t x.name s'.names).2 a (h1 a ha)) (fun a ha=>(A8t x.number s'.nums).2 a (h2 a ha)) n1 n2
  | true=>
   rw[List.filter_cons_of_pos hkx]
   have hc0:x.choice=0:=by have:=hk x hkx;omega
   have hq:A9t g' ac x s=true:=by
    simp only[A9t,Bool.and_eq_true,Bool.not_eq_true',Bool.or_eq_false_iff,decide_eq_false_iff_not,hh]
    refine⟨⟨p1,fun e=>p2 (h1 _ e)⟩,p3,⟨p4,fun e=>p5 (h2 _ e)⟩,p6,p7,p8,?_⟩
    unfold B9n
    rw[hc0]
    rfl
   rw[A0i,B5a hq]
   exact B0j hh hk l (i+1) (i'+1) (B8m x s) (B8m x s') hr (C1p h1) (C1p h2) n1 n2
theorem B6h {g:GI}:∀ (l:List MI) (i:Nat),(∀ m∈l,A3s g m=0)→A4g g i l=none
 | [],_,_=>rfl
 | m::l,i,h=>by
  rw[A4g,if_neg (by rw[h m (List.mem_cons_self ..)];simp)]
  exact B6h l (i+1) fun x hx=>h x (List.mem_cons_of_mem _ hx)
theorem C4m {α:Type}{f : α→α}{p : α→Bool}(hp:∀ a,p (f a)=p a)(l:List α):A0k p (l.map f)=A0k p l:=by
 unfold A0k
 have:(l.map f).findIdx? p=l.findIdx? p:=by
  rw[List.findIdx?_map]
  congr 1
  funext a
  exact hp a
 rw[this]
theorem D1z (lacks:List Int)(g:GI)(x:FI):B5v (A1p lacks g) x=B5v g x:=by
 unfold B5v
 rw[show A0k (fun m:MI=>decide (m.name=x.type)) (A1p lacks g).msgs=A0k (fun m:MI=>decide (m.name=x.type)) g.msgs from C4m (f:=A2e lacks) (p:=fun m:MI=>decide (m.name=x.type)) (fun _=>rfl) g.msgs]
 rfl
theorem B4n:∀ (l:List EI) (i:Nat) (q:Int×Nat),A3b i l=some q→q.1≠0
 | [],_,_,h=>by cases h
 | e::l,i,q,h=>by
  rw[A3b] at h
  split at h
  ·rename_i h0;cases h;exact h0
  ·exact B4n l _ q h
theorem B4z {g:GI}(lacks:List Int)(h:(wrongL g).1=0):(wrongL (A1p lacks g)).1=0:=by
 by_cases hl:lacks = []
 ·subst hl
  rw[D2h]
  exact h
 ·obtain⟨h1,h2,h3⟩:=A5f h
  have hlen:(A1p lacks g).msgs.length=g.msgs.length:=List.length_map ..
  have ah:A5y (A1p lacks g)=A5y g:=by
   unfold A5y A1p
   simp only[List.map_map]
   rfl
  have ag:A4g (A1p lacks g) 0 (A1p lacks g).msgs=none:=B6h _ _ fun m hm=>by
   obtain⟨m0,ac,rfl⟩:=List.mem_map.1 hm
   obtain⟨q1,q2,q3,q4⟩:=B4y (h3 m0 ac)
   have hf:(m0.fields.filter (A2n lacks)).length≤m0.fields.length:=List.length_filter_le ..
   show(if 16<(m0.fields.filter (A2n lacks)).length∨16<m0.barred.length then(5:Int) else if m0.barred.any B4i then 3 else(A0i (A1n (A1p lacks g) m0.barred) A4s 0 (m0.fields.filter (A2n lacks)) C6h).1)=0
   rw[if_neg (by omega),if_neg (by rw[q3];simp)]
   exact B0j (D1z lacks g) (fun x hx=>C0o hl hx) _ _ _ _ _ q4 (fun a ha=>ha) (fun a ha=>ha) (Int.le_refl _) (Int.le_refl _)
  have hen:A3b 0 g.enums=none:=by
   unfold wrongL at h
   rw[if_neg h1,if_neg (by rw[h2];simp),B6h _ _ h3] at h
   cases he:A3b 0 g.enums with
   | none=>rfl
   | some q=>
    rw[he] at h
    exact absurd h (B4n _ _ q he)
  unfold wrongL
  rw[if_neg (by rw[hlen];exact h1),ah,if_neg (by rw[h2];simp),ag]
  show(match A3b 0 g.enums with|some q=>(q.1,(A1p lacks g).msgs.length+q.2)|none=>((0:Int),0)).1=0
  rw[hen]
end L
end Go.Proofs.YtgaoojpakjjdnaaGreatDoor
