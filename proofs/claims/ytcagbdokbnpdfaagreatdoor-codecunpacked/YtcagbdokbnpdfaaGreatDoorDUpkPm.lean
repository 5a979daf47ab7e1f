import Derived.Test.YtcagbdokbnpdfaaGreatDoorDRightm
namespace Go.Proofs.YtcagbdokbnpdfaaGreatDoor
namespace L
open Go.RowKit
set_option linter.unusedVariables false
def D5r {β:Type}(deep:List UInt8→β→List UInt8×Int) (x:FI) (v:VI β):List RI×Int:=
 if x.many=true∧v.bits≠[] then(v.bits.map (fun n=>⟨v.number,A3t x.kind,A5f x.kind n,[]⟩),0) else A2j deep x v
theorem D5u {β:Type}{x:FI}{v:VI β}(h:A0t x v=false) (hb:v.bits≠[]):¬ (x.kind=8∨x.kind=9)∧¬ x.kind=10:=by
 refine⟨fun h8=>hb (C9z h h8).1,fun h10=>hb (B8t h h10).1⟩
theorem D5z {k:Int}(h8:¬ (k=8∨k=9)) (h10:¬ k=10):A3t k≠2:=fun h=>h8 (B9q h h10)
theorem D6e {g:GI}{n:Nat}{rd:List UInt8→List UInt8→Except Int (BI n)}{fs:List FI}{f:List UInt8→BI n→Int}{x:FI}{v:VI (BI n)}{deep:List UInt8→BI n→List UInt8×Int}(hv:RtV fs f x v) (hb:∀ m∈v.bits,m < 18446744073709551616)
  (hd:∀ s∈v.subs,(deep x.type s).2=0→rd x.type (deep x.type s).1 = .ok s) (h0:(D5r deep x v).2=0) (rest:List RI) (b:BO (BI n)) (un:List RI) :
  A1j g rd fs ((D5r deep x v).1++rest) b un=B2a (A1m g n fs x b v) fun b'=>A1j g rd fs rest b' un:=by
 unfold D5r at h0 ⊢
 by_cases hc:x.many=true∧v.bits≠[]
 ·rw[if_pos hc] at h0 ⊢
  obtain⟨h8,h10⟩:=D5u hv.others hc.2
  have hh2:=D5z h8 h10
  obtain⟨e1,e2⟩:=C6t hv.others h8 h10
  have hxn:=A3x hv.fld
  obtain⟨k,bi,by',su⟩:=v
  have e1:by' = []:=e1
  have e2:su = []:=e2
  subst e1 e2
  have hxk:x.number=k:=hxn
  have hfk:fs.find? (isF k)=some x:=hv.fld
  have hfit:∀ m∈bi,A2i x.kind m=0:=hv.bits
  have hone:∀ q∈bi,A3j rd x ⟨k,A3t x.kind,A5f x.kind q,[]⟩ = .ok ⟨k,[q],[],[]⟩:=fun q hq=>by
   unfold A3j tnN
   rw[if_pos hh2,if_pos rfl]
   dsimp only
   rw[if_pos rfl,D0h (hb q hq) (hfit q hq),hxk]
  show A1j g rd fs (bi.map (fun n=>⟨k,A3t x.kind,A5f x.kind n,[]⟩)++rest) b un=_
  rw[A8v (V:=fun q=>⟨k,[q],[],[]⟩) (fun a=>hfk) bi hone]
  have hne:bi≠[]:=hc.2
  cases bi with
  | nil=>exact absurd rfl hne
  | cons s ss=>
   rw[List.map_cons,B4r _ _ _ (by exact hfk) (fun _=>hc.1) (by simp[A1i]) (fun u hu=>by
    obtain⟨z,_,rfl⟩:=List.mem_map.1 hu
    exact⟨rfl,by simp[A1i]⟩),D5v]
   rfl
 ·rw[if_neg hc] at h0 ⊢
  exact C6n hv hb hd h0 rest b un
theorem D5s {g:GI}{n:Nat}{rd:List UInt8→List UInt8→Except Int (BI n)}{fs:List FI}{f:List UInt8→BI n→Int}{deep:List UInt8→BI n→List UInt8×Int}:∀ (l:List (VI (BI n))),(∀ v∈l,∃ x,RtV fs f x v)→(∀ v∈l,∀ m∈v.bits,m < 18446744073709551616)→
  (∀ v∈l,∀ s∈v.subs,(deep (A1n fs v.number).type s).2=0→rd (A1n fs v.number).type (deep (A1n fs v.number).type s).1 = .ok s)→(∀ v∈l,(D5r deep (A1n fs v.number) v).2=0)→∀ (rest:List RI) (b:BO (BI n)) (un:List RI),
  A1j g rd fs (l.flatMap (fun v=>(D5r deep (A1n fs v.number) v).1)++rest) b un=B2a (A4u g fs b l) fun b'=>A1j g rd fs rest b' un
 | [],_,_,_,_,_,_,_=>rfl
 | v::l,h1,h2,h3,h4,rest,b,un=>by
  obtain⟨x,hx⟩:=h1 v (List.mem_cons_self ..)
  have ex:=A2y hx.fld
  have h3':=h3 v (List.mem_cons_self ..)
  have h4':=h4 v (List.mem_cons_self ..)
  rw[ex] at h3' h4'
  rw[List.flatMap_cons,List.append_assoc,ex,D6e hx (h2 v (List.mem_cons_self ..)) h3' h4']
  show _=B2a (B2a (A1m g n fs (A1n fs v.number) b v) fun b'=>A4u g fs b' l) fun b'=>A1j g rd fs rest b' un
  rw[ex]
  cases hw:A1m g n fs x b v with
  | error E=>rfl
  | ok b'=>exact D5s l (fun q hq=>h1 q (List.mem_cons_of_mem _ hq)) (fun q hq=>h2 q (List.mem_cons_of_mem _ hq)) (fun q hq=>h3 q (List.mem_cons_of_mem _ hq)) (fun q hq=>h4 q (List.mem_cons_of_mem _ hq)) rest b' un
def D5q (g:GI) (n:Nat):List UInt8→BI n→List UInt8×Int:=fun t x=>A1h g n (A4z g t) x
def D6a {n:Nat}(g:GI) (fs:List FI) (l:List (VI (BI n))):List RI:=l.flatMap fun v=>(D5r (D5q g n) (A1n fs v.number) v).1
theorem D5x {β:Type}{deep:List UInt8→β→List UInt8×Int}{x:FI}{v:VI β}(hb:∀ m∈v.bits,m < 18446744073709551616):∀ r∈(D5r deep x v).1,r.bits≤18446744073709551615:=by
 intro r hr
 unfold D5r at hr
 split at hr
 ·obtain⟨q,hq,rfl⟩:=List.mem_map.1 hr
  exact A8m _ _ (by have:=hb q hq;omega)
 ·exact C3c hb r hr
theorem D6d {g:GI}(hrl:(A1c g).1=0){n:Nat}{k:Int}{m:MI}{x:BI (n+1)}(hm:m∈g.msgs) (he:A1d g (n+1) k m.fields x=0) (hq:BQk (n+1) x) (hz:∀ v∈BO.vals x,(D5r (D5q g n) (A1n m.fields v.number) v).2=0) (h:(A2m [] (D6a g m.fields (BO.vals x)++BO.unk x)).2=0):A3b g (n+1) m (A2m [] (D6a g m.fields (BO.vals x)++BO.unk x)).1 = .ok x:=by
 obtain⟨_,hr,hu⟩:=A2g he
 have hp:A1t (A2m [] (D6a g m.fields (BO.vals x)++BO.unk x)).1=((D6a g m.fields (BO.vals x)++BO.unk x).map D1c,0,0):=by
  refine C5z (fun r hr'=>?_) h
  rcases List.mem_append.1 hr' with hr'|hr'
  ·obtain⟨v,hv,hr'⟩:=List.mem_flatMap.1 hr'
   exact D5x (fun q hq'=>(hq.1 v hv).2.1 q hq') r hr'
  ·have:=(hq.2 r hr').2.2.1
   omega
 rw[C6j hp]
 unfold D6a
 rw[D5s (f:=fun name s=>A1d g n (k+1) (A0m g name) s) _ hr.each (fun v hv=>(hq.1 v hv).2.1) (fun v hv s hs h0=>?_) hz,B2y _ _ hr (fun v _=>rfl)]
 ·show A1j _ _ _ (BO.unk x) _ _=_
  rw[A7g _ (fun r hr'=>(B8z (hu r hr')).2)]
  have hn:=C5s (g:=g) he
  exact congrArg Except.ok hn
 ·obtain⟨y,hy⟩:=hr.each v hv
  have ey:=A2y hy.fld
  rw[ey] at h0 ⊢
  obtain⟨hk10,M,hM⟩:=B0h hrl hm hy hs
  have e1:A4z g y.type=M:=B3z hM
  have e2:msgD g y.type=M:=B8d hM
  have hz':=hy.subs s hs
  rw[A3n hM] at hz'
  unfold D5q at h0 ⊢
  rw[e1] at h0 ⊢
  rw[e2]
  exact A8d hrl n (k+1) M s (List.mem_of_find?_eq_some hM) hz' ((hq.1 v hv).2.2.2 s hs) h0
theorem D5t {g:GI}(hrl:(A1c g).1=0){m:MI}(hm:m∈g.msgs){β:Type}{f:List UInt8→β→Int}{deep:List UInt8→β→List UInt8×Int}(hf:∀ t x,(deep t x).1.length≤4000){x:FI}{v:VI β}(hx:RtV m.fields f x v):(∀ r∈(D5r deep x v).1,A0s r.number r.how r.bits r.bytes.length=0)∧(D5r deep x v).1.length≤60:=by
 obtain⟨_,hn1,hn2⟩:=A8y hrl hm (List.mem_of_find?_eq_some hx.fld)
 obtain⟨m1,m60,mm⟩:=A4h hx.misc
 have hxn:=A3x hx.fld
 unfold D5r
 split
 ·rename_i hc
  obtain⟨h8,h10⟩:=D5u hx.others hc.2
  have hh2:=D5z h8 h10
  have hhb:=B3q hh2
  have hih:¬ A1y (A3t x.kind)=false:=B0o (by omega)
  refine⟨fun r hr=>?_,?_⟩
  ·obtain⟨q,hq,rfl⟩:=List.mem_map.1 hr
   show A0s v.number (A3t x.kind) (A5f x.kind q) 0=0
   have hsm:A3t x.kind=5→A5f x.kind q < 4294967296:=fun h5=>B2b (hx.bits q hq) h5
   unfold A0s
   rw[if_neg hih,if_neg (by omega),if_neg (by omega),if_neg (by rintro⟨h1,h2⟩;have:=hsm h1;omega),if_neg (by omega),if_neg (by omega)]
  ·rw[List.length_map]
   unfold A1i at m60
   omega
 ·refine⟨C3d hrl hm hf hx,?_⟩
  unfold A1i at m60
  unfold A2j
  split
  ·rw[List.length_map]
   have:=(B8w (deep x.type) (hf x.type) v.subs [] (fun z hz=>by cases hz)).2
   simp only[List.length_nil] at this
   omega
  ·split
   ·rw[List.length_map];omega
   ·split <;> simp
def D5y {n:Nat}(v:VI (BI n)):BI (n+1):=(⟨[v],[]⟩:BO (BI n))
theorem D5w {g:GI}{n:Nat}{k:Int}{fs:List FI}{x:BI (n+1)}(he:A1d g (n+1) k fs x=0){v:VI (BI n)}(hv:v∈BO.vals x):A1d g (n+1) k fs (D5y v)=0:=by
 obtain⟨hk,hr,_⟩:=A2g he
 refine B9j hk (fun u hu=>?_) (List.pairwise_singleton _ _) (fun u hu=>?_) (fun a ha b hb hne=>?_) (fun r hr=>(List.not_mem_nil (show r∈[] from hr)).elim)
 ·rw[List.mem_singleton.1 (show u∈[v] from hu)]
  exact hr.each v hv
 ·rw[List.mem_singleton.1 (show u∈[v] from hu)]
  exact C4b he v hv
 ·exact absurd (by rw[List.mem_singleton.1 (show a∈[v] from ha),List.mem_singleton.1 (show b∈[v] from hb)]) hne
theorem D6b {g:GI}{n:Nat}{m:MI}{v:VI (BI n)}(hq:BQk (n+1) (D5y v)) (h:(A1h g (n+1) m (D5y v)).2=0):(A2j (D5q g n) (A1n m.fields v.number) v).2=0∧A1t (A1h g (n+1) m (D5y v)).1=((A2j (D5q g n) (A1n m.fields v.number) v).1.map D1c,0,0):=by
 obtain⟨h1,_⟩:=B4s h
 have h2:=B2z hq h
 have e:(BO.vals (D5y v)) = [v]:=rfl
 have e':(BO.unk (D5y v)) = []:=rfl
 rw[e,e',List.append_nil,List.flatMap_cons,List.flatMap_nil,List.append_nil] at h2
 exact⟨h1 v (by rw[e];simp),h2⟩
theorem D6f {k:Nat}:∀ (n:Nat) (b:BI n),BOk (k+n) (up k n b)→BOk n b
 | 0,b,_=>nomatch (b:Empty)
 | n+1,b,h=>by
  refine⟨fun v hv=>?_,by have:=h.2.1;simpa [up] using this,h.2.2.1,h.2.2.2⟩
  have hm:upV (up k n) v∈(BO.vals b).map (upV (up k n)):=List.mem_map_of_mem hv
  obtain⟨h1,h2,h3,h4,h5,h6,h7⟩:=h.1 _ hm
  exact⟨h1,h2,h3,h4,h5,fun s hs=>D6f n s (h6 _ (List.mem_map_of_mem hs)),by simpa [upV] using h7⟩
theorem D6c {g:GI}{k:Nat}{msg:Int}{x:BI (k+11+1)}(hok:BOk (k+11+1) x) (h:A1g g (k+11) msg x=0):∃ x':BI 12,up k 12 x'=x∧(A1c g).1=0∧BOk 12 x'∧∃ (j:Nat) (m:MI),msg=(j:Int)∧g.msgs[j]?=some m∧A1d g 12 1 m.fields x'=0:=by
 obtain⟨hrl,j,m,hj,hm,he⟩:=B1j h
 obtain⟨x',hx⟩:=D4a (k:=k) 12 1 m.fields x (by decide) he
 subst hx
 refine⟨x',rfl,hrl,D6f (k:=k) 12 x' hok,j,m,hj,hm,?_⟩
 have:=C0t (g:=g) (k:=k) 12 1 m.fields x'
 rw[←this]
 exact he
end L
end Go.Proofs.YtcagbdokbnpdfaaGreatDoor
