import Derived.Test.YtgaoojpakjjdnaaGreatDoorX36
set_option maxHeartbeats 32000000
set_option maxRecDepth 100000
set_option linter.unusedVariables false
namespace Go.Proofs.YtgaoojpakjjdnaaGreatDoor
namespace L
open Go.RowKit
def upV {β γ:Type}(u : β→γ)(v:VI β):VI γ:=⟨v.number,v.bits,v.bytes,v.subs.map u⟩
def up (k:Nat):(n:Nat)→BI n→BI (k+n)
 | 0=>fun b=>nomatch (b:Empty)
 | n+1=>fun b=>(⟨(BO.vals b).map (upV (up k n)),BO.unk b⟩:BO (BI (k+n)))
theorem C1g {α β:Type}{f : α→β}:∀ {l:List β},(∀ b∈l,∃ a,f a=b)→∃ l':List α,l'.map f=l
 | [],_=>⟨[],rfl⟩
 | b::l,h=>by
  obtain⟨a,ha⟩:=h b (List.mem_cons_self ..)
  obtain⟨l',hl⟩:=C1g (l:=l) fun c hc=>h c (List.mem_cons_of_mem _ hc)
  exact⟨a::l',by rw[List.map_cons,ha,hl]⟩
theorem E0w {g:GI}{k:Nat}:∀ (n:Nat) (j:Int) (fs:List FI) (b:BI (k+n)),j+(n:Int)=13→A2g g (k+n) j fs b=0→∃ b':BI n,up k n b'=b
 | 0,j,fs,b,hj,h=>by
  exfalso
  cases k with
  | zero=>exact nomatch (b:Empty)
  | succ k=>
   have h':A2g g (k+1) j fs b=0:=h
   rw[A6a,if_pos (by omega)] at h'
   cases h'
 | n+1,j,fs,b,hj,h=>by
  obtain⟨_,hr,_⟩:=A5z (d:=k+n) h
  obtain⟨l',hl⟩:=C1g (f:=upV (up k n)) (l:=BO.vals b) fun v hv=>by
   obtain⟨x,hx⟩:=hr.each v hv
   obtain⟨s',hs⟩:=C1g (f:=up k n) (l:=v.subs) fun s hs=>E0w n (j+1) _ s (by omega) (hx.subs s hs)
   exact⟨⟨v.number,v.bits,v.bytes,s'⟩,by unfold upV;rw[hs]⟩
  refine⟨(⟨l',BO.unk b⟩:BO (BI n)),?_⟩
  show(⟨l'.map (upV (up k n)),BO.unk b⟩:BO (BI (k+n)))=b
  rw[hl]
  rfl
section
variable {β γ:Type}{u : β→γ}
theorem D7s (f : γ→List UInt8×Int):∀ (l:List β) (acc:List (List UInt8)),A5q f acc (l.map u)=A5q (fun b=>f (u b)) acc l
 | [],_=>rfl
 | b::l,acc=>by
  rw[List.map_cons]
  unfold A5q
  rw[D7s f l]
theorem D9h (deep:List UInt8→γ→List UInt8×Int)(x:FI)(v:VI β):A3e deep x (upV u v)=A3e (fun t b=>deep t (u b)) x v:=by
 unfold A3e
 rw[show(upV u v).subs=v.subs.map u from rfl,D7s]
 rfl
theorem B9l (deep:List UInt8→γ→List UInt8×Int)(fs:List FI):∀ (l:List (VI β)) (acc:List RI),A2v deep fs acc (l.map (upV u))=A2v (fun t b=>deep t (u b)) fs acc l
 | [],_=>rfl
 | v::l,acc=>by
  rw[List.map_cons]
  unfold A2v
  rw[show(upV u v).number=v.number from rfl,D9h,B9l deep fs l]
theorem B8i (f : γ→Int):∀ l:List β,A0x f (l.map u)=A0x (fun b=>f (u b)) l
 | []=>rfl
 | b::l=>by
  rw[List.map_cons]
  unfold A0x
  rw[B8i f l]
theorem E0e (x:FI)(v:VI β)(f:List UInt8→γ→Int)(s:Int×List Int)(i:Nat):eAt x (upV u v) f s i=eAt x v (fun t b=>f t (u b)) s i:=by
 have hm:A1h (upV u v)=A1h v:=by unfold A1h upV;simp
 match i with
 | 0=>rfl
 | 1=>
  unfold eAt A1b
  rw[show(upV u v).subs.length=v.subs.length by unfold upV;simp]
  rfl
 | 2=>
  show(if A5h x (upV u v) then(5:Int) else 0)=if A5h x v then 5 else 0
  unfold A5h
  rw[hm]
 | 3=>
  unfold eAt A0p
  rw[hm]
  rfl
 | 4=>rfl
 | 5=>rfl
 | 6=>exact B8i (f x.type) v.subs
 | 7=>rfl
 | _+8=>rfl
theorem D9s (fs:List FI)(f:List UInt8→γ→Int)(v:VI β)(s:Int×List Int):B7p fs f (upV u v) s=B7p fs (fun t b=>f t (u b)) v s:=by
 unfold B7p
 rw[show(upV u v).number=v.number from rfl]
 cases fs.find? (fun y=>decide (y.number=v.number)) with
 | none=>rfl
 | some x=>
  dsimp only
  congr 1
  funext i
  exact E0e x v f s i
theorem C4c (fs:List FI)(f:List UInt8→γ→Int):∀ (l:List (VI β)) (s:Int×List Int),A4e fs f (l.map (upV u)) s=A4e fs (fun t b=>f t (u b)) l s
 | [],_=>rfl
 | v::l,s=>by
  rw[List.map_cons]
  unfold A4e
  rw[D9s,C4c fs f l]
  rfl
end
theorem D2g {g:GI}{k:Nat}:∀ (n:Nat) (m:MI) (b:BI n),A1t g (k+n) m (up k n b)=A1t g n m b
 | 0,_,b=>nomatch (b:Empty)
 | n+1,m,b=>by
  show A9c (fun t x=>A1t g (k+n) (A4f g t) x) m (⟨(BO.vals b).map (upV (up k n)),BO.unk b⟩:BO (BI (k+n)))=A9c (fun t x=>A1t g n (A4f g t) x) m b
  have e:(fun(t:List UInt8) (x:BI n)=>A1t g (k+n) (A4f g t) (up k n x))=fun t x=>A1t g n (A4f g t) x:=by
   funext t x
   exact D2g n (A4f g t) x
  unfold A9c
  dsimp only
  rw[B9l,e]
theorem C4a {g:GI}{k:Nat}:∀ (n:Nat) (j:Int) (fs:List FI) (b:BI n),A2g g (k+n) j fs (up k n b)=A2g g n j fs b
 | 0,_,_,b=>nomatch (b:Empty)
 | n+1,j,fs,b=>by
  have e:(fun(t:List UInt8) (x:BI n)=>A2g g (k+n) (j+1) (A1l g t) (up k n x))=fun t x=>A2g g n (j+1) (A1l g t) x:=by
   funext t x
   exact C4a n (j+1) _ x
  have h1:=C4c (u:=up k n) fs (fun name s=>A2g g (k+n) (j+1) (A1l g name) s) (BO.vals b) (0,[])
  rw[e] at h1
  show(if 12<j then 10 else if A4e fs (fun name s=>A2g g (k+n) (j+1) (A1l g name) s) ((BO.vals b).map (upV (up k n))) (0,[])=0 then A0x (B1l fs) (BO.unk b) else A4e fs (fun name s=>A2g g (k+n) (j+1) (A1l g name) s) ((BO.vals b).map (upV (up k n))) (0,[]))=if 12<j then 10 else if A4e fs (fun name s=>A2g g n (j+1) (A1l g name) s) (BO.vals b) (0,[])=0 then A0x (B1l fs) (BO.unk b) else A4e fs (fun name s=>A2g g n (j+1) (A1l g name) s) (BO.vals b) (0,[])
  rw[h1]
theorem D0s {α β:Type}{P:World→Addr→β→Prop}{Q:World→Addr→α→Prop}{f : α→β}{sz:Nat}{w:World}{v:Value}{l:List α}(ac:∀ x a,P w x (f a)→Q w x a)(h:RdL sz P w v (l.map f)):RdL sz Q w v l:=by
 obtain⟨ao,n,cap,e,h1,h2,h3,h4,h5⟩:=h
 refine⟨ao,n,cap,e,by rw[←h1,List.length_map],h2,h3,h4,fun x hx k a ha=>ac _ _ (h5 x hx k (f a) ?_)⟩
 rw[List.getElem?_map,ha]
 rfl
theorem D7t {β γ:Type}{u : β→γ}{P:World→Addr→γ→Prop}{Q:World→Addr→β→Prop}{w:World}(ac:∀ x a,P w x (u a)→Q w x a)(x:Addr)(v:VI β)(h:VAt P w x (upV u v)):VAt Q w x v:=by
 obtain⟨v1,v2,v3,h1,h2,h3,h4,h5,h6,h7⟩:=h
 exact⟨v1,v2,v3,h1,h2,h3,h4,h5,h6,D0s ac h7⟩
theorem E0v {k:Nat}{w:World}:∀ (n:Nat) (x:Addr) (b:BI n),BAt (k+n) w x (up k n b)→BAt n w x b
 | 0,_,b,_=>nomatch (b:Empty)
 | n+1,x,b,h=>by
  obtain⟨v0,v1,h1,h2,h3,h4⟩:=h
  exact⟨v0,v1,h1,h2,D0s (fun y v hv=>D7t (E0v n) y v hv) h3,h4⟩
theorem E2g {k n:Nat}{w:World}{v0 v1:Value}{b:BI (n+1)}(h:BRd (k+n) w v0 v1 (up k (n+1) b)):BRd n w v0 v1 b:=⟨D0s (fun y v hv=>D7t (E0v n) y v hv) h.1,h.2⟩
theorem E0x {k:Nat}:∀ (n:Nat) (b:BI n),BQk (k+n) (up k n b)→BQk n b
 | 0,b,_=>nomatch (b:Empty)
 | n+1,b,h=>by
  refine⟨fun v hv=>?_,h.2⟩
  have hm:upV (up k n) v∈(BO.vals b).map (upV (up k n)):=List.mem_map_of_mem hv
  obtain⟨h1,h2,h3,h4⟩:=h.1 _ hm
  exact⟨h1,h2,h3,fun s hs=>E0x n s (h4 _ (List.mem_map_of_mem hs))⟩
theorem B5a {g:GI}(ah:(wrongL g).1=0){m:MI}(hm:m∈g.msgs){β:Type}{f:List UInt8→β→Int}{deep:List UInt8→β→List UInt8×Int}(hf:∀ t x,(deep t x).1.length≤4000){x:FI}{v:VI β}(hx:RtV m.fields f x v):∀ r∈(A3e deep x v).1,A1c r.number r.how r.bits r.bytes.length=0:=by
 obtain⟨_,au,aw⟩:=C6u ah hm (List.mem_of_find?_eq_some hx.fld)
 obtain⟨m1,aj,mm⟩:=B1v hx.misc
 have hz:∀ z:List UInt8,z.length≤4000→A1c (B7b x.number z).number (B7b x.number z).how (B7b x.number z).bits (B7b x.number z).bytes.length=0:=fun z hz=>by
  show A1c x.number 2 0 z.length=0
  unfold A1c
  rw[if_neg (by decide),if_neg (by omega),if_neg (by omega),if_neg (by omega),if_neg (by omega),if_neg (by omega)]
 intro r hr
 unfold A3e at hr
 split at hr
 ·obtain⟨z,hz',rfl⟩:=List.mem_map.1 hr
  exact hz z ((D1t (deep x.type) (hf x.type) v.subs [] (fun z hz=>by cases hz)).1 z hz')
 ·split at hr
  ·obtain⟨z,hz',rfl⟩:=List.mem_map.1 hr
   have:=hx.bytes z hz'
   unfold A2h at this
   split at this
   ·cases this
   ·exact hz z (by omega)
  ·rename_i h10 hh2
   split at hr
   ·rw[List.mem_singleton.1 hr]
    refine hz _ ?_
    have:=B0q (A2e x.kind) (v.bits.map (A4o x.kind))
    rw[List.length_map] at this
    unfold A1h at aj
    omega
   ·rename_i hmx
    rw[List.mem_singleton.1 hr]
    show A1c x.number (A2e x.kind) (A4o x.kind (v.bits.headD 0)) 0=0
    have ak:=B6h hh2
    have ac:¬ (x.kind=8∨x.kind=9):=fun h=>hh2 (C9f h)
    obtain⟨e1,e2⟩:=D1g hx.others ac h10
    have hsm:A2e x.kind=5→A4o x.kind (v.bits.headD 0)<4294967296:=fun h5=>by
     cases hb:v.bits with
     | nil=>
      unfold A1h at m1
      rw[hb,e1,e2] at m1
      simp at m1
     | cons a l=>exact B4k (hx.bits a (by rw[hb];simp)) h5
    have ag:¬ A1z (A2e x.kind)=false:=B2s (by omega)
    unfold A1c
    rw[if_neg ag,if_neg (by omega),if_neg (by omega),if_neg (by rintro⟨h1,h2⟩;have:=hsm h1;omega),if_neg (by omega),if_neg (by omega)]
theorem C8c:∀ (l:List RI) (acc:List UInt8),(∀ r∈l,A1c r.number r.how r.bits r.bytes.length=0)→(A9f acc l).2=0∨(A9f acc l).2=4
 | [],_,_=>.inl rfl
 | r::l,acc,h=>by
  rw[B5u,if_neg (by rw[h r (List.mem_cons_self ..)];simp)]
  split
  ·exact .inr rfl
  ·exact C8c l _ fun q hq=>h q (List.mem_cons_of_mem _ hq)
theorem D1u {β:Type}{f : β→List UInt8×Int}:∀ (l:List β) (acc:List (List UInt8)),(∀ b∈l,(f b).2=0∨(f b).2=4)→(A5q f acc l).2=0∨(A5q f acc l).2=4
 | [],_,_=>.inl rfl
 | b::l,acc,h=>by
  unfold A5q
  split
  ·exact h b (List.mem_cons_self ..)
  ·exact D1u l _ fun q hq=>h q (List.mem_cons_of_mem _ hq)
theorem B4z {β:Type}{deep:List UInt8→β→List UInt8×Int}{fs:List FI}:∀ (l:List (VI β)) (acc:List RI),(∀ v∈l,(A3e deep (A0h fs v.number) v).2=0∨(A3e deep (A0h fs v.number) v).2=4)→(A2v deep fs acc l).2=0∨(A2v deep fs acc l).2=4
 | [],_,_=>.inl rfl
 | v::l,acc,h=>by
  unfold A2v
  split
  ·exact h v (List.mem_cons_self ..)
  ·exact B4z l _ fun q hq=>h q (List.mem_cons_of_mem _ hq)
theorem C4g {g:GI}(ac:(wrongL g).1=0):∀ (n:Nat) (k:Int) (m:MI) (x:BI n),m∈g.msgs→A2g g n k m.fields x=0→(A1t g n m x).2=0∨(A1t g n m x).2=4
 | 0,_,_,x,_,_=>nomatch (x:Empty)
 | n+1,k,m,x,hm,he=>by
  obtain⟨_,hr,hu⟩:=A5z he
  show(A9c (fun t x=>A1t g n (A4f g t) x) m x).2=0∨(A9c (fun t x=>A1t g n (A4f g t) x) m x).2=4
  have h1:(A2v (fun t x=>A1t g n (A4f g t) x) m.fields [] (BO.vals x)).2=0∨(A2v (fun t x=>A1t g n (A4f g t) x) m.fields [] (BO.vals x)).2=4:=B4z _ _ fun v hv=>by
   obtain⟨y,hy⟩:=hr.each v hv
   rw[A4k hy.fld]
   unfold A3e
   split
   ·refine D1u v.subs [] fun s hs=>?_
    obtain⟨ag,M,hM⟩:=A9l ac hm hy hs
    have hz:=hy.subs s hs
    rw[A9m hM] at hz
    show(A1t g n (A4f g y.type) s).2=0∨(A1t g n (A4f g y.type) s).2=4
    rw[B6p hM]
    exact C4g ac n (k+1) M s (List.mem_of_find?_eq_some hM) hz
   ·split
    ·exact .inl rfl
    ·split
     ·exact .inl rfl
     ·exact .inl rfl
  unfold A9c
  by_cases h2:(A2v (fun t x=>A1t g n (A4f g t) x) m.fields [] (BO.vals x)).2≠0
  ·rw[if_pos h2]
   exact h1
  ·rw[if_neg h2]
   obtain⟨e1,_⟩:=B1y _ _ (Decidable.not_not.1 h2)
   rw[e1,List.nil_append]
   refine C8c _ _ fun r ah=>?_
   rcases List.mem_append.1 ah with h|h
   ·obtain⟨v,hv,h⟩:=List.mem_flatMap.1 h
    obtain⟨y,hy⟩:=hr.each v hv
    rw[A4k hy.fld] at h
    exact B5a ac hm (fun t x=>C0c g n (A4f g t) x) hy r h
   ·exact(B0z (hu r h)).1
theorem E1i (w:World)(o:Obj):∃ X,Hid (X=w.alloc o)∧Below w.heap.size w X∧X.heap[w.heap.size]?=some o∧w.heap.size+1≤X.heap.size:=⟨_,rfl,(Below.refl _ _).alloc (Nat.le_refl _) _,heap_alloc_new _ _,by simp⟩
theorem D0l {g:GI}{j:Nat}{m:MI}(ac:(wrongL g).1=0)(hm:g.msgs[j]?=some m)(l:List UInt8):A7l g (j:Int) l=A5u g 12 m l:=by
 have hj:=(List.getElem?_eq_some_iff.1 hm).1
 unfold A7l
 rw[if_neg (by rw[ac];simp),if_neg (by omega),Int.toNat_natCast,hm]
def B9j (l:List RI):List UInt8:=l.flatMap fun r=>recN r.number r.how r.bits r.bytes
theorem D5k (a b:List RI):B9j (a++b)=B9j a++B9j b:=by unfold B9j;rw[List.flatMap_append]
theorem C8d:∀ (l:List RI) (acc:List UInt8),acc.length≤4000→(∀ r∈l,A1c r.number r.how r.bits r.bytes.length=0)→A9f acc l=if (acc++B9j l).length≤4000 then(acc++B9j l,0) else([],4)
 | [],acc,h,_=>by
  have e:B9j [] = []:=rfl
  rw[e,List.append_nil,if_pos h]
  rfl
 | r::l,acc,h,hw=>by
  have e:B9j (r::l)=recN r.number r.how r.bits r.bytes++B9j l:=rfl
  rw[B5u,if_neg (by rw[hw r (List.mem_cons_self ..)];simp),e,←List.append_assoc]
  by_cases h2:4000<(acc++recN r.number r.how r.bits r.bytes).length
  ·rw[if_pos h2,if_neg]
   rw[List.length_append]
   omega
  ·rw[if_neg h2]
   exact C8d l _ (by omega) fun q hq=>hw q (List.mem_cons_of_mem _ hq)
def A7q {β:Type}(deep:List UInt8→β→List UInt8)(x:FI)(v:VI β):List RI:=
 if x.kind=10 then v.subs.map (fun s=>B7b x.number (deep x.type s))
 else if A2e x.kind=2 then v.bytes.map (B7b x.number)
 else if x.many=true then [B7b x.number (packedN (A2e x.kind) (v.bits.map (A4o x.kind)))]
 else [⟨x.number,A2e x.kind,A4o x.kind (v.bits.headD 0),[]⟩]
def E0s {β:Type}(deep:List UInt8→β→List UInt8)(fs:List FI)(b:BO β):List RI:=b.vals.flatMap (fun v=>A7q deep (A0h fs v.number) v)++b.unk
def A6x (g:GI):(d:Nat)→MI→BI d→List UInt8
 | 0=>fun _ _=>[]
 | d+1=>fun m b=>B9j (E0s (fun t x=>A6x g d (A4f g t) x) m.fields b)
theorem C6r (num:Int)(z:List UInt8):z.length<(recN num 2 0 z).length:=by
 unfold recN
 rw[if_pos rfl,List.length_append,List.length_append]
 have:1≤(ktagN num 2).length:=by
  unfold ktagN
  exact B6y _
 omega
theorem D9e {l:List RI}{r:RI}(h:r∈l):(recN r.number r.how r.bits r.bytes).length≤(B9j l).length:=by
 induction l with
 | nil=>cases h
 | cons a l ih=>
  have e:B9j (a::l)=recN a.number a.how a.bits a.bytes++B9j l:=rfl
  rw[e,List.length_append]
  rcases List.mem_cons.1 h with rfl|h
  ·omega
  ·have:=ih h
   omega
theorem C3t {β:Type}{deep:List UInt8→β→List UInt8×Int}{deepU:List UInt8→β→List UInt8}{fs:List FI}{f:List UInt8→β→Int}:∀ (l:List (VI β)) (acc:List RI),(∀ v∈l,∃ x,RtV fs f x v)→(∀ v∈l,∀ s∈v.subs,deep (A0h fs v.number).type s=if (deepU (A0h fs v.number).type s).length≤4000 then(deepU (A0h fs v.number).type s,0) else([],4))→
  A2v deep fs acc l=(acc++l.flatMap (fun v=>A7q deepU (A0h fs v.number) v),0)∨(A2v deep fs acc l=([],4)∧∃ r∈l.flatMap (fun v=>A7q deepU (A0h fs v.number) v),4000<(recN r.number r.how r.bits r.bytes).length)
 | [],acc,_,_=>.inl (by simp[A2v])
 | v::l,acc,h1,h2=>by
  have ag:∀ (ss:List β) (a:List (List UInt8)),(∀ s∈ss,s∈v.subs)→(A0h fs v.number).kind=10→A5q (deep (A0h fs v.number).type) a ss=(a++ss.map (deepU (A0h fs v.number).type),0)∨(A5q (deep (A0h fs v.number).type) a ss=([],4)∧∃ s∈ss,4000<(deepU (A0h fs v.number).type s).length):=by
   intro ss
   induction ss with
   | nil=>intro a _ _;exact .inl (by simp[A5q])
   | cons s ss ih=>
    intro a ah hk
    have hd:=h2 v (List.mem_cons_self ..) s (ah s (List.mem_cons_self ..))
    unfold A5q
    by_cases hl:(deepU (A0h fs v.number).type s).length≤4000
    ·rw[hd,if_pos hl,if_neg (by simp)]
     rcases ih (a++[deepU (A0h fs v.number).type s]) (fun q hq=>ah q (List.mem_cons_of_mem _ hq)) hk with h|⟨h,q,hq,hl'⟩
     ·exact .inl (by rw[h];simp)
     ·exact .inr ⟨h,q,List.mem_cons_of_mem _ hq,hl'⟩
    ·rw[hd,if_neg hl,if_pos (by simp)]
     exact .inr ⟨rfl,s,List.mem_cons_self ..,by omega⟩
  have ac:A3e deep (A0h fs v.number) v=(A7q deepU (A0h fs v.number) v,0)∨((A3e deep (A0h fs v.number) v).2=4∧∃ r∈A7q deepU (A0h fs v.number) v,4000<(recN r.number r.how r.bits r.bytes).length):=by
   unfold A3e A7q
   by_cases hk:(A0h fs v.number).kind=10
   ·rw[if_pos hk,if_pos hk]
    rcases ag v.subs [] (fun _ h=>h) hk with h|⟨h,s,hs,hl⟩
    ·left
     rw[h,List.nil_append,List.map_map]
     rfl
    ·right
     rw[h]
     exact⟨rfl,_,List.mem_map_of_mem hs,Nat.lt_trans hl (C6r _ _)⟩
   ·rw[if_neg hk,if_neg hk]
    left
    split
    ·rfl
    ·split <;> rfl
  unfold A2v
  rcases ac with h|⟨h,r,hr,hl⟩
  ·rw[h,if_neg (by simp)]
   rcases C3t l (acc++A7q deepU (A0h fs v.number) v) (fun q hq=>h1 q (List.mem_cons_of_mem _ hq)) (fun q hq=>h2 q (List.mem_cons_of_mem _ hq)) with h'|⟨h',r,hr,hl⟩
   ·exact .inl (by rw[h',List.flatMap_cons,List.append_assoc])
   ·exact .inr ⟨h',r,by rw[List.flatMap_cons];exact List.mem_append_right _ hr,hl⟩
  ·rw[if_pos (by rw[h];simp),h]
   exact .inr ⟨rfl,r,by rw[List.flatMap_cons];exact List.mem_append_left _ hr,hl⟩
theorem D7w {g:GI}(ah:(wrongL g).1=0):∀ (d:Nat) (k:Int) (m:MI) (b:BI d),m∈g.msgs→A2g g d k m.fields b=0→A1t g d m b=if (A6x g d m b).length≤4000 then(A6x g d m b,0) else([],4)
 | 0,_,_,b,_,_=>nomatch (b:Empty)
 | d+1,k,m,b,hm,he=>by
  obtain⟨_,hr,hu⟩:=A5z he
  have ac:∀ v∈BO.vals b,∀ s∈v.subs,(fun t x=>A1t g d (A4f g t) x) (A0h m.fields v.number).type s=if ((fun t x=>A6x g d (A4f g t) x) (A0h m.fields v.number).type s).length≤4000 then((fun t x=>A6x g d (A4f g t) x) (A0h m.fields v.number).type s,0) else([],4):=fun v hv s hs=>by
   obtain⟨y,hy⟩:=hr.each v hv
   rw[A4k hy.fld]
   obtain⟨_,M,hM⟩:=A9l ah hm hy hs
   have hz:=hy.subs s hs
   rw[A9m hM] at hz
   show A1t g d (A4f g y.type) s=if (A6x g d (A4f g y.type) s).length≤4000 then(A6x g d (A4f g y.type) s,0) else([],4)
   rw[B6p hM]
   exact D7w ah d (k+1) M s (List.mem_of_find?_eq_some hM) hz
  have hw:A6x g (d+1) m b=B9j ((BO.vals b).flatMap (fun v=>A7q (fun t x=>A6x g d (A4f g t) x) (A0h m.fields v.number) v)++BO.unk b):=rfl
  rcases C3t (deep:=fun t x=>A1t g d (A4f g t) x) (deepU:=fun t x=>A6x g d (A4f g t) x) (BO.vals b) [] hr.each ac with h|⟨h,r,hr',hl⟩
  ·have hall:=B1y (deep:=fun t x=>A1t g d (A4f g t) x) (fs:=m.fields) (BO.vals b) [] (by rw[h])
   have ag:A2v (fun t x=>A1t g d (A4f g t) x) m.fields [] (BO.vals b)=((BO.vals b).flatMap (fun v=>A7q (fun t x=>A6x g d (A4f g t) x) (A0h m.fields v.number) v),0):=by rw[h,List.nil_append]
   show A9c (fun t x=>A1t g d (A4f g t) x) m b=_
   unfold A9c
   rw[ag,if_neg (by simp),hw]
   have:=C8d ((BO.vals b).flatMap (fun v=>A7q (fun t x=>A6x g d (A4f g t) x) (A0h m.fields v.number) v)++BO.unk b) [] (by simp) (fun q hq=>by
    rcases List.mem_append.1 hq with hq|hq
    ·have e:=hall.1
     rw[ag,List.nil_append] at e
     have hq':q∈(BO.vals b).flatMap (fun v=>(A3e (fun t x=>A1t g d (A4f g t) x) (A0h m.fields v.number) v).1):=by rw[←e];exact hq
     obtain⟨v,hv,hq'⟩:=List.mem_flatMap.1 hq'
     obtain⟨y,hy⟩:=hr.each v hv
     rw[A4k hy.fld] at hq'
     exact B5a ah hm (fun t x=>C0c g d (A4f g t) x) hy q hq'
    ·exact(B0z (hu q hq)).1)
   rw[List.nil_append] at this
   exact this
  ·show A9c (fun t x=>A1t g d (A4f g t) x) m b=_
   unfold A9c
   rw[h,if_pos (by simp),if_neg]
   rw[hw]
   have:=D9e (List.mem_append_left (BO.unk b) hr')
   omega
theorem B2q {α γ:Type}{f h : α→List γ}{l:List α}(e:∀ a∈l,f a=h a):l.flatMap f=l.flatMap h:=by
 rw[List.flatMap_def,List.flatMap_def,List.map_congr_left e]
theorem B6a {g:GI}{t:List UInt8}(h:∃ m∈g.msgs,m.name=t):A1l g t=(A4f g t).fields:=by
 obtain⟨j,hj,ac,_,_⟩:=D7f h
 unfold A1l A4f
 cases hf:g.msgs.find? (fun m=>decide (m.name=t)) with
 | none=>
  obtain⟨m,hm,rfl⟩:=h
  exact absurd (List.find?_eq_none.1 hf m hm) (by simp)
 | some m=>
  first
  | rfl
  | (show _=((some m).getD E0m).fields;rw[show g.msgs.find? (isN t)=some m from hf];rfl)
theorem E0u {β:Type}{g:GI}{x:FI}{v:VI β}{f:List UInt8→β→Int}{deepU:List UInt8→β→List UInt8}{deepR:TI→β→List UInt8×Int}(hv:VRt x f v)
  (au:x.kind=10→∀ s∈v.subs,deepR (A2w g x) s=(deepU x.type s,0)):A3p deepR (A2w g x) v=(B9j (A7q deepU x v),0):=by
 have hsk:(A2w g x).kind=A3d x:=rfl
 have aj:(A2w g x).number=x.number:=rfl
 have a8:(A2w g x).field=x.kind:=rfl
 have bg:(A2w g x).how=A2e x.kind:=rfl
 have ac:∀ l:List RI,B9j l=l.flatMap rb:=fun l=>rfl
 have hm:=hv.mis
 simp only[A5h,Bool.or_eq_false_iff,decide_eq_false_iff_not,Bool.and_eq_false_iff,Bool.not_eq_false'] at hm
 obtain⟨bk,bp,aw⟩:=hm
 unfold A1h at bk bp aw
 by_cases k10:x.kind=10
 ·have ag:A3d x=4:=by unfold A3d;rw[if_pos k10]
  unfold A3p A7q
  rw[hsk,ag,if_neg (by decide),if_neg (by decide),if_neg (by decide),B3b,aj,if_pos k10]
  rw[C0w v.subs [] (fun s hs=>by rw[au k10 s hs]),ac,List.nil_append,List.flatMap_map]
  refine congrArg (fun l=>(l,(0:Int))) (B2q fun s hs=>?_)
  rw[au k10 s hs,C1w]
 ·by_cases kh:A2e x.kind=2
  ·have ag:A3d x=3:=by unfold A3d;rw[if_neg k10,if_pos kh]
   unfold A3p A7q
   rw[hsk,ag,if_neg (by decide),if_neg (by decide),if_pos rfl,aj,if_neg k10,if_pos kh,ac,C8u]
  ·by_cases hmy:x.many=true
   ·have ag:A3d x=2:=by unfold A3d;rw[if_neg k10,if_neg kh,if_pos hmy]
    unfold A3p A7q
    rw[hsk,ag,if_neg (by decide),if_pos rfl,aj,bg,a8,if_neg k10,if_neg kh,if_pos hmy,ac]
    simp only[List.flatMap_cons,List.flatMap_nil,List.append_nil]
    rw[C1w]
   ·have bq:x.many=false:=by simpa using hmy
    have ag:A3d x=1:=by unfold A3d;rw[if_neg k10,if_neg kh,if_neg hmy]
    have ah:=hv.oth
    unfold A1b at ah
    have br:¬ (x.kind=8∨x.kind=9):=by
     intro h
     apply kh
     unfold A2e
     rcases h with h|h <;> simp[h]
    rw[if_neg br,if_neg k10] at ah
    have hz:v.bytes.length+v.subs.length=0:=by simpa using ah
    have hb1:v.bits.length=1:=by
     rcases aw with h|h
     ·omega
     ·rw[bq] at h;cases h
    obtain⟨n,hn⟩:∃ n,v.bits = [n]:=by
     match hvb:v.bits,hb1 with
     | [n],_=>exact⟨n,rfl⟩
    have ak:A2e x.kind=0∨A2e x.kind=1∨A2e x.kind=5:=by
     rcases C9g x.kind with h|h|h|h
     ·exact .inl h
     ·exact .inr (.inl h)
     ·exact absurd h kh
     ·exact .inr (.inr h)
    have bh:B6l (A2e x.kind)=true:=by
     rcases ak with h|h|h <;> rw[h] <;> decide
    have eS:A3p deepR (A2w g x) v=(ktagN x.number (A2e x.kind)++kputB (A2e x.kind) (A4o x.kind n),0):=by
     unfold A3p A8x
     rw[hsk,ag,if_pos rfl,hn,aj,bg,a8]
     simp[packedN,bh]
    have eR:A7q deepU x v = [⟨x.number,A2e x.kind,A4o x.kind n,[]⟩]:=by unfold A7q;rw[if_neg k10,if_neg kh,if_neg hmy,hn];rfl
    rw[eS,eR,ac]
    simp only[List.flatMap_cons,List.flatMap_nil,List.append_nil]
    show _=(recN x.number (A2e x.kind) (A4o x.kind n) [],(0:Int))
    unfold recN
    rw[if_neg kh]
theorem E0r {g:GI}(hr:(wrongL g).1=0):∀ (d:Nat) (m:MI) (k:Int) (i:Nat) (b:BI d),g.msgs[i]?=some m→A2g g d k m.fields b=0→C7m (A3s g) d (i:Int) k b=(A6x g d m b,0)
 | 0,_,_,_,b,_,_=>nomatch (b:Empty)
 | d+1,m,k,i,b,him,hE=>by
  have bg:=List.mem_of_getElem? him
  obtain⟨_,_,hall⟩:=A7s hr
  obtain⟨bk,ag⟩:=B2z (hall m bg)
  rw[A6a] at hE
  split at hE
  ·cases hE
  ·rename_i h12
   split at hE
   ·rename_i hvals
    obtain⟨hv,aw⟩:=C4b hvals
    have bh:∀ r∈BO.unk b,RRt r:=fun r bu=>by
     have:=A6c hE r bu
     unfold B1l at this
     split at this
     ·assumption
     ·rename_i h0;exact absurd this h0
    have bp:∀ v∈BO.vals b,A0h m.fields v.number∈m.fields∧(A0h m.fields v.number).number=v.number:=fun v ac=>by
     obtain⟨_,_,_,h3,h4⟩:=B1r (hv v ac).2.1
     exact⟨h4,h3⟩
    have au:∀ v∈BO.vals b,∃ s,A7m g m.barred (A0h m.fields v.number) s=true:=fun v ac=>B3g _ _ _ ag _ (bp v ac).1
    have br:∀ v∈BO.vals b,(A0h m.fields v.number).kind=10→∃ mm∈g.msgs,mm.name=(A0h m.fields v.number).type:=fun v ac ah=>by
     obtain⟨s,hs⟩:=au v ac
     simp only[A7m,Bool.and_eq_true,Bool.not_eq_true',Bool.or_eq_false_iff,decide_eq_false_iff_not] at hs
     obtain⟨_,h1,_,⟨h3,h4⟩,h5,_⟩:=hs
     simp only[C0g,ah,if_true] at h5
     have h6:0≤A0g (fun mm:MI=>decide (mm.name=(A0h m.fields v.number).type)) g.msgs:=by simpa using h5
     rcases A2s (fun mm:MI=>decide (mm.name=(A0h m.fields v.number).type)) g.msgs with⟨h7,_⟩|⟨k,x,_,h8,_,h9⟩
     ·rw[h7] at h6;omega
     ·exact⟨x,List.mem_of_getElem? h8,by simpa using h9⟩
    have aj:∀ v∈BO.vals b,(A0h m.fields v.number).kind=10→∀ s∈v.subs,C7m (A3s g) d (A2w g (A0h m.fields v.number)).next (k+1) s=(A6x g d (A4f g (A0h m.fields v.number).type) s,0):=fun v ac ah s hs=>by
     have ht:=br v ac ah
     obtain⟨j,hj,bq,_,_⟩:=D7f ht
     have a8:=(hv v ac).2.2.sub s hs
     rw[B6a ht] at a8
     have:=E0r hr d (A4f g (A0h m.fields v.number).type) (k+1) j s bq a8
     have bt:(A2w g (A0h m.fields v.number)).next=(j:Int):=by
      show(if (A0h m.fields v.number).kind=10 then D9v g (A0h m.fields v.number).type else -1)=(j:Int)
      rw[if_pos ah];exact hj
     rw[bt]
     exact this
    have hval:=fun v (ac:v∈BO.vals b)=>E0u (g:=g) (deepU:=fun t x=>A6x g d (A4f g t) x) (deepR:=fun s x=>C7m (A3s g) d s.next (k+1) x) (hv v ac).2.2 (fun ah s hs=>aj v ac ah s hs)
    have hP:(A3s g).getD ((i:Int)).toNat []=A4d g m:=by
     have:(A3s g)[i]?=some (A4d g m):=by unfold A3s;rw[List.getElem?_map,him];rfl
     simp[List.getD,this]
    have ak:A3f (fun s x=>C7m (A3s g) d s.next (k+1) x) (BO.vals b) [] (A4d g m)=B6c (fun v=>A3p (fun s x=>C7m (A3s g) d s.next (k+1) x) (A2w g (A0h m.fields v.number)) v) [] (BO.vals b):=by
     have:=B9y g m.fields (fun s x=>C7m (A3s g) d s.next (k+1) x) (A8l m) [] (BO.vals b) [] (fun n hn=>by obtain⟨_,_,_,h3,_⟩:=B1r (B1w hn);exact h3) (B9c (B0l _ _ _ ag)) (fun p hp=>by cases hp) (fun v ac=>by
      obtain⟨x,hx,hn⟩:=(hv v ac).2.1
      unfold A8l
      rw[List.mem_mergeSort,List.mem_map]
      exact⟨x,hx,hn⟩) aw
     exact this
    have hrun:C7m (A3s g) (d+1) (i:Int) k b=E0q (fun s x=>C7m (A3s g) d s.next (k+1) x) (A4d g m) k b:=by
     rw[←hP];rfl
    have hf2:=C0w (h:=fun v=>A3p (fun s x=>C7m (A3s g) d s.next (k+1) x) (A2w g (A0h m.fields v.number)) v) (BO.vals b) [] (fun v ac=>by rw[hval v ac])
    rw[hrun]
    unfold E0q
    rw[if_neg h12,ak,hf2,if_neg (by simp),D2c _ _ bh,if_neg (by simp),List.nil_append,List.nil_append]
    show _=(B9j ((BO.vals b).flatMap (fun v=>A7q (fun t x=>A6x g d (A4f g t) x) (A0h m.fields v.number) v)++BO.unk b),(0:Int))
    rw[D5k]
    refine congrArg (fun l=>(l++(BO.unk b).flatMap rb,(0:Int))) ?_
    show _=List.flatMap rb _
    rw[List.flatMap_assoc]
    exact B2q fun v ac=>by rw[hval v ac];rfl
   ·rename_i h0;exact absurd hE h0
theorem D5x {g:GI}{d j:Nat}{m:MI}{x:BO (BI d)}(ac:(wrongL g).1=0)(hm:g.msgs[j]?=some m)(hE:A2g g (d+1) 1 m.fields x=0):D2u (A3s g) (j:Int) d x=A1t g (d+1) m x:=by
 have hj:=(List.getElem?_eq_some_iff.1 hm).1
 have hlen:(A3s g).length=g.msgs.length:=by unfold A3s;rw[List.length_map]
 refine(D9d (A3s g) (j:Int) d x).trans ?_
 unfold E1m
 rw[if_neg (by rw[C6c ac];simp),if_neg (by rw[hlen];omega)]
 refine(congrArg C1l (E0r ac (d+1) m 1 j x hm hE)).trans ?_
 refine Eq.trans ?_ (D7w ac (d+1) 1 m x (List.mem_of_getElem? hm) hE).symm
 show(if (0:Int)≠0 then([],(0:Int)) else if 4000<(A6x g (d+1) m x).length then([],4) else(A6x g (d+1) m x,0))=_
 rw[if_neg (by simp)]
 by_cases h:(A6x g (d+1) m x).length≤4000
 ·rw[if_neg (by omega),if_pos h]
 ·rw[if_pos (by omega),if_neg h]
def WrN (g:GI)(n:Nat)(M:MI)(l:List UInt8):Prop:=M∈g.msgs∧∃ (k:Int) (x:BI n),A2g g n k M.fields x=0∧BQk n x∧(A1t g n M x).2=0∧l=(A1t g n M x).1
theorem B1z {β:Type}{deep:List UInt8→β→List UInt8×Int}{x:FI}{v:VI β}:∀ r∈(A3e deep x v).1,r.number=x.number:=by
 intro r hr
 unfold A3e at hr
 split at hr
 ·obtain⟨z,_,rfl⟩:=List.mem_map.1 hr
  rfl
 ·split at hr
  ·obtain⟨z,_,rfl⟩:=List.mem_map.1 hr
   rfl
  ·split at hr <;> rw[List.mem_singleton.1 hr] <;> rfl
theorem B9p (q:RI):A9y (D7l q)=q:=rfl
theorem E2h {g:GI}(cg:(wrongL g).1=0):NjC g (WrN g):=by
 refine⟨fun {n M l rs A i r x} ⟨hM,k,b,he,hq,hz,hl⟩ _ hp hr hx hk=>?_⟩
 subst hl
 obtain⟨_,hrt,hu⟩:=A5z he
 have hw:=B5h hq hz
 rw[hp] at hw
 have au:=(Prod.mk.inj hw).1
 obtain⟨hz',_⟩:=B7l hz
 obtain⟨R,HR⟩:∃ R,(BO.vals b).flatMap (fun v=>(A3e (fun t x=>A1t g n (A4f g t) x) (A0h M.fields v.number) v).1)++BO.unk b=R:=⟨_,rfl⟩
 rw[HR] at au
 have hat:∀ (j:Nat) (r:Rcd),rs[j]?=some r→∃ q,R[j]?=some q∧r=D7l q:=fun j r hr=>by
  rw[au,List.getElem?_map] at hr
  cases hq:R[j]? with
  | none=>rw[hq] at hr;cases hr
  | some q=>rw[hq] at hr;exact⟨q,rfl,(Option.some.inj hr).symm⟩
 obtain⟨q,hq',rfl⟩:=hat i r hr
 rw[B9p] at hx ⊢
 have aj:∀ v∈BO.vals b,∃ y,RtV M.fields (fun name s=>A2g g n (k+1) (A1l g name) s) y v∧A0h M.fields v.number=y∧y.number=v.number:=fun v hv=>by
  obtain⟨y,hy⟩:=hrt.each v hv
  exact⟨y,hy,A4k hy.fld,A4r hy.fld⟩
 refine⟨?_,fun hm=>.inr fun j hj r' bw=>?_⟩
 ·have ag:q∈R:=List.mem_of_getElem? hq'
  rw[←HR] at ag
  rcases List.mem_append.1 ag with h|h
  ·obtain⟨v,hv,ah⟩:=List.mem_flatMap.1 h
   obtain⟨y,hy,ey,en⟩:=aj v hv
   have ac:=hz' v hv
   rw[ey] at ah ac
   have bv:=B1z q ah
   have bg:x=y:=by
    have h1:=hy.fld
    rw[←en,←bv,hx] at h1
    exact Option.some.inj h1
   subst bg
   unfold A3e at ah ac
   rw[if_pos hk] at ah ac
   obtain⟨z,aw,rfl⟩:=List.mem_map.1 ah
   obtain⟨e1,e2⟩:=B2a v.subs [] ac
   rw[e1,List.nil_append] at aw
   obtain⟨s,hs,rfl⟩:=List.mem_map.1 aw
   obtain⟨_,N,hN⟩:=A9l cg hM hy hs
   have em:A4f g x.type=N:=B6p hN
   have h3:=hy.subs s hs
   rw[A9m hN] at h3
   have h4:(A1t g n (A4f g x.type) s).2=0:=e2 s hs
   rw[em] at h4
   show WrN g n (msgD g x.type) (A1t g n (A4f g x.type) s).1
   rw[C9u hN,em]
   exact⟨List.mem_of_find?_eq_some hN,k+1,s,h3,(hq.1 v hv).2.2.2 s hs,h4,rfl⟩
  ·rw[(B0z (hu q h)).2] at hx
   cases hx
 ·obtain⟨q',ak,rfl⟩:=hat j r' bw
  rw[B9p]
  intro hn
  have bu:R.Pairwise fun a b=>a.number=b.number→∀ y,M.fields.find? (isF a.number)=some y→y.many=false→y.kind=10→False:=by
   rw[←HR]
   refine List.pairwise_append.2 ⟨List.pairwise_flatMap.2 ⟨fun v hv=>?_,?_⟩,?_,?_⟩
   ·obtain⟨y,hy,ey,en⟩:=aj v hv
    have ac:=hz' v hv
    rw[ey] at ac ⊢
    by_cases hs:y.many=false∧y.kind=10
    ·obtain⟨m1,cj,mm⟩:=B1v hy.misc
     obtain⟨s1,s2⟩:=D1h hy.others hs.2
     have bt:v.subs.length≤1:=by
      unfold A1h at mm
      rw[s1,s2] at mm
      simp only[List.length_nil,Nat.zero_add] at mm
      by_cases h:1<v.subs.length
      ·rw[hs.1] at mm
       exact absurd (mm h) (by decide)
      ·omega
     unfold A3e at ac ⊢
     rw[if_pos hs.2] at ac ⊢
     obtain⟨e1,_⟩:=B2a v.subs [] ac
     show List.Pairwise _ ((A5q (fun x=>A1t g n (A4f g y.type) x) [] v.subs).1.map (B7b y.number))
     rw[e1,List.nil_append]
     match hvs:v.subs,bt with
     | [],_=>simp
     | [s],_=>simp
    ·refine List.Pairwise.imp_of_mem (R:=fun _ _=>True) (fun {a c} ha hc _ _ z hz h1 h2=>?_) (List.pairwise_of_forall fun _ _=>trivial)
     have hz2:z=y:=by
      have h3:=hy.fld
      rw[←en,←B1z a ha,hz] at h3
      exact Option.some.inj h3
     subst hz2
     exact hs ⟨h1,h2⟩
   ·refine List.Pairwise.imp_of_mem (fun {v v'} hv hv' hlt a ha c hc e=>?_) hrt.rise
    obtain⟨y,hy,ey,en⟩:=aj v hv
    obtain⟨y',hy',bh,a8⟩:=aj v' hv'
    rw[ey] at ha
    rw[bh] at hc
    rw[B1z a ha,B1z c hc,en,a8] at e
    omega
   ·refine List.Pairwise.imp_of_mem (R:=fun _ _=>True) (fun {a c} ha hc _ _ z hz _ _=>?_) (List.pairwise_of_forall fun _ _=>trivial)
    rw[(B0z (hu a ha)).2] at hz
    cases hz
   ·intro a ha c hc e z hz _ _
    rw[e,(B0z (hu c hc)).2] at hz
    cases hz
  obtain⟨bq,br⟩:=List.getElem?_eq_some_iff.1 ak
  obtain⟨bk,bp⟩:=List.getElem?_eq_some_iff.1 hq'
  have:=List.pairwise_iff_getElem.1 bu j i bq bk hj
  rw[br,bp] at this
  exact this hn x (by rw[hn];exact hx) hm hk
end L
end Go.Proofs.YtgaoojpakjjdnaaGreatDoor
