import Derived.Test.YtcagbdokbnpdfaaGreatDoorDRightm
namespace Go.Proofs.YtcagbdokbnpdfaaGreatDoor
namespace L
open Go.RowKit
set_option linter.unusedVariables false
theorem C7n {g:GI}{d:Nat}{fs:List FI}{x:FI}{b b':BO (BI d)}{v:VI (BI d)}(h:A1m g d fs x b v = .ok b'):b'.unk=b.unk:=by
 unfold A1m at h
 split at h
 ·rw[←Except.ok.inj h]
 ·split at h
  ·split at h
   ·cases h
   ·rw[←Except.ok.inj h]
  ·split at h
   ·cases h
   ·split at h
    ·cases h
    ·rw[←Except.ok.inj h]
theorem A8u {g:GI}{n:Nat}{rd:List UInt8→List UInt8→Except Int (BI n)}{fs:List FI}:∀ (r1 r2:List RI) (b:BO (BI n)) (un:List RI) (s:BO (BI n)),A1j g rd fs r1 b un = .ok s→A1j g rd fs (r1++r2) b un=A1j g rd fs r2 ⟨s.vals,b.unk⟩ s.unk
 | [],r2,b,un,s,h=>by
  have e:(⟨b.vals,un⟩:BO (BI n))=s:=Except.ok.inj h
  subst e
  rfl
 | r::r1,r2,b,un,s,h=>by
  rw[List.cons_append]
  cases hf:fs.find? (isF r.number) with
  | none=>
   rw[A3v hf] at h ⊢
   exact A8u r1 r2 b _ s h
  | some x=>
   cases ht:A3j rd x r with
   | error E=>rw[A4s hf ht] at h;cases h
   | ok v=>
    cases hw:A1m g n fs x b v with
    | error E=>rw[A3h hf ht hw] at h;cases h
    | ok b'=>
     rw[A4r hf ht hw] at h ⊢
     rw[A8u r1 r2 b' un s h,C7n hw]
theorem B1g {g:GI}{d:Nat}{fs:List FI}{x:FI}{b b':BO (BI d)}{v:VI (BI d)}(hx:fs.find? (isF v.number)=some x) (h0:A1i v≠0) (h:A1m g d fs x b v = .ok b'):b'=⟨A2c (jnB g.msgs d) g.msgs fs b.vals v,b.unk⟩:=by
 unfold A1m at h
 rw[if_neg h0] at h
 unfold A2c
 rw[hx]
 dsimp only
 cases hf:b.vals.find? (isV v.number) with
 | none=>
  rw[hf] at h
  dsimp only at h ⊢
  split at h
  ·cases h
  ·exact(Except.ok.inj h).symm
 | some u=>
  rw[hf] at h
  dsimp only at h ⊢
  split at h
  ·cases h
  ·rename_i v' hv'
   split at h
   ·cases h
   ·rw[←B3y hv']
    exact(Except.ok.inj h).symm
theorem B6n {g:GI}{n:Nat}{fs:List FI}{f:List UInt8→BI n→Int}:∀ (l:List (VI (BI n))) (b b':BO (BI n)),(∀ v∈l,∃ x,RtV fs f x v)→A4u g fs b l = .ok b'→b'=⟨l.foldl (A2c (jnB g.msgs n) g.msgs fs) b.vals,b.unk⟩
 | [],b,b',_,h=>(Except.ok.inj h).symm
 | v::l,b,b',hv,h=>by
  obtain⟨x,hx⟩:=hv v (List.mem_cons_self ..)
  have hm:=(A4h hx.misc).1
  unfold A4u at h
  rw[A2y hx.fld] at h
  cases hw:A1m g n fs x b v with
  | error E=>rw[hw] at h;cases h
  | ok b2=>
   rw[hw] at h
   have e:=B1g hx.fld (by omega) hw
   have:=B6n l b2 b' (fun q hq=>hv q (List.mem_cons_of_mem _ hq)) h
   rw[this,e]
   rfl
theorem B5e {g:GI}{n:Nat}{fs:List FI}{f:List UInt8→BI n→Int}{A:List (VI (BI n))}{v:VI (BI n)}{x:FI}{l:List (VI (BI n))}(hx:RtV fs f x v) (hr:∀ a∈l,v.number < a.number) (hap:∀ a∈l,A0w fs v.number≤0∨A0w fs v.number≠A0w fs a.number):∀ a∈l,(A2c (jnB g.msgs n) g.msgs fs A v).find? (isV a.number)=A.find? (isV a.number):=fun a ha=>by
 have h1:=hr a ha
 rw[B0s hx.fld hx.without a.number,if_neg (by omega),if_neg]
 unfold ouB
 simp only[decide_eq_true_eq,not_and]
 intro h2 h3
 rcases hap a ha with h|h
 ·omega
 ·exact h h3.symm
theorem C4z {g:GI}{d:Nat}{k:Int}{M:MI}{t:List UInt8}(hrl:(A1c g).1=0) (hM:g.msgs.find? (isN t)=some M){s1 s2:BI (d+1)}(h1:A1d g (d+1) k M.fields s1=0) (h2:A1d g (d+1) k M.fields s2=0) (hd:d+1≤12):A3g g d (C2p g t) s1 s2=A1d g (d+1) 1 M.fields (jnB g.msgs (d+1) M s1 s2):=by
 obtain⟨j1,j2,j3⟩:=C5n hM
 obtain⟨j,hj⟩:=Int.eq_ofNat_of_zero_le j2
 rw[hj] at j1 ⊢
 have j1:g.msgs[j]?=some M:=by simpa using j1
 have w1:A1g g d ((j:Nat):Int) s1=0:=by rw[A4v hrl j1];exact A3e (d+1) k 1 _ _ (by omega) h1
 have w2:A1g g d ((j:Nat):Int) s2=0:=by rw[A4v hrl j1];exact A3e (d+1) k 1 _ _ (by omega) h2
 unfold A3g
 rw[if_neg (by simp[A0y,w1,w2]),Int.toNat_natCast,j1]
 exact A4v hrl j1 _
theorem D2y {g:GI}(hrl:(A1c g).1=0){m:MI}(hm:m∈g.msgs){n:Nat}{k:Int}(hk:n≤12){x:FI}{b:BO (BI n)}{v:VI (BI n)}(hv:RtV m.fields (fun name s=>A1d g n k (A0m g name) s) x v) (hb:∀ u,b.vals.find? (isV v.number)=some u→∃ xu,RtV m.fields (fun name s=>A1d g n k (A0m g name) s) xu u){E:Int}(h:A1m g n m.fields x b v = .error E):E=5:=by
 have hmi:=(A4h hv.misc).1
 unfold A1m at h
 rw[if_neg (by omega)] at h
 cases hf:b.vals.find? (isV v.number) with
 | none=>
  rw[hf] at h
  dsimp only at h
  split at h
  ·exact(Except.error.inj h).symm
  ·cases h
 | some u=>
  obtain⟨xu,hu⟩:=hb u hf
  have hun:=B0v hf
  obtain rfl:xu=x:=by
   have h1:=hu.fld
   rw[hun,hv.fld] at h1
   exact(Option.some.inj h1).symm
  rw[hf] at h
  dsimp only at h
  cases hme:C2n g n xu u v with
  | ok v'=>
   rw[hme] at h
   dsimp only at h
   split at h
   ·exact(Except.error.inj h).symm
   ·cases h
  | error E'=>
   rw[hme] at h
   obtain rfl:E'=E:=Except.error.inj h
   cases n with
   | zero=>cases hme
   | succ d=>
    rw[A4b] at hme
    split at hme
    ·rename_i hc
     obtain⟨M,hM⟩:=A2e hrl m hm xu (List.mem_of_find?_eq_some hu.fld) hc.2
     have hM':g.msgs.find? (isN xu.type)=some M:=hM
     obtain⟨s,hs⟩:=A6c hu.others hu.misc hc.1 hc.2
     obtain⟨t,ht⟩:=A6c hv.others hv.misc hc.1 hc.2
     have h1:=hu.subs s (by rw[hs];simp)
     have h2:=hv.subs t (by rw[ht];simp)
     rw[A3n hM'] at h1 h2
     rw[hs,ht] at hme
     dsimp only at hme
     split at hme
     ·cases hme
     ·rename_i hne
      have e:A3g g d (C2p g xu.type) s t=E':=Except.error.inj hme
      rw[C4z hrl hM' h1 h2 (by omega)] at e hne
      have hz:=B7y hrl (d+1) 1 M s t (List.mem_of_find?_eq_some hM') (A3e (d+1) k 1 _ _ (by omega) h1) (A3e (d+1) k 1 _ _ (by omega) h2)
      rcases hz with hz|hz
      ·exact absurd hz hne
      ·rw[←e];exact hz
    ·cases hme
theorem B6o {g:GI}(hrl:(A1c g).1=0){m:MI}(hm:m∈g.msgs){n:Nat}{k:Int}(hk:n≤12){A:List (VI (BI n))}(hA:RtL m.fields (fun name s=>A1d g n k (A0m g name) s) A){E:Int}:∀ (l:List (VI (BI n))) (b:BO (BI n)),RtL m.fields (fun name s=>A1d g n k (A0m g name) s) l→(∀ v∈l,b.vals.find? (isV v.number)=A.find? (isV v.number))→A4u g m.fields b l = .error E→E=5
 | [],_,_,_,h=>by cases h
 | v::l,b,hl,hf,h=>by
  obtain⟨x,hx⟩:=hl.each v (List.mem_cons_self ..)
  have hl':RtL m.fields (fun name s=>A1d g n k (A0m g name) s) l:=⟨fun a ha=>hl.each a (List.mem_cons_of_mem _ ha),(List.pairwise_cons.1 hl.rise).2,(List.pairwise_cons.1 hl.apart).2⟩
  unfold A4u at h
  rw[A2y hx.fld] at h
  cases hw:A1m g n m.fields x b v with
  | error E'=>
   rw[hw] at h
   obtain rfl:E'=E:=Except.error.inj h
   exact D2y hrl hm hk hx (fun u hu=>by
    rw[hf v (List.mem_cons_self ..)] at hu
    exact hA.each u (List.mem_of_find?_eq_some hu)) hw
  | ok b'=>
   rw[hw] at h
   have e:=B1g hx.fld (by have:=(A4h hx.misc).1;omega) hw
   refine B6o hrl hm hk hA l b' hl' (fun a ha=>?_) h
   rw[e]
   show(A2c (jnB g.msgs n) g.msgs m.fields b.vals v).find? (isV a.number)=_
   rw[B5e hx (List.pairwise_cons.1 hl.rise).1 (List.pairwise_cons.1 hl.apart).1 a ha]
   exact hf a (List.mem_cons_of_mem _ ha)
theorem B2x {g:GI}(hrl:(A1c g).1=0){m:MI}(hm:m∈g.msgs){n:Nat}{k:Int}(hk:n≤12){A B:List (VI (BI n))}(hA:RtL m.fields (fun name s=>A1d g n k (A0m g name) s) A) (hB:RtL m.fields (fun name s=>A1d g n k (A0m g name) s) B)
  (hC:RtL m.fields (fun name s=>A1d g n k (A0m g name) s) (B.foldl (A2c (jnB g.msgs n) g.msgs m.fields) A)):∀ (l:List (VI (BI n))) (b:BO (BI n)),RtL m.fields (fun name s=>A1d g n k (A0m g name) s) l→(∀ v∈l,v∈B)→(∀ v∈l,b.vals.find? (isV v.number)=A.find? (isV v.number))→∃ b',A4u g m.fields b l = .ok b'
 | [],b,_,_,_=>⟨b,rfl⟩
 | v::l,b,hl,hin,hf=>by
  obtain⟨x,hx⟩:=hl.each v (List.mem_cons_self ..)
  have hl':RtL m.fields (fun name s=>A1d g n k (A0m g name) s) l:=⟨fun a ha=>hl.each a (List.mem_cons_of_mem _ ha),(List.pairwise_cons.1 hl.rise).2,(List.pairwise_cons.1 hl.apart).2⟩
  obtain⟨mv,_,_⟩:=A4h hx.misc
  have hok:∃ b',A1m g n m.fields x b v = .ok b':=by
   cases hbf:b.vals.find? (isV v.number) with
   | none=>exact⟨_,C0v hx hbf⟩
   | some u=>
    have hAf:A.find? (isV v.number)=some u:=by rw[←hf v (List.mem_cons_self ..)];exact hbf
    obtain⟨xu,hu⟩:=hA.each u (List.mem_of_find?_eq_some hAf)
    have hun:=B0v hAf
    obtain rfl:xu=x:=by
     have h1:=hu.fld
     rw[hun,hx.fld] at h1
     exact(Option.some.inj h1).symm
    have hBf:=B5d hB.rise (hin v (List.mem_cons_self ..))
    have hcf:=A7u (J:=jnB g.msgs n) (ms:=g.msgs) v.number B A hB
    unfold B8c at hcf
    rw[hBf,hx.fld,hAf] at hcf
    have hcf:(B.foldl (A2c (jnB g.msgs n) g.msgs m.fields) A).find? (isV v.number)=some (A2o (jnB g.msgs n) g.msgs xu u v):=hcf
    obtain⟨xw,hw⟩:=hC.each _ (List.mem_of_find?_eq_some hcf)
    obtain rfl:xw=xu:=by
     have h1:=hw.fld
     rw[A4p hun,hx.fld] at h1
     exact(Option.some.inj h1).symm
    obtain⟨_,w60,_⟩:=A4h hw.misc
    have hmet:C2n g n xw u v = .ok (A2o (jnB g.msgs n) g.msgs xw u v):=by
     cases n with
     | zero=>rfl
     | succ d=>
      rw[A4b]
      split
      ·rename_i hc
       obtain⟨M,hM⟩:=A2e hrl m hm xw (List.mem_of_find?_eq_some hu.fld) hc.2
       have hM':g.msgs.find? (isN xw.type)=some M:=hM
       obtain⟨s,hs⟩:=A6c hu.others hu.misc hc.1 hc.2
       obtain⟨t,ht⟩:=A6c hx.others hx.misc hc.1 hc.2
       have h1:=hu.subs s (by rw[hs];simp)
       have h2:=hx.subs t (by rw[ht];simp)
       rw[A3n hM'] at h1 h2
       have e2:A2o (jnB g.msgs (d+1)) g.msgs xw u v=⟨u.number,u.bits,u.bytes,[jnB g.msgs (d+1) M s t]⟩:=by
        unfold A2o
        rw[hc.1,if_neg (by simp),if_pos hc.2,hM',hs,ht]
       have h3:=hw.subs (jnB g.msgs (d+1) M s t) (by rw[e2];simp)
       rw[A3n hM'] at h3
       rw[hs,ht]
       dsimp only
       rw[if_pos]
       rw[C4z hrl hM' h1 h2 (by omega)]
       exact A3e (d+1) k 1 _ _ (by omega) h3
      ·rfl
    refine⟨⟨A1x m.fields xw b.vals (A2o (jnB g.msgs n) g.msgs xw u v),b.unk⟩,?_⟩
    unfold A1m
    rw[if_neg (by omega),hbf]
    dsimp only
    rw[hmet]
    dsimp only
    rw[if_neg (by omega)]
  obtain⟨b',hb'⟩:=hok
  have e:=B1g hx.fld (by omega) hb'
  obtain⟨b2,h2⟩:=B2x hrl hm hk hA hB hC l b' hl' (fun a ha=>hin a (List.mem_cons_of_mem _ ha)) (fun a ha=>by
   rw[e]
   show(A2c (jnB g.msgs n) g.msgs m.fields b.vals v).find? (isV a.number)=_
   rw[B5e hx (List.pairwise_cons.1 hl.rise).1 (List.pairwise_cons.1 hl.apart).1 a ha]
   exact hf a (List.mem_cons_of_mem _ ha))
  refine⟨b2,?_⟩
  unfold A4u
  rw[A2y hx.fld,hb']
  exact h2
theorem B8n {g:GI}(hrl:(A1c g).1=0) (hgd:FGd g){n:Nat}{m:MI}(hm:m∈g.msgs) (hn:n+1≤12){la:List UInt8}{a b:BI (n+1)}(ha:A3b g (n+1) m la = .ok a) (hb:A1d g (n+1) 1 m.fields b=0) (hq:BQk (n+1) b) (hw:(A1h g (n+1) m b).2=0) (hl:la.length+(A1h g (n+1) m b).1.length≤4000) :
  (A1d g (n+1) 1 m.fields (jnB g.msgs (n+1) m a b)=0∧A3b g (n+1) m (la++(A1h g (n+1) m b).1) = .ok (jnB g.msgs (n+1) m a b))∨(A1d g (n+1) 1 m.fields (jnB g.msgs (n+1) m a b)=5∧A3b g (n+1) m (la++(A1h g (n+1) m b).1) = .error 5):=by
 have hea:=A4l hrl (n+1) 1 m la a (by omega) hm ha
 obtain⟨_,hra,hua⟩:=A2g hea
 obtain⟨_,hrb,hub⟩:=A2g hb
 obtain⟨rs,A,hp,hgo⟩:=A5l ha
 obtain⟨hz,_⟩:=B4s hw
 have hpb:=B2z hq hw
 have hpj:=B8h (b:=(A1h g (n+1) m b).1) hl hp
 rw[hpb] at hpj
 have hpj':A1t (la++(A1h g (n+1) m b).1)=(rs++((BO.vals b).flatMap (fun v=>(A2j (fun t x=>A1h g n (A4z g t) x) (A1n m.fields v.number) v).1)++BO.unk b).map D1c,0,0):=by rw[hpj];rfl
 have hread:A3b g (n+1) m (la++(A1h g (n+1) m b).1)=B2a (A4u g m.fields (⟨BO.vals a,[]⟩:BO (BI n)) (BO.vals b)) fun b'=>.ok (⟨b'.vals,BO.unk a++BO.unk b⟩:BO (BI n)):=by
  rw[A7z hpj',List.map_append,D3v,A8u _ _ _ _ _ hgo]
  rw[A7h (f:=fun name s=>A1d g n (1+1) (A0m g name) s) _ hrb.each (fun v hv=>(hq.1 v hv).2.1) (fun v hv s hs h0=>?_) hz]
  ·cases A4u g m.fields (⟨BO.vals a,[]⟩:BO (BI n)) (BO.vals b) with
   | error E=>rfl
   | ok b'=>
    show A1j _ _ _ (BO.unk b) _ _=_
    rw[A7g _ (fun r hr'=>(B8z (hub r hr')).2)]
    rfl
  ·obtain⟨y,hy⟩:=hrb.each v hv
   rw[A2y hy.fld] at h0 ⊢
   obtain⟨hk10,M,hM⟩:=B0h hrl hm hy hs
   have e1:A4z g y.type=M:=B3z hM
   have e2:msgD g y.type=M:=B8d hM
   have hz':=hy.subs s hs
   rw[A3n hM] at hz'
   rw[e1] at h0 ⊢
   rw[e2]
   exact A8d hrl n (1+1) M s (List.mem_of_find?_eq_some hM) hz' ((hq.1 v hv).2.2.2 s hs) h0
 have hz5:=B7y hrl (n+1) 1 m a b hm hea hb
 cases hwv:A4u g m.fields (⟨BO.vals a,[]⟩:BO (BI n)) (BO.vals b) with
 | error E=>
  right
  have hE:=B6o hrl hm (k:=1+1) (by omega) hra (BO.vals b) (⟨BO.vals a,[]⟩:BO (BI n)) hrb (fun v _=>rfl) hwv
  subst hE
  refine⟨?_,by rw[hread,hwv];rfl⟩
  rcases hz5 with h|h
  ·exfalso
   obtain⟨_,hrc,_⟩:=A2g h
   obtain⟨b',hb'⟩:=B2x hrl hm (by omega) hra hrb hrc (BO.vals b) (⟨BO.vals a,[]⟩:BO (BI n)) hrb (fun v hv=>hv) (fun v _=>rfl)
   rw[hb'] at hwv
   cases hwv
  ·exact h
 | ok b'=>
  left
  have e:=B6n (BO.vals b) _ _ hrb.each hwv
  have hj:A3b g (n+1) m (la++(A1h g (n+1) m b).1) = .ok (jnB g.msgs (n+1) m a b):=by
   rw[hread,hwv,e]
   rfl
  exact⟨A4l hrl (n+1) 1 m _ _ (by omega) hm hj,hj⟩
end L
end Go.Proofs.YtcagbdokbnpdfaaGreatDoor
namespace Go.Proofs.YtcagbdokbnpdfaaGreatDoor
namespace L
open Go.RowKit
set_option linter.unusedVariables false
theorem B5n {g:GI}{msg:Int}{la lb:List UInt8}{x y:BI 12}(hgd:FGd g) (h1:A2d g msg la = .ok x) (h2:A2d g msg lb = .ok y){C:List UInt8}(h3:A7k g 11 msg y=(C,0)) (hl:la.length+C.length≤4000) :
  (A3g g 11 msg x y=0∧∃ M,g.msgs[msg.toNat]?=some M∧A2d g msg (la++C) = .ok (jnB g.msgs 12 M x y))∨(A3g g 11 msg x y=5∧A2d g msg (la++C) = .error 5):=by
 obtain⟨hrl,j,m,rfl,hm,hrx⟩:=A2a h1
 obtain⟨_,j',m',hj',hm',hry⟩:=A2a h2
 obtain rfl:j=j':=by omega
 obtain rfl:m=m':=by rw[hm] at hm';exact Option.some.inj hm'
 have hmm:=List.mem_of_getElem? hm
 have hey:=A4l hrl 12 1 m lb y (by decide) hmm hry
 have hex:=A4l hrl 12 1 m la x (by decide) hmm hrx
 obtain⟨hq,_⟩:=A9g hgd 12 m lb y (hgd.fs hmm) hry
 have hwy:A1g g 11 (j:Int) y=0:=by rw[A4v hrl hm];exact hey
 have hwx:A1g g 11 (j:Int) x=0:=by rw[A4v hrl hm];exact hex
 rw[B3g hwy hm] at h3
 have h30:(A1h g 12 m y).2=0:=by rw[h3]
 have h31:(A1h g 12 m y).1=C:=by rw[h3]
 have hje:A3g g 11 (j:Int) x y=A1d g 12 1 m.fields (jnB g.msgs 12 m x y):=by
  unfold A3g
  rw[if_neg (by simp[A0y,hwx,hwy]),Int.toNat_natCast,hm]
  exact A4v hrl hm _
 rw[hje]
 have:=B8n (n:=11) hrl hgd hmm (by decide) hrx hey hq h30 (by rw[h31];exact hl)
 rw[h31] at this
 rw[B0x hrl hm]
 rcases this with⟨a,b⟩|⟨a,b⟩
 ·exact .inl ⟨a,m,by rw[Int.toNat_natCast];exact hm,b⟩
 ·exact .inr ⟨a,b⟩
end L
end Go.Proofs.YtcagbdokbnpdfaaGreatDoor
