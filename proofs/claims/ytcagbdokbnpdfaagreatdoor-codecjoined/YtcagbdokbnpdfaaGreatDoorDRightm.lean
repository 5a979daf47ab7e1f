import Derived.Test.YtcagbdokbnpdfaaGreatDoorDBackm
namespace Go.Proofs.YtcagbdokbnpdfaaGreatDoor
namespace L
open Go.RowKit
set_option linter.unusedVariables false
theorem A8y {g:GI}(hr:(A1c g).1=0){m:MI}(hm:m∈g.msgs){x:FI}(hx:x∈m.fields):(1≤x.kind∧x.kind≤10)∧1≤x.number∧x.number < 536870912:=by
 obtain⟨s,hs⟩:=A8s _ _ _ (C6r ((B1b hr).2.2 m hm)).2.2.2 x hx
 simp only[B4h,Bool.and_eq_true,Bool.not_eq_true',Bool.or_eq_false_iff,decide_eq_false_iff_not] at hs
 have h1:=hs.2.2.2.1
 have hh:C7x x.number=true:=hs.2.1
 unfold C7x at hh
 simp at hh
 omega
theorem C5n {g:GI}{t:List UInt8}{M:MI}(h:g.msgs.find? (isN t)=some M):g.msgs[(C2p g t).toNat]?=some M∧0≤C2p g t∧C2p g t < (g.msgs.length:Int):=by
 obtain⟨k,h1,h2,_,_⟩:=C5o (l:=g.msgs) (t:=t) ⟨M,List.mem_of_find?_eq_some h,by have:=List.find?_some h;simpa [isN] using this⟩
 have h':g.msgs.find? (fun m=>decide (m.name=t))=some M:=h
 rw[h'] at h2
 have e:C2p g t=(k:Int):=h1
 have hk:=(List.getElem?_eq_some_iff.1 h2).1
 rw[e]
 exact⟨by simpa using h2,by omega,by omega⟩
theorem D1h {β:Type}{fs:List FI}{f:List UInt8→β→Int}:∀ {l:List (VI β)}{s:Int×List Int},(∀ v∈l,∃ x,RtV fs f x v)→(l.Pairwise fun a b=>a.number < b.number)→(∀ v∈l,s.1 < v.number)→(∀ v∈l,0 < A0w fs v.number→A0w fs v.number∉s.2)→A9i fs l→A3q fs f l s=0
 | [],_,_,_,_,_,_=>rfl
 | v::l,s,h,hr,h1,h2,hap=>by
  obtain⟨x,hx⟩:=h v (List.mem_cons_self ..)
  have hc:A0w fs v.number=x.choice:=A8n hx.fld
  have hxf:fs.find? (fun y=>decide (y.number=v.number))=some x:=hx.fld
  have hv:B2w fs f v s=0:=by
   unfold B2w
   rw[hxf]
   have hall:∀ i,i < 8→eAt x v f s i=0:=by
    intro i hi
    match i,hi with
    | 0,_=>
     have:=h1 v (List.mem_cons_self ..)
     show(if decide (v.number≤s.1) then(2:Int) else 0)=0
     rw[if_neg (by simp;omega)]
    | 1,_=>show(if A0t x v then(8:Int) else 0)=0;rw[hx.others];rfl
    | 2,_=>show(if A3p x v then(5:Int) else 0)=0;rw[hx.misc];rfl
    | 3,_=>show(if A0j x v then(2:Int) else 0)=0;rw[hx.without];rfl
    | 4,_=>exact A4x hx.bits
    | 5,_=>exact A4x hx.bytes
    | 6,_=>exact A4x hx.subs
    | 7,_=>
     show(if decide (0 < x.choice∧x.choice∈s.2) then(8:Int) else 0)=0
     rw[if_neg]
     have:=h2 v (List.mem_cons_self ..)
     rw[hc] at this
     simpa using this
   have hfn:∀ (m k:Nat),k+m≤8→A4f (eAt x v f s) k m=0:=by
    intro m
    induction m with
    | zero=>intro k _;rfl
    | succ m ih=>
     intro k hk
     unfold A4f
     rw[if_pos (hall k (by omega))]
     exact ih (k+1) (by omega)
   exact hfn 8 0 (by omega)
  unfold A3q
  rw[if_pos hv]
  have hn:A7w fs v s=(v.number,A5t x s.2):=by
   unfold A7w
   rw[hxf]
  rw[hn]
  refine D1h (fun a ha=>h a (List.mem_cons_of_mem _ ha)) (List.pairwise_cons.1 hr).2 (fun a ha=>(List.pairwise_cons.1 hr).1 a ha) (fun a ha hp=>?_) (fun a ha b hb=>hap a (List.mem_cons_of_mem _ ha) b (List.mem_cons_of_mem _ hb))
  have h3:=h2 a (List.mem_cons_of_mem _ ha) hp
  have h4:=(List.pairwise_cons.1 hr).1 a ha
  have h5:=hap a (List.mem_cons_of_mem _ ha) v (List.mem_cons_self ..) (by omega) hp
  unfold A5t
  split
  ·simp only[List.mem_append,List.mem_singleton,not_or]
   exact⟨h3,by rw[←hc];exact h5⟩
  ·exact h3
theorem B9j {g:GI}{d:Nat}{k:Int}{fs:List FI}{b:BI (d+1)}(hk:k≤12) (h:∀ v∈BO.vals b,∃ x,RtV fs (fun name s=>A1d g d (k+1) (A0m g name) s) x v) (hr:(BO.vals b).Pairwise fun a b=>a.number < b.number) (hp:∀ v∈BO.vals b,0 < v.number) (ha:A9i fs (BO.vals b)) (hu:∀ r∈BO.unk b,A7l fs r=0):A1d g (d+1) k fs b=0:=by
 rw[A2v,if_neg (by omega),if_pos (D1h h hr hp (fun v hv _=>by simp) ha)]
 exact A4x hu
theorem C4b {g:GI}{d:Nat}{k:Int}{fs:List FI}{b:BI (d+1)}(h:A1d g (d+1) k fs b=0):∀ v∈BO.vals b,0 < v.number:=by
 rw[A2v] at h
 split at h
 ·cases h
 ·split at h
  ·rename_i h1 h2;exact(A6j h2).2.1
  ·rename_i h1 h2;exact absurd h h2
theorem RtV.imp {β:Type}{fs:List FI}{f f':List UInt8→β→Int}{x:FI}{v:VI β}(h:RtV fs f x v) (hf:∀ s∈v.subs,f x.type s=0→f' x.type s=0):RtV fs f' x v:=⟨h.fld,h.others,h.misc,h.without,h.bits,h.bytes,fun s hs=>hf s hs (h.subs s hs)⟩
theorem A3e {g:GI}:∀ (n:Nat) (k k':Int) (fs:List FI) (b:BI n),k'+(n:Int)≤13→A1d g n k fs b=0→A1d g n k' fs b=0
 | 0,_,_,_,b,_,_=>nomatch (b:Empty)
 | n+1,k,k',fs,b,hk,h=>by
  obtain⟨_,hr,hu⟩:=A2g h
  refine B9j (by omega) (fun v hv=>?_) hr.rise (C4b h) (A9p hr.apart) hu
  obtain⟨x,hx⟩:=hr.each v hv
  exact⟨x,hx.imp fun s hs h0=>A3e n (k+1) (k'+1) _ s (by omega) h0⟩
theorem B6j {how:Int}(h5:how=5):∀ {f:Nat}{l:List UInt8}{acc:List Nat},(∀ n∈acc,n < 4294967296)→∀ n∈(unpGo how f l acc).1,n < 4294967296
 | 0,_,acc,h,n,hn=>h n hn
 | f+1,l,acc,h,n,hn=>by
  unfold unpGo at hn
  split at hn
  ·exact h n hn
  ·split at hn
   ·cases hn
   ·rename_i h1 h2
    refine B6j h5 (fun q hq=>?_) n hn
    rcases List.mem_append.1 hq with hq|hq
    ·exact h q hq
    ·rw[List.mem_singleton.1 hq]
     exact(B0d (l:=l) (how:=how) (A:=(A2l l how).1) (B:=(A2l l how).2.1) (by rw[←Decidable.not_not.1 h2])).2 h5
structure TldRt {β:Type}(f:List UInt8→β→Int) (x:FI) (v:VI β):Prop where
 num:v.number=x.number
 others:A0t x v=false
 bits:∀ n∈v.bits,A2i x.kind n=0
 bytes:∀ l∈v.bytes,A2k x.kind l=0
 subs:∀ s∈v.subs,f x.type s=0
 one:x.many=false→A1i v=1
theorem D2t {n:Nat}{rd:List UInt8→List UInt8→Except Int (BI n)}{f:List UInt8→BI n→Int}{x:FI}{r:RI}{v:VI (BI n)}(hk:1≤x.kind∧x.kind≤10) (hw:A0s r.number r.how r.bits r.bytes.length=0) (hrd:x.kind=10→∀ l s,rd x.type l = .ok s→f x.type s=0) (h:A3j rd x r = .ok v):TldRt f x v:=by
 have hl:=C3p hw
 unfold A3j at h
 by_cases h2:A3t x.kind≠2
 ·rw[if_pos h2] at h
  split at h
  ·rename_i h0
   obtain rfl:=Except.ok.inj h
   have h89:¬ (x.kind=8∨x.kind=9):=fun e=>h2 (B7u e)
   have h10:¬ x.kind=10:=fun e=>h2 (by rw[e];rfl)
   have hs:x.kind=7→A3t x.kind=5:=fun e=>by rw[e];rfl
   have hbits:(∀ q∈(tnN x r).1,A2i x.kind q=0)∧(x.many=false→(tnN x r).1.length=1):=by
    unfold tnN at h0 ⊢
    split
    ·rename_i he
     refine⟨fun q hq=>?_,fun _=>rfl⟩
     rw[List.mem_singleton.1 hq]
     refine B5g hk.1 (by omega) fun h7=>?_
     have h5:r.how=5:=he.trans (hs h7)
     have:¬ (r.how=5∧r.bits / 4294967296≠0):=fun hh=>by
      unfold A0s at hw
      split at hw
      ·cases hw
      ·split at hw
       ·cases hw
       ·split at hw
        ·cases hw
        ·first
          | cases hw
          | (rw[if_pos hh] at hw;cases hw)
     omega
    ·split
     ·rename_i he hm
      refine⟨fun q hq=>?_,fun e=>by rw[hm.2] at e;cases e⟩
      obtain⟨p,hp,rfl⟩:=List.mem_map.1 hq
      exact B5g hk.1 (by omega) fun h7=>B6j (hs h7) (fun q hq=>by cases hq) p hp
     ·rename_i he hm
      rw[if_neg he,if_neg hm] at h0
      cases h0
   refine⟨rfl,?_,hbits.1,fun l hl=>(List.not_mem_nil hl).elim,fun s hs=>(List.not_mem_nil hs).elim,fun hm=>?_⟩
   ·unfold A0t
    rw[if_neg h89,if_neg h10]
    rfl
   ·have:=hbits.2 hm
    unfold A1i
    simp only[List.length_nil]
    omega
  ·cases h
 ·rw[if_neg h2] at h
  have h2:=Decidable.not_not.1 h2
  split at h
  ·cases h
  ·split at h
   ·rename_i h10
    split at h
    ·cases h
    ·rename_i s hs
     obtain rfl:=Except.ok.inj h
     refine⟨rfl,?_,fun l hl=>(List.not_mem_nil hl).elim,fun l hl=>(List.not_mem_nil hl).elim,fun t ht=>?_,fun _=>rfl⟩
     ·unfold A0t
      rw[if_neg (by omega),if_pos h10]
      rfl
     ·rw[List.mem_singleton.1 ht]
      exact hrd h10 _ _ hs
   ·rename_i h10
    split at h
    ·cases h
    ·rename_i hv
     obtain rfl:=Except.ok.inj h
     refine⟨rfl,?_,fun l hl=>(List.not_mem_nil hl).elim,fun l hl'=>?_,fun l hl=>(List.not_mem_nil hl).elim,fun _=>rfl⟩
     ·unfold A0t
      rw[if_pos (B9q h2 h10)]
      rfl
     ·rw[List.mem_singleton.1 hl']
      unfold A2k
      rw[if_neg (by omega),if_neg hv]
theorem B9i {β:Type}{fs:List FI}:∀ {l:List (VI β)},(l.Pairwise fun a b=>a.number < b.number)→A9i fs l→l.Pairwise fun a b=>A0w fs a.number≤0∨A0w fs a.number≠A0w fs b.number
 | [],_,_=>.nil
 | a::l,hr,ha=>by
  refine .cons (fun b hb=>?_) (B9i (List.pairwise_cons.1 hr).2 fun c hc d hd=>ha c (List.mem_cons_of_mem _ hc) d (List.mem_cons_of_mem _ hd))
  have:=(List.pairwise_cons.1 hr).1 b hb
  by_cases h:A0w fs a.number≤0
  ·exact .inl h
  ·exact .inr (ha a (List.mem_cons_self ..) b (List.mem_cons_of_mem _ hb) (by omega) (by omega))
theorem C6d {β:Type}{fs:List FI}{x:FI}{l:List (VI β)}{y:VI β}(hx:fs.find? (isF y.number)=some x) (h:A9i fs l):A9i fs (A1x fs x l y):=by
 intro a ha b hb hne hp
 have hmem:∀ c∈A1x fs x l y,c=y∨(c∈l∧A0o fs x c.number=false):=fun c hc=>by
  unfold A1x at hc
  split at hc
  ·exact .inr ⟨(List.mem_filter.1 hc).1,by simpa using (List.mem_filter.1 hc).2⟩
  ·rcases List.mem_append.1 hc with hc|hc
   ·rcases List.mem_append.1 hc with hc|hc
    ·have:=List.mem_filter.1 (List.mem_of_mem_take hc)
     exact .inr ⟨this.1,by simpa using this.2⟩
    ·exact .inl (List.mem_singleton.1 hc)
   ·have:=List.mem_filter.1 (List.mem_of_mem_drop hc)
    exact .inr ⟨this.1,by simpa using this.2⟩
 rcases hmem a ha with rfl|⟨ha,hoa⟩
 ·rcases hmem b hb with rfl|⟨hb,hob⟩
  ·exact absurd rfl hne
  ·rw[A8r hx (fun e=>hne e.symm)] at hob
   intro e
   unfold ouB at hob
   exact(of_decide_eq_false hob) ⟨hp,e.symm⟩
 ·rcases hmem b hb with rfl|⟨hb,hob⟩
  ·rw[A8r hx hne] at hoa
   intro e
   unfold ouB at hoa
   exact(of_decide_eq_false hoa) ⟨by omega,e⟩
  ·exact h a ha b hb hne hp
theorem D3t {β:Type}{fs:List FI}{f:List UInt8→β→Int}{x:FI}{l:List (VI β)}{y:VI β}(hx:fs.find? (isF y.number)=some x) (hl:RtL fs f l) (h:A0j x y=false→RtV fs f x y):RtL fs f (A1x fs x l y):=by
 have hr:=B4k hx hl.rise
 refine⟨fun a ha=>?_,hr,B9i hr (C6d hx (A9p hl.apart))⟩
 cases hw:A0j x y with
 | true=>
  unfold A1x at ha
  rw[if_pos hw] at ha
  exact hl.each a (List.mem_filter.1 ha).1
 | false=>
  rcases A6a ha with rfl|ha
  ·exact⟨x,h hw⟩
  ·exact hl.each a ha
structure RdSt {n:Nat}(fs:List FI) (f:List UInt8→BI n→Int) (b:BO (BI n)):Prop where
 rt:RtL fs f b.vals
 pos:∀ v∈b.vals,0 < v.number
theorem D2x {g:GI}(hrl:(A1c g).1=0){m:MI}(hm:m∈g.msgs){n:Nat}{k:Int}(hkn:k+(n:Int)≤13){x:FI}{b b':BO (BI n)}{v:VI (BI n)}(hx:m.fields.find? (isF x.number)=some x) (hb:RdSt m.fields (fun name s=>A1d g n k (A0m g name) s) b) (hv:TldRt (fun name s=>A1d g n k (A0m g name) s) x v) (h:A1m g n m.fields x b v = .ok b'):RdSt m.fields (fun name s=>A1d g n k (A0m g name) s) b':=by
 have hxv:m.fields.find? (isF v.number)=some x:=by rw[hv.num];exact hx
 have hnum:=(A8y hrl hm (List.mem_of_find?_eq_some hx)).2.1
 have hput:∀ y:VI (BI n),y.number=x.number→(A0j x y=false→RtV m.fields (fun name s=>A1d g n k (A0m g name) s) x y)→RdSt m.fields (fun name s=>A1d g n k (A0m g name) s) (⟨A1x m.fields x b.vals y,b.unk⟩:BO (BI n)):=fun y hy hyr=>by
  refine⟨D3t (by rw[hy];exact hx) hb.rt hyr,fun a ha=>?_⟩
  rcases A6a ha with rfl|ha
  ·rw[hy];omega
  ·exact hb.pos a ha
 unfold A1m at h
 split at h
 ·obtain rfl:=Except.ok.inj h
  exact hb
 ·rename_i h0
  cases hf:b.vals.find? (isV v.number) with
  | none=>
   rw[hf] at h
   dsimp only at h
   split at h
   ·cases h
   ·rename_i h60
    obtain rfl:=Except.ok.inj h
    refine hput v hv.num fun hw=>⟨hxv,hv.others,?_,hw,hv.bits,hv.bytes,hv.subs⟩
    unfold A3p
    cases hmx:x.many with
    | true=>simp;omega
    | false=>have:=hv.one hmx;simp;omega
  | some u=>
   rw[hf] at h
   dsimp only at h
   obtain⟨xu,hu,hxu⟩:=C9y hb.rt hf
   obtain rfl:xu=x:=by rw[hxv] at hxu;exact(Option.some.inj hxu).symm
   have hun:=B0v hf
   obtain⟨m1,m60,mm⟩:=A4h hu.misc
   cases hme:C2n g n xu u v with
   | error E=>rw[hme] at h;cases h
   | ok v'=>
    rw[hme] at h
    dsimp only at h
    split at h
    ·cases h
    ·rename_i h60
     obtain rfl:=Except.ok.inj h
     have e':=B3y hme
     have hnv:v'.number=v.number:=by rw[e'];exact A4p hun
     refine hput v' (by rw[hnv,hv.num]) fun hw=>?_
     cases hmx:xu.many with
     | true=>
      have e2:v'=A5v u v:=by rw[e',A7v hmx]
      subst e2
      rw[A6o] at h60
      refine⟨by rw[hnv];exact hxv,?_,?_,hw,fun q hq=>?_,fun q hq=>?_,fun q hq=>?_⟩
      ·have:=B2p (J:=jnB g.msgs n) (ms:=g.msgs) hu.others hv.others (fun e=>by rw[hmx] at e;cases e)
       rw[A7v hmx] at this
       exact this
      ·unfold A3p
       rw[A6o,hmx]
       simp
       omega
      ·rcases List.mem_append.1 hq with hq|hq
       ·exact hu.bits q hq
       ·exact hv.bits q hq
      ·rcases List.mem_append.1 hq with hq|hq
       ·exact hu.bytes q hq
       ·exact hv.bytes q hq
      ·rcases List.mem_append.1 hq with hq|hq
       ·exact hu.subs q hq
       ·exact hv.subs q hq
     | false=>
      by_cases h10:xu.kind=10
      ·obtain⟨M,hM⟩:=A2e hrl m hm xu (List.mem_of_find?_eq_some hx) h10
       have hM':g.msgs.find? (isN xu.type)=some M:=hM
       obtain⟨s,hs⟩:=A6c hu.others hu.misc hmx h10
       obtain⟨t,ht⟩:∃ t,v.subs = [t]:=by
        have h1:=hv.one hmx
        obtain⟨q1,q2⟩:=B8t hv.others h10
        unfold A1i at h1
        rw[q1,q2] at h1
        exact List.length_eq_one_iff.1 (by simpa using h1)
       obtain⟨d,rfl⟩:∃ d,n=d+1:=by
        cases n with
        | zero=>exact nomatch (s:Empty)
        | succ d=>exact⟨d,rfl⟩
       have hje:A3g g d (C2p g xu.type) s t=0:=by
        rw[A4b,if_pos ⟨hmx,h10⟩,hs,ht] at hme
        dsimp only at hme
        split at hme
        ·assumption
        ·cases hme
       obtain⟨j1,j2,j3⟩:=C5n hM'
       have hjw:A1g g d (C2p g xu.type) (jnB g.msgs (d+1) M s t)=0:=by
        unfold A3g at hje
        split at hje
        ·rename_i hne;exact absurd hje hne
        ·rw[j1] at hje
         exact hje
       obtain⟨_,_,_,M2,hM2,hbe⟩:=A9d hjw
       rw[j1] at hM2
       obtain rfl:=Option.some.inj hM2
       have e2:v'=⟨u.number,u.bits,u.bytes,[jnB g.msgs (d+1) M s t]⟩:=by
        rw[e']
        unfold A2o
        rw[hmx,if_neg (by simp),if_pos h10,hM',hs,ht]
       obtain⟨q1,q2⟩:=B8t hu.others h10
       rw[q1,q2] at e2
       subst e2
       refine⟨by rw[hnv];exact hxv,?_,?_,hw,fun q hq=>(List.not_mem_nil hq).elim,fun q hq=>(List.not_mem_nil hq).elim,fun q hq=>?_⟩
       ·unfold A0t
        rw[if_neg (by omega),if_pos h10]
        rfl
       ·unfold A3p A1i
        rw[hmx]
        rfl
       ·rw[List.mem_singleton.1 hq]
        show A1d g (d+1) k (A0m g xu.type) (jnB g.msgs (d+1) M s t)=0
        rw[A3n hM']
        exact A3e (d+1) 1 k M.fields _ hkn hbe
      ·have e2:v'=v:=by rw[e'];unfold A2o;rw[hmx,if_neg (by simp),if_neg h10]
       subst e2
       refine⟨hxv,hv.others,?_,hw,hv.bits,hv.bytes,hv.subs⟩
       have h1:=hv.one hmx
       unfold A3p
       simp
       omega
theorem D3y {fs:List FI}{r:RI}(hw:A0s r.number r.how r.bits r.bytes.length=0) (hf:fs.find? (isF r.number)=none):A7l fs r=0:=by
 unfold A7l
 rw[if_pos hw,if_neg]
 unfold A0k
 rw[List.findIdx?_eq_none_iff.2 (fun y hy=>by
  have:=List.find?_eq_none.1 hf y hy
  simpa [isF] using this)]
 simp
theorem B0z {g:GI}(hrl:(A1c g).1=0){m:MI}(hm:m∈g.msgs){n:Nat}{k:Int}(hkn:k+(n:Int)≤13){rd:List UInt8→List UInt8→Except Int (BI n)}(hrd:∀ x∈m.fields,x.kind=10→∀ l s,rd x.type l = .ok s→A1d g n k (A0m g x.type) s=0):∀ (rs:List RI) (b:BO (BI n)) (un:List RI) (s:BO (BI n)),(∀ r∈rs,A0s r.number r.how r.bits r.bytes.length=0)→RdSt m.fields (fun name s=>A1d g n k (A0m g name) s) b→(∀ r∈un,A7l m.fields r=0)→A1j g rd m.fields rs b un = .ok s→
  RdSt m.fields (fun name s=>A1d g n k (A0m g name) s) s∧∀ r∈s.unk,A7l m.fields r=0
 | [],b,un,s,_,hb,hu,h=>by
  have e:(⟨b.vals,un⟩:BO (BI n))=s:=Except.ok.inj h
  subst e
  exact⟨⟨hb.rt,hb.pos⟩,hu⟩
 | r::rs,b,un,s,hw,hb,hu,h=>by
  have hr:=hw r (List.mem_cons_self ..)
  cases hf:m.fields.find? (isF r.number) with
  | none=>
   rw[A3v hf] at h
   refine B0z hrl hm hkn hrd rs b _ s (fun q hq=>hw q (List.mem_cons_of_mem _ hq)) hb (fun q hq=>?_) h
   rcases List.mem_append.1 hq with hq|hq
   ·exact hu q hq
   ·rw[List.mem_singleton.1 hq]
    exact D3y hr hf
  | some x=>
   have hxm:=List.mem_of_find?_eq_some hf
   cases ht:A3j rd x r with
   | error E=>rw[A4s hf ht] at h;cases h
   | ok v=>
    cases hwn:A1m g n m.fields x b v with
    | error E=>rw[A3h hf ht hwn] at h;cases h
    | ok b'=>
     rw[A4r hf ht hwn] at h
     have htr:TldRt (fun name s=>A1d g n k (A0m g name) s) x v:=D2t (A8y hrl hm hxm).1 hr (fun h10 l s=>hrd x hxm h10 l s) ht
     exact B0z hrl hm hkn hrd rs b' un s (fun q hq=>hw q (List.mem_cons_of_mem _ hq)) (D2x hrl hm hkn (by rw[A3x hf];exact hf) hb htr hwn) hu h
theorem A4l {g:GI}(hrl:(A1c g).1=0):∀ (n:Nat) (k:Int) (m:MI) (l:List UInt8) (y:BI n),k+(n:Int)≤13→m∈g.msgs→A3b g n m l = .ok y→A1d g n k m.fields y=0
 | 0,_,_,_,y,_,_,_=>nomatch (y:Empty)
 | n+1,k,m,l,y,hk,hm,h=>by
  obtain⟨rs,A,hp,hgo⟩:=A5l h
  obtain⟨h1,h2⟩:=B0z hrl hm (k:=k+1) (by omega) (fun x hx h10 l s hs=>by
   obtain⟨M,hM⟩:=A2e hrl m hm x hx h10
   have hM':g.msgs.find? (isN x.type)=some M:=hM
   rw[A3n hM']
   rw[B8d hM'] at hs
   exact A4l hrl n (k+1) M l s (by omega) (List.mem_of_find?_eq_some hM') hs) (rs.map A8j) ⟨[],[]⟩ [] y (fun r hr=>by
    obtain⟨q,hq,rfl⟩:=List.mem_map.1 hr
    exact B8j hp q hq) ⟨⟨(fun v hv=>by cases hv),.nil,.nil⟩,(fun v hv=>by cases hv)⟩ (fun r hr=>by cases hr) hgo
  exact B9j (by omega) h1.rt.each h1.rt.rise h1.pos (A9p h1.rt.apart) h2
end L
end Go.Proofs.YtcagbdokbnpdfaaGreatDoor
namespace Go.Proofs.YtcagbdokbnpdfaaGreatDoor
namespace L
open Go.RowKit
set_option linter.unusedVariables false
def upV {β γ:Type}(u : β→γ) (v:VI β):VI γ:=⟨v.number,v.bits,v.bytes,v.subs.map u⟩
def up (k:Nat):(n:Nat)→BI n→BI (k+n)
 | 0=>fun b=>nomatch (b:Empty)
 | n+1=>fun b=>(⟨(BO.vals b).map (upV (up k n)),BO.unk b⟩:BO (BI (k+n)))
theorem B8b {α β:Type}{f : α→β}:∀ {l:List β},(∀ b∈l,∃ a,f a=b)→∃ l':List α,l'.map f=l
 | [],_=>⟨[],rfl⟩
 | b::l,h=>by
  obtain⟨a,ha⟩:=h b (List.mem_cons_self ..)
  obtain⟨l',hl⟩:=B8b (l:=l) fun c hc=>h c (List.mem_cons_of_mem _ hc)
  exact⟨a::l',by rw[List.map_cons,ha,hl]⟩
theorem D4a {g:GI}{k:Nat}:∀ (n:Nat) (j:Int) (fs:List FI) (b:BI (k+n)),j+(n:Int)=13→A1d g (k+n) j fs b=0→∃ b':BI n,up k n b'=b
 | 0,j,fs,b,hj,h=>by
  exfalso
  cases k with
  | zero=>exact nomatch (b:Empty)
  | succ k=>
   have h':A1d g (k+1) j fs b=0:=h
   rw[A2v,if_pos (by omega)] at h'
   cases h'
 | n+1,j,fs,b,hj,h=>by
  obtain⟨_,hr,_⟩:=A2g (d:=k+n) h
  obtain⟨l',hl⟩:=B8b (f:=upV (up k n)) (l:=BO.vals b) fun v hv=>by
   obtain⟨x,hx⟩:=hr.each v hv
   obtain⟨s',hs⟩:=B8b (f:=up k n) (l:=v.subs) fun s hs=>D4a n (j+1) _ s (by omega) (hx.subs s hs)
   exact⟨⟨v.number,v.bits,v.bytes,s'⟩,by unfold upV;rw[hs]⟩
  refine⟨(⟨l',BO.unk b⟩:BO (BI n)),?_⟩
  show(⟨l'.map (upV (up k n)),BO.unk b⟩:BO (BI (k+n)))=b
  rw[hl]
  rfl
section
variable {β γ:Type}{u : β→γ}
theorem D1f (f : γ→List UInt8×Int):∀ (l:List β) (acc:List (List UInt8)),A4d f acc (l.map u)=A4d (fun b=>f (u b)) acc l
 | [],_=>rfl
 | b::l,acc=>by
  rw[List.map_cons]
  unfold A4d
  rw[D1f f l]
theorem D2m (deep:List UInt8→γ→List UInt8×Int) (x:FI) (v:VI β):A2j deep x (upV u v)=A2j (fun t b=>deep t (u b)) x v:=by
 unfold A2j
 rw[show(upV u v).subs=v.subs.map u from rfl,D1f]
 rfl
theorem B6d (deep:List UInt8→γ→List UInt8×Int) (fs:List FI):∀ (l:List (VI β)) (acc:List RI),A2f deep fs acc (l.map (upV u))=A2f (fun t b=>deep t (u b)) fs acc l
 | [],_=>rfl
 | v::l,acc=>by
  rw[List.map_cons]
  unfold A2f
  rw[show(upV u v).number=v.number from rfl,D2m,B6d deep fs l]
theorem B5f (f : γ→Int):∀ l:List β,A0y f (l.map u)=A0y (fun b=>f (u b)) l
 | []=>rfl
 | b::l=>by
  rw[List.map_cons]
  unfold A0y
  rw[B5f f l]
theorem D3h (x:FI) (v:VI β) (f:List UInt8→γ→Int) (s:Int×List Int) (i:Nat):eAt x (upV u v) f s i=eAt x v (fun t b=>f t (u b)) s i:=by
 have hm:A1i (upV u v)=A1i v:=by unfold A1i upV;simp
 match i with
 | 0=>rfl
 | 1=>
  unfold eAt A0t
  rw[show(upV u v).subs.length=v.subs.length by unfold upV;simp]
  rfl
 | 2=>
  show(if A3p x (upV u v) then(5:Int) else 0)=if A3p x v then 5 else 0
  unfold A3p
  rw[hm]
 | 3=>
  unfold eAt A0j
  rw[hm]
  rfl
 | 4=>rfl
 | 5=>rfl
 | 6=>exact B5f (f x.type) v.subs
 | 7=>rfl
 | _+8=>rfl
theorem D2w (fs:List FI) (f:List UInt8→γ→Int) (v:VI β) (s:Int×List Int):B2w fs f (upV u v) s=B2w fs (fun t b=>f t (u b)) v s:=by
 unfold B2w
 rw[show(upV u v).number=v.number from rfl]
 cases fs.find? (fun y=>decide (y.number=v.number)) with
 | none=>rfl
 | some x=>
  dsimp only
  congr 1
  funext i
  exact D3h x v f s i
theorem C0u (fs:List FI) (f:List UInt8→γ→Int):∀ (l:List (VI β)) (s:Int×List Int),A3q fs f (l.map (upV u)) s=A3q fs (fun t b=>f t (u b)) l s
 | [],_=>rfl
 | v::l,s=>by
  rw[List.map_cons]
  unfold A3q
  rw[D2w,C0u fs f l]
  rfl
end
theorem C7k {g:GI}{k:Nat}:∀ (n:Nat) (m:MI) (b:BI n),A1h g (k+n) m (up k n b)=A1h g n m b
 | 0,_,b=>nomatch (b:Empty)
 | n+1,m,b=>by
  show A9c (fun t x=>A1h g (k+n) (A4z g t) x) m (⟨(BO.vals b).map (upV (up k n)),BO.unk b⟩:BO (BI (k+n)))=A9c (fun t x=>A1h g n (A4z g t) x) m b
  have e:(fun(t:List UInt8) (x:BI n)=>A1h g (k+n) (A4z g t) (up k n x))=fun t x=>A1h g n (A4z g t) x:=by
   funext t x
   exact C7k n (A4z g t) x
  unfold A9c
  dsimp only
  rw[B6d,e]
theorem C0t {g:GI}{k:Nat}:∀ (n:Nat) (j:Int) (fs:List FI) (b:BI n),A1d g (k+n) j fs (up k n b)=A1d g n j fs b
 | 0,_,_,b=>nomatch (b:Empty)
 | n+1,j,fs,b=>by
  have e:(fun(t:List UInt8) (x:BI n)=>A1d g (k+n) (j+1) (A0m g t) (up k n x))=fun t x=>A1d g n (j+1) (A0m g t) x:=by
   funext t x
   exact C0t n (j+1) _ x
  have h1:=C0u (u:=up k n) fs (fun name s=>A1d g (k+n) (j+1) (A0m g name) s) (BO.vals b) (0,[])
  rw[e] at h1
  show(if 12 < j then 10 else if A3q fs (fun name s=>A1d g (k+n) (j+1) (A0m g name) s) ((BO.vals b).map (upV (up k n))) (0,[])=0 then A0y (A7l fs) (BO.unk b) else A3q fs (fun name s=>A1d g (k+n) (j+1) (A0m g name) s) ((BO.vals b).map (upV (up k n))) (0,[]))=if 12 < j then 10 else if A3q fs (fun name s=>A1d g n (j+1) (A0m g name) s) (BO.vals b) (0,[])=0 then A0y (A7l fs) (BO.unk b) else A3q fs (fun name s=>A1d g n (j+1) (A0m g name) s) (BO.vals b) (0,[])
  rw[h1]
theorem C6h {α β:Type}{P:World→Addr→β→Prop}{Q:World→Addr→α→Prop}{f : α→β}{sz:Nat}{w:World}{v:Value}{l:List α}(hPQ:∀ x a,P w x (f a)→Q w x a) (h:RdL sz P w v (l.map f)):RdL sz Q w v l:=by
 obtain⟨ao,n,cap,e,h1,h2,h3,h4,h5⟩:=h
 refine⟨ao,n,cap,e,by rw[←h1,List.length_map],h2,h3,h4,fun x hx k a ha=>hPQ _ _ (h5 x hx k (f a) ?_)⟩
 rw[List.getElem?_map,ha]
 rfl
theorem D1j {β γ:Type}{u : β→γ}{P:World→Addr→γ→Prop}{Q:World→Addr→β→Prop}{w:World}(hPQ:∀ x a,P w x (u a)→Q w x a) (x:Addr) (v:VI β) (h:VAt P w x (upV u v)):VAt Q w x v:=by
 obtain⟨v1,v2,v3,h1,h2,h3,h4,h5,h6,h7⟩:=h
 exact⟨v1,v2,v3,h1,h2,h3,h4,h5,h6,C6h hPQ h7⟩
theorem D3z {k:Nat}{w:World}:∀ (n:Nat) (x:Addr) (b:BI n),BAt (k+n) w x (up k n b)→BAt n w x b
 | 0,_,b,_=>nomatch (b:Empty)
 | n+1,x,b,h=>by
  obtain⟨v0,v1,h1,h2,h3,h4⟩:=h
  exact⟨v0,v1,h1,h2,C6h (fun y v hv=>D1j (D3z n) y v hv) h3,h4⟩
theorem D4w {k n:Nat}{w:World}{v0 v1:Value}{b:BI (n+1)}(h:BRd (k+n) w v0 v1 (up k (n+1) b)):BRd n w v0 v1 b:=⟨C6h (fun y v hv=>D1j (D3z n) y v hv) h.1,h.2⟩
theorem D4b {k:Nat}:∀ (n:Nat) (b:BI n),BQk (k+n) (up k n b)→BQk n b
 | 0,b,_=>nomatch (b:Empty)
 | n+1,b,h=>by
  refine⟨fun v hv=>?_,h.2⟩
  have hm:upV (up k n) v∈(BO.vals b).map (upV (up k n)):=List.mem_map_of_mem hv
  obtain⟨h1,h2,h3,h4⟩:=h.1 _ hm
  exact⟨h1,h2,h3,fun s hs=>D4b n s (h4 _ (List.mem_map_of_mem hs))⟩
theorem C3d {g:GI}(hrl:(A1c g).1=0){m:MI}(hm:m∈g.msgs){β:Type}{f:List UInt8→β→Int}{deep:List UInt8→β→List UInt8×Int}(hf:∀ t x,(deep t x).1.length≤4000){x:FI}{v:VI β}(hx:RtV m.fields f x v):∀ r∈(A2j deep x v).1,A0s r.number r.how r.bits r.bytes.length=0:=by
 obtain⟨_,hn1,hn2⟩:=A8y hrl hm (List.mem_of_find?_eq_some hx.fld)
 obtain⟨m1,m60,mm⟩:=A4h hx.misc
 have hz:∀ z:List UInt8,z.length≤4000→A0s (B2t x.number z).number (B2t x.number z).how (B2t x.number z).bits (B2t x.number z).bytes.length=0:=fun z hz=>by
  show A0s x.number 2 0 z.length=0
  unfold A0s
  rw[if_neg (by decide),if_neg (by omega),if_neg (by omega),if_neg (by omega),if_neg (by omega),if_neg (by omega)]
 intro r hr
 unfold A2j at hr
 split at hr
 ·obtain⟨z,hz',rfl⟩:=List.mem_map.1 hr
  exact hz z ((B8w (deep x.type) (hf x.type) v.subs [] (fun z hz=>by cases hz)).1 z hz')
 ·split at hr
  ·obtain⟨z,hz',rfl⟩:=List.mem_map.1 hr
   have:=hx.bytes z hz'
   unfold A2k at this
   split at this
   ·cases this
   ·exact hz z (by omega)
  ·rename_i h10 hh2
   split at hr
   ·rw[List.mem_singleton.1 hr]
    refine hz _ ?_
    have:=B2q (A3t x.kind) (v.bits.map (A5f x.kind))
    rw[List.length_map] at this
    unfold A1i at m60
    omega
   ·rename_i hmx
    rw[List.mem_singleton.1 hr]
    show A0s x.number (A3t x.kind) (A5f x.kind (v.bits.headD 0)) 0=0
    have hhb:=B3q hh2
    have h89:¬ (x.kind=8∨x.kind=9):=fun h=>hh2 (B7u h)
    obtain⟨e1,e2⟩:=C6t hx.others h89 h10
    have hsm:A3t x.kind=5→A5f x.kind (v.bits.headD 0) < 4294967296:=fun h5=>by
     cases hb:v.bits with
     | nil=>
      unfold A1i at m1
      rw[hb,e1,e2] at m1
      simp at m1
     | cons a l=>exact B2b (hx.bits a (by rw[hb];simp)) h5
    have hih:¬ A1y (A3t x.kind)=false:=B0o (by omega)
    unfold A0s
    rw[if_neg hih,if_neg (by omega),if_neg (by omega),if_neg (by rintro⟨h1,h2⟩;have:=hsm h1;omega),if_neg (by omega),if_neg (by omega)]
theorem C4d:∀ (l:List RI) (acc:List UInt8),(∀ r∈l,A0s r.number r.how r.bits r.bytes.length=0)→(A2m acc l).2=0∨(A2m acc l).2=4
 | [],_,_=>.inl rfl
 | r::l,acc,h=>by
  rw[A9s,if_neg (by rw[h r (List.mem_cons_self ..)];simp)]
  split
  ·exact .inr rfl
  ·exact C4d l _ fun q hq=>h q (List.mem_cons_of_mem _ hq)
theorem C6y {β:Type}{f : β→List UInt8×Int}:∀ (l:List β) (acc:List (List UInt8)),(∀ b∈l,(f b).2=0∨(f b).2=4)→(A4d f acc l).2=0∨(A4d f acc l).2=4
 | [],_,_=>.inl rfl
 | b::l,acc,h=>by
  unfold A4d
  split
  ·exact h b (List.mem_cons_self ..)
  ·exact C6y l _ fun q hq=>h q (List.mem_cons_of_mem _ hq)
theorem B2u {β:Type}{deep:List UInt8→β→List UInt8×Int}{fs:List FI}:∀ (l:List (VI β)) (acc:List RI),(∀ v∈l,(A2j deep (A1n fs v.number) v).2=0∨(A2j deep (A1n fs v.number) v).2=4)→(A2f deep fs acc l).2=0∨(A2f deep fs acc l).2=4
 | [],_,_=>.inl rfl
 | v::l,acc,h=>by
  unfold A2f
  split
  ·exact h v (List.mem_cons_self ..)
  ·exact B2u l _ fun q hq=>h q (List.mem_cons_of_mem _ hq)
theorem C0z {g:GI}(hrl:(A1c g).1=0):∀ (n:Nat) (k:Int) (m:MI) (x:BI n),m∈g.msgs→A1d g n k m.fields x=0→(A1h g n m x).2=0∨(A1h g n m x).2=4
 | 0,_,_,x,_,_=>nomatch (x:Empty)
 | n+1,k,m,x,hm,he=>by
  obtain⟨_,hr,hu⟩:=A2g he
  show(A9c (fun t x=>A1h g n (A4z g t) x) m x).2=0∨(A9c (fun t x=>A1h g n (A4z g t) x) m x).2=4
  have h1:(A2f (fun t x=>A1h g n (A4z g t) x) m.fields [] (BO.vals x)).2=0∨(A2f (fun t x=>A1h g n (A4z g t) x) m.fields [] (BO.vals x)).2=4:=B2u _ _ fun v hv=>by
   obtain⟨y,hy⟩:=hr.each v hv
   rw[A2y hy.fld]
   unfold A2j
   split
   ·refine C6y v.subs [] fun s hs=>?_
    obtain⟨hk10,M,hM⟩:=B0h hrl hm hy hs
    have hz:=hy.subs s hs
    rw[A3n hM] at hz
    show(A1h g n (A4z g y.type) s).2=0∨(A1h g n (A4z g y.type) s).2=4
    rw[B3z hM]
    exact C0z hrl n (k+1) M s (List.mem_of_find?_eq_some hM) hz
   ·split
    ·exact .inl rfl
    ·split
     ·exact .inl rfl
     ·exact .inl rfl
  unfold A9c
  by_cases h2:(A2f (fun t x=>A1h g n (A4z g t) x) m.fields [] (BO.vals x)).2≠0
  ·rw[if_pos h2]
   exact h1
  ·rw[if_neg h2]
   obtain⟨e1,_⟩:=B4l _ _ (Decidable.not_not.1 h2)
   rw[e1,List.nil_append]
   refine C4d _ _ fun r hr'=>?_
   rcases List.mem_append.1 hr' with h|h
   ·obtain⟨v,hv,h⟩:=List.mem_flatMap.1 h
    obtain⟨y,hy⟩:=hr.each v hv
    rw[A2y hy.fld] at h
    exact C3d hrl hm (fun t x=>A8i g n (A4z g t) x) hy r h
   ·exact(B8z (hu r h)).1
theorem D6g (w:World) (o:Obj):∃ X,Hid (X=w.alloc o)∧Below w.heap.size w X∧X.heap[w.heap.size]?=some o∧w.heap.size+1≤X.heap.size:=⟨_,rfl,(Below.refl _ _).alloc (Nat.le_refl _) _,heap_alloc_new _ _,by simp⟩
theorem A7e {w:World}:BRd 0 w (.slice none 0 0) (.slice none 0 0) ⟨[],[]⟩:=by
 have h:∀ {α:Type}{P:World→Addr→α→Prop}{sz:Nat},RdL sz P w (.slice none 0 0) []:=fun {α P sz}=>⟨none,0,0,rfl,rfl,Nat.le_refl _,by unfold maxLen;omega,fun _=>⟨rfl,rfl⟩,fun x hx=>by cases hx⟩
 exact⟨h,h⟩
theorem B0x {g:GI}{j:Nat}{m:MI}(hrl:(A1c g).1=0) (hm:g.msgs[j]?=some m) (l:List UInt8):A2d g (j:Int) l=A3b g 12 m l:=by
 have hj:=(List.getElem?_eq_some_iff.1 hm).1
 unfold A2d
 rw[if_neg (by rw[hrl];simp),if_neg (by omega),Int.toNat_natCast,hm]
theorem A4v {g:GI}{d j:Nat}{m:MI}(hrl:(A1c g).1=0) (hm:g.msgs[j]?=some m) (x:BI (d+1)):A1g g d (j:Int) x=A1d g (d+1) 1 m.fields x:=by
 have hj:=(List.getElem?_eq_some_iff.1 hm).1
 unfold A1g
 rw[if_neg (by rw[hrl];simp),if_neg (by omega),Int.toNat_natCast,hm]
theorem B3g {g:GI}{d j:Nat}{m:MI}{x:BI (d+1)}(hw:A1g g d (j:Int) x=0) (hm:g.msgs[j]?=some m):A7k g d (j:Int) x=A1h g (d+1) m x:=by
 unfold A7k
 rw[if_neg (by rw[hw];simp),Int.toNat_natCast,hm]
theorem C1l {g:GI}{d:Nat}{msg:Int}{x:BI (d+1)}(h:(A7k g d msg x).2=0):A1g g d msg x=0:=by
 unfold A7k at h
 split at h
 ·rename_i h1
  exact absurd h h1
 ·rename_i h1
  exact Decidable.not_not.1 h1
theorem D3x {g:GI}{k:Nat}{msg:Int}{x:BI (k+11+1)}(hok:BOk (k+11+1) x) (h:(A7k g (k+11) msg x).2=0):∃ x':BI 12,A2d g msg (A7k g (k+11) msg x).1 = .ok x'∧up k 12 x'=x:=by
 have hw:=C1l h
 obtain⟨hrl,j,m,rfl,hm,he⟩:=B1j hw
 obtain⟨x',hx⟩:=D4a (k:=k) 12 1 m.fields x (by decide) he
 refine⟨x',?_,hx⟩
 rw[B3g hw hm] at h ⊢
 subst hx
 have e:A1h g (k+11+1) m (up k 12 x')=A1h g 12 m x':=C7k 12 m x'
 rw[e] at h ⊢
 have he':A1d g 12 1 m.fields x'=0:=by
  have:=C0t (g:=g) (k:=k) 12 1 m.fields x'
  rw[←this]
  exact he
 rw[B0x hrl hm]
 exact A8d hrl 12 1 m x' (List.mem_of_getElem? hm) he' (D4b (k:=k) 12 x' (C6g _ _ hok)) h
theorem D1g {g:GI}{msg:Int}{l:List UInt8}{y:BI 12}(hgd:FGd g) (h:A2d g msg l = .ok y):A1g g 11 msg y=0∧((A7k g 11 msg y).2=0∨(A7k g 11 msg y).2=4)∧((A7k g 11 msg y).2=0→A2d g msg (A7k g 11 msg y).1 = .ok y):=by
 obtain⟨hrl,j,m,rfl,hm,hrd⟩:=A2a h
 have hmm:=List.mem_of_getElem? hm
 have he:=A4l hrl 12 1 m l y (by decide) hmm hrd
 have hw:A1g g 11 (j:Int) y=0:=by rw[A4v hrl hm];exact he
 obtain⟨hq,_⟩:=A9g hgd 12 m l y (hgd.fs hmm) hrd
 refine⟨hw,?_,?_⟩
 ·rw[B3g hw hm]
  exact C0z hrl 12 1 m y hmm he
 ·rw[B3g hw hm,B0x hrl hm]
  exact A8d hrl 12 1 m y hmm he hq
end L
end Go.Proofs.YtcagbdokbnpdfaaGreatDoor
