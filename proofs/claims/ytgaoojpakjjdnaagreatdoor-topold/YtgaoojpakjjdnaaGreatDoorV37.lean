import Derived.Test.YtgaoojpakjjdnaaGreatDoorV36
set_option maxHeartbeats 32000000
set_option maxRecDepth 100000
set_option linter.unusedVariables false
namespace Go.Proofs.YtgaoojpakjjdnaaGreatDoor
namespace L
open Go.RowKit
theorem B0u {g:GI}(hr:(wrongL g).1=0){m:MI}(hm:m∈g.msgs){x:FI}(hx:x∈m.fields):(1≤x.kind∧x.kind≤10)∧1≤x.number∧x.number<536870912:=by
 obtain⟨s,hs⟩:=B0p _ _ _ (B4y ((A5f hr).2.2 m hm)).2.2.2 x hx
 simp only[A9t,Bool.and_eq_true,Bool.not_eq_true',Bool.or_eq_false_iff,decide_eq_false_iff_not] at hs
 have h1:=hs.2.2.2.1
 have hh:C6g x.number=true:=hs.2.1
 unfold C6g at hh
 simp at hh
 omega
theorem D5z {g:GI}{t:List UInt8}{M:MI}(h:g.msgs.find? (isN t)=some M):g.msgs[(D0w g t).toNat]?=some M∧0≤D0w g t∧D0w g t<(g.msgs.length:Int):=by
 obtain⟨k,h1,h2,_,_⟩:=C8h (l:=g.msgs) (t:=t) ⟨M,List.mem_of_find?_eq_some h,by have:=List.find?_some h;simpa [isN] using this⟩
 have h':g.msgs.find? (fun m=>decide (m.name=t))=some M:=h
 rw[h'] at h2
 have e:D0w g t=(k:Int):=h1
 have hk:=(List.getElem?_eq_some_iff.1 h2).1
 rw[e]
 exact⟨by simpa using h2,by omega,by omega⟩
theorem D5f {β:Type}{fs:List FI}{f:List UInt8→β→Int}:∀ {l:List (VI β)}{s:Int×List Int},(∀ v∈l,∃ x,RtV fs f x v)→(l.Pairwise fun a b=>a.number<b.number)→(∀ v∈l,s.1<v.number)→(∀ v∈l,0<A1d fs v.number→A1d fs v.number∉s.2)→C3g fs l→A3y fs f l s=0
 | [],_,_,_,_,_,_=>rfl
 | v::l,s,h,hr,h1,h2,hap=>by
  obtain⟨x,hx⟩:=h v (List.mem_cons_self ..)
  have hc:A1d fs v.number=x.choice:=B4k hx.fld
  have ac:fs.find? (fun y=>decide (y.number=v.number))=some x:=hx.fld
  have hv:B7i fs f v s=0:=by
   unfold B7i
   rw[ac]
   have hall:∀ i,i<8→eAt x v f s i=0:=by
    intro i hi
    match i,hi with
    | 0,_=>
     have:=h1 v (List.mem_cons_self ..)
     show(if decide (v.number≤s.1) then(2:Int) else 0)=0
     rw[if_neg (by simp;omega)]
    | 1,_=>show(if A0v x v then(8:Int) else 0)=0;rw[hx.others];rfl
    | 2,_=>show(if A3p x v then(5:Int) else 0)=0;rw[hx.misc];rfl
    | 3,_=>show(if A0p x v then(2:Int) else 0)=0;rw[hx.without];rfl
    | 4,_=>exact A9b hx.bits
    | 5,_=>exact A9b hx.bytes
    | 6,_=>exact A9b hx.subs
    | 7,_=>
     show(if decide (0<x.choice∧x.choice∈s.2) then(8:Int) else 0)=0
     rw[if_neg]
     have:=h2 v (List.mem_cons_self ..)
     rw[hc] at this
     simpa using this
   have hfn:∀ (m k:Nat),k+m≤8→A5j (eAt x v f s) k m=0:=by
    intro m
    induction m with
    | zero=>intro k _;rfl
    | succ m ih=>
     intro k hk
     unfold A5j
     rw[if_pos (hall k (by omega))]
     exact ih (k+1) (by omega)
   exact hfn 8 0 (by omega)
  unfold A3y
  rw[if_pos hv]
  have hn:B1h fs v s=(v.number,A8a x s.2):=by
   unfold B1h
   rw[ac]
  rw[hn]
  refine D5f (fun a ha=>h a (List.mem_cons_of_mem _ ha)) (List.pairwise_cons.1 hr).2 (fun a ha=>(List.pairwise_cons.1 hr).1 a ha) (fun a ha hp=>?_) (fun a ha b hb=>hap a (List.mem_cons_of_mem _ ha) b (List.mem_cons_of_mem _ hb))
  have h3:=h2 a (List.mem_cons_of_mem _ ha) hp
  have h4:=(List.pairwise_cons.1 hr).1 a ha
  have h5:=hap a (List.mem_cons_of_mem _ ha) v (List.mem_cons_self ..) (by omega) hp
  unfold A8a
  split
  ·simp only[List.mem_append,List.mem_singleton,not_or]
   exact⟨h3,by rw[←hc];exact h5⟩
  ·exact h3
theorem C1t {g:GI}{d:Nat}{k:Int}{fs:List FI}{b:BI (d+1)}(hk:k≤12)(h:∀ v∈BO.vals b,∃ x,RtV fs (fun name s=>A1j g d (k+1) (A0r g name) s) x v)(hr:(BO.vals b).Pairwise fun a b=>a.number<b.number)(hp:∀ v∈BO.vals b,0<v.number)(ha:C3g fs (BO.vals b))(hu:∀ r∈BO.unk b,A8r fs r=0):A1j g (d+1) k fs b=0:=by
 rw[A4l,if_neg (by omega),if_pos (D5f h hr hp (fun v hv _=>by simp) ha)]
 exact A9b hu
theorem C6v {g:GI}{d:Nat}{k:Int}{fs:List FI}{b:BI (d+1)}(h:A1j g (d+1) k fs b=0):∀ v∈BO.vals b,0<v.number:=by
 rw[A4l] at h
 split at h
 ·cases h
 ·split at h
  ·rename_i h1 h2;exact(B3o h2).2.1
  ·rename_i h1 h2;exact absurd h h2
theorem RtV.imp {β:Type}{fs:List FI}{f f':List UInt8→β→Int}{x:FI}{v:VI β}(h:RtV fs f x v)(hf:∀ s∈v.subs,f x.type s=0→f' x.type s=0):RtV fs f' x v:=⟨h.fld,h.others,h.misc,h.without,h.bits,h.bytes,fun s hs=>hf s hs (h.subs s hs)⟩
theorem B2g {g:GI}:∀ (n:Nat) (k k':Int) (fs:List FI) (b:BI n),k'+(n:Int)≤13→A1j g n k fs b=0→A1j g n k' fs b=0
 | 0,_,_,_,b,_,_=>nomatch (b:Empty)
 | n+1,k,k',fs,b,hk,h=>by
  obtain⟨_,hr,hu⟩:=A3d h
  refine C1t (by omega) (fun v hv=>?_) hr.rise (C6v h) (B1p hr.apart) hu
  obtain⟨x,hx⟩:=hr.each v hv
  exact⟨x,hx.imp fun s hs h0=>B2g n (k+1) (k'+1) _ s (by omega) h0⟩
theorem B9d {how:Int}(h5:how=5):∀ {f:Nat}{l:List UInt8}{acc:List Nat},(∀ n∈acc,n<4294967296)→∀ n∈(unpGo how f l acc).1,n<4294967296
 | 0,_,acc,h,n,hn=>h n hn
 | f+1,l,acc,h,n,hn=>by
  unfold unpGo at hn
  split at hn
  ·exact h n hn
  ·split at hn
   ·cases hn
   ·rename_i h1 h2
    refine B9d h5 (fun q hq=>?_) n hn
    rcases List.mem_append.1 hq with hq|hq
    ·exact h q hq
    ·rw[List.mem_singleton.1 hq]
     exact(B2e (l:=l) (how:=how) (A:=(A2z l how).1) (B:=(A2z l how).2.1) (by rw[←Decidable.not_not.1 h2])).2 h5
structure TldRt {β:Type}(f:List UInt8→β→Int) (x:FI) (v:VI β):Prop where
 num:v.number=x.number
 others:A0v x v=false
 bits:∀ n∈v.bits,A2h x.kind n=0
 bytes:∀ l∈v.bytes,A2k x.kind l=0
 subs:∀ s∈v.subs,f x.type s=0
 one:x.many=false→A1i v=1
theorem D6q {n:Nat}{rd:List UInt8→List UInt8→Except Int (BI n)}{f:List UInt8→BI n→Int}{x:FI}{r:RI}{v:VI (BI n)}(hk:1≤x.kind∧x.kind≤10)(hw:A0t r.number r.how r.bits r.bytes.length=0)(ah:x.kind=10→∀ l s,rd x.type l = .ok s→f x.type s=0)(h:A3q rd x r = .ok v):TldRt f x v:=by
 have hl:=C6e hw
 unfold A3q at h
 by_cases h2:A3z x.kind≠2
 ·rw[if_pos h2] at h
  split at h
  ·rename_i h0
   obtain rfl:=Except.ok.inj h
   have ag:¬ (x.kind=8∨x.kind=9):=fun e=>h2 (C0k e)
   have h10:¬ x.kind=10:=fun e=>h2 (by rw[e];rfl)
   have hs:x.kind=7→A3z x.kind=5:=fun e=>by rw[e];rfl
   have ac:(∀ q∈(tnN x r).1,A2h x.kind q=0)∧(x.many=false→(tnN x r).1.length=1):=by
    unfold tnN at h0 ⊢
    split
    ·rename_i he
     refine⟨fun q hq=>?_,fun _=>rfl⟩
     rw[List.mem_singleton.1 hq]
     refine B7w hk.1 (by omega) fun h7=>?_
     have h5:r.how=5:=he.trans (hs h7)
     have:¬ (r.how=5∧r.bits / 4294967296≠0):=fun hh=>by
      unfold A0t at hw
      split at hw
      ·cases hw
      ·split at hw
       ·cases hw
       ·split at hw
        ·cases hw
        ·first
          | cases hw
          | (rw[if_pos hh] at hw;cases hw)
     omega
    ·split
     ·rename_i he hm
      refine⟨fun q hq=>?_,fun e=>by rw[hm.2] at e;cases e⟩
      obtain⟨p,hp,rfl⟩:=List.mem_map.1 hq
      exact B7w hk.1 (by omega) fun h7=>B9d (hs h7) (fun q hq=>by cases hq) p hp
     ·rename_i he hm
      rw[if_neg he,if_neg hm] at h0
      cases h0
   refine⟨rfl,?_,ac.1,fun l hl=>(List.not_mem_nil hl).elim,fun s hs=>(List.not_mem_nil hs).elim,fun hm=>?_⟩
   ·unfold A0v
    rw[if_neg ag,if_neg h10]
    rfl
   ·have:=ac.2 hm
    unfold A1i
    simp only[List.length_nil]
    omega
  ·cases h
 ·rw[if_neg h2] at h
  have h2:=Decidable.not_not.1 h2
  split at h
  ·cases h
  ·split at h
   ·rename_i h10
    split at h
    ·cases h
    ·rename_i s hs
     obtain rfl:=Except.ok.inj h
     refine⟨rfl,?_,fun l hl=>(List.not_mem_nil hl).elim,fun l hl=>(List.not_mem_nil hl).elim,fun t ht=>?_,fun _=>rfl⟩
     ·unfold A0v
      rw[if_neg (by omega),if_pos h10]
      rfl
     ·rw[List.mem_singleton.1 ht]
      exact ah h10 _ _ hs
   ·rename_i h10
    split at h
    ·cases h
    ·rename_i hv
     obtain rfl:=Except.ok.inj h
     refine⟨rfl,?_,fun l hl=>(List.not_mem_nil hl).elim,fun l hl'=>?_,fun l hl=>(List.not_mem_nil hl).elim,fun _=>rfl⟩
     ·unfold A0v
      rw[if_pos (C1y h2 h10)]
      rfl
     ·rw[List.mem_singleton.1 hl']
      unfold A2k
      rw[if_neg (by omega),if_neg hv]
theorem C1s {β:Type}{fs:List FI}:∀ {l:List (VI β)},(l.Pairwise fun a b=>a.number<b.number)→C3g fs l→l.Pairwise fun a b=>A1d fs a.number≤0∨A1d fs a.number≠A1d fs b.number
 | [],_,_=>.nil
 | a::l,hr,ha=>by
  refine .cons (fun b hb=>?_) (C1s (List.pairwise_cons.1 hr).2 fun c hc d hd=>ha c (List.mem_cons_of_mem _ hc) d (List.mem_cons_of_mem _ hd))
  have:=(List.pairwise_cons.1 hr).1 b hb
  by_cases h:A1d fs a.number≤0
  ·exact .inl h
  ·exact .inr (ha a (List.mem_cons_self ..) b (List.mem_cons_of_mem _ hb) (by omega) (by omega))
theorem C8x {β:Type}{fs:List FI}{x:FI}{l:List (VI β)}{y:VI β}(hx:fs.find? (isF y.number)=some x)(h:C3g fs l):C3g fs (A5i fs x l y):=by
 intro a ha b hb hne hp
 have ac:∀ c∈A5i fs x l y,c=y∨(c∈l∧A0q fs x c.number=false):=fun c hc=>by
  unfold A5i at hc
  split at hc
  ·exact .inr ⟨(List.mem_filter.1 hc).1,by simpa using (List.mem_filter.1 hc).2⟩
  ·rcases List.mem_append.1 hc with hc|hc
   ·rcases List.mem_append.1 hc with hc|hc
    ·have:=List.mem_filter.1 (List.mem_of_mem_take hc)
     exact .inr ⟨this.1,by simpa using this.2⟩
    ·exact .inl (List.mem_singleton.1 hc)
   ·have:=List.mem_filter.1 (List.mem_of_mem_drop hc)
    exact .inr ⟨this.1,by simpa using this.2⟩
 rcases ac a ha with rfl|⟨ha,hoa⟩
 ·rcases ac b hb with rfl|⟨hb,hob⟩
  ·exact absurd rfl hne
  ·rw[B6m hx (fun e=>hne e.symm)] at hob
   intro e
   unfold ouB at hob
   exact(of_decide_eq_false hob) ⟨hp,e.symm⟩
 ·rcases ac b hb with rfl|⟨hb,hob⟩
  ·rw[B6m hx hne] at hoa
   intro e
   unfold ouB at hoa
   exact(of_decide_eq_false hoa) ⟨by omega,e⟩
  ·exact h a ha b hb hne hp
theorem D7t {β:Type}{fs:List FI}{f:List UInt8→β→Int}{x:FI}{l:List (VI β)}{y:VI β}(hx:fs.find? (isF y.number)=some x)(hl:RtL fs f l)(h:A0p x y=false→RtV fs f x y):RtL fs f (A5i fs x l y):=by
 have hr:=B6r hx hl.rise
 refine⟨fun a ha=>?_,hr,C1s hr (C8x hx (B1p hl.apart))⟩
 cases hw:A0p x y with
 | true=>
  unfold A5i at ha
  rw[if_pos hw] at ha
  exact hl.each a (List.mem_filter.1 ha).1
 | false=>
  rcases A7a ha with rfl|ha
  ·exact⟨x,h hw⟩
  ·exact hl.each a ha
structure RdSt {n:Nat}(fs:List FI) (f:List UInt8→BI n→Int) (b:BO (BI n)):Prop where
 rt:RtL fs f b.vals
 pos:∀ v∈b.vals,0<v.number
theorem D6v {g:GI}(au:(wrongL g).1=0){m:MI}(hm:m∈g.msgs){n:Nat}{k:Int}(bg:k+(n:Int)≤13){x:FI}{b b':BO (BI n)}{v:VI (BI n)}(hx:m.fields.find? (isF x.number)=some x)(hb:RdSt m.fields (fun name s=>A1j g n k (A0r g name) s) b)(hv:TldRt (fun name s=>A1j g n k (A0r g name) s) x v)(h:A1w g n m.fields x b v = .ok b'):RdSt m.fields (fun name s=>A1j g n k (A0r g name) s) b':=by
 have ag:m.fields.find? (isF v.number)=some x:=by rw[hv.num];exact hx
 have bh:=(B0u au hm (List.mem_of_find?_eq_some hx)).2.1
 have hput:∀ y:VI (BI n),y.number=x.number→(A0p x y=false→RtV m.fields (fun name s=>A1j g n k (A0r g name) s) x y)→RdSt m.fields (fun name s=>A1j g n k (A0r g name) s) (⟨A5i m.fields x b.vals y,b.unk⟩:BO (BI n)):=fun y hy bn=>by
  refine⟨D7t (by rw[hy];exact hx) hb.rt bn,fun a ha=>?_⟩
  rcases A7a ha with rfl|ha
  ·rw[hy];omega
  ·exact hb.pos a ha
 unfold A1w at h
 split at h
 ·obtain rfl:=Except.ok.inj h
  exact hb
 ·rename_i h0
  cases hf:b.vals.find? (isV v.number) with
  | none=>
   rw[hf] at h
   dsimp only at h
   split at h
   ·cases h
   ·rename_i h60
    obtain rfl:=Except.ok.inj h
    refine hput v hv.num fun hw=>⟨ag,hv.others,?_,hw,hv.bits,hv.bytes,hv.subs⟩
    unfold A3p
    cases hmx:x.many with
    | true=>simp;omega
    | false=>have:=hv.one hmx;simp;omega
  | some u=>
   rw[hf] at h
   dsimp only at h
   obtain⟨xu,hu,aw⟩:=D8y hb.rt hf
   obtain rfl:xu=x:=by rw[ag] at aw;exact(Option.some.inj aw).symm
   have bk:=D4u hf
   obtain⟨m1,bp,mm⟩:=A9k hu.misc
   cases hme:C8e g n xu u v with
   | error E=>rw[hme] at h;cases h
   | ok v'=>
    rw[hme] at h
    dsimp only at h
    split at h
    ·cases h
    ·rename_i h60
     obtain rfl:=Except.ok.inj h
     have e':=C0r hme
     have aj:v'.number=v.number:=by rw[e'];exact B0n bk
     refine hput v' (by rw[aj,hv.num]) fun hw=>?_
     cases hmx:xu.many with
     | true=>
      have e2:v'=A6u u v:=by rw[e',A9j hmx]
      subst e2
      rw[A7s] at h60
      refine⟨by rw[aj];exact ag,?_,?_,hw,fun q hq=>?_,fun q hq=>?_,fun q hq=>?_⟩
      ·have:=C5f (J:=jnB g.msgs n) (ms:=g.msgs) hu.others hv.others (fun e=>by rw[hmx] at e;cases e)
       rw[A9j hmx] at this
       exact this
      ·unfold A3p
       rw[A7s,hmx]
       simp
       omega
      ·rcases List.mem_append.1 hq with hq|hq
       ·exact hu.bits q hq
       ·exact hv.bits q hq
      ·rcases List.mem_append.1 hq with hq|hq
       ·exact hu.bytes q hq
       ·exact hv.bytes q hq
      ·rcases List.mem_append.1 hq with hq|hq
       ·exact hu.subs q hq
       ·exact hv.subs q hq
     | false=>
      by_cases h10:xu.kind=10
      ·obtain⟨M,hM⟩:=A3x au m hm xu (List.mem_of_find?_eq_some hx) h10
       have ah:g.msgs.find? (isN xu.type)=some M:=hM
       obtain⟨s,hs⟩:=D6d hu.others hu.misc hmx h10
       obtain⟨t,ht⟩:∃ t,v.subs = [t]:=by
        have h1:=hv.one hmx
        obtain⟨q1,q2⟩:=B6v hv.others h10
        unfold A1i at h1
        rw[q1,q2] at h1
        exact List.length_eq_one_iff.1 (by simpa using h1)
       obtain⟨d,rfl⟩:∃ d,n=d+1:=by
        cases n with
        | zero=>exact nomatch (s:Empty)
        | succ d=>exact⟨d,rfl⟩
       have ac:C4v g d (D0w g xu.type) s t=0:=by
        rw[A7b,if_pos ⟨hmx,h10⟩,hs,ht] at hme
        dsimp only at hme
        split at hme
        ·assumption
        ·cases hme
       obtain⟨j1,j2,j3⟩:=D5z ah
       have bc:A2p g d (D0w g xu.type) (jnB g.msgs (d+1) M s t)=0:=by
        unfold C4v at ac
        split at ac
        ·rename_i hne;exact absurd ac hne
        ·rw[j1] at ac
         exact ac
       obtain⟨_,_,_,M2,ak,ba⟩:=C6d bc
       rw[j1] at ak
       obtain rfl:=Option.some.inj ak
       have e2:v'=⟨u.number,u.bits,u.bytes,[jnB g.msgs (d+1) M s t]⟩:=by
        rw[e']
        unfold A4y
        rw[hmx,if_neg (by simp),if_pos h10,ah,hs,ht]
       obtain⟨q1,q2⟩:=B6v hu.others h10
       rw[q1,q2] at e2
       subst e2
       refine⟨by rw[aj];exact ag,?_,?_,hw,fun q hq=>(List.not_mem_nil hq).elim,fun q hq=>(List.not_mem_nil hq).elim,fun q hq=>?_⟩
       ·unfold A0v
        rw[if_neg (by omega),if_pos h10]
        rfl
       ·unfold A3p A1i
        rw[hmx]
        rfl
       ·rw[List.mem_singleton.1 hq]
        show A1j g (d+1) k (A0r g xu.type) (jnB g.msgs (d+1) M s t)=0
        rw[A8z ah]
        exact B2g (d+1) 1 k M.fields _ bg ba
      ·have e2:v'=v:=by rw[e'];unfold A4y;rw[hmx,if_neg (by simp),if_neg h10]
       subst e2
       refine⟨ag,hv.others,?_,hw,hv.bits,hv.bytes,hv.subs⟩
       have h1:=hv.one hmx
       unfold A3p
       simp
       omega
theorem D7w {fs:List FI}{r:RI}(hw:A0t r.number r.how r.bits r.bytes.length=0)(hf:fs.find? (isF r.number)=none):A8r fs r=0:=by
 unfold A8r
 rw[if_pos hw,if_neg]
 unfold A0k
 rw[List.findIdx?_eq_none_iff.2 (fun y hy=>by
  have:=List.find?_eq_none.1 hf y hy
  simpa [isF] using this)]
 simp
theorem B3g {g:GI}(ac:(wrongL g).1=0){m:MI}(hm:m∈g.msgs){n:Nat}{k:Int}(ag:k+(n:Int)≤13){rd:List UInt8→List UInt8→Except Int (BI n)}(ah:∀ x∈m.fields,x.kind=10→∀ l s,rd x.type l = .ok s→A1j g n k (A0r g x.type) s=0):∀ (rs:List RI) (b:BO (BI n)) (un:List RI) (s:BO (BI n)),(∀ r∈rs,A0t r.number r.how r.bits r.bytes.length=0)→RdSt m.fields (fun name s=>A1j g n k (A0r g name) s) b→(∀ r∈un,A8r m.fields r=0)→A1f g rd m.fields rs b un = .ok s→
  RdSt m.fields (fun name s=>A1j g n k (A0r g name) s) s∧∀ r∈s.unk,A8r m.fields r=0
 | [],b,un,s,_,hb,hu,h=>by
  have e:(⟨b.vals,un⟩:BO (BI n))=s:=Except.ok.inj h
  subst e
  exact⟨⟨hb.rt,hb.pos⟩,hu⟩
 | r::rs,b,un,s,hw,hb,hu,h=>by
  have hr:=hw r (List.mem_cons_self ..)
  cases hf:m.fields.find? (isF r.number) with
  | none=>
   rw[A5c hf] at h
   refine B3g ac hm ag ah rs b _ s (fun q hq=>hw q (List.mem_cons_of_mem _ hq)) hb (fun q hq=>?_) h
   rcases List.mem_append.1 hq with hq|hq
   ·exact hu q hq
   ·rw[List.mem_singleton.1 hq]
    exact D7w hr hf
  | some x=>
   have aj:=List.mem_of_find?_eq_some hf
   cases ht:A3q rd x r with
   | error E=>rw[A8n hf ht] at h;cases h
   | ok v=>
    cases hwn:A1w g n m.fields x b v with
    | error E=>rw[A5d hf ht hwn] at h;cases h
    | ok b'=>
     rw[A7f hf ht hwn] at h
     have ak:TldRt (fun name s=>A1j g n k (A0r g name) s) x v:=D6q (B0u ac hm aj).1 hr (fun h10 l s=>ah x aj h10 l s) ht
     exact B3g ac hm ag ah rs b' un s (fun q hq=>hw q (List.mem_cons_of_mem _ hq)) (D6v ac hm ag (by rw[A2d hf];exact hf) hb ak hwn) hu h
theorem B0t {g:GI}(ag:(wrongL g).1=0):∀ (n:Nat) (k:Int) (m:MI) (l:List UInt8) (y:BI n),k+(n:Int)≤13→m∈g.msgs→A3t g n m l = .ok y→A1j g n k m.fields y=0
 | 0,_,_,_,y,_,_,_=>nomatch (y:Empty)
 | n+1,k,m,l,y,hk,hm,h=>by
  obtain⟨rs,A,hp,hgo⟩:=B8u h
  obtain⟨h1,h2⟩:=B3g ag hm (k:=k+1) (by omega) (fun x hx h10 l s hs=>by
   obtain⟨M,hM⟩:=A3x ag m hm x hx h10
   have ac:g.msgs.find? (isN x.type)=some M:=hM
   rw[A8z ac]
   rw[C0s ac] at hs
   exact B0t ag n (k+1) M l s (by omega) (List.mem_of_find?_eq_some ac) hs) (rs.map A6e) ⟨[],[]⟩ [] y (fun r hr=>by
    obtain⟨q,hq,rfl⟩:=List.mem_map.1 hr
    exact C0y hp q hq) ⟨⟨(fun v hv=>by cases hv),.nil,.nil⟩,(fun v hv=>by cases hv)⟩ (fun r hr=>by cases hr) hgo
  exact C1t (by omega) h1.rt.each h1.rt.rise h1.pos (B1p h1.rt.apart) h2
def up (k:Nat):(n:Nat)→BI n→BI (k+n)
 | 0=>fun b=>nomatch (b:Empty)
 | n+1=>fun b=>(⟨(BO.vals b).map (upV (up k n)),BO.unk b⟩:BO (BI (k+n)))
theorem C0q {α β:Type}{f : α→β}:∀ {l:List β},(∀ b∈l,∃ a,f a=b)→∃ l':List α,l'.map f=l
 | [],_=>⟨[],rfl⟩
 | b::l,h=>by
  obtain⟨a,ha⟩:=h b (List.mem_cons_self ..)
  obtain⟨l',hl⟩:=C0q (l:=l) fun c hc=>h c (List.mem_cons_of_mem _ hc)
  exact⟨a::l',by rw[List.map_cons,ha,hl]⟩
theorem D7y {g:GI}{k:Nat}:∀ (n:Nat) (j:Int) (fs:List FI) (b:BI (k+n)),j+(n:Int)=13→A1j g (k+n) j fs b=0→∃ b':BI n,up k n b'=b
 | 0,j,fs,b,hj,h=>by
  exfalso
  cases k with
  | zero=>exact nomatch (b:Empty)
  | succ k=>
   have h':A1j g (k+1) j fs b=0:=h
   rw[A4l,if_pos (by omega)] at h'
   cases h'
 | n+1,j,fs,b,hj,h=>by
  obtain⟨_,hr,_⟩:=A3d (d:=k+n) h
  obtain⟨l',hl⟩:=C0q (f:=upV (up k n)) (l:=BO.vals b) fun v hv=>by
   obtain⟨x,hx⟩:=hr.each v hv
   obtain⟨s',hs⟩:=C0q (f:=up k n) (l:=v.subs) fun s hs=>D7y n (j+1) _ s (by omega) (hx.subs s hs)
   exact⟨⟨v.number,v.bits,v.bytes,s'⟩,by unfold upV;rw[hs]⟩
  refine⟨(⟨l',BO.unk b⟩:BO (BI n)),?_⟩
  show(⟨l'.map (upV (up k n)),BO.unk b⟩:BO (BI (k+n)))=b
  rw[hl]
  rfl
section
variable {β γ:Type}{u : β→γ}
theorem D5d (f : γ→List UInt8×Int):∀ (l:List β) (acc:List (List UInt8)),A4c f acc (l.map u)=A4c (fun b=>f (u b)) acc l
 | [],_=>rfl
 | b::l,acc=>by
  rw[List.map_cons]
  unfold A4c
  rw[D5d f l]
theorem C1e (deep:List UInt8→γ→List UInt8×Int)(x:FI)(v:VI β):A1a deep x (upV u v)=A1a (fun t b=>deep t (u b)) x v:=by
 unfold A1a
 rw[show(upV u v).subs=v.subs.map u from rfl,D5d]
 rfl
theorem B8x (deep:List UInt8→γ→List UInt8×Int)(fs:List FI):∀ (l:List (VI β)) (acc:List RI),A2i deep fs acc (l.map (upV u))=A2i (fun t b=>deep t (u b)) fs acc l
 | [],_=>rfl
 | v::l,acc=>by
  rw[List.map_cons]
  unfold A2i
  rw[show(upV u v).number=v.number from rfl,C1e,B8x deep fs l]
theorem B7u (f : γ→Int):∀ l:List β,A1g f (l.map u)=A1g (fun b=>f (u b)) l
 | []=>rfl
 | b::l=>by
  rw[List.map_cons]
  unfold A1g
  rw[B7u f l]
theorem D7f (x:FI)(v:VI β)(f:List UInt8→γ→Int)(s:Int×List Int)(i:Nat):eAt x (upV u v) f s i=eAt x v (fun t b=>f t (u b)) s i:=by
 have hm:A1i (upV u v)=A1i v:=by unfold A1i upV;simp
 match i with
 | 0=>rfl
 | 1=>
  unfold eAt A0v
  rw[show(upV u v).subs.length=v.subs.length by unfold upV;simp]
  rfl
 | 2=>
  show(if A3p x (upV u v) then(5:Int) else 0)=if A3p x v then 5 else 0
  unfold A3p
  rw[hm]
 | 3=>
  unfold eAt A0p
  rw[hm]
  rfl
 | 4=>rfl
 | 5=>rfl
 | 6=>exact B7u (f x.type) v.subs
 | 7=>rfl
 | _+8=>rfl
theorem D6u (fs:List FI)(f:List UInt8→γ→Int)(v:VI β)(s:Int×List Int):B7i fs f (upV u v) s=B7i fs (fun t b=>f t (u b)) v s:=by
 unfold B7i
 rw[show(upV u v).number=v.number from rfl]
 cases fs.find? (fun y=>decide (y.number=v.number)) with
 | none=>rfl
 | some x=>
  dsimp only
  congr 1
  funext i
  exact D7f x v f s i
theorem C3b (fs:List FI)(f:List UInt8→γ→Int):∀ (l:List (VI β)) (s:Int×List Int),A3y fs f (l.map (upV u)) s=A3y fs (fun t b=>f t (u b)) l s
 | [],_=>rfl
 | v::l,s=>by
  rw[List.map_cons]
  unfold A3y
  rw[D6u,C3b fs f l]
  rfl
end
theorem D0h {g:GI}{k:Nat}:∀ (n:Nat) (m:MI) (b:BI n),A0x g (k+n) m (up k n b)=A0x g n m b
 | 0,_,b=>nomatch (b:Empty)
 | n+1,m,b=>by
  show B4d (fun t x=>A0x g (k+n) (A2j g t) x) m (⟨(BO.vals b).map (upV (up k n)),BO.unk b⟩:BO (BI (k+n)))=B4d (fun t x=>A0x g n (A2j g t) x) m b
  have e:(fun(t:List UInt8) (x:BI n)=>A0x g (k+n) (A2j g t) (up k n x))=fun t x=>A0x g n (A2j g t) x:=by
   funext t x
   exact D0h n (A2j g t) x
  unfold B4d
  dsimp only
  rw[B8x,e]
theorem C3a {g:GI}{k:Nat}:∀ (n:Nat) (j:Int) (fs:List FI) (b:BI n),A1j g (k+n) j fs (up k n b)=A1j g n j fs b
 | 0,_,_,b=>nomatch (b:Empty)
 | n+1,j,fs,b=>by
  have e:(fun(t:List UInt8) (x:BI n)=>A1j g (k+n) (j+1) (A0r g t) (up k n x))=fun t x=>A1j g n (j+1) (A0r g t) x:=by
   funext t x
   exact C3a n (j+1) _ x
  have h1:=C3b (u:=up k n) fs (fun name s=>A1j g (k+n) (j+1) (A0r g name) s) (BO.vals b) (0,[])
  rw[e] at h1
  show(if 12<j then 10 else if A3y fs (fun name s=>A1j g (k+n) (j+1) (A0r g name) s) ((BO.vals b).map (upV (up k n))) (0,[])=0 then A1g (A8r fs) (BO.unk b) else A3y fs (fun name s=>A1j g (k+n) (j+1) (A0r g name) s) ((BO.vals b).map (upV (up k n))) (0,[]))=if 12<j then 10 else if A3y fs (fun name s=>A1j g n (j+1) (A0r g name) s) (BO.vals b) (0,[])=0 then A1g (A8r fs) (BO.unk b) else A3y fs (fun name s=>A1j g n (j+1) (A0r g name) s) (BO.vals b) (0,[])
  rw[h1]
theorem C9b {α β:Type}{P:World→Addr→β→Prop}{Q:World→Addr→α→Prop}{f : α→β}{sz:Nat}{w:World}{v:Value}{l:List α}(ac:∀ x a,P w x (f a)→Q w x a)(h:RdL sz P w v (l.map f)):RdL sz Q w v l:=by
 obtain⟨ao,n,cap,e,h1,h2,h3,h4,h5⟩:=h
 refine⟨ao,n,cap,e,by rw[←h1,List.length_map],h2,h3,h4,fun x hx k a ha=>ac _ _ (h5 x hx k (f a) ?_)⟩
 rw[List.getElem?_map,ha]
 rfl
theorem D5g {β γ:Type}{u : β→γ}{P:World→Addr→γ→Prop}{Q:World→Addr→β→Prop}{w:World}(ac:∀ x a,P w x (u a)→Q w x a)(x:Addr)(v:VI β)(h:VAt P w x (upV u v)):VAt Q w x v:=by
 obtain⟨v1,v2,v3,h1,h2,h3,h4,h5,h6,h7⟩:=h
 exact⟨v1,v2,v3,h1,h2,h3,h4,h5,h6,C9b ac h7⟩
theorem D7x {k:Nat}{w:World}:∀ (n:Nat) (x:Addr) (b:BI n),BAt (k+n) w x (up k n b)→BAt n w x b
 | 0,_,b,_=>nomatch (b:Empty)
 | n+1,x,b,h=>by
  obtain⟨v0,v1,h1,h2,h3,h4⟩:=h
  exact⟨v0,v1,h1,h2,C9b (fun y v hv=>D5g (D7x n) y v hv) h3,h4⟩
theorem D9e {k n:Nat}{w:World}{v0 v1:Value}{b:BI (n+1)}(h:BRd (k+n) w v0 v1 (up k (n+1) b)):BRd n w v0 v1 b:=⟨C9b (fun y v hv=>D5g (D7x n) y v hv) h.1,h.2⟩
theorem D7z {k:Nat}:∀ (n:Nat) (b:BI n),BQk (k+n) (up k n b)→BQk n b
 | 0,b,_=>nomatch (b:Empty)
 | n+1,b,h=>by
  refine⟨fun v hv=>?_,h.2⟩
  have hm:upV (up k n) v∈(BO.vals b).map (upV (up k n)):=List.mem_map_of_mem hv
  obtain⟨h1,h2,h3,h4⟩:=h.1 _ hm
  exact⟨h1,h2,h3,fun s hs=>D7z n s (h4 _ (List.mem_map_of_mem hs))⟩
theorem B4x {g:GI}(ah:(wrongL g).1=0){m:MI}(hm:m∈g.msgs){β:Type}{f:List UInt8→β→Int}{deep:List UInt8→β→List UInt8×Int}(hf:∀ t x,(deep t x).1.length≤4000){x:FI}{v:VI β}(hx:RtV m.fields f x v):∀ r∈(A1a deep x v).1,A0t r.number r.how r.bits r.bytes.length=0:=by
 obtain⟨_,au,aw⟩:=B0u ah hm (List.mem_of_find?_eq_some hx.fld)
 obtain⟨m1,aj,mm⟩:=A9k hx.misc
 have hz:∀ z:List UInt8,z.length≤4000→A0t (B1k x.number z).number (B1k x.number z).how (B1k x.number z).bits (B1k x.number z).bytes.length=0:=fun z hz=>by
  show A0t x.number 2 0 z.length=0
  unfold A0t
  rw[if_neg (by decide),if_neg (by omega),if_neg (by omega),if_neg (by omega),if_neg (by omega),if_neg (by omega)]
 intro r hr
 unfold A1a at hr
 split at hr
 ·obtain⟨z,hz',rfl⟩:=List.mem_map.1 hr
  exact hz z ((C1j (deep x.type) (hf x.type) v.subs [] (fun z hz=>by cases hz)).1 z hz')
 ·split at hr
  ·obtain⟨z,hz',rfl⟩:=List.mem_map.1 hr
   have:=hx.bytes z hz'
   unfold A2k at this
   split at this
   ·cases this
   ·exact hz z (by omega)
  ·rename_i h10 hh2
   split at hr
   ·rw[List.mem_singleton.1 hr]
    refine hz _ ?_
    have:=B4s (A3z x.kind) (v.bits.map (A5t x.kind))
    rw[List.length_map] at this
    unfold A1i at aj
    omega
   ·rename_i hmx
    rw[List.mem_singleton.1 hr]
    show A0t x.number (A3z x.kind) (A5t x.kind (v.bits.headD 0)) 0=0
    have ak:=B5z hh2
    have ac:¬ (x.kind=8∨x.kind=9):=fun h=>hh2 (C0k h)
    obtain⟨e1,e2⟩:=C9p hx.others ac h10
    have hsm:A3z x.kind=5→A5t x.kind (v.bits.headD 0)<4294967296:=fun h5=>by
     cases hb:v.bits with
     | nil=>
      unfold A1i at m1
      rw[hb,e1,e2] at m1
      simp at m1
     | cons a l=>exact B4j (hx.bits a (by rw[hb];simp)) h5
    have ag:¬ A2a (A3z x.kind)=false:=B2u (by omega)
    unfold A0t
    rw[if_neg ag,if_neg (by omega),if_neg (by omega),if_neg (by rintro⟨h1,h2⟩;have:=hsm h1;omega),if_neg (by omega),if_neg (by omega)]
theorem D8j (w:World)(o:Obj):∃ X,Hid (X=w.alloc o)∧Below w.heap.size w X∧X.heap[w.heap.size]?=some o∧w.heap.size+1≤X.heap.size:=⟨_,rfl,(Below.refl _ _).alloc (Nat.le_refl _) _,heap_alloc_new _ _,by simp⟩
theorem B8r {g:GI}{j:Nat}{m:MI}(ac:(wrongL g).1=0)(hm:g.msgs[j]?=some m)(l:List UInt8):A6a g (j:Int) l=A3t g 12 m l:=by
 have hj:=(List.getElem?_eq_some_iff.1 hm).1
 unfold A6a
 rw[if_neg (by rw[ac];simp),if_neg (by omega),Int.toNat_natCast,hm]
theorem B9k {g:GI}{d j:Nat}{m:MI}(ac:(wrongL g).1=0)(hm:g.msgs[j]?=some m)(x:BI (d+1)):A2p g d (j:Int) x=A1j g (d+1) 1 m.fields x:=by
 have hj:=(List.getElem?_eq_some_iff.1 hm).1
 unfold A2p
 rw[if_neg (by rw[ac];simp),if_neg (by omega),Int.toNat_natCast,hm]
theorem C6x {g:GI}{d j:Nat}{m:MI}{x:BI (d+1)}(hw:A2p g d (j:Int) x=0)(hm:g.msgs[j]?=some m):C6f g d (j:Int) x=A0x g (d+1) m x:=by
 unfold C6f
 rw[if_neg (by rw[hw];simp),Int.toNat_natCast,hm]
theorem C3p {g:GI}{d:Nat}{msg:Int}{x:BI (d+1)}(h:(C6f g d msg x).2=0):A2p g d msg x=0:=by
 unfold C6f at h
 split at h
 ·rename_i h1
  exact absurd h h1
 ·rename_i h1
  exact Decidable.not_not.1 h1
def B1j (l:List RI):List UInt8:=l.flatMap fun r=>recN r.number r.how r.bits r.bytes
theorem A6n (a b:List RI):B1j (a++b)=B1j a++B1j b:=by unfold B1j;rw[List.flatMap_append]
theorem B9y:∀ (l:List RI) (acc:List UInt8),acc.length≤4000→(∀ r∈l,A0t r.number r.how r.bits r.bytes.length=0)→A3n acc l=if (acc++B1j l).length≤4000 then(acc++B1j l,0) else([],4)
 | [],acc,h,_=>by
  have e:B1j [] = []:=rfl
  rw[e,List.append_nil,if_pos h]
  rfl
 | r::l,acc,h,hw=>by
  have e:B1j (r::l)=recN r.number r.how r.bits r.bytes++B1j l:=rfl
  rw[B5k,if_neg (by rw[hw r (List.mem_cons_self ..)];simp),e,←List.append_assoc]
  by_cases h2:4000<(acc++recN r.number r.how r.bits r.bytes).length
  ·rw[if_pos h2,if_neg]
   rw[List.length_append]
   omega
  ·rw[if_neg h2]
   exact B9y l _ (by omega) fun q hq=>hw q (List.mem_cons_of_mem _ hq)
end L
end Go.Proofs.YtgaoojpakjjdnaaGreatDoor
