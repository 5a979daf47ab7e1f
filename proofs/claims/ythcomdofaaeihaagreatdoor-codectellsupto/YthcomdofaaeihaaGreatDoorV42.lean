import Derived.Test.YthcomdofaaeihaaGreatDoorV41
set_option maxHeartbeats 32000000
set_option maxRecDepth 100000
set_option linter.unusedVariables false
namespace Go.Proofs.YthcomdofaaeihaaGreatDoor
namespace L
open Go.RowKit
variable{β:Type}{g:GI}{k:Int}{r:RI}{x:FI}{fs:List FI}{m:MI}{d n:Nat}{y:VI β}{f:List UInt8→β→Int}{l:List (VI β)}
theorem jG (hr:(yB g).1=0)(hm:m∈g.mG)(hx:x∈m.fD):(1≤x.kind∧x.kind≤10)∧1≤x.nU∧x.nU<536870912:=by
 obtain⟨s,hs⟩:=YU _ _ _ (ZI ((YL hr).2.2 m hm)).2.2.2 x hx;simp only[pA,lS,Bool.not_eq_true',pF,uZ] at hs;have h1:=hs.2.2.2.1;have hh:=hs.2.1;unfold qZ at hh;simp at hh;omega
theorem C9p {t:List UInt8}{M:MI}(h:g.mG.find? (isN t)=some M):g.mG[(nG g t).toNat]?=some M∧0≤nG g t∧nG g t<(g.mG.length:Int):=by
 obtain⟨k,h1,h2,_,_⟩:=C9r (l:=g.mG) (t:=t) ⟨M,xL h,by have:=rN h;simpa [isN] using this⟩;have h':g.mG.find? (fun m=>decide (m.name=t))=some M:=h;rw[h'] at h2;have e:nG g t=(k:Int):=h1;have hk:=(yG.1 h2).1;rw[e];exact⟨by simpa using h2,by omega,by omega⟩
theorem D7g {β:Type}{fs:List FI}{f:List UInt8→β→Int}:∀ {l:List (VI β)}{s:Int×List Int},(∀ v∈l,∃ x,RtV fs f x v)→(l.Pairwise fun a b=>a.nU<b.nU)→(∀ v∈l,s.1<v.nU)→(∀ v∈l,0<wU fs v.nU→wU fs v.nU∉s.2)→oL fs l→vP fs f l s=0
 | [],_,_,_,_,_,_=>rfl
 | v::l,s,h,hr,h1,h2,hap=>by
  obtain⟨x,hx⟩:=h v (vF ..)
  have hc:=SC hx.fld
  have ac:fs.find? (fun y=>decide (y.nU=v.nU))=some x:=hx.fld
  have hv:uA fs f v s=0:=by
   unfold uA;rw[ac];have hall:∀ i,i<8→uY x v f s i=0:=by
    intro i hi
    match i,hi with
    | 0,_=>
     have:=h1 v (vF ..);show(if decide (v.nU≤s.1) then(2:Int) else 0)=0;rw[zC (by simp;omega)]
    | 1,_=>show(if xG x v then(8:Int) else 0)=0;rw[hx.others];rfl
    | 2,_=>show(if vK x v then(5:Int) else 0)=0;rw[hx.misc];rfl
    | 3,_=>show(if xQ x v then(2:Int) else 0)=0;rw[hx.without];rfl
    | 4,_=>exact jC hx.bits
    | 5,_=>exact jC hx.bytes
    | 6,_=>exact jC hx.subs
    | 7,_=>
     show(if decide (0<x.cE∧x.cE∈s.2) then(8:Int) else 0)=0;rw[zC];have:=h2 v (vF ..);rw[hc] at this;simpa using this
   have hfn:∀ (m k:Nat),k+m≤8→rO (uY x v f s) k m=0:=by
    intro m
    induction m with
    | zero=>intro k _;rfl
    | succ m ih=>
     intro k hk;unfold rO;rw[zF (hall k (by omega))];exact ih (k+1) (by omega)
   exact hfn 8 0 (by omega)
  unfold vP;rw[zF hv];have hn:rS fs v s=(v.nU,tF x s.2):=by
   unfold rS;rw[ac]
  rw[hn];refine D7g (fun a ha=>h a (wW _ ha)) (sP.1 hr).2 (fun a ha=>(sP.1 hr).1 a ha) (fun a ha hp=>?_) (fun a ha b hb=>hap a (wW _ ha) b (wW _ hb));have h3:=h2 a (wW _ ha) hp;have h4:=(sP.1 hr).1 a ha;have h5:=hap a (wW _ ha) v (vF ..) (by omega) hp;unfold tF;split
  ·simp only[zU,zS,not_or];exact⟨h3,by rw[←hc];exact h5⟩
  ·exact h3
theorem UQ {b:BI (d+1)}(hk:k≤12)(h:∀ v∈BO.vals b,∃ x,RtV fs (fun name s=>yT g d (k+1) (wL g name) s) x v)(hr:(BO.vals b).Pairwise fun a b=>a.nU<b.nU)(hp:∀ v∈BO.vals b,0<v.nU)(ha:oL fs (BO.vals b))(hu:∀ r∈BO.unk b,vC fs r=0):yT g (d+1) k fs b=0:=by
 rw[mO,zC (by omega),zF (D7g h hr hp (fun v hv _=>by simp) ha)];exact jC hu
theorem TN {b:BI (d+1)}(h:yT g (d+1) k fs b=0):∀ v∈BO.vals b,0<v.nU:=by
 rw[mO] at h;split at h
 ·cases h
 split at h
 ·rename_i h1 h2;exact(cG h2).2.1
 rename_i h1 h2;exact absurd h h2
theorem RtV.imp {f':List UInt8→β→Int}{v:VI β}(h:RtV fs f x v)(hf:∀ s∈v.subs,f x.type s=0→f' x.type s=0):RtV fs f' x v:=⟨h.fld,h.others,h.misc,h.without,h.bits,h.bytes,fun s hs=>hf s hs (h.subs s hs)⟩
theorem fY {g:GI}:∀ (n:Nat) (k k':Int) (fs:List FI) (b:BI n),k'+(n:Int)≤13→yT g n k fs b=0→yT g n k' fs b=0
 | 0,_,_,_,b,_,_=>nomatch (b:Empty)
 | n+1,k,k',fs,b,hk,h=>by
  obtain⟨_,hr,hu⟩:=pU h
  refine UQ (by omega) (fun v hv=>?_) hr.rise (TN h) (cD hr.apart) hu
  obtain⟨x,hx⟩:=hr.each v hv
  exact⟨x,hx.imp fun s hs h0=>fY n (k+1) (k'+1) _ s (by omega) h0⟩
theorem B9d {how:Int}(h5:how=5):∀ {f:Nat}{l:List UInt8}{acc:List Nat},(∀ n∈acc,n<4294967296)→∀ n∈(tE how f l acc).1,n<4294967296
 | 0,_,acc,h,n,hn=>h n hn
 | f+1,l,acc,h,n,hn=>by
  unfold tE at hn
  split at hn
  ·exact h n hn
  ·split at hn
   ·cases hn
   ·rename_i h1 h2
    refine B9d h5 (fun q hq=>?_) n hn
    rcases zU.1 hq with hq|hq
    ·exact h q hq
    ·rw[zS.1 hq]
     exact(B1u (l:=l) (how:=how) (A:=(vD l how).1) (B:=(vD l how).2.1) (by rw[←Decidable.not_not.1 h2])).2 h5
structure TldRt {β:Type}(f:List UInt8→β→Int) (x:FI) (v:VI β):Prop where
 num:v.nU=x.nU
 others:xG x v=false
 bits:∀ n∈v.bits,yU x.kind n=0
 bytes:∀ l∈v.bytes,wN x.kind l=0
 subs:∀ s∈v.subs,f x.type s=0
 one:x.many=false→yS v=1
theorem D1x {rd:List UInt8→List UInt8→Except Int (BI n)}{f:List UInt8→BI n→Int}{v:VI (BI n)}(hk:1≤x.kind∧x.kind≤10)(hw:yW r.nU r.how r.bits r.bytes.length=0)(ah:x.kind=10→∀ l s,rd x.type l = .ok s→f x.type s=0)(h:uT rd x r = .ok v):TldRt f x v:=by
 have hl:=C7b hw;unfold uT at h;by_cases h2:yI x.kind≠2
 ·rw[zF h2] at h;split at h
  ·rename_i h0;obtain rfl:=Except.ok.inj h;have ag:¬ (x.kind=8∨x.kind=9):=fun e=>h2 (C8p e)
   have h10:¬ x.kind=10:=fun e=>h2 (by rw[e];rfl)
   have hs:x.kind=7→yI x.kind=5:=fun e=>by rw[e];rfl
   have ac:(∀ q∈(tnN x r).1,yU x.kind q=0)∧(x.many=false→(tnN x r).1.length=1):=by
    unfold tnN at h0 ⊢;split
    ·rename_i he;refine⟨fun q hq=>?_,fun _=>rfl⟩;rw[zS.1 hq];refine B7i hk.1 (by omega) fun h7=>?_
     have h5:=he.trans (hs h7);have:¬ (r.how=5∧r.bits / 4294967296≠0):=fun hh=>by
      unfold yW at hw;split at hw
      ·cases hw
      split at hw
      ·cases hw
      split at hw
      ·cases hw
      first
       | cases hw
       | (rw[zF hh] at hw;cases hw)
     omega
    split
    ·rename_i he hm;refine⟨fun q hq=>?_,fun e=>by rw[hm.2] at e;cases e⟩;obtain⟨p,hp,rfl⟩:=vT.1 hq;exact B7i hk.1 (by omega) fun h7=>B9d (hs h7) (fun q hq=>by cases hq) p hp
    rename_i he hm;rw[zC he,zC hm] at h0;cases h0
   refine⟨rfl,?_,ac.1,fun l hl=>(xP hl).elim,fun s hs=>(xP hs).elim,fun hm=>?_⟩
   ·unfold xG;rw[zC ag,zC h10];rfl
   have:=ac.2 hm;unfold yS;simp only[rH];omega
  cases h
 rw[zC h2] at h;have h2:=Decidable.not_not.1 h2;split at h
 ·cases h
 split at h
 ·rename_i h10;split at h
  ·cases h
  rename_i s hs;obtain rfl:=Except.ok.inj h;refine⟨rfl,?_,fun l hl=>(xP hl).elim,fun l hl=>(xP hl).elim,fun t ht=>?_,fun _=>rfl⟩
  ·unfold xG;rw[zC (by omega),zF h10];rfl
  rw[zS.1 ht];exact ah h10 _ _ hs
 rename_i h10;split at h
 ·cases h
 rename_i hv;obtain rfl:=Except.ok.inj h;refine⟨rfl,?_,fun l hl=>(xP hl).elim,fun l hl'=>?_,fun l hl=>(xP hl).elim,fun _=>rfl⟩
 ·unfold xG;rw[zF (D3x h2 h10)];rfl
 rw[zS.1 hl'];unfold wN;rw[zC (by omega),zC hv]
theorem C1q {β:Type}{fs:List FI}:∀ {l:List (VI β)},(l.Pairwise fun a b=>a.nU<b.nU)→oL fs l→l.Pairwise fun a b=>wU fs a.nU≤0∨wU fs a.nU≠wU fs b.nU
 | [],_,_=>.nil
 | a::l,hr,ha=>by
  refine .cons (fun b hb=>?_) (C1q (sP.1 hr).2 fun c hc d hd=>ha c (wW _ hc) d (wW _ hd))
  have:=(sP.1 hr).1 b hb
  by_cases h:wU fs a.nU≤0
  ·exact .inl h
  ·exact .inr (ha a (vF ..) b (wW _ hb) (by omega) (by omega))
theorem D0f (hx:fs.find? (isF y.nU)=some x)(h:oL fs l):oL fs (putN fs x l y):=by
 intro a ha b hb hne hp;have ac:∀ c∈putN fs x l y,c=y∨(c∈l∧uX fs x c.nU=false):=fun c hc=>by
  unfold putN at hc;split at hc
  ·exact .inr ⟨(sC.1 hc).1,by simpa using (sC.1 hc).2⟩
  rcases zU.1 hc with hc|hc
  ·rcases zU.1 hc with hc|hc
   ·have:=sC.1 (lX hc);exact .inr ⟨this.1,by simpa using this.2⟩
   exact .inl (zS.1 hc)
  have:=sC.1 (eL hc);exact .inr ⟨this.1,by simpa using this.2⟩
 rcases ac a ha with rfl|⟨ha,hoa⟩
 ·rcases ac b hb with rfl|⟨hb,hob⟩
  ·exact absurd rfl hne
  rw[fP hx (fun e=>hne e.symm)] at hob;intro e;unfold ouB at hob;exact(of_decide_eq_false hob) ⟨hp,e.symm⟩
 rcases ac b hb with rfl|⟨hb,hob⟩
 ·rw[fP hx hne] at hoa;intro e;unfold ouB at hoa;exact(of_decide_eq_false hoa) ⟨by omega,e⟩
 exact h a ha b hb hne hp
theorem D9y (hx:fs.find? (isF y.nU)=some x)(hl:RtL fs f l)(h:xQ x y=false→RtV fs f x y):RtL fs f (putN fs x l y):=by
 have hr:=UG hx hl.rise;refine⟨fun a ha=>?_,hr,C1q hr (D0f hx (cD hl.apart))⟩;cases hw:xQ x y with
 | true=>
  unfold putN at ha;rw[zF hw] at ha;exact hl.each a (sC.1 ha).1
 | false=>
 rcases pD ha with rfl|ha
 ·exact⟨x,h hw⟩
 exact hl.each a ha
structure RdSt {n:Nat}(fs:List FI) (f:List UInt8→BI n→Int) (b:BO (BI n)):Prop where
 rt:RtL fs f b.vals
 pos:∀ v∈b.vals,0<v.nU
theorem D2l (au:(yB g).1=0)(hm:m∈g.mG)(bc:k+(n:Int)≤13){b b':BO (BI n)}{v:VI (BI n)}(hx:m.fD.find? (isF x.nU)=some x)(hb:RdSt m.fD (fun name s=>yT g n k (wL g name) s) b)(hv:TldRt (fun name s=>yT g n k (wL g name) s) x v)(h:tD g n m.fD x b v = .ok b'):RdSt m.fD (fun name s=>yT g n k (wL g name) s) b':=by
 have ag:m.fD.find? (isF v.nU)=some x:=by rw[hv.num];exact hx
 have bg:=(jG au hm (xL hx)).2.1;have hput:∀ y:VI (BI n),y.nU=x.nU→(xQ x y=false→RtV m.fD (fun name s=>yT g n k (wL g name) s) x y)→RdSt m.fD (fun name s=>yT g n k (wL g name) s) (⟨putN m.fD x b.vals y,b.unk⟩:BO (BI n)):=fun y hy bk=>by
  refine⟨D9y (by rw[hy];exact hx) hb.rt bk,fun a ha=>?_⟩;rcases pD ha with rfl|ha
  ·rw[hy];omega
  exact hb.pos a ha
 unfold tD at h;split at h
 ·obtain rfl:=Except.ok.inj h;exact hb
 rename_i h0;cases hf:b.vals.find? (isV v.nU) with
 | none=>
  rw[hf] at h;dsimp only at h;split at h
  ·cases h
  rename_i h60;obtain rfl:=Except.ok.inj h;refine hput v hv.num fun hw=>⟨ag,hv.others,?_,hw,hv.bits,hv.bytes,hv.subs⟩
  unfold vK;cases hmx:x.many with
  | true=>simp;omega
  | false=>have:=hv.one hmx;simp;omega
 | some u=>
 rw[hf] at h;dsimp only at h;obtain⟨xu,hu,av⟩:=kP hb.rt hf;obtain rfl:xu=x:=by rw[ag] at av;exact(Option.some.inj av).symm
 have bh:=kV hf;obtain⟨m1,bl,mm⟩:=dX hu.misc;cases hme:pH g n xu u v with
 | error E=>rw[hme] at h;cases h
 | ok v'=>
 rw[hme] at h;dsimp only at h;split at h
 ·cases h
 rename_i h60;obtain rfl:=Except.ok.inj h;have e':=VQ hme;have aj:v'.nU=v.nU:=by rw[e'];exact qH bh
 refine hput v' (by rw[aj,hv.num]) fun hw=>?_
 cases hmx:xu.many with
 | true=>
  have e2:v'=aV u v:=by rw[e',TH hmx]
  subst e2;rw[C2k] at h60;refine⟨by rw[aj];exact ag,?_,?_,hw,fun q hq=>?_,fun q hq=>?_,fun q hq=>?_⟩
  ·have:=YV (J:=jnB g.mG n) (ms:=g.mG) hu.others hv.others (fun e=>by rw[hmx] at e;cases e);rw[TH hmx] at this;exact this
  ·unfold vK;rw[C2k,hmx];simp;omega
  ·rcases zU.1 hq with hq|hq
   ·exact hu.bits q hq
   exact hv.bits q hq
  ·rcases zU.1 hq with hq|hq
   ·exact hu.bytes q hq
   exact hv.bytes q hq
  rcases zU.1 hq with hq|hq
  ·exact hu.subs q hq
  exact hv.subs q hq
 | false=>
 by_cases h10:xu.kind=10
 ·obtain⟨M,hM⟩:=sY au m hm xu (xL hx) h10;have ah:g.mG.find? (isN xu.type)=some M:=hM;obtain⟨s,hs⟩:=kX hu.others hu.misc hmx h10;obtain⟨t,ht⟩:∃ t,v.subs = [t]:=by
   have h1:=hv.one hmx;obtain⟨q1,q2⟩:=iO hv.others h10;unfold yS at h1;rw[q1,q2] at h1;exact jR.1 (by simpa using h1)
  obtain⟨d,rfl⟩:∃ d,n=d+1:=by
   cases n with
   | zero=>exact nomatch (s:Empty)
   | succ d=>exact⟨d,rfl⟩
  have ac:sI g d (nG g xu.type) s t=0:=by
   rw[jD,zF ⟨hmx,h10⟩,hs,ht] at hme;dsimp only at hme;split at hme
   ·assumption
   cases hme
  obtain⟨j1,j2,j3⟩:=C9p ah;have ba:wD g d (nG g xu.type) (jnB g.mG (d+1) M s t)=0:=by
   unfold sI at ac;split at ac
   ·rename_i hne;exact absurd ac hne
   rw[j1] at ac;exact ac
  obtain⟨_,_,_,M2,ak,aw⟩:=TR ba;rw[j1] at ak;obtain rfl:=Option.some.inj ak;have e2:v'=⟨u.nU,u.bits,u.bytes,[jnB g.mG (d+1) M s t]⟩:=by
   rw[e'];unfold zX;rw[hmx,zC (by simp),zF h10,ah,hs,ht]
  obtain⟨q1,q2⟩:=iO hu.others h10;rw[q1,q2] at e2;subst e2;refine⟨by rw[aj];exact ag,?_,?_,hw,fun q hq=>(xP hq).elim,fun q hq=>(xP hq).elim,fun q hq=>?_⟩
  ·unfold xG;rw[zC (by omega),zF h10];rfl
  ·unfold vK yS;rw[hmx];rfl
  rw[zS.1 hq];show yT g (d+1) k (wL g xu.type) (jnB g.mG (d+1) M s t)=0;rw[mN ah];exact fY (d+1) 1 k M.fD _ bc aw
 have e2:v'=v:=by rw[e'];unfold zX;rw[hmx,zC (by simp),zC h10]
 subst e2;refine⟨ag,hv.others,?_,hw,hv.bits,hv.bytes,hv.subs⟩;have h1:=hv.one hmx;unfold vK;simp;omega
theorem E0f (hw:yW r.nU r.how r.bits r.bytes.length=0)(hf:fs.find? (isF r.nU)=none):vC fs r=0:=by
 unfold vC;rw[zF hw,zC];unfold yK;rw[bQ.2 (fun y hy=>by
  have:=oE.1 hf y hy;simpa [isF] using this)]
 simp
theorem TE {g:GI}(ac:(yB g).1=0){m:MI}(hm:m∈g.mG){n:Nat}{k:Int}(ag:k+(n:Int)≤13){rd:List UInt8→List UInt8→Except Int (BI n)}(ah:∀ x∈m.fD,x.kind=10→∀ l s,rd x.type l = .ok s→yT g n k (wL g x.type) s=0):∀ (rs:List RI) (b:BO (BI n)) (un:List RI) (s:BO (BI n)),(∀ r∈rs,yW r.nU r.how r.bits r.bytes.length=0)→RdSt m.fD (fun name s=>yT g n k (wL g name) s) b→(∀ r∈un,vC m.fD r=0)→tN g rd m.fD rs b un = .ok s→
  RdSt m.fD (fun name s=>yT g n k (wL g name) s) s∧∀ r∈s.unk,vC m.fD r=0
 | [],b,un,s,_,hb,hu,h=>by
  have e:=Except.ok.inj h
  subst e
  exact⟨⟨hb.rt,hb.pos⟩,hu⟩
 | r::rs,b,un,s,hw,hb,hu,h=>by
  have hr:=hw r (vF ..)
  cases hf:m.fD.find? (isF r.nU) with
  | none=>
   rw[XC hf] at h
   refine TE ac hm ag ah rs b _ s (fun q hq=>hw q (wW _ hq)) hb (fun q hq=>?_) h
   rcases zU.1 hq with hq|hq
   ·exact hu q hq
   ·rw[zS.1 hq]
    exact E0f hr hf
  | some x=>
   have aj:=xL hf
   cases ht:uT rd x r with
   | error E=>rw[YY hf ht] at h;cases h
   | ok v=>
    cases hwn:tD g n m.fD x b v with
    | error E=>rw[YX hf ht hwn] at h;cases h
    | ok b'=>
     rw[cH hf ht hwn] at h
     have ak:TldRt (fun name s=>yT g n k (wL g name) s) x v:=D1x (jG ac hm aj).1 hr (fun h10 l s=>ah x aj h10 l s) ht
     exact TE ac hm ag ah rs b' un s (fun q hq=>hw q (wW _ hq)) (D2l ac hm ag (by rw[qI hf];exact hf) hb ak hwn) hu h
theorem B4s {g:GI}(ag:(yB g).1=0):∀ (n:Nat) (k:Int) (m:MI) (l:List UInt8) (y:BI n),k+(n:Int)≤13→m∈g.mG→vR g n m l = .ok y→yT g n k m.fD y=0
 | 0,_,_,_,y,_,_,_=>nomatch (y:Empty)
 | n+1,k,m,l,y,hk,hm,h=>by
  obtain⟨rs,A,hp,hgo⟩:=D0l h
  obtain⟨h1,h2⟩:=TE ag hm (k:=k+1) (by omega) (fun x hx h10 l s hs=>by
   obtain⟨M,hM⟩:=sY ag m hm x hx h10
   have ac:g.mG.find? (isN x.type)=some M:=hM
   rw[mN ac]
   rw[C9n ac] at hs
   exact B4s ag n (k+1) M l s (by omega) (xL ac) hs) (rs.map xR) ⟨[],[]⟩ [] y (fun r hr=>by
    obtain⟨q,hq,rfl⟩:=vT.1 hr
    exact B2p hp q hq) ⟨⟨(fun v hv=>by cases hv),.nil,.nil⟩,(fun v hv=>by cases hv)⟩ (fun r hr=>by cases hr) hgo
  exact UQ (by omega) h1.rt.each h1.rt.rise h1.pos (cD h1.rt.apart) h2
end L
end Go.Proofs.YthcomdofaaeihaaGreatDoor
