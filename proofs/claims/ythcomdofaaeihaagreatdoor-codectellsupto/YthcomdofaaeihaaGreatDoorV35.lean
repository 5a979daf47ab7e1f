import Derived.Test.YthcomdofaaeihaaGreatDoorV34
import Derived.Test.YthcomdofaaeihaaGreatDoorV20
set_option maxHeartbeats 32000000
set_option maxRecDepth 100000
set_option linter.unusedVariables false
namespace Go.Proofs.YthcomdofaaeihaaGreatDoor
theorem D0r {l:List UInt8}{r:Rcd}{n:Nat}(h:uC l=(r,n,0)):r.bytes.length+1≤n:=by
 obtain⟨A,B,C,D,hT⟩:∃ A B C D,tJ l=(A,B,C,D):=⟨_,_,_,_,rfl⟩
 obtain⟨t1,t2,t3,t4,t5,t6⟩:=ZN hT;rw[uC,hT] at h;dsimp only at h;split at h
 ·obtain⟨_,_,h3⟩:=xJ h;omega
 rename_i h0;obtain⟨c1,c2,c3⟩:=t6 (by omega);unfold qG at h;split at h
 ·obtain⟨S,T,U,hs⟩:∃ S T U,rW (l.drop C)=(S,T,U):=⟨_,_,_,rfl⟩
  obtain⟨s1,s2,s3,s4,s5⟩:=YJ hs;rw[hs] at h;dsimp only at h;split at h
  ·obtain⟨_,_,h3⟩:=xJ h;omega
  obtain⟨rfl,rfl,_⟩:=xJ h;dsimp only;omega
 split at h
 ·obtain⟨_,_,h3⟩:=xJ h;omega
 obtain⟨rfl,rfl,_⟩:=xJ h;simp only[rH];omega
namespace L
open Go.RowKit
variable{g:GI}{rs un:List RI}{r:RI}{x:FI}{E:Int}{m:MI}{d i n A:Nat}{l:List UInt8}
def xR (r:Rcd):RI:=⟨r.num,r.how,r.bits,r.bytes⟩
def rsW (rs:List Rcd):Nat:=(rs.map fun r=>r.bytes.length+1).sum
def fK (r:Rcd):Prop:=r.wf∧r.bytes.length≤4000
theorem VO (a b:List Rcd):rsW (a++b)=rsW a+rsW b:=by simp[rsW]
theorem B8j:∀ (f at_:Nat) (acc:List Rcd) (l:List UInt8) (rs:List Rcd) (A:Nat),l.length≤4000→(∀ r∈acc,fK r)→rM f at_ acc l=(rs,0,A)→rsW rs≤rsW acc+l.length∧∀ r∈rs,fK r
 | 0,_,acc,l,rs,A,hl,ha,h=>by
  obtain⟨rfl,_,_⟩:=xJ (show(acc,0,0)=(rs,0,A) from h)
  exact⟨by omega,ha⟩
 | f+1,at_,acc,l,rs,A,hl,ha,h=>by
  by_cases h0:l.length=0
  ·rw[cW h0] at h
   obtain⟨rfl,_,_⟩:=xJ h
   exact⟨by omega,ha⟩
  ·obtain⟨r,n,E,hr⟩:∃ r n E,uC l=(r,n,E):=⟨_,_,_,rfl⟩
   obtain⟨b1,b2,b3,b4⟩:=UE hr
   by_cases hE:E=0
   ·subst hE
    rw[cU h0 hr] at h
    have ac:=D0r hr
    obtain⟨h1,h2⟩:=B8j f _ _ _ rs A (by rw[vE];omega) (fun q hq=>by
     rcases zU.1 hq with hq|hq
     ·exact ha q hq
     ·rw[zS.1 hq]
      exact⟨b4,by omega⟩) h
    rw[VO,vE] at h1
    have:rsW [r]=r.bytes.length+1:=by simp[rsW]
    exact⟨by omega,h2⟩
   ·rw[YZ h0 hr hE] at h
    obtain⟨_,h2,_⟩:=xJ h
    omega
theorem UI {rs:List Rcd}(h:uL l=(rs,0,A)):rsW rs≤l.length∧(∀ r∈rs,fK r)∧l.length≤4000:=by
 unfold uL at h;split at h
 ·obtain⟨_,h2,_⟩:=xJ h;omega
 obtain⟨h1,h2⟩:=B8j _ _ _ _ _ _ (by omega) (fun r hr=>by cases hr) h;exact⟨by simpa [rsW] using h1,h2,by omega⟩
def msgD (g:GI)(t:List UInt8):MI:=(g.mG.find? (isN t)).getD ⟨[],[],[]⟩
def tN {n:Nat}(g:GI)(rd:List UInt8→List UInt8→Except Int (BI n))(fs:List FI):List RI→BO (BI n)→List RI→Except Int (BO (BI n))
 | [],b,un=>.ok ⟨b.vals,un⟩
 | r::rs,b,un=>
  match fs.find? (isF r.nU) with
  | none=>tN g rd fs rs b (un++[r])
  | some x=>
   match uT rd x r with
   | .error E=>.error E
   | .ok v=>
    match tD g n fs x b v with
    | .error E=>.error E
    | .ok b'=>tN g rd fs rs b' un
def vR (g:GI):(n:Nat)→MI→List UInt8→Except Int (BI n)
 | 0=>fun _ _=>.error 10
 | n+1=>fun m l=>if (uL l).2.1≠0 then .error (((uL l).2.1:Nat):Int) else tN g (fun t l=>vR g n (msgD g t) l) m.fD ((uL l).1.map xR) ⟨[],[]⟩ []
theorem XC {rd:List UInt8→List UInt8→Except Int (BI n)}{fs:List FI}{b:BO (BI n)}(h:fs.find? (isF r.nU)=none):tN g rd fs (r::rs) b un=tN g rd fs rs b (un++[r]):=by
 rw[tN,h]
theorem SF {rd:List UInt8→List UInt8→Except Int (BI n)}{fs:List FI}{b:BO (BI n)}(h:fs.find? (isF r.nU)=some x):tN g rd fs (r::rs) b un=match uT rd x r with
   | .error E=>.error E
   | .ok v=>
    match tD g n fs x b v with
    | .error E=>.error E
    | .ok b'=>tN g rd fs rs b' un:=by
 rw[tN,h]
theorem YY {rd:List UInt8→List UInt8→Except Int (BI n)}{fs:List FI}{b:BO (BI n)}(h:fs.find? (isF r.nU)=some x)(ht:uT rd x r = .error E):tN g rd fs (r::rs) b un = .error E:=by
 rw[SF h,ht]
theorem YX {rd:List UInt8→List UInt8→Except Int (BI n)}{fs:List FI}{b:BO (BI n)}{v:VI (BI n)}(h:fs.find? (isF r.nU)=some x)(ht:uT rd x r = .ok v)(hw:tD g n fs x b v = .error E):tN g rd fs (r::rs) b un = .error E:=by
 rw[SF h,ht];dsimp only;rw[hw]
theorem cH {rd:List UInt8→List UInt8→Except Int (BI n)}{fs:List FI}{b b':BO (BI n)}{v:VI (BI n)}(h:fs.find? (isF r.nU)=some x)(ht:uT rd x r = .ok v)(hw:tD g n fs x b v = .ok b'):tN g rd fs (r::rs) b un=tN g rd fs rs b' un:=by
 rw[SF h,ht];dsimp only;rw[hw]
structure RSt {n:Nat}(fs:List FI) (b:BO (BI n)) (k:Nat):Prop where
 unk:b.unk = []
 qk:∀ v∈b.vals,VQk (BQk n) v
 sh:∀ v∈b.vals,∀ x,fs.find? (isF v.nU)=some x→x.many=false→x.kind=10→v.bits = []∧v.bytes = []∧∃ s,v.subs = [s]
 w:(b.vals.map (jW (jWB n))).sum≤k
def dF {n:Nat}(rd:List UInt8→List UInt8→Except Int (BI n)):Prop:=∀ t l s,l.length≤4000→rd t l = .ok s→BQk n s∧jWB n s≤2*l.length
structure TldOk {n:Nat}(x:FI) (k:Nat) (v:VI (BI n)):Prop where
 num:v.nU=x.nU
 qk:VQk (BQk n) v
 w:jW (jWB n) v≤2*k
 sh:x.kind=10→v.bits = []∧v.bytes = []∧∃ s,v.subs = [s]
theorem D1w (k:Int)(h:n≤18446744073709551615):xN k n<18446744073709551616:=by
 unfold xN;split
 ·rw[IntKind.wrap_u64];omega
 split
 ·omega
 split
 ·split <;> omega
 omega
theorem VH {rd:List UInt8→List UInt8→Except Int (BI n)}(aj:dF rd)(hx:I64 x.nU)(hl:r.bytes.length≤4000)(hb:r.bits≤18446744073709551615){v:VI (BI n)}(h:uT rd x r = .ok v):TldOk x (r.bytes.length+1) v:=by
 unfold uT at h;have ak:4000≤reachBytes:=by unfold reachBytes;omega
 split at h
 ·rename_i hk;have ac:x.kind≠10:=fun e=>hk (by rw[e];rfl)
  split at h
  ·rename_i h0;cases h
   have ag:(tnN x r).1.length≤r.bytes.length+1∧∀ m∈(tnN x r).1,m<18446744073709551616:=by
    unfold tnN;split
    ·refine⟨by simp,fun m hm=>?_⟩;rw[zS.1 hm];exact D1w _ hb
    split
    ·refine⟨?_,fun m hm=>?_⟩
     ·have:=WU (how:=yI x.kind) (f:=r.bytes.length) (l:=r.bytes) (acc:=[]);simp only[yX];show(tE (yI x.kind) r.bytes.length r.bytes []).1.length≤_;simp only[rH] at this;omega
     obtain⟨m',ah,rfl⟩:=vT.1 hm;exact D1w _ (WV (how:=yI x.kind) (f:=r.bytes.length) (l:=r.bytes) (acc:=[]) (fun q hq=>by cases hq) m' ah)
    exact⟨by simp,fun m hm=>by cases hm⟩
   exact⟨rfl,⟨hx,ag.2,fun l hl=>(xP hl).elim,fun s hs=>(xP hs).elim⟩,by unfold jW;simp only[rH,tA,oD];omega,fun e=>absurd e ac⟩
  cases h
 split at h
 ·cases h
 split at h
 ·rename_i ac;split at h
  ·cases h
  rename_i s hs;cases h
  obtain⟨q1,q2⟩:=aj _ _ _ hl hs;refine⟨rfl,⟨hx,fun m hm=>(xP hm).elim,fun m hm=>(xP hm).elim,fun t ht=>?_⟩,?_,fun _=>⟨rfl,rfl,s,rfl⟩⟩
  ·rw[zS.1 ht];exact q1
  unfold jW;simp only[rH,wS,tA,tZ,oD];omega
 rename_i ac;split at h
 ·cases h
 cases h
 refine⟨rfl,⟨hx,fun m hm=>(xP hm).elim,fun m hm=>?_,fun t ht=>(xP ht).elim⟩,?_,fun e=>absurd e ac⟩
 ·rw[zS.1 hm];omega
 unfold jW;simp only[sQ,rH,tA,oD];omega
theorem B4y {fs:List FI}{b b':BO (BI d)}{v:VI (BI d)}(hx:fs.find? (isF v.nU)=some x)(h:tD g d fs x b v = .ok b'):b'=b∨b'=⟨wC (jnB g.mG d) g.mG fs b.vals v,b.unk⟩:=by
 unfold tD at h;split at h
 ·exact .inl (Except.ok.inj h).symm
 refine .inr ?_;unfold wC;rw[hx];dsimp only;cases hf:b.vals.find? (isV v.nU) with
 | none=>
  rw[hf] at h;dsimp only at h ⊢;split at h
  ·cases h
  exact(Except.ok.inj h).symm
 | some u=>
 rw[hf] at h;dsimp only at h ⊢;split at h
 ·cases h
 rename_i v' hv';split at h
 ·cases h
 rw[←VQ hv'];exact(Except.ok.inj h).symm
theorem VF {k q:Nat}{fs:List FI}{b b':BO (BI d)}{v:VI (BI d)}(hx:fs.find? (isF v.nU)=some x)(hb:RSt fs b k)(hv:TldOk x q v)(hm:x.kind=10→∃ M,g.mG.find? (isN x.type)=some M)(h:tD g d fs x b v = .ok b'):RSt fs b' (k+2*q):=by
 rcases B4y hx h with rfl|rfl
 ·exact⟨hb.unk,hb.qk,hb.sh,by have:=hb.w;omega⟩
 refine⟨hb.unk,D1o (fun M s t hs ht=>ZS g.mG d M s t hs ht) hb.qk hv.qk,fun a ha y hy ag ac=>?_,yN (D7d (fun M s t=>iL g.mG d M s t) g.mG fs b.vals v) (Nat.add_le_add hb.w hv.w)⟩;have ha':a∈wC (jnB g.mG d) g.mG fs b.vals v:=ha;unfold wC at ha';rw[hx] at ha';dsimp only at ha';cases hf:b.vals.find? (isV v.nU) with
 | none=>
  rw[hf] at ha';rcases pD ha' with rfl|h
  ·rw[hx] at hy;cases hy
   exact hv.sh ac
  exact hb.sh a h y hy ag ac
 | some u=>
 rw[hf] at ha';rcases pD ha' with rfl|h
 ·have ah:u.nU=v.nU:=by
   have:=rN hf;simpa [isV] using this
  rw[qH ah,hx] at hy;cases hy
  obtain⟨M,hM⟩:=hm ac;obtain⟨u1,u2,s,u3⟩:=hb.sh u (xL hf) x (by rw[ah];exact hx) ag ac;obtain⟨v1,v2,t,v3⟩:=hv.sh ac;unfold zX;rw[zC (by rw[ag];simp),zF ac,hM,u3,v3];exact⟨u1,u2,_,rfl⟩
 exact hb.sh a h y hy ag ac
structure FGd (g:GI):Prop where
 num:∀ M∈g.mG,∀ x∈M.fD,I64 x.nU
 sub:∀ M∈g.mG,∀ x∈M.fD,x.kind=10→∃ N,g.mG.find? (isN x.type)=some N
def aX (g:GI)(fs:List FI):Prop:=∀ x∈fs,I64 x.nU∧(x.kind=10→∃ N,g.mG.find? (isN x.type)=some N)
theorem D7b {r:Rcd}(h:fK r):kU (xR r):=⟨⟨h.1.1,h.1.2.1⟩,⟨h.1.2.2.1,h.1.2.2.2.1⟩,Nat.lt_succ_of_le h.1.2.2.2.2,by have:=h.2;show r.bytes.length*1≤reachBytes;unfold reachBytes;omega⟩
theorem TV {g:GI}{n:Nat}{rd:List UInt8→List UInt8→Except Int (BI n)}(ag:dF rd){fs:List FI}(ac:aX g fs):∀ (rs:List Rcd) (b:BO (BI n)) (un:List RI) (k:Nat) (s:BO (BI n)),(∀ r∈rs,fK r)→(∀ r∈un,kU r)→RSt fs b k→tN g rd fs (rs.map xR) b un = .ok s→BQk (n+1) s∧jWB (n+1) s≤k+un.length+2*rsW rs
 | [],b,un,k,s,_,hu,hb,h=>by
  have e:=Except.ok.inj h
  subst e
  refine⟨⟨hb.qk,hu⟩,?_⟩
  show(b.vals.map (jW (jWB n))).sum+un.length≤_
  have:=hb.w
  omega
 | r::rs,b,un,k,s,hr,hu,hb,h=>by
  have hr1:=hr r (vF ..)
  have e1:rsW (r::rs)=r.bytes.length+1+rsW rs:=by simp[rsW]
  rw[wS] at h
  cases hf:fs.find? (isF (xR r).nU) with
  | none=>
   rw[XC hf] at h
   obtain⟨h1,h2⟩:=TV ag ac rs b (un++[xR r]) k s (fun q hq=>hr q (wW _ hq)) (fun q hq=>by
    rcases zU.1 hq with hq|hq
    ·exact hu q hq
    ·rw[zS.1 hq];exact D7b hr1) hb h
   simp only[yQ,sQ,rH] at h2
   exact⟨h1,by omega⟩
  | some x=>
   have aj:=xL hf
   have ak:=qI hf
   cases ht:uT rd x (xR r) with
   | error E=>rw[YY hf ht] at h;cases h
   | ok v=>
    have ah:=VH ag (ac x aj).1 (show(xR r).bytes.length≤4000 from hr1.2) (show(xR r).bits≤18446744073709551615 from hr1.1.2.2.2.2) ht
    cases hw:tD g n fs x b v with
    | error E=>rw[YX hf ht hw] at h;cases h
    | ok b'=>
     rw[cH hf ht hw] at h
     obtain⟨h1,h2⟩:=TV ag ac rs b' un _ s (fun q hq=>hr q (wW _ hq)) hu (VF (by rw[ah.num,ak];exact hf) hb ah (ac x aj).2 hw) h
     have e2:(xR r).bytes.length=r.bytes.length:=rfl
     exact⟨h1,by omega⟩
theorem FGd.fs (h:FGd g){M:MI}(hM:M∈g.mG):aX g M.fD:=fun x hx=>⟨h.num M hM x hx,h.sub M hM x hx⟩
theorem FGd.msgD (h:FGd g)(t:List UInt8):aX g (msgD g t).fD:=by
 unfold L.msgD;cases hf:g.mG.find? (isN t) with
 | none=>exact fun x hx=>(xP hx).elim
 | some M=>exact h.fs (xL hf)
theorem YM {rs:List Rcd}{E:Nat}(hp:uL l=(rs,E,A))(hE:E≠0):vR g (n+1) m l = .error (E:Int):=by
 show(if (uL l).2.1≠0 then Except.error (((uL l).2.1:Nat):Int) else tN g (fun t l=>vR g n (L.msgD g t) l) m.fD ((uL l).1.map xR) ⟨[],[]⟩ [])=_;rw[hp,zF hE];rfl
theorem ZW {rs:List Rcd}(hp:uL l=(rs,0,A)):vR g (n+1) m l=tN g (fun t l=>vR g n (L.msgD g t) l) m.fD (rs.map xR) ⟨[],[]⟩ []:=by
 show(if (uL l).2.1≠0 then Except.error (((uL l).2.1:Nat):Int) else tN g (fun t l=>vR g n (L.msgD g t) l) m.fD ((uL l).1.map xR) ⟨[],[]⟩ [])=_;rw[hp,zC (by simp)]
theorem D7a {g:GI}(hg:FGd g):∀ (n:Nat) (m:MI) (l:List UInt8) (s:BI n),aX g m.fD→vR g n m l = .ok s→BQk n s∧jWB n s≤2*l.length
 | 0,_,_,s,_,_=>nomatch (s:Empty)
 | n+1,m,l,s,hm,h=>by
  obtain⟨rs,E,A,hp⟩:∃ rs E A,uL l=(rs,E,A):=⟨_,_,_,rfl⟩
  by_cases hE:E≠0
  ·rw[YM hp hE] at h
   cases h
  ·have hE:E=0:=by omega
   subst hE
   rw[ZW hp] at h
   obtain⟨h1,h2,h3⟩:=UI hp
   obtain⟨q1,q2⟩:=TV (fun t l s _ h=>D7a hg n (L.msgD g t) l s (hg.msgD t) h) hm rs ⟨[],[]⟩ [] 0 s h2 (fun r hr=>(xP hr).elim) ⟨rfl,fun v hv=>(xP hv).elim,fun v hv=>(xP hv).elim,by simp⟩ h
   simp only[rH] at q2
   exact⟨q1,by omega⟩
theorem D0m (hg:FGd g)(n:Nat):dF (fun t l=>vR g n (L.msgD g t) l):=fun t l s _ h=>D7a hg n _ l s (hg.msgD t) h
theorem D5w {β:Type}{J:MI→β→β→β}{ms:List MI}{fs:List FI}{l:List (VI β)}{v a:VI β}(h:a∈wC J ms fs l v):a∈l∨a.nU=v.nU:=by
 unfold wC at h;cases hx:fs.find? (isF v.nU) with
 | none=>rw[hx] at h;exact .inl h
 | some x=>
 rw[hx] at h;cases hu:l.find? (isV v.nU) with
 | none=>
  rw[hu] at h;rcases pD h with rfl|h
  ·exact .inr rfl
  exact .inl h
 | some u=>
 rw[hu] at h;have ac:u.nU=v.nU:=by have:=rN hu;simpa [isV] using this
 rcases pD h with rfl|h
 ·exact .inr (qH ac)
 exact .inl h
structure NjC (g:GI) (N:Nat→MI→List UInt8→Prop):Prop where
 step:∀ {n:Nat}{M:MI}{l:List UInt8}{rs:List Rcd}{A i:Nat}{r:Rcd}{x:FI},N (n+1) M l→M∈g.mG→uL l=(rs,0,A)→rs[i]?=some r→M.fD.find? (isF (xR r).nU)=some x→x.kind=10→N n (L.msgD g x.type) (xR r).bytes∧(x.many=false→iQ g x∨∀ j,j<i→∀ r',rs[j]?=some r'→(xR r').nU≠(xR r).nU)
def NumI {n:Nat}(rs:List Rcd)(i:Nat)(b:BO (BI n)):Prop:=∀ v∈b.vals,∃ j,j<i∧∃ r',rs[j]?=some r'∧(xR r').nU=v.nU
theorem NumI.next {rs:List Rcd}{b:BO (BI n)}(h:NumI rs i b):NumI rs (i+1) b:=fun v hv=>by
 obtain⟨j,hj,h⟩:=h v hv
 exact⟨j,by omega,h⟩
theorem NumI.step {fs:List FI}{rs:List Rcd}{b b':BO (BI n)}(h:NumI rs i b){r:Rcd}(hr:rs[i]?=some r){v:VI (BI n)}(hx:fs.find? (isF v.nU)=some x)(hn:(xR r).nU=v.nU)(hw:tD g n fs x b v = .ok b'):NumI rs (i+1) b':=by
 rcases B4y hx hw with rfl|rfl
 ·exact h.next
 intro a ha;rcases D5w ha with ha|ha
 ·exact h.next a ha
 exact⟨i,by omega,r,hr,by rw[ha];exact hn⟩
end L
end Go.Proofs.YthcomdofaaeihaaGreatDoor
