import Derived.Test.YthcomdofaaeihaaGreatDoorV42
set_option maxHeartbeats 32000000
set_option maxRecDepth 100000
set_option linter.unusedVariables false
namespace Go.Proofs.YthcomdofaaeihaaGreatDoor
namespace L
open Go.RowKit
section
variable {β γ:Type}{u : β→γ}
end
variable{β:Type}{k:Int}{r:RI}{fs:List FI}{m M:MI}{d q n:Nat}{l un:List RI}{g:GI}{x:FI}{w:World}{f:List UInt8→β→Int}{deep:List UInt8→β→List UInt8}{v:VI β}{P:β→Bool}
theorem C6e (ah:(yB g).1=0)(hm:m∈g.mG){deep:List UInt8→β→List UInt8×Int}(hf:∀ t x,(deep t x).1.length≤4000)(hx:RtV m.fD f x v):∀ r∈(uU deep x v).1,yW r.nU r.how r.bits r.bytes.length=0:=by
 obtain⟨_,au,av⟩:=jG ah hm (xL hx.fld);obtain⟨m1,aj,mm⟩:=dX hx.misc;have hz:∀ z:List UInt8,z.length≤4000→yW (vH x.nU z).nU (vH x.nU z).how (vH x.nU z).bits (vH x.nU z).bytes.length=0:=fun z hz=>by
  show yW x.nU 2 0 z.length=0;unfold yW;rw[zC (by decide),zC (by omega),zC (by omega),zC (by omega),zC (by omega),zC (by omega)]
 intro r hr;unfold uU at hr;split at hr
 ·obtain⟨z,hz',rfl⟩:=vT.1 hr;exact hz z ((VK (deep x.type) (hf x.type) v.subs [] (fun z hz=>by cases hz)).1 z hz')
 split at hr
 ·obtain⟨z,hz',rfl⟩:=vT.1 hr;have:=hx.bytes z hz';unfold wN at this;split at this
  ·cases this
  exact hz z (by omega)
 rename_i h10 hh2;split at hr
 ·rw[zS.1 hr];refine hz _ ?_;have:=TX (yI x.kind) (v.bits.map (wH x.kind));rw[yX] at this;unfold yS at aj;omega
 rename_i hmx;rw[zS.1 hr];show yW x.nU (yI x.kind) (wH x.kind (v.bits.headD 0)) 0=0;have ak:=C2c hh2;have ac:¬ (x.kind=8∨x.kind=9):=fun h=>hh2 (C8p h)
 obtain⟨e1,e2⟩:=VN hx.others ac h10;have hsm:yI x.kind=5→wH x.kind (v.bits.headD 0)<4294967296:=fun h5=>by
  cases hb:v.bits with
  | nil=>
   unfold yS at m1;rw[hb,e1,e2] at m1;simp at m1
  | cons a l=>exact C3y (hx.bits a (by rw[hb];simp)) h5
 have ag:¬ vV (yI x.kind)=false:=mQ (by omega);unfold yW;rw[zC ag,zC (by omega),zC (by omega),zC (by rintro⟨h1,h2⟩;have:=hsm h1;omega),zC (by omega),zC (by omega)]
theorem UX {j:Nat}(ac:(yB g).1=0)(hm:g.mG[j]?=some m)(x:BI (d+1)):wD g d (j:Int) x=yT g (d+1) 1 m.fD x:=by
 have hj:=(yG.1 hm).1;unfold wD;rw[zC (by rw[ac];simp),zC (by omega),qU,hm]
def uS (l:List RI):List UInt8:=l.flatMap fun r=>recN r.nU r.how r.bits r.bytes
theorem ZX (a b:List RI):uS (a++b)=uS a++uS b:=by unfold uS;rw[kA]
theorem C7q:∀ (l:List RI) (acc:List UInt8),acc.length≤4000→(∀ r∈l,yW r.nU r.how r.bits r.bytes.length=0)→rL acc l=if (acc++uS l).length≤4000 then(acc++uS l,0) else([],4)
 | [],acc,h,_=>by
  have e:uS [] = []:=rfl
  rw[e,tT,zF h]
  rfl
 | r::l,acc,h,hw=>by
  have e:uS (r::l)=recN r.nU r.how r.bits r.bytes++uS l:=rfl
  rw[UP,zC (by rw[hw r (vF ..)];simp),e,←vY]
  by_cases h2:4000<(acc++recN r.nU r.how r.bits r.bytes).length
  ·rw[zF h2,zC]
   rw[yQ]
   omega
  ·rw[zC h2]
   exact C7q l _ (by omega) fun q hq=>hw q (wW _ hq)
def sV {β:Type}(deep:List UInt8→β→List UInt8)(x:FI)(v:VI β):List RI:=
 if x.kind=10 then v.subs.map (fun s=>vH x.nU (deep x.type s))
 else if yI x.kind=2 then v.bytes.map (vH x.nU)
 else if x.many=true then [vH x.nU (rF (yI x.kind) (v.bits.map (wH x.kind)))]
 else [⟨x.nU,yI x.kind,wH x.kind (v.bits.headD 0),[]⟩]
def D7c {β:Type}(deep:List UInt8→β→List UInt8)(fs:List FI)(b:BO β):List RI:=b.vals.flatMap (fun v=>sV deep (xE fs v.nU) v)++b.unk
def tX (g:GI):(d:Nat)→MI→BI d→List UInt8
 | 0=>fun _ _=>[]
 | d+1=>fun m b=>uS (D7c (fun t x=>tX g d (xI g t) x) m.fD b)
theorem C6c (num:Int)(z:List UInt8):z.length<(recN num 2 0 z).length:=by
 unfold recN;rw[zF rfl,yQ,yQ];have:1≤(ktagN num 2).length:=by
  unfold ktagN;exact UH _
 omega
theorem D8q (h:r∈l):(recN r.nU r.how r.bits r.bytes).length≤(uS l).length:=by
 induction l with
 | nil=>cases h
 | cons a l ih=>
 have e:uS (a::l)=recN a.nU a.how a.bits a.bytes++uS l:=rfl;rw[e,yQ];rcases yY.1 h with rfl|h
 ·omega
 have:=ih h;omega
theorem C2x {β:Type}{deep:List UInt8→β→List UInt8×Int}{deepU:List UInt8→β→List UInt8}{fs:List FI}{f:List UInt8→β→Int}:∀ (l:List (VI β)) (acc:List RI),(∀ v∈l,∃ x,RtV fs f x v)→(∀ v∈l,∀ s∈v.subs,deep (xE fs v.nU).type s=if (deepU (xE fs v.nU).type s).length≤4000 then(deepU (xE fs v.nU).type s,0) else([],4))→
  sK deep fs acc l=(acc++l.flatMap (fun v=>sV deepU (xE fs v.nU) v),0)∨(sK deep fs acc l=([],4)∧∃ r∈l.flatMap (fun v=>sV deepU (xE fs v.nU) v),4000<(recN r.nU r.how r.bits r.bytes).length)
 | [],acc,_,_=>.inl (by simp[sK])
 | v::l,acc,h1,h2=>by
  have ag:∀ (ss:List β) (a:List (List UInt8)),(∀ s∈ss,s∈v.subs)→(xE fs v.nU).kind=10→rD (deep (xE fs v.nU).type) a ss=(a++ss.map (deepU (xE fs v.nU).type),0)∨(rD (deep (xE fs v.nU).type) a ss=([],4)∧∃ s∈ss,4000<(deepU (xE fs v.nU).type s).length):=by
   intro ss
   induction ss with
   | nil=>intro a _ _;exact .inl (by simp[rD])
   | cons s ss ih=>
    intro a ah hk;have hd:=h2 v (vF ..) s (ah s (vF ..));unfold rD;by_cases hl:(deepU (xE fs v.nU).type s).length≤4000
    ·rw[hd,zF hl,zC (by simp)];rcases ih (a++[deepU (xE fs v.nU).type s]) (fun q hq=>ah q (wW _ hq)) hk with h|⟨h,q,hq,hl'⟩
     ·exact .inl (by rw[h];simp)
     ·exact .inr ⟨h,q,wW _ hq,hl'⟩
    ·rw[hd,zC hl,zF (by simp)];exact .inr ⟨rfl,s,vF ..,by omega⟩
  have ac:uU deep (xE fs v.nU) v=(sV deepU (xE fs v.nU) v,0)∨((uU deep (xE fs v.nU) v).2=4∧∃ r∈sV deepU (xE fs v.nU) v,4000<(recN r.nU r.how r.bits r.bytes).length):=by
   unfold uU sV;by_cases hk:(xE fs v.nU).kind=10
   ·rw[zF hk,zF hk];rcases ag v.subs [] (fun _ h=>h) hk with h|⟨h,s,hs,hl⟩
    ·left;rw[h,tH,jQ];rfl
    ·right;rw[h];exact⟨rfl,_,bG hs,Nat.lt_trans hl (C6c _ _)⟩
   ·rw[zC hk,zC hk];left;split
    ·rfl
    ·split <;> rfl
  unfold sK;rcases ac with h|⟨h,r,hr,hl⟩
  ·rw[h,zC (by simp)];rcases C2x l (acc++sV deepU (xE fs v.nU) v) (fun q hq=>h1 q (wW _ hq)) (fun q hq=>h2 q (wW _ hq)) with h'|⟨h',r,hr,hl⟩
   ·exact .inl (by rw[h',rC,vY])
   ·exact .inr ⟨h',r,by rw[rC];exact tI _ hr,hl⟩
  ·rw[zF (by rw[h];simp),h];exact .inr ⟨rfl,r,by rw[rC];exact vU _ hr,hl⟩
theorem D7k {g:GI}(ah:(yB g).1=0):∀ (d:Nat) (k:Int) (m:MI) (b:BI d),m∈g.mG→yT g d k m.fD b=0→uB g d m b=if (tX g d m b).length≤4000 then(tX g d m b,0) else([],4)
 | 0,_,_,b,_,_=>nomatch (b:Empty)
 | d+1,k,m,b,hm,he=>by
  obtain⟨_,hr,hu⟩:=pU he
  have ac:∀ v∈BO.vals b,∀ s∈v.subs,(fun t x=>uB g d (xI g t) x) (xE m.fD v.nU).type s=if ((fun t x=>tX g d (xI g t) x) (xE m.fD v.nU).type s).length≤4000 then((fun t x=>tX g d (xI g t) x) (xE m.fD v.nU).type s,0) else([],4):=fun v hv s hs=>by
   obtain⟨y,hy⟩:=hr.each v hv
   rw[TM hy.fld]
   obtain⟨_,M,hM⟩:=C8c ah hm hy hs
   have hz:=hy.subs s hs
   rw[mN hM] at hz
   show uB g d (xI g y.type) s=if (tX g d (xI g y.type) s).length≤4000 then(tX g d (xI g y.type) s,0) else([],4)
   rw[C9q hM]
   exact D7k ah d (k+1) M s (xL hM) hz
  have hw:tX g (d+1) m b=uS ((BO.vals b).flatMap (fun v=>sV (fun t x=>tX g d (xI g t) x) (xE m.fD v.nU) v)++BO.unk b):=rfl
  rcases C2x (deep:=fun t x=>uB g d (xI g t) x) (deepU:=fun t x=>tX g d (xI g t) x) (BO.vals b) [] hr.each ac with h|⟨h,r,hr',hl⟩
  ·have hall:=C3a (deep:=fun t x=>uB g d (xI g t) x) (fs:=m.fD) (BO.vals b) [] (by rw[h])
   have ag:sK (fun t x=>uB g d (xI g t) x) m.fD [] (BO.vals b)=((BO.vals b).flatMap (fun v=>sV (fun t x=>tX g d (xI g t) x) (xE m.fD v.nU) v),0):=by rw[h,tH]
   show iK (fun t x=>uB g d (xI g t) x) m b=_
   unfold iK
   rw[ag,zC (by simp),hw]
   have:=C7q ((BO.vals b).flatMap (fun v=>sV (fun t x=>tX g d (xI g t) x) (xE m.fD v.nU) v)++BO.unk b) [] (by simp) (fun q hq=>by
    rcases zU.1 hq with hq|hq
    ·have e:=hall.1
     rw[ag,tH] at e
     have hq':q∈(BO.vals b).flatMap (fun v=>(uU (fun t x=>uB g d (xI g t) x) (xE m.fD v.nU) v).1):=by rw[←e];exact hq
     obtain⟨v,hv,hq'⟩:=vL.1 hq'
     obtain⟨y,hy⟩:=hr.each v hv
     rw[TM hy.fld] at hq'
     exact C6e ah hm (fun t x=>UY g d (xI g t) x) hy q hq'
    ·exact(D2b (hu q hq)).1)
   rw[tH] at this
   exact this
  ·show iK (fun t x=>uB g d (xI g t) x) m b=_
   unfold iK
   rw[h,zF (by simp),zC]
   rw[hw]
   have:=D8q (vU (BO.unk b) hr')
   omega
def gZ (x:FI)(n:Nat):RI:=⟨x.nU,yI x.kind,wH x.kind n,[]⟩
def nM (x:FI)(l:List Nat):List UInt8:=l.flatMap fun n=>(recN 1 (yI x.kind) (wH x.kind n) []).drop 1
def qM (x:FI)(l:List Nat):List RI:=if x.many=true then(if 0<l.length then [vH x.nU (nM x l)] else []) else l.map (gZ x)
def E0a {β:Type}(deep:List UInt8→β→List UInt8)(x:FI)(v:VI β):List RI:=
 qM x v.bits++v.bytes.map (vH x.nU)++v.subs.map fun s=>vH x.nU (deep x.type s)
theorem C8q (k:Int):0≤yI k∧yI k≤5:=by
 unfold yI;split
 ·omega
 split
 ·omega
 split <;> omega
theorem D0p {how:Int}(n:Nat)(h0:0≤how∧how≤5)(h2:how≠2):(recN 1 how n []).drop 1=kputB how n:=by
 unfold recN ktagN;rw[zC h2,uF,dU (by omega)];rfl
theorem D8c (h:yI k≠2):lF (yI k)=true:=by
 have:yI k=0∨yI k=1∨yI k=5:=by
  unfold yI at h ⊢;split
  ·simp
  split
  ·simp
  split
  ·rename_i h1 h2 h3;rw[zC h1,zC h2,zF h3] at h;exact absurd rfl h
  simp
 rcases this with e|e|e <;> rw[e] <;> decide
theorem C3w (h:yI x.kind≠2)(l:List Nat):nM x l=rF (yI x.kind) (l.map (wH x.kind)):=by
 unfold nM rF;rw[zF (D8c h),List.flatMap_map]
 congr 1
 funext n;exact D0p _ (C8q _) h
theorem D8s (h:RtV fs f x v):E0a deep x v=sV deep x v:=by
 unfold E0a sV;have ac:=h.misc;unfold vK yS at ac;simp only[pF,uZ,jL] at ac;obtain⟨m1,m2,m3⟩:=ac;have hnil:qM x [] = []:=by unfold qM;split <;> simp
 by_cases hk:x.kind=10
 ·obtain⟨e1,e2⟩:=iO h.others hk;rw[zF hk,e1,e2,hnil];rfl
 rw[zC hk];by_cases h8:x.kind=8∨x.kind=9
 ·obtain⟨e1,e2⟩:=C3k h.others h8;have hw:yI x.kind=2:=by rcases h8 with e|e <;> rw[e] <;> rfl
  rw[zF hw,e1,e2,hnil];simp
 obtain⟨e1,e2⟩:=VN h.others h8 hk;have hw:yI x.kind≠2:=by
  unfold yI;split
  ·decide
  split
  ·decide
  rw[zC (by omega)];decide
 rw[e1,e2] at m1 m3;simp only[rH,oX] at m1 m3;rw[zC hw,e1,e2];simp only[tA,tT];unfold qM;by_cases hm:x.many=true
 ·rw[zF hm,zF hm,zF (by omega),C3w hw]
 rw[zC hm,zC hm];have hl:v.bits.length=1:=by
  rcases m3 with e|e
  ·omega
  exact absurd (by simpa using e) hm
 obtain⟨a,ea⟩:=jR.1 hl;rw[ea];rfl
def fA (r:RI):Prop:=r.bits≤18446744073709551615∧r.bytes.length≤1000000000000∧0≤r.nU∧r.nU≤536870912∧(r.how=0∨r.how=1∨r.how=2∨r.how=5)
theorem D5d {k:Nat}{a:RI}(ha:l[k]?=some a):uS (l.take (k+1))=uS (l.take k)++recN a.nU a.how a.bits a.bytes:=by
 obtain⟨hk,rfl⟩:=yG.1 ha;rw[List.take_succ_eq_append_getElem hk,ZX];simp[uS]
theorem D8p (l:List RI)(k:Nat):(uS (l.take k)).length≤(uS l).length:=by
 have:=ZX (l.take k) (l.drop k);rw[nX] at this;rw[this,yQ];omega
theorem C3i {v:Value}(h:RdL 4 RAt w v l)(hf:∀ r∈l,fA r)(hlen:(uS l).length≤140737488355328) :
  Calls Tryz.prog 17 #[v] w fun e w'=>∃ ao n cap,e = .returned (.slice ao n cap)∧Row ekY w' w.heap.size (.slice ao n cap) (uS l)∧zB w w':=by
 obtain⟨ao,n,cap,rfl,Hn,bc⟩:=h.sH;go_enter Tryz.func17,Tryz.ntmps17;go_wp2_with fail
 go_loopg [3,8] n (fun m u i wr=>∃ k:Nat,k+m=n∧i = .int .i64 k∧Row ekY wr w.heap.size u (uS (l.take k))∧zB w wr)
 case atStart=>exact⟨0,by omega,rfl,Row.nil _ _ _,zH _ _⟩
 obtain⟨k,hk,rfl,hown,hb⟩:=hrel;have bh:=hb.size;obtain⟨a3,n3,c3,rfl,_⟩:=hown.shape';by_cases hlt:k<n
 ·obtain⟨a,Ha⟩:=yE (l:=l) (k:=k) (by rw[←Hn.out];exact hlt);obtain⟨b,off,rfl,hat⟩:=(h.bL RAt.sT hb).get RAt.plain Ha.out;obtain⟨vy,s0,s1,s2,s3,ah⟩:=hat.at;obtain⟨ay,ny,cy,rfl,bg,bl⟩:=ah.sH;have bk:(k:Int)<(n:Int):=by omega
  obtain⟨W1,au,hb1,-,-⟩:=zV wr (.cells #[.int .i64 a.nU,.int .i64 a.how,.int .u64 (a.bits:Int),.slice ay ny cy] 78);obtain⟨f1,f2,f3,f4,f5⟩:=hf a (xV Ha.out);have ac:=C3h (ah.bL YAt.sT hb1) a.nU a.how a.bits f1 f2 f3 f4 f5;have HT:=D5d Ha.out;have hL:=D8p l (k+1);rw[HT,yQ] at hL;obtain⟨X,HX⟩:=yP (recN a.nU a.how a.bits a.bytes);rw[HX.out] at ac HT hL;have ak:=zI HT;clear hat ah HT f1 f2 f3 f4 f5;go_wp2_with fail
  rw[←au.out];refine ac.mono ?_;rintro e w1 ⟨a5,n5,c5,rfl,aj,ba⟩;have ag:=zK hb1 ba;have hs5:=D1g aj;have aw:=ag.size;go_wp2_with (at_builtin;refine tP (by rfl) ekY _ _ (by rfl) w.heap.size _ (uS (l.take k)) X (by rfl) (hown.bL ag) a5 n5 c5 (by rfl) hs5.1 hs5.2.1 hs5.2.2 (by decide) ?c2 (by omega) ?_)
  case c2=>rw[show ekY.bytes=1 from rfl,tS];omega
  intro v' w2 h1 h2;have av:=(zK hb ag).grown h2 (by omega) (fun k hk=>(hown.own k hk).1);clear ac hs5 aj;go_wp2_with fail
  go_roundg (n-(k+1))
  case measure=>omega
  case rel=>exact⟨k+1,by omega,by go_num,by rw[ak.out];exact h1,av⟩
 have e:l.take k=l:=uP (by rw[←Hn.out];omega);rw[e] at hown;go_wp2;go_ret;exact⟨a3,n3,c3,rfl,hown,hb⟩
def rU (g:GI):(d:Nat)→MI→BI d→List RI
 | 0=>fun _ _=>[]
 | d+1=>fun m b=>D7c (fun t x=>tX g d (xI g t) x) m.fD b
theorem YH (g:GI):∀ (d:Nat) (m:MI) (b:BI d),tX g d m b=uS (rU g d m b)
 | 0,_,_=>rfl
 | _+1,_,_=>rfl
theorem fV {α:Type}{h : α→RI}{f : α→Nat}:∀ l:List α,(∀ a∈l,(h a).bytes.length+20≤4040*f a)→(uS (l.map h)).length≤4040*(l.map f).sum
 | [],_=>zG _
 | a::l,ha=>by
  have e:uS ((a::l).map h)=recN (h a).nU (h a).how (h a).bits (h a).bytes++uS (l.map h):=rfl
  have h1:=fV l fun b hb=>ha b (wW _ hb)
  have h2:=dT (h a).nU (h a).how (h a).bits (h a).bytes
  have h3:=ha a (vF ..)
  rw[e,yQ,wS,tZ]
  omega
theorem B2s {α:Type}{F : α→List RI}{G : α→Nat}:∀ l:List α,(∀ a∈l,(uS (F a)).length≤4040*G a∧(F a).length≤G a)→(uS (l.flatMap F)).length≤4040*(l.map G).sum∧(l.flatMap F).length≤(l.map G).sum
 | [],_=>⟨zG _,zG _⟩
 | a::l,ha=>by
  have h1:=B2s l fun b hb=>ha b (wW _ hb)
  have h2:=ha a (vF ..)
  rw[rC,ZX,yQ,yQ,wS,tZ]
  omega
theorem UB {α:Type}:∀ l:List α,(l.map fun _=>1).sum=l.length
 | []=>rfl
 | a::l=>by rw[wS,tZ,UB l,sQ];omega
theorem C2d (k:Int):yI k=0∨yI k=1∨yI k=2∨yI k=5:=by
 unfold yI;split
 ·simp
 split
 ·simp
 split <;> simp
theorem D5k {g:GI}{G : β→Nat}(h:RtV fs f x v)(hn:0≤x.nU∧x.nU≤536870912)(hb:∀ n∈v.bits,n<18446744073709551616)(hs:∀ s∈v.subs,(deep x.type s).length≤4040*G s)(hw:jW G v≤100000000) :
  (∀ r∈sV deep x v,fA r)∧(uS (sV deep x v)).length≤4040*jW G v∧(sV deep x v).length≤jW G v:=by
 have e:jW G v=1+v.bits.length+v.bytes.length+(v.subs.map fun s=>1+G s).sum:=rfl;have hl:=tY (fun s=>1+G s) (fun _=>by omega) v.subs;unfold sV;split
 ·refine⟨fun r hr=>?_,?_,by rw[yX];omega⟩
  ·obtain⟨s,hs1,rfl⟩:=vT.1 hr;have h1:=hs s hs1;have h2:=lH (fun s=>1+G s) hs1;exact⟨by show 0≤_;omega,by show(deep x.type s).length≤_;omega,hn.1,hn.2,.inr (.inr (.inl rfl))⟩
  have:=fV (h:=fun s=>vH x.nU (deep x.type s)) (f:=fun s=>1+G s) v.subs fun s h1=>by have:=hs s h1;show(deep x.type s).length+20≤_;omega
  omega
 split
 ·have hby:∀ l∈v.bytes,l.length≤4000:=fun l hl=>by
   have:=h.bytes l hl;unfold wN at this;split at this
   ·cases this
   omega
  refine⟨fun r hr=>?_,?_,by rw[yX];omega⟩
  ·obtain⟨l,ac,rfl⟩:=vT.1 hr;have:=hby l ac;exact⟨by show 0≤_;omega,by show l.length≤_;omega,hn.1,hn.2,.inr (.inr (.inl rfl))⟩
  have:=fV (h:=vH x.nU) (f:=fun _=>1) v.bytes fun s h1=>by have:=hby s h1;show s.length+20≤_;omega
  rw[UB] at this;omega
 split
 ·have hp:=TX (yI x.kind) (v.bits.map (wH x.kind));rw[yX] at hp;refine⟨fun r hr=>?_,?_,by simp;omega⟩
  ·rw[zS.1 hr];exact⟨by show 0≤_;omega,by show(rF _ _).length≤_;omega,hn.1,hn.2,.inr (.inr (.inl rfl))⟩
  have:=fV (h:=fun b=>vH x.nU b) (f:=fun _=>1+v.bits.length) [rF (yI x.kind) (v.bits.map (wH x.kind))] fun s h1=>by rw[zS.1 h1];show(rF _ _).length+20≤_;omega
  simp only[wS,tA,tZ,oD] at this;omega
 refine⟨fun r hr=>?_,?_,by simp;omega⟩
 ·rw[zS.1 hr];refine⟨dP _ _ ?_,by simp,hn.1,hn.2,C2d _⟩;cases hbb:v.bits with
  | nil=>simp
  | cons a t=>have:=hb a (by rw[hbb];exact vF ..);simp;omega
 have:=fV (h:=fun n=>(⟨x.nU,yI x.kind,wH x.kind n,[]⟩:RI)) (f:=fun _=>1) [v.bits.headD 0] fun s h1=>by simp
 simp only[wS,tA,tZ,oD] at this;omega
theorem D9d (h:yW r.nU r.how r.bits r.bytes.length=0)(hb:r.bits<18446744073709551616):fA r∧r.bytes.length≤4000:=by
 unfold yW at h;split at h
 ·cases h
 rename_i h1;simp[vV] at h1;split at h
 ·cases h
 split at h
 ·cases h
 split at h
 ·cases h
 split at h
 ·cases h
 split at h
 ·cases h
 refine⟨⟨by omega,by omega,by omega,by omega,by omega⟩,by omega⟩
theorem C1w {n:Int}(h:fs.find? (isF n)=some x):xE fs n=x:=by
 have h':fs.find? (fun f=>decide (f.nU=n))=some x:=h;unfold xE;rw[h'];rfl
theorem ZC {g:GI}(ag:(yB g).1=0):∀ (d:Nat) (k:Int) (m:MI) (b:BI d),m∈g.mG→yT g d k m.fD b=0→BQk d b→jWB d b≤100000000→(∀ r∈rU g d m b,fA r)∧(tX g d m b).length≤4040*jWB d b∧(rU g d m b).length≤jWB d b
 | 0,_,_,b,_,_,_,_=>nomatch (b:Empty)
 | d+1,k,m,b,hm,h,hq,hw=>by
  obtain⟨_,hr,hu⟩:=pU h
  have hw':((BO.vals b).map (jW (jWB d))).sum+(BO.unk b).length≤100000000:=hw
  have hv:∀ v∈BO.vals b,(∀ r∈sV (fun t x=>tX g d (xI g t) x) (xE m.fD v.nU) v,fA r)∧(uS (sV (fun t x=>tX g d (xI g t) x) (xE m.fD v.nU) v)).length≤4040*jW (jWB d) v∧(sV (fun t x=>tX g d (xI g t) x) (xE m.fD v.nU) v).length≤jW (jWB d) v:=fun v hv=>by
   obtain⟨x,hx⟩:=hr.each v hv
   have av:=lH (jW (jWB d)) hv
   rw[C1w hx.fld]
   have au:=xL hx.fld
   have hk:=jG ag hm au
   have aj:=hq.1 v hv
   refine D5k (g:=g) hx (by omega) aj.2.1 (fun s hs=>?_) (by omega)
   have ac:x.kind=10:=by
    have ho:=hx.others;unfold xG at ho;by_cases h8:x.kind=8∨x.kind=9
    ·rw[zF h8] at ho;simp only[uZ] at ho;have:=bE hs;omega
    ·rw[zC h8] at ho;split at ho
     ·assumption
     ·simp only[uZ] at ho;have:=bE hs;omega
   obtain⟨N,hN⟩:=sY ag m hm x au ac;have ah:g.mG.find? (isN x.type)=some N:=hN;have hsz:=hx.subs s hs;rw[mN ah] at hsz;have hsw:=lH (fun s=>1+jWB d s) hs;have e:jW (jWB d) v=1+v.bits.length+v.bytes.length+(v.subs.map fun s=>1+jWB d s).sum:=rfl;rw[show xI g x.type=N by unfold xI;rw[hN];rfl];exact(ZC ag d (k+1) N s (xL ah) hsz (aj.2.2.2 s hs) (by omega)).2.1
  obtain⟨f1,f2⟩:=B2s (F:=fun v=>sV (fun t x=>tX g d (xI g t) x) (xE m.fD v.nU) v) (BO.vals b) fun v h1=>(hv v h1).2
  have ak:∀ r∈BO.unk b,fA r∧r.bytes.length≤4000:=fun r hr=>D9d (D2b (hu r hr)).1 (hq.2 r hr).2.2.1
  have f3:=fV (h:=id) (f:=fun _=>1) (BO.unk b) fun r h1=>by have:=(ak r h1).2;show r.bytes.length+20≤_;omega
  rw[List.map_id,UB] at f3;refine⟨fun r hr=>?_,?_,?_⟩
  ·rcases zU.1 hr with hr|hr
   ·obtain⟨v,h1,h2⟩:=vL.1 hr;exact(hv v h1).1 r h2
   ·exact(ak r hr).1
  ·show(uS (_++_)).length≤4040*(((BO.vals b).map (jW (jWB d))).sum+(BO.unk b).length);rw[ZX,yQ];omega
  ·show(_++_:List RI).length≤((BO.vals b).map (jW (jWB d))).sum+(BO.unk b).length;rw[yQ];omega
theorem C1a {b o:Nat}{f:FI}(h:FAt w ⟨b,o,none⟩ f)(hk : -9223372036854775808≤f.kind∧f.kind≤9223372036854775807)(n:Nat)(hn:n≤18446744073709551615) :
  Calls Tryz.prog 35 #[.pointer (some ⟨b,o,none⟩),.int .u64 (n:Int)] w fun e w'=>e = .returned (.agg #[.int .i64 f.nU,.int .i64 (yI f.kind),.int .u64 ((wH f.kind n:Nat):Int),.slice none 0 0])∧zB w w':=by
 obtain⟨W0,ag,hb0,-,-⟩:=zV w (.cells #[.int .i64 0,.int .i64 0,.int .u64 0,.slice none 0 0] 78);have hsz:W0.heap.size=w.heap.size+1:=by rw[ag.out];simp
 have x0:W0.heap[w.heap.size]?=some (.cells #[.int .i64 0,.int .i64 0,.int .u64 0,.slice none 0 0] 78 (0,0)):=by rw[ag.out];exact yM w _
 have hd:zB W0 W0.drew:=(zH _ _).drew;have ak:∀ V,zB W0 V→V.cell? ⟨b,o+1,none⟩=some (.int .i64 f.nU)∧V.cell? ⟨b,o+2,none⟩=some (.int .i64 f.kind):=fun V hV=>by
  have:=(FAt.sT _ _ _ _ (zK hb0 hV) h).at;exact⟨this.2.1,this.2.2.1⟩
 have aj:=fun V=>UD f.kind V hk
 have ac:=fun V=>D1i f.kind n V hn
 obtain⟨d1,d2⟩:=ak _ hd;go_enter Tryz.func35,Tryz.ntmps35;go_wp2_with fail
 rw[←ag.out];go_region_law (first
  | (rw[zF (by rfl)];go_simp;refine(aj _).mono ?_;rintro e y2 ⟨rfl,av⟩;have ah:=zK hd av;obtain⟨d3,d4⟩:=ak y2 ah;have x5:=(zN ah).trans x0;obtain⟨q0,q1,q2,q3⟩:=vI x5;have g0:=zJ x5 0;have g1:=zJ x5 1;have g2:=zJ x5 2;have g3:=zJ x5 3)
  | (rw[zF (by rfl)];go_simp;refine(ac _).mono ?_;rintro e y3 ⟨rfl,rfl⟩))
 all_goals
  have au:=zT (i:=3) (x:=.slice none 0 0) (zT (i:=2) (x:=.int .u64 ((wH f.kind n:Nat):Int)) (zT (i:=1) (x:=.int .i64 (yI f.kind)) (zT (i:=0) (x:=.int .i64 f.nU) (zK hb0 ah) (zG _)) (zG _)) (zG _)) (zG _);go_wp2;refine bodyPost_ret (v:=.agg #[.int .i64 f.nU,.int .i64 (yI f.kind),.int .u64 ((wH f.kind n:Nat):Int),.slice none 0 0]) (by simp[results,Tryz.results35,go_sem,q0,q1,q2,q3]) rfl ?_;exact⟨rfl,au⟩
theorem WX (h:yS v≤60)(hs:∀ s∈v.subs,P s=false):uV P v=false:=by
  unfold yS at h;unfold uV;rw[yC (by omega),yC (by omega),yC (by omega)];simpa using hs
theorem B7x (h:xG x v=false)(hm:60<yS v):uV P v=true:=by
  unfold yS at hm;unfold uV;have:60<v.bits.length∨60<v.bytes.length∨60<v.subs.length:=by
    by_cases hk:x.kind=10
    · obtain⟨e1,e2⟩:=iO h hk;rw[e1,e2] at hm;simp at hm;exact .inr (.inr hm)
    by_cases h8:x.kind=8∨x.kind=9
    · obtain⟨e1,e2⟩:=C3k h h8;rw[e1,e2] at hm;simp at hm;exact .inr (.inl hm)
    obtain⟨e1,e2⟩:=VN h h8 hk;rw[e1,e2] at hm;simp at hm;exact .inl hm
  rcases this with e|e|e <;> rw[xU e] <;> simp
theorem cS (g:GI):∀ (d:Nat) (k:Int) (fs:List FI) (b:BI d),yT g d k fs b=0→vJ d b=false
  | 0,_,_,b,_=>b.elim
  | d+1,k,fs,b,he=>by
    obtain⟨_,hr,_⟩:=pU he
    show(BO.vals b).any (uV (vJ d))=false
    rw[mC]
    intro v hv
    obtain⟨x,hx⟩:=hr.each v hv
    have ac:=hx.misc
    unfold vK at ac
    simp only[pF,uZ,jL] at ac
    rw[WX (by omega) (fun s hs=>cS g d _ _ s (hx.subs s hs))]
    simp
theorem C2u {P:VI β→Bool}{l:List (VI β)}{y:VI β}(hl:l.any P=false)(hw:xQ x y=false):(putN fs x l y).any P=P y:=by
  cases hy:P y with
  | true=>
    rw[List.any_eq_true];refine⟨y,?_,hy⟩;unfold putN;rw[zC (by simp[hw])];simp
  | false=>
  rw[mC];intro a ha;rcases pD ha with rfl|h
  · simp[hy]
  exact mC.1 hl a h
theorem C2g {g:GI}(bg:(yB g).1=0):∀ (d:Nat) (k:Int) (m:MI) (a b:BI d),m∈g.mG→yT g d k m.fD a=0→yT g d k m.fD b=0→vJ d (jnB g.mG d m a b)=false→yT g d k m.fD (jnB g.mG d m a b)=0
  | 0,_,_,a,_,_,_,_,_=>nomatch (a:Empty)
  | d+1,k,m,a,b,hm,ha,hb,hq=>by
    obtain⟨hk,ra,ua⟩:=pU ha
    obtain⟨_,rb,ub⟩:=pU hb
    have pa:=TN ha
    have pb:=TN hb
    have ah:(BO.vals (jnB g.mG (d+1) m a b)).Pairwise fun a b=>a.nU<b.nU:=cN (BO.vals b) _ ra.rise
    have hq':(BO.vals (jnB g.mG (d+1) m a b)).any (uV (vJ d))=false:=hq
    have hall:∀ w∈BO.vals (jnB g.mG (d+1) m a b),(∃ x,RtV m.fD (fun name s=>yT g d (k+1) (wL g name) s) x w)∧0<w.nU:=fun w hw=>by
      have ak:uV (vJ d) w=false:=by simpa using mC.1 hq' w hw
      have hf:=B7g ah hw
      rw[B7w (g:=g) (a:=a) rb w.nU] at hf
      unfold fF at hf
      cases hB:(BO.vals b).find? (isV w.nU) with
      | none=>
        rw[hB] at hf
        simp only at hf
        split at hf
        · cases hf
        · obtain⟨x,hx,_⟩:=kP ra hf
          exact⟨⟨x,hx⟩,pa w (xL hf)⟩
      | some v=>
        obtain⟨x,ac,hx⟩:=kP rb hB
        have bl:0<w.nU:=by rw[←kV hB];exact pb v (xL hB)
        rw[hB,hx] at hf
        cases hA:(BO.vals a).find? (isV w.nU) with
        | none=>
          rw[hA] at hf
          obtain rfl:v=w:=Option.some.inj hf
          exact⟨⟨x,ac⟩,bl⟩
        | some t=>
          obtain⟨xt,ag,av⟩:=kP ra hA
          obtain rfl:xt=x:=by rw[hx] at av;exact(Option.some.inj av).symm
          rw[hA] at hf
          obtain rfl:zX (jnB g.mG d) g.mG xt t v=w:=Option.some.inj hf
          have bh:xt.many=false→xt.kind=10→∃ M s1 s2,g.mG.find? (isN xt.type)=some M∧t.subs = [s1]∧v.subs = [s2]:=fun h1 h2=>by
            obtain⟨M,hM⟩:=sY bg m hm xt (xL hx) h2
            obtain⟨s1,e1⟩:=kX ag.others ag.misc h1 h2
            obtain⟨s2,e2⟩:=kX ac.others ac.misc h1 h2
            exact⟨M,s1,s2,hM,e1,e2⟩
          have ba:m.fD.find? (isF (zX (jnB g.mG d) g.mG xt t v).nU)=some xt:=by rw[qH (by rw[kV hA,←kV hB])];exact ac.fld
          have aj:=YV (J:=jnB g.mG d) ag.others ac.others bh
          have bk:=B3g (J:=jnB g.mG d) (ms:=g.mG) (t:=t) ac.without
          have aw:=ag.misc
          have bc:=ac.misc
          unfold vK at aw bc
          simp only[pF,uZ,jL] at aw bc
          have bn:¬ 60<yS (zX (jnB g.mG d) g.mG xt t v):=fun h=>by
            rw[B7x aj h] at ak
            cases ak
          refine⟨⟨xt,?_⟩,bl⟩
          cases hmm:xt.many with
          | true=>
            have e:zX (jnB g.mG d) g.mG xt t v=⟨t.nU,t.bits++v.bits,t.bytes++v.bytes,t.subs++v.subs⟩:=by unfold zX;rw[hmm,zF rfl]
            refine⟨ba,aj,?_,bk,?_,?_,?_⟩
            · unfold vK
              rw[yC bn,hmm,yC]
              · simp
              · rw[e]
                unfold yS at aw ⊢
                simp only[yQ]
                omega
            all_goals
              rw[e]
              intro n hn
              rcases zU.1 hn with hn|hn
              · first|exact ag.bits n hn|exact ag.bytes n hn|exact ag.subs n hn
              · first|exact ac.bits n hn|exact ac.bytes n hn|exact ac.subs n hn
          | false=>
            by_cases hkk:xt.kind=10
            · obtain⟨M,s1,s2,h0,e1,e2⟩:=bh hmm hkk
              have e:zX (jnB g.mG d) g.mG xt t v=⟨t.nU,t.bits,t.bytes,[jnB g.mG d M s1 s2]⟩:=by
                unfold zX;rw[hmm,zC (by simp),zF hkk,h0,e1,e2]
              have bu:vJ d (jnB g.mG d M s1 s2)=false:=by
                rw[e] at ak;unfold uV at ak;simp only[pF] at ak;simpa using ak.2
              refine⟨ba,aj,?_,bk,?_,?_,?_⟩
              · have au:=ag.misc;have em:yS (zX (jnB g.mG d) g.mG xt t v)=yS t:=by rw[e];unfold yS;rw[e1];rfl
                unfold vK at au ⊢;rw[em];exact au
              all_goals
                rw[e];intro n hn
                first
                  | exact ag.bits n hn
                  | exact ag.bytes n hn
                  | (obtain rfl:=zS.1 hn
                     have z1:=ag.subs s1 (by rw[e1];exact zS.2 rfl);have z2:=ac.subs s2 (by rw[e2];exact zS.2 rfl);rw[mN h0] at z1 z2 ⊢;exact C2g bg d (k+1) M s1 s2 (xL h0) z1 z2 bu)
            · have e:zX (jnB g.mG d) g.mG xt t v=v:=by unfold zX;rw[hmm,zC (by simp),zC hkk]
              rw[e];exact ac
    refine UQ hk (fun v hv=>(hall v hv).1) ah (fun v hv=>(hall v hv).2) (TY (BO.vals b) _ (cD ra.apart)) fun r hr=>?_
    have cg:r∈BO.unk a++BO.unk b:=hr;rcases zU.1 cg with h|h
    · exact ua r h
    · exact ub r h
theorem D8g {t:List UInt8}(ac:(yB g).1=0)(hM:g.mG.find? (isN t)=some M){s1 s2:BI (d+1)}(h1:yT g (d+1) k M.fD s1=0)(h2:yT g (d+1) k M.fD s2=0)(hd:d+1≤12):sI g d (nG g t) s1 s2=yT g (d+1) 1 M.fD (jnB g.mG (d+1) M s1 s2):=by
 obtain⟨j1,j2,j3⟩:=C9p hM;obtain⟨j,hj⟩:=jP j2;rw[hj] at j1 ⊢;have j1:g.mG[j]?=some M:=by simpa using j1
 have w1:wD g d ((j:Nat):Int) s1=0:=by rw[UX ac j1];exact fY (d+1) k 1 _ _ (by omega) h1
 have w2:wD g d ((j:Nat):Int) s2=0:=by rw[UX ac j1];exact fY (d+1) k 1 _ _ (by omega) h2
 unfold sI;rw[zC (by simp[yJ,w1,w2]),qU,j1];exact UX ac j1 _
def oK (g:GI)(d:Nat)(x:FI)(b:BO (BI d))(v:VI (BI d)):VI (BI d):=match b.vals.find? (isV v.nU) with
 | none=>v
 | some u=>zX (jnB g.mG d) g.mG x u v
def dG (g:GI)(d:Nat)(fs:List FI)(x:FI)(b:BO (BI d))(v:VI (BI d)):Except Int (BO (BI d)):=
 if yS v=0 then .ok b
 else if (putN fs x b.vals (oK g d x b v)).any (uV (vJ d))=true then .error 5 else .ok ⟨putN fs x b.vals (oK g d x b v),b.unk⟩
theorem ZO {l:List (VI (BI n))}{y:VI (BI n)}(hl:l.any (uV (vJ n))=false)(ho:xG x y=false)(hs:∀ s∈y.subs,vJ n s=false):(putN fs x l y).any (uV (vJ n))=decide (60<yS y):=by
 by_cases h:60<yS y
 ·have hw:xQ x y=false:=by
   unfold xQ;split
   ·rfl
   rw[zF (by omega)]
  rw[C2u hl hw,B7x ho h,xU h]
 rw[yC h,mC];intro a ha;rcases pD ha with rfl|ha
 ·rw[WX (by omega) hs];simp
 exact mC.1 hl a ha
theorem D8w {v:VI (BI n)}(h:RtV fs (fun name s=>yT g n k (wL g name) s) x v):uV (vJ n) v=false:=by
 have:=dX h.misc;exact WX (by omega) fun s hs=>cS g n _ _ s (h.subs s hs)
theorem C6y (ag:(yB g).1=0)(hm:m∈g.mG)(bk:1≤k)(bl:k+(n:Int)≤13){b:BO (BI n)}{v:VI (BI n)}(hx:m.fD.find? (isF x.nU)=some x)(hb:RdSt m.fD (fun name s=>yT g n k (wL g name) s) b)(hv:TldRt (fun name s=>yT g n k (wL g name) s) x v):tD g n m.fD x b v=dG g n m.fD x b v:=by
 have bh:m.fD.find? (isF v.nU)=some x:=by rw[hv.num];exact hx
 have hbl:b.vals.any (uV (vJ n))=false:=by
  rw[mC];intro a ha;obtain⟨xa,bg⟩:=hb.rt.each a ha;rw[D8w bg];simp
 have ak:∀ s∈v.subs,vJ n s=false:=fun s hs=>cS g n _ _ s (hv.subs s hs)
 unfold tD dG;by_cases h0:yS v=0
 ·rw[zF h0,zF h0]
 rw[zC h0,zC h0];cases hf:b.vals.find? (isV v.nU) with
 | none=>
  have ah:oK g n x b v=v:=by unfold oK;rw[hf]
  rw[ah,ZO hbl hv.others ak];by_cases h:60<yS v
  ·simp[h]
  simp[h]
 | some u=>
 obtain⟨xu,hu,au⟩:=kP hb.rt hf;obtain rfl:xu=x:=by rw[bh] at au;exact(Option.some.inj au).symm
 have ah:oK g n xu b v=zX (jnB g.mG n) g.mG xu u v:=by unfold oK;rw[hf]
 rw[ah];dsimp only;have bc:∀ s∈u.subs,vJ n s=false:=fun s hs=>cS g n _ _ s (hu.subs s hs)
 obtain⟨m1,bn,mm⟩:=dX hu.misc;cases hmx:xu.many with
 | true=>
  have e1:pH g n xu u v = .ok (zX (jnB g.mG n) g.mG xu u v):=by
   cases n with
   | zero=>rfl
   | succ d=>rw[jD,zC (by simp[hmx])]
  rw[e1];dsimp only;rw[ZO hbl (YV (J:=jnB g.mG n) hu.others hv.others fun e=>by rw[hmx] at e;cases e) fun s hs=>by
   rw[TH hmx] at hs;rcases zU.1 hs with hs|hs
   ·exact bc s hs
   exact ak s hs]
  by_cases h:60<yS (zX (jnB g.mG n) g.mG xu u v)
  ·simp[h]
  simp[h]
 | false=>
 by_cases h10:xu.kind=10
 ·obtain⟨M,hM⟩:=sY ag m hm xu (xL hx) h10;have ac:g.mG.find? (isN xu.type)=some M:=hM;obtain⟨s,hs⟩:=kX hu.others hu.misc hmx h10;obtain⟨t,ht⟩:∃ t,v.subs = [t]:=by
   have h1:=hv.one hmx;obtain⟨q1,q2⟩:=iO hv.others h10;unfold yS at h1;rw[q1,q2] at h1;exact jR.1 (by simpa using h1)
  obtain⟨d,rfl⟩:∃ d,n=d+1:=by
   cases n with
   | zero=>exact nomatch (s:Empty)
   | succ d=>exact⟨d,rfl⟩
  have z1:=hu.subs s (by rw[hs];exact zS.2 rfl);have z2:=hv.subs t (by rw[ht];exact zS.2 rfl);simp only[mN ac] at z1 z2;have ba:=D8g ag ac z1 z2 (by omega);have av:=fY (d+1) k 1 _ _ (by omega) z1;have aw:=fY (d+1) k 1 _ _ (by omega) z2;have hz:=C8v ag (d+1) 1 M s t (xL ac) av aw;obtain⟨q1,q2⟩:=iO hu.others h10;have e2:zX (jnB g.mG (d+1)) g.mG xu u v=⟨u.nU,[],[],[jnB g.mG (d+1) M s t]⟩:=by
   unfold zX;rw[hmx,zC (by simp),zF h10,ac,hs,ht,q1,q2]
  have aj:xG xu (⟨u.nU,[],[],[jnB g.mG (d+1) M s t]⟩:VI (BI (d+1)))=false:=by unfold xG;rw[zC (by omega),zF h10];rfl
  rw[jD,zF ⟨hmx,h10⟩,hs,ht];dsimp only;rw[ba,e2];by_cases hq:vJ (d+1) (jnB g.mG (d+1) M s t)=false
  ·rw[zF (C2g ag (d+1) 1 M s t (xL ac) av aw hq),ZO hbl aj fun a ha=>by rw[zS.1 ha];exact hq];simp[yS]
  have h5:yT g (d+1) 1 M.fD (jnB g.mG (d+1) M s t)=5:=by
   rcases hz with h|h
   ·exact absurd (cS g _ _ _ _ h) hq
   exact h
  rw[h5,zC (by decide),C2u hbl (by unfold xQ;rw[zF (.inr (.inr h10))])];have:uV (vJ (d+1)) (⟨u.nU,[],[],[jnB g.mG (d+1) M s t]⟩:VI (BI (d+1)))=true:=by
   unfold uV;simp at hq;simp[hq]
  rw[this,zF rfl]
 have e1:pH g n xu u v = .ok (zX (jnB g.mG n) g.mG xu u v):=by
  cases n with
  | zero=>rfl
  | succ d=>rw[jD,zC (by simp[h10])]
 have e2:zX (jnB g.mG n) g.mG xu u v=v:=by unfold zX;rw[hmx,zC (by simp),zC h10]
 rw[e1,e2];dsimp only;rw[ZO hbl hv.others ak];have h1:=hv.one hmx;simp[h1]
structure DStR {n:Nat}(g:GI) (fs:List FI) (b:BO (BI n)) (un:List RI) (q:Nat):Prop where
 rt:RdSt fs (fun name s=>yT g n 1 (wL g name) s) b
 st:RSt fs b q
 un:un.length≤q
structure RndP {n:Nat}(g:GI) (fs:List FI) (x:FI) (b:BO (BI n)) (un:List RI) (v:VI (BI n)) (q:Nat):Prop where
 fx:fs.find? (isF v.nU)=some x
 gv:GdV (GdB g.mG n) g.mG fs v
 go:∀ a∈b.vals,GdV (GdB g.mG n) g.mG fs a
 rise:b.vals.Pairwise fun u v=>u.nU<v.nU
 w:∀ a∈b.vals,jW (jWB n) a+jW (jWB n) v≤1000000000
 wv:yS v≤8002
 len:(b.vals.length+1)*80≤140737488355328
 st:tD g n fs x b v=dG g n fs x b v
 nx:∀ b',tD g n fs x b v = .ok b'→DStR g fs b' un q
theorem D9q (ac:(yB g).1=0):FGd g:=⟨fun M hM x hx=>by have:=(jG ac hM hx).2;unfold I64;omega,fun M hM x hx hk=>sY ac M hM x hx hk⟩
theorem E0c (ag:(yB g).1=0)(hM:M∈g.mG){v:VI (BI n)}(hx:M.fD.find? (isF v.nU)=some x)(h1:x.many=false→yS v=1)(ho:xG x v=false)(hs:∀ s∈v.subs,yT g n 1 (wL g x.type) s=0):GdV (GdB g.mG n) g.mG M.fD v:=by
 refine⟨x,hx,fun hm=>⟨h1 hm,fun hk=>?_⟩⟩;obtain⟨N,hN⟩:=sY ag M hM x (xL hx) hk;have ac:g.mG.find? (isN x.type)=some N:=hN;obtain⟨q1,q2⟩:=iO ho hk;have h2:=h1 hm;unfold yS at h2;rw[q1,q2] at h2;obtain⟨s,hs1⟩:=jR.1 (show v.subs.length=1 by simpa using h2);have h3:=hs s (by rw[hs1];exact zS.2 rfl);rw[mN ac] at h3;exact⟨q1,q2,N,s,ac,hs1,C3d (sY ag) n 1 N s (xL ac) h3⟩
theorem rnd (ac:(yB g).1=0)(hM:M∈g.mG)(hn:n≤12){b:BO (BI n)}(hS:DStR g M.fD b un q){r:Rcd}(hr:fK r)(hwr:yW r.num r.how r.bits r.bytes.length=0)(hf:M.fD.find? (isF (xR r).nU)=some x){v:VI (BI n)}(ht:uT (fun t l=>vR g n (msgD g t) l) x (xR r) = .ok v)(hq:q+2*(r.bytes.length+1)≤8000):RndP g M.fD x b un v (q+2*(r.bytes.length+1)):=by
 have ah:=xL hf;have aw:=qI hf;have ba:x.kind=10→∀ l s,vR g n (msgD g x.type) l = .ok s→yT g n 1 (wL g x.type) s=0:=fun hk l s h=>by
  obtain⟨N,hN⟩:=sY ac M hM x ah hk;have aj:g.mG.find? (isN x.type)=some N:=hN;rw[mN aj];rw[C9n aj] at h;exact B4s ac n 1 N l s (by omega) (xL aj) h
 have ag:TldRt (fun name s=>yT g n 1 (wL g name) s) x v:=D1x (jG ac hM ah).1 hwr ba ht;have av:=VH (D0m (D9q ac) n) ((D9q ac).num M hM x ah) (show(xR r).bytes.length≤4000 from hr.2) (show(xR r).bits≤18446744073709551615 from hr.1.2.2.2.2) ht;have ak:M.fD.find? (isF v.nU)=some x:=by rw[ag.num,aw];exact hf
 have au:M.fD.find? (isF x.nU)=some x:=by rw[aw];exact hf
 have hw:=hS.st.w;have e:(xR r).bytes.length=r.bytes.length:=rfl;have bc:=av.w;rw[e] at bc;have hl:=tY (jW (jWB n)) (fun v=>by unfold jW;omega) b.vals;refine⟨ak,E0c ac hM ak ag.one ag.others ag.subs,fun a ha=>?_,hS.rt.rt.rise,fun a ha=>?_,?_,by omega,C6y ac hM (by omega) (by omega) au hS.rt ag,fun b' h=>⟨D2l ac hM (by omega) au hS.rt ag h,VF ak hS.st av (fun hk=>sY ac M hM x ah hk) h,by have:=hS.un;omega⟩⟩
 ·obtain⟨y,hy⟩:=hS.rt.rt.each a ha;exact E0c ac hM hy.fld (fun hm=>by
   obtain⟨h1,h2,h3⟩:=dX hy.misc;by_cases h4:1<yS a
   ·rw[h3 h4] at hm;cases hm
   omega) hy.others hy.subs
 ·have:jW (jWB n) a≤(b.vals.map (jW (jWB n))).sum:=lH _ ha;omega
 have:yS v≤jW (jWB n) v:=by
  have h3:=tY (fun s=>1+jWB n s) (fun _=>by omega) v.subs;unfold yS jW;omega
 omega
theorem D7s {b:BO (BI n)}{v:VI (BI n)}(h:RndP g fs x b un v q):GdV (GdB g.mG n) g.mG fs (oK g n x b v)∧(oK g n x b v).nU=v.nU:=by
 unfold oK;cases hf:b.vals.find? (isV v.nU) with
 | none=>exact⟨h.gv,rfl⟩
 | some u=>
 have hu:u.nU=v.nU:=by have:=rN hf;simpa [isV] using this
 exact⟨WY (fun M s t=>ZT g.mG n M s t) hu h.fx (h.go u (xL hf)) h.gv,qH hu⟩
theorem B4u {nm vb:Value}{ao:Option Addr}{k cap:Nat}{l:List FI}{W0:World}(h:RdL 6 FAt W0 (.slice ao k cap) l)(ag:∃ ao n cap,vb = .slice ao n cap)(ac:∃ s:List UInt8,nm = .string (S s))(num:Int):∃ p:Option Addr,Hid (match l.find? (isF num) with|none=>p=none|some x=>∃ bx ox,p=some ⟨bx,ox,none⟩∧FAt W0 ⟨bx,ox,none⟩ x)∧∀ V,zB W0 V→Calls Tryz.prog 34 #[.agg #[nm,.slice ao k cap,vb],.int .i64 num] V fun e w'=>e = .returned (.pointer p)∧zB V w':=by
 cases hf:l.find? (isF num) with
 | none=>exact⟨none,rfl,fun V hV=>YW (h.bL FAt.sT hV) ag ac num fun a ha=>by have:=oE.1 hf a ha;simpa [isF] using this⟩
 | some x=>
 obtain⟨j,h1,h2,h3⟩:=cX hf;obtain⟨bx,ox,rfl,hx⟩:=h.get FAt.plain h1;refine⟨some ⟨bx,ox+j*6,none⟩,⟨bx,_,rfl,hx⟩,fun V hV=>(fR (h.bL FAt.sT hV) ag ac num h1 (qI hf) h3).mono ?_⟩;rintro e w' ⟨⟨b,off,e1,rfl⟩,hb⟩;cases e1
 exact⟨rfl,hb⟩
end L
end Go.Proofs.YthcomdofaaeihaaGreatDoor
