import Derived.Test.YthcomdofaaeihaaGreatDoorV25
import Derived.Test.YthcomdofaaeihaaGreatDoorV14
import Derived.Test.YthcomdofaaeihaaGreatDoorV27
import Derived.Test.YthcomdofaaeihaaGreatDoorV29
set_option maxHeartbeats 32000000
set_option maxRecDepth 100000
set_option linter.unusedVariables false
namespace Go.Proofs.YthcomdofaaeihaaGreatDoor
open Go.RowKit
theorem E0g {W:World}{am:Option Addr}{nm cm:Nat}{ae:Option Addr}{ne ce:Nat}{g:L.GI}(hg:L.GRd W (.slice am nm cm) (.slice ae ne ce) g)(ag:L.GOk g)(hT:L.Tabs W){msg:Int}(z:L.I64 msg):L.WIn g am nm cm ae ne ce msg W:=by
 obtain⟨h1,h2,h3,h4⟩:=ag;refine⟨hg,by unfold reachBytes at h3;omega,by unfold reachBytes at h4;omega,L.GOk.fits ⟨h1,h2,h3,h4⟩,fun M hM=>?_,hT,z.1,z.2⟩;obtain⟨_,hf,_,hl,_⟩:=h1 M hM;exact⟨fun f ac=>⟨(hf f ac).2.2.1,(hf f ac).2.2.2.2⟩,by unfold reachBytes at hl;omega⟩
end Go.Proofs.YthcomdofaaeihaaGreatDoor
namespace Go.Proofs.YthcomdofaaeihaaGreatDoor
namespace L
open Go.RowKit
variable{β:Type}{W0 w' w:World}{x:FI}{ms:List MI}{fs:List FI}{d:Nat}{v t:VI β}{f:List UInt8→β→Int}
def nG (g:GI)(t:List UInt8):Int:=yK (fun m:MI=>decide (m.name=t)) g.mG
def pH (g:GI):(d:Nat)→FI→VI (BI d)→VI (BI d)→Except Int (VI (BI d))
 | 0=>fun x a b=>.ok (zX (jnB g.mG 0) g.mG x a b)
 | d+1=>fun x a b=>
  if x.many=false∧x.kind=10 then
   match a.subs,b.subs with
   | s::_,t::_=>if sI g d (nG g x.type) s t=0 then .ok (zX (jnB g.mG (d+1)) g.mG x a b) else .error (sI g d (nG g x.type) s t)
   | _,_=>.ok (zX (jnB g.mG (d+1)) g.mG x a b)
  else .ok (zX (jnB g.mG (d+1)) g.mG x a b)
theorem jD (g:GI)(d:Nat)(x:FI)(a b:VI (BI (d+1))):pH g (d+1) x a b=if x.many=false∧x.kind=10 then
   match a.subs,b.subs with
   | s::_,t::_=>if sI g d (nG g x.type) s t=0 then .ok (zX (jnB g.mG (d+1)) g.mG x a b) else .error (sI g d (nG g x.type) s t)
   | _,_=>.ok (zX (jnB g.mG (d+1)) g.mG x a b)
  else .ok (zX (jnB g.mG (d+1)) g.mG x a b):=rfl
def tD (g:GI)(d:Nat)(fs:List FI)(x:FI)(b:BO (BI d))(v:VI (BI d)):Except Int (BO (BI d)):=
 if yS v=0 then .ok b
 else match b.vals.find? (isV v.nU) with
  | none=>if 60<yS v then .error 5 else .ok ⟨putN fs x b.vals v,b.unk⟩
  | some u=>match pH g d x u v with
   | .error E=>.error E
   | .ok v'=>if 60<yS v' then .error 5 else .ok ⟨putN fs x b.vals v',b.unk⟩
theorem B7e (v:VI (BI d)){a1 a2 a3:Option Addr}{n1 n2 n3 c1 c2 c3:Nat}(h1:n1=v.bits.length)(h2:n2=v.bytes.length)(h3:n3=v.subs.length)(hl:n1+n2+n3≤1000000000000)(q:Int) :
  Calls Tryz.prog 102 #[.agg #[.int .i64 q,.slice a1 n1 c1,.slice a2 n2 c2,.slice a3 n3 c3]] w fun e w'=>e = .returned (.int .i64 ((yS v:Nat):Int))∧zB w w':=by
 have hb:zB w (w.alloc (.cells #[.int .i64 q,.slice a1 n1 c1,.slice a2 n2 c2,.slice a3 n3 c3] 63)):=(zH _ _).alloc (zG _) _;have HN:Hid (((yS v:Nat):Int)=(n1:Int)+(n2:Int)+(n3:Int)):=by show _=_;unfold yS;rw[h1,h2,h3];omega
 have ac:n1≤1000000000000:=by omega
 have ag:n2≤1000000000000:=by omega
 have ah:n3≤1000000000000:=by omega
 have e1:IntKind.i64.wrap ((n1:Int)+(n2:Int))=(n1:Int)+(n2:Int):=by rw[IntKind.wrap_i64];omega
 have e2:IntKind.i64.wrap ((n1:Int)+(n2:Int)+(n3:Int))=(n1:Int)+(n2:Int)+(n3:Int):=by rw[IntKind.wrap_i64];omega
 clear h1 h2 h3 hl;go_enter Tryz.func102,Tryz.ntmps102;go_wp2_with fail
 go_ret;exact⟨by rw[HN.out];rfl,hb⟩
theorem C9z {base:Nat}{v:VL (LB d)}(h:OwnV (ekB d) (OwnB base d) w base v):RdL 1 UAt w v.p1.v (VL.pl (LB.pl d) v).bits∧RdL 1 ZAt w v.p2.v (VL.pl (LB.pl d) v).bytes∧RdL 2 (BAt d) w v.p3.v (VL.pl (LB.pl d) v).subs:=
 ⟨h.r1.rdU,h.r2.rdZ h.r2y,RdL.mapB (P:=fun w (x:Addr) (s:LB d)=>∃ g i,x=⟨g,i,none⟩∧∀ j u,(vO d s)[j]?=some u→w.cell? ⟨g,i+j,none⟩=some u) _ (h.r3.rd _ fun g i a hc=>⟨g,i,rfl,hc⟩) fun _ s hs' ⟨g,i,e,hc⟩=>by rw[e];exact OwnB.at d s g i (h.r3s s hs') hc⟩
def WR (d:Nat)(w:World)(F:List Nat)(num:Int)(res:Except Int (VI (BI d)))(e:Ending)(w':World):Prop:=
 ∃ (a1:Option Addr) (n1 c1:Nat) (a2:Option Addr) (n2 c2:Nat) (a3:Option Addr) (n3 c3:Nat) (E:Int),e = .returned (.tuple #[.agg #[.int .i64 num,.slice a1 n1 c1,.slice a2 n2 c2,.slice a3 n3 c3],.int .i64 E])∧FrB F w w'∧
  match res with
  | .error E'=>E=E'∧E≠0
  | .ok v=>E=0∧v.nU=num∧∀ w'',Apt F w w' w''→RdL 1 UAt w'' (.slice a1 n1 c1) v.bits∧RdL 1 ZAt w'' (.slice a2 n2 c2) v.bytes∧RdL 2 (BAt d) w'' (.slice a3 n3 c3) v.subs
theorem D9n {y z:VL (LB d)}{e:Ending}(h:UA ms d W0 w x y z e w')(hn:(zX (jnB ms d) ms x (VL.pl (LB.pl d) y) (VL.pl (LB.pl d) z)).nU=z.nU):WR d w (VL.fp (LB.fp d) y++VL.fp (LB.fp d) z) z.nU (.ok (zX (jnB ms d) ms x (VL.pl (LB.pl d) y) (VL.pl (LB.pl d) z))) e w':=by
 obtain⟨t,rfl,hpl,ho,_,ah,hf⟩:=h;have aj:∀ w'',Apt (VL.fp (LB.fp d) y++VL.fp (LB.fp d) z) w w' w''→RdL 1 UAt w'' t.p1.v (zX (jnB ms d) ms x (VL.pl (LB.pl d) y) (VL.pl (LB.pl d) z)).bits∧RdL 1 ZAt w'' t.p2.v (zX (jnB ms d) ms x (VL.pl (LB.pl d) y) (VL.pl (LB.pl d) z)).bytes∧RdL 2 (BAt d) w'' t.p3.v (zX (jnB ms d) ms x (VL.pl (LB.pl d) y) (VL.pl (LB.pl d) z)).subs:=fun w'' ⟨G,hG,ag⟩=>by
  rw[←hpl];exact C9z (OwnV.fr (OwnB.fr d) ho hG (fun k hk hm=>by
   have h1:=ag k hm;rcases ah.mem hk with h|h
   ·exact h1.2 h
   omega))
 have ac:t.nU=z.nU:=by rw[←hn,←hpl];rfl
 obtain⟨nu,bi,ak,su,⟨a1,n1,c1⟩,⟨a2,n2,c2⟩,⟨a3,n3,c3⟩⟩:=t;have ac:nu=z.nU:=ac;subst ac;exact⟨a1,n1,c1,a2,n2,c2,a3,n3,c3,0,rfl,hf,rfl,hn,aj⟩
def iQ (g:GI)(x:FI):Prop:=∀ (d:Nat) (W0 w:World) (y z:VL (LB d)),MetIn d W0 w y z→∀ (am:Option Addr) (nm cm:Nat) (ae:Option Addr) (ne ce:Nat),y.nU=z.nU→(∀ j:Nat,j<g.mG.length→WIn g am nm cm ae ne ce (j:Int) w)→(x.many=false→x.kind=10→(∃ M,g.mG.find? (isN x.type)=some M)∧y.bits = []∧y.bytes = []∧z.bits = []∧z.bytes = []∧∃ s t,y.subs = [s]∧z.subs = [t]∧BOk d (LB.pl d s)∧BOk d (LB.pl d t))→
  Calls Tryz.prog 104 #[.agg #[.slice am nm cm,.slice ae ne ce],vFI x,.agg #[.int .i64 y.nU,y.p1.v,y.p2.v,y.p3.v],.agg #[.int .i64 z.nU,z.p1.v,z.p2.v,z.p3.v]] w fun e w'=>WR d w (VL.fp (LB.fp d) y++VL.fp (LB.fp d) z) z.nU (pH g d x (VL.pl (LB.pl d) y) (VL.pl (LB.pl d) z)) e w'
theorem D3e {g:GI}{y z:VL (LB d)}(h:MetIn d W0 w y z){am:Option Addr}{nm cm:Nat}{ae:Option Addr}{ne ce:Nat}(x:FI)(hS:x.many=false→x.kind=10→iQ g x)(ac:y.nU=z.nU)(hI:∀ j:Nat,j<g.mG.length→WIn g am nm cm ae ne ce (j:Int) w)
  (ah:x.many=false→x.kind=10→(∃ M,g.mG.find? (isN x.type)=some M)∧y.bits = []∧y.bytes = []∧z.bits = []∧z.bytes = []∧∃ s t,y.subs = [s]∧z.subs = [t]∧BOk d (LB.pl d s)∧BOk d (LB.pl d t)) :
  Calls Tryz.prog 104 #[.agg #[.slice am nm cm,.slice ae ne ce],vFI x,.agg #[.int .i64 y.nU,y.p1.v,y.p2.v,y.p3.v],.agg #[.int .i64 z.nU,z.p1.v,z.p2.v,z.p3.v]] w fun e w'=>WR d w (VL.fp (LB.fp d) y++VL.fp (LB.fp d) z) z.nU (pH g d x (VL.pl (LB.pl d) y) (VL.pl (LB.pl d) z)) e w':=by
 have ag:(VL.pl (LB.pl d) y).nU=(VL.pl (LB.pl d) z).nU:=ac;have aj:(zX (jnB g.mG d) g.mG x (VL.pl (LB.pl d) y) (VL.pl (LB.pl d) z)).nU=z.nU:=qH ag;cases hm:x.many with
 | true=>
  have e:pH g d x (VL.pl (LB.pl d) y) (VL.pl (LB.pl d) z) = .ok (zX (jnB g.mG d) g.mG x (VL.pl (LB.pl d) y) (VL.pl (LB.pl d) z)):=by
   cases d with
   | zero=>rfl
   | succ d=>rw[jD,zC (by rw[hm];simp)]
  rw[e];exact(C7w h am nm cm ae ne ce x hm ac).mono fun e w' ho=>D9n ho aj
 | false=>
  by_cases hk:x.kind=10
  ·exact hS hm hk d W0 w y z h am nm cm ae ne ce ac hI ah
  ·have e:pH g d x (VL.pl (LB.pl d) y) (VL.pl (LB.pl d) z) = .ok (zX (jnB g.mG d) g.mG x (VL.pl (LB.pl d) y) (VL.pl (LB.pl d) z)):=by
    cases d with
    | zero=>rfl
    | succ d=>rw[jD,zC (fun h=>hk h.2)]
   rw[e];exact(C7v h am nm cm ae ne ce x hm hk).mono fun e w' ho=>D9n ho aj
theorem C1f (g:GI)(x:FI)(hm:x.many=false)(hk:x.kind=10):iQ g x:=by
 intro d W0 w y z h am nm cm ae ne ce cj hI ba;have au:(VL.pl (LB.pl d) y).nU=(VL.pl (LB.pl d) z).nU:=cj;have cg:(zX (jnB g.mG d) g.mG x (VL.pl (LB.pl d) y) (VL.pl (LB.pl d) z)).nU=z.nU:=qH au;obtain⟨⟨M,hM⟩,q1,q2,q3,q4,s,t,hs,ht,cw,df⟩:=ba hm hk;cases d with
 | zero=>exact(nomatch (s:Empty))
 | succ d=>
 have bl:∃ j:Nat,g.mG[j]?=some M∧yK (fun m:MI=>decide (m.name=x.type)) g.mG=(j:Int):=by
  have aj:g.mG.find? (fun m=>decide (m.name=x.type))=some M:=hM;obtain⟨h1,la,lb,e,h2⟩:=XE.1 aj;have hj:g.mG[la.length]?=some M:=by rw[e];simp
  refine⟨la.length,hj,jE hj (fun a ha=>?_) h1⟩;rw[e,List.take_left' rfl] at ha;simpa using h2 a ha
 obtain⟨j,hj,bg⟩:=bl;have bn:=(yG.1 hj).1;have hab:∀ k∈own1 y.p3,k∉own1 z.p3:=fun k ac hk2=>by
  have h1:=h.once k;rw[sO,sO] at h1;have:=yD.2 ac;have:=yD.2 hk2;omega
 have e1:(VL.pl (LB.pl (d+1)) y).subs = [LB.pl (d+1) s]:=by simp[VL.pl,hs]
 have e2:(VL.pl (LB.pl (d+1)) z).subs = [LB.pl (d+1) t]:=by simp[VL.pl,ht]
 have hw:jWB (d+1) (LB.pl (d+1) s)+jWB (d+1) (LB.pl (d+1) t)≤1000000000:=by
  have h1:=h.len;unfold jW at h1;rw[e1,e2] at h1;simp only[wS,tA,tZ,oD] at h1;omega
 have eR:pH g (d+1) x (VL.pl (LB.pl (d+1)) y) (VL.pl (LB.pl (d+1)) z)=if sI g d (j:Int) (LB.pl (d+1) s) (LB.pl (d+1) t)=0 then .ok (zX (jnB g.mG (d+1)) g.mG x (VL.pl (LB.pl (d+1)) y) (VL.pl (LB.pl (d+1)) z)) else .error (sI g d (j:Int) (LB.pl (d+1) s) (LB.pl (d+1) t)):=by
  rw[jD,zF ⟨hm,hk⟩,show nG g x.type=(j:Int) from bg,e1,e2]
 refine(D3f h.bL h.hy h.hz x hm hk bg (hI j bn) hs ht hab cw df hw).mono ?_;rintro e w' ⟨rfl,hf,hz0⟩;rw[eR];obtain⟨mu,bj,bk,sv,⟨b1,m1,d1⟩,⟨b2,m2,d2⟩,⟨b3,m3,d3⟩⟩:=z;refine⟨b1,m1,d1,b2,m2,d2,b3,m3,d3,_,rfl,hf.mono (fun k bu=>tI _ (by unfold VL.fp;simp[bu])),?_⟩;by_cases hz:sI g d (j:Int) (LB.pl (d+1) s) (LB.pl (d+1) t)=0
 ·rw[zF hz];obtain⟨M',aj,cu⟩:=hz0 hz;rw[hj] at aj;cases aj
  have q3:bj = []:=q3;have q4:bk = []:=q4;subst q3;subst q4;have em:zX (jnB g.mG (d+1)) g.mG x (VL.pl (LB.pl (d+1)) y) (VL.pl (LB.pl (d+1)) ⟨mu,[],[],sv,(b1,m1,d1),(b2,m2,d2),(b3,m3,d3)⟩)=⟨y.nU,[],[],[jnB g.mG (d+1) M (LB.pl (d+1) s) (LB.pl (d+1) t)]⟩:=by
   unfold zX;rw[hm,zC (by simp),zF hk,hM,e1,e2];show(⟨y.nU,y.bits,y.bytes.map Prod.fst,_⟩:VI (BI (d+1)))=_;rw[q1,q2];rfl
  have hr1:Row ekU w W0.heap.size (PV.v (b1,m1,d1)) []:=h.hz.r1;have hr2:Row ekZ w W0.heap.size (PV.v (b2,m2,d2)) []:=h.hz.r2;have bh:∀ k∈own1 (b3,m3,d3),k∉own1 (b1,m1,d1)∧k∉own1 (b2,m2,d2):=fun k ac=>by
   have h1:=h.once k;rw[sO,sO] at h1;have h2:=yD.2 ac;dsimp only at h1;refine⟨fun hm=>?_,fun hm=>?_⟩ <;> (have h3:=yD.2 hm;omega)
  have av:=Row.frB (p:=(b1,m1,d1)) hr1 hf (fun k ac hk2=>(bh k hk2).1 ac);have aw:=Row.frB (p:=(b2,m2,d2)) hr2 hf (fun k ac hk2=>(bh k hk2).2 ac);refine⟨hz,cg,fun w'' ⟨G,hG,bc⟩=>?_⟩;have ak:∀ k∈VL.fp (LB.fp (d+1)) (⟨mu,[],[],sv,(b1,m1,d1),(b2,m2,d2),(b3,m3,d3)⟩:VL (LB (d+1))),k∉G:=fun k hk hm=>(bc k hm).2 (tI _ hk)
  have ag:=Row.frB (p:=(b1,m1,d1)) av hG (fun k ac hk2=>ak k (by unfold VL.fp;simp[ac]) hk2);have ah:=Row.frB (p:=(b2,m2,d2)) aw hG (fun k ac hk2=>ak k (by unfold VL.fp;simp[ac]) hk2);refine⟨?_,?_,?_⟩
  ·rw[em];exact ag.rdU
  ·rw[em];have:=ah.rdZ (fun z hz=>(xP hz).elim);exact this
  rw[em];exact cu w'' ⟨G,hG,fun k hm=>⟨(bc k hm).1,fun hk=>ak k (by unfold VL.fp;simp[hk]) hm⟩⟩
 rw[zC hz];exact⟨rfl,hz⟩
def Z5 (n:Int):Prop:=n=0∨n=5
theorem C1x {α:Type}{f : α→Int}:∀ {l:List α},(∀ a∈l,Z5 (f a))→Z5 (yJ f l)
  | [],_=>.inl rfl
  | a::l,h=>by
    unfold yJ
    split
    · exact C1x fun b hb=>h b (wW _ hb)
    · exact h a (vF ..)
theorem jC {α:Type}{f : α→Int}:∀ {l:List α},(∀ a∈l,f a=0)→yJ f l=0
  | [],_=>rfl
  | a::l,h=>by
    unfold yJ
    rw[zF (h a (vF ..))]
    exact jC fun b hb=>h b (wW _ hb)
theorem C1y {e:Nat→Int}:∀ {m k:Nat},(∀ i,k≤i→i<k+m→Z5 (e i))→Z5 (rO e k m)
  | 0,_,_=>.inl rfl
  | m+1,k,h=>by
    unfold rO
    split
    · exact C1y fun i h1 h2=>h i (by omega) (by omega)
    · exact h k (zG _) (by omega)
structure AlV {β:Type}(fs:List FI) (f:List UInt8→β→Int) (x:FI) (v:VI β):Prop where
  fld:fs.find? (isF v.nU)=some x
  others:xG x v=false
  without:xQ x v=false
  bits:∀ n∈v.bits,yU x.kind n=0
  bytes:∀ l∈v.bytes,wN x.kind l=0
  subs:∀ s∈v.subs,Z5 (f x.type s)
theorem RtV.al (h:RtV fs f x v):AlV fs f x v:=⟨h.fld,h.others,h.without,h.bits,h.bytes,fun s hs=>.inl (h.subs s hs)⟩
theorem D7h {β:Type}{fs:List FI}{f:List UInt8→β→Int}:∀ {l:List (VI β)}{s:Int×List Int},(∀ v∈l,∃ x,AlV fs f x v)→(l.Pairwise fun a b=>a.nU<b.nU)→(∀ v∈l,s.1<v.nU)→(∀ v∈l,0<wU fs v.nU→wU fs v.nU∉s.2)→oL fs l→Z5 (vP fs f l s)
  | [],_,_,_,_,_,_=>.inl rfl
  | v::l,s,h,hr,h1,h2,hap=>by
    obtain⟨x,hx⟩:=h v (vF ..)
    have hc:=SC hx.fld
    have ac:fs.find? (fun y=>decide (y.nU=v.nU))=some x:=hx.fld
    have hv:Z5 (uA fs f v s):=by
      unfold uA;rw[ac];refine C1y fun i _ hi=>?_
      match i,hi with
      | 0,_=>
        left;have:=h1 v (vF ..);show(if decide (v.nU≤s.1) then(2:Int) else 0)=0;rw[zC (by simp;omega)]
      | 1,_=>left;show(if xG x v then(8:Int) else 0)=0;rw[hx.others];rfl
      | 2,_=>show Z5 (if vK x v then(5:Int) else 0);split;exact .inr rfl;exact .inl rfl
      | 3,_=>left;show(if xQ x v then(2:Int) else 0)=0;rw[hx.without];rfl
      | 4,_=>exact .inl (jC hx.bits)
      | 5,_=>exact .inl (jC hx.bytes)
      | 6,_=>exact C1x hx.subs
      | 7,_=>
        left;show(if decide (0<x.cE∧x.cE∈s.2) then(8:Int) else 0)=0;rw[zC];have:=h2 v (vF ..);rw[hc] at this;simpa using this
    unfold vP;split
    · have hn:rS fs v s=(v.nU,tF x s.2):=by
        unfold rS;rw[ac]
      rw[hn];refine D7h (fun a ha=>h a (wW _ ha)) (sP.1 hr).2 (fun a ha=>(sP.1 hr).1 a ha) (fun a ha hp=>?_) (fun a ha b hb=>hap a (wW _ ha) b (wW _ hb));have h3:=h2 a (wW _ ha) hp;have h4:=(sP.1 hr).1 a ha;have h5:=hap a (wW _ ha) v (vF ..) (by omega) hp;unfold tF;split
      · simp only[zU,zS,not_or];exact⟨h3,by rw[←hc];exact h5⟩
      · exact h3
    · exact hv
theorem YV {J:MI→β→β→β}(h1:xG x t=false)(h2:xG x v=false)(hM:x.many=false→x.kind=10→∃ M s1 s2,ms.find? (isN x.type)=some M∧t.subs = [s1]∧v.subs = [s2]):xG x (zX J ms x t v)=false:=by
  cases hm:x.many with
  | true=>
    have e:zX J ms x t v=⟨t.nU,t.bits++v.bits,t.bytes++v.bytes,t.subs++v.subs⟩:=by unfold zX;rw[hm,zF rfl]
    rw[e];unfold xG at h1 h2 ⊢;split
    · rename_i hk;rw[zF hk] at h1 h2;simp only[uZ,yQ] at h1 h2 ⊢;omega
    rename_i hk;rw[zC hk] at h1 h2;split
    · rename_i hk';rw[zF hk'] at h1 h2;simp only[uZ,yQ] at h1 h2 ⊢;omega
    rename_i hk';rw[zC hk'] at h1 h2;simp only[uZ,yQ] at h1 h2 ⊢;omega
  | false=>
  by_cases hk:x.kind=10
  · obtain⟨M,s1,s2,h0,e1,e2⟩:=hM hm hk;have e:zX J ms x t v=⟨t.nU,t.bits,t.bytes,[J M s1 s2]⟩:=by
      unfold zX;rw[hm,zC (by simp),zF hk,h0,e1,e2]
    rw[e];unfold xG at h1 ⊢;rw[zC (by omega),zF hk] at h1 ⊢;exact h1
  have e:zX J ms x t v=v:=by unfold zX;rw[hm,zC (by simp),zC hk]
  rw[e];exact h2
theorem B3g {J:MI→β→β→β}(hw:xQ x v=false):xQ x (zX J ms x t v)=false:=by
  unfold zX;by_cases hm:x.many=true
  · rw[zF hm];unfold xQ;rw[zF (.inl hm)]
  rw[zC hm];by_cases hk:x.kind=10
  · rw[zF hk];unfold xQ;rw[zF (.inr (.inr hk))]
  rw[zC hk];exact hw
theorem C8v {g:GI}(ak:(yB g).1=0):∀ (d:Nat) (k:Int) (m:MI) (a b:BI d),m∈g.mG→yT g d k m.fD a=0→yT g d k m.fD b=0→Z5 (yT g d k m.fD (jnB g.mG d m a b))
  | 0,_,_,a,_,_,_,_=>nomatch (a:Empty)
  | d+1,k,m,a,b,hm,ha,hb=>by
    obtain⟨hk,ra,ua⟩:=pU ha
    obtain⟨_,rb,ub⟩:=pU hb
    have pa:∀ v∈BO.vals a,0<v.nU:=by
      rw[mO] at ha;split at ha
      · cases ha
      · split at ha
        · rename_i h1 h2;exact(cG h2).2.1
        · rename_i h1 h2;exact absurd ha h2
    have pb:∀ v∈BO.vals b,0<v.nU:=by
      rw[mO] at hb;split at hb
      · cases hb
      · split at hb
        · rename_i h1 h2;exact(cG h2).2.1
        · rename_i h1 h2;exact absurd hb h2
    have ah:(BO.vals (jnB g.mG (d+1) m a b)).Pairwise fun a b=>a.nU<b.nU:=cN (BO.vals b) _ ra.rise
    have hall:∀ w∈BO.vals (jnB g.mG (d+1) m a b),(∃ x,AlV m.fD (fun name s=>yT g d (k+1) (wL g name) s) x w)∧0<w.nU:=fun w hw=>by
      have hf:=B7g ah hw;rw[B7w (g:=g) (a:=a) rb w.nU] at hf;unfold fF at hf;cases hB:(BO.vals b).find? (isV w.nU) with
      | none=>
        rw[hB] at hf;simp only at hf;split at hf
        · cases hf
        · obtain⟨x,hx,_⟩:=kP ra hf;exact⟨⟨x,hx.al⟩,pa w (xL hf)⟩
      | some v=>
        obtain⟨x,ac,hx⟩:=kP rb hB;have av:0<w.nU:=by rw[←kV hB];exact pb v (xL hB)
        rw[hB,hx] at hf;cases hA:(BO.vals a).find? (isV w.nU) with
        | none=>
          rw[hA] at hf;obtain rfl:v=w:=Option.some.inj hf;exact⟨⟨x,ac.al⟩,av⟩
        | some t=>
          obtain⟨xt,ag,aj⟩:=kP ra hA;obtain rfl:xt=x:=by rw[hx] at aj;exact(Option.some.inj aj).symm
          rw[hA] at hf;obtain rfl:zX (jnB g.mG d) g.mG xt t v=w:=Option.some.inj hf;have au:xt.many=false→xt.kind=10→∃ M s1 s2,g.mG.find? (isN xt.type)=some M∧t.subs = [s1]∧v.subs = [s2]:=fun h1 h2=>by
            obtain⟨M,hM⟩:=sY ak m hm xt (xL hx) h2;obtain⟨s1,e1⟩:=kX ag.others ag.misc h1 h2;obtain⟨s2,e2⟩:=kX ac.others ac.misc h1 h2;exact⟨M,s1,s2,hM,e1,e2⟩
          refine⟨⟨xt,by rw[qH (by rw[kV hA,←kV hB])];exact ac.fld,YV ag.others ac.others au,B3g ac.without,?_,?_,?_⟩,av⟩
          all_goals
            cases hmm:xt.many with
            | true=>
              have e:zX (jnB g.mG d) g.mG xt t v=⟨t.nU,t.bits++v.bits,t.bytes++v.bytes,t.subs++v.subs⟩:=by unfold zX;rw[hmm,zF rfl]
              rw[e];intro n hn;rcases zU.1 hn with hn|hn
              · first|exact ag.bits n hn|exact ag.bytes n hn|exact .inl (ag.subs n hn)
              · first|exact ac.bits n hn|exact ac.bytes n hn|exact .inl (ac.subs n hn)
            | false=>
              by_cases hkk:xt.kind=10
              · obtain⟨M,s1,s2,h0,e1,e2⟩:=au hmm hkk;have e:zX (jnB g.mG d) g.mG xt t v=⟨t.nU,t.bits,t.bytes,[jnB g.mG d M s1 s2]⟩:=by
                  unfold zX;rw[hmm,zC (by simp),zF hkk,h0,e1,e2]
                rw[e];intro n hn
                first
                  | exact ag.bits n hn
                  | exact ag.bytes n hn
                  | (obtain rfl:=zS.1 hn
                     have z1:=ag.subs s1 (by rw[e1];exact zS.2 rfl);have z2:=ac.subs s2 (by rw[e2];exact zS.2 rfl);rw[mN h0] at z1 z2 ⊢;exact C8v ak d (k+1) M s1 s2 (xL h0) z1 z2)
              · have e:zX (jnB g.mG d) g.mG xt t v=v:=by unfold zX;rw[hmm,zC (by simp),zC hkk]
                rw[e];intro n hn
                first|exact ac.bits n hn|exact ac.bytes n hn|exact .inl (ac.subs n hn)
    have hz:=D7h (s:=(0,[])) (fun v hv=>(hall v hv).1) ah (fun v hv=>(hall v hv).2) (fun v hv _=>by simp) (TY (BO.vals b) _ (cD ra.apart));rw[mO,zC (by omega)];split
    · refine .inl (jC fun r hr=>?_);have aw:r∈BO.unk a++BO.unk b:=hr;rcases zU.1 aw with h|h
      · exact ua r h
      · exact ub r h
    · exact hz
open Go.RowKit Go.WideMaps Go.Maps
theorem C4a {P:Program}{e:TypeId}(he:P.underlying e=some .bool){v:Value}{z:DataW Unit×List MemPlace}(h:plainElem (H:=Unit) P e v=some z):∃ b,v = .bool b∧z=(.lit (.bool b),[]):=by
 unfold plainElem at h;rw[he] at h;cases v <;> simp at h
 exact⟨_,rfl,h.symm⟩
theorem D6t:Keyed Tryz.prog 3:=int_keyed Tryz.underlying3
theorem E1k (w:World):(zeroValue 4).run Tryz.prog w = .ok (.bool false) w:=by kernel_rfl
abbrev OwnH (w:World) (b n:Nat) (D:DataW Unit):Prop:=w.ownsMap Tryz.prog 3 (plainElem (H:=Unit) Tryz.prog 4) b n D
theorem OwnH.bL {b n:Nat}{D:DataW Unit}(h:OwnH w b n D)(hb:zB w w'):OwnH w' b n D:=by
 have hlt:=h.lt;obtain⟨es,clock,h1,F,hs,hD⟩:=h;exact⟨es,clock,(hb.block b hlt).trans h1,F,hs,hD⟩
def HdD (D:DataW Unit)(l:List Int):Prop:=∀ c:Int,0<c→D.atKey (.int .i64 c) (.lit (.bool false)) = .lit (.bool (decide (c∈l)))
theorem HdD.nil:HdD (.map []) []:=fun c _=>by simp;rfl
theorem HdD.put {D:DataW Unit}{l:List Int}(h:HdD D l)(hD:IsMap D)(x:FI):HdD (D.put (.int .i64 x.cE) (.lit (.bool true))) (tF x l):=by
 intro c hc;by_cases e:c=x.cE
 ·subst e;rw[atKey_put_same hD (show WideAt.IsKeyLit (.int .i64 x.cE) from trivial)];unfold tF;rw[zF hc];simp
 rw[atKey_put_other (by simpa using e),h c hc];unfold tF;split
 ·simp[e]
 rfl
theorem B4e {α:Type}{p : α→Bool}{l:List α}{x : α}(h:l.find? p=some x):∃ j,l[j]?=some x∧p x=true∧∀ a∈l.take j,p a=false:=by
 obtain⟨h1,la,lb,e,h2⟩:=XE.1 h;refine⟨la.length,by rw[e];simp,h1,fun a ha=>?_⟩;rw[e,List.take_left'] at ha
 ·simpa using h2 a ha
 rfl
theorem D2h {s:Int×List Int}(hx:fs.find? (fun y=>decide (y.nU=v.nU))=none):uA fs f v s=6:=by
 unfold uA;rw[hx]
theorem D2i {s:Int×List Int}(hx:fs.find? (fun y=>decide (y.nU=v.nU))=some x) :
  uA fs f v s=if v.nU≤s.1 then 2 else if wvE x v f≠0 then wvE x v f else if 0<x.cE∧x.cE∈s.2 then 8 else 0:=by
 unfold uA;rw[hx];show rO (uY x v f s) 0 8=_;unfold wvE;simp only[rO,uY,decide_eq_true_eq];by_cases h0:v.nU≤s.1
 ·simp[h0]
 by_cases h1:xG x v=true
 ·simp[h0,h1]
 by_cases h2:vK x v=true
 ·simp[h0,h1,h2]
 by_cases h3:xQ x v=true
 ·simp[h0,h1,h2,h3]
 by_cases h4:yJ (yU x.kind) v.bits=0
 ·by_cases h5:yJ (wN x.kind) v.bytes=0
  ·by_cases h6:yJ (f x.type) v.subs=0
   ·simp[h0,h1,h2,h3,h4,h5,h6]
   simp[h0,h1,h2,h3,h4,h5,h6]
  simp[h0,h1,h2,h3,h4,h5]
 simp[h0,h1,h2,h3,h4]
theorem C5h {s:Int×List Int}(hx:fs.find? (fun y=>decide (y.nU=v.nU))=some x):rS fs v s=(v.nU,tF x s.2):=by
 unfold rS;rw[hx]
end L
end Go.Proofs.YthcomdofaaeihaaGreatDoor
