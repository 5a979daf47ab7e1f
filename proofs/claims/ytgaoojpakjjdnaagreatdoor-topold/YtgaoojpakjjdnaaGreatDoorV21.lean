import Derived.Test.YtgaoojpakjjdnaaGreatDoorV20
set_option maxHeartbeats 32000000
set_option maxRecDepth 100000
set_option linter.unusedVariables false
namespace Go.Proofs.YtgaoojpakjjdnaaGreatDoor
namespace L
open Go.RowKit
def D0w (g:GI)(t:List UInt8):Int:=A0k (fun m:MI=>decide (m.name=t)) g.msgs
def C8e (g:GI):(d:Nat)→FI→VI (BI d)→VI (BI d)→Except Int (VI (BI d))
 | 0=>fun x a b=>.ok (A4y (jnB g.msgs 0) g.msgs x a b)
 | d+1=>fun x a b=>
  if x.many=false∧x.kind=10 then
   match a.subs,b.subs with
   | s::_,t::_=>if C4v g d (D0w g x.type) s t=0 then .ok (A4y (jnB g.msgs (d+1)) g.msgs x a b) else .error (C4v g d (D0w g x.type) s t)
   | _,_=>.ok (A4y (jnB g.msgs (d+1)) g.msgs x a b)
  else .ok (A4y (jnB g.msgs (d+1)) g.msgs x a b)
theorem A7b (g:GI)(d:Nat)(x:FI)(a b:VI (BI (d+1))):C8e g (d+1) x a b=if x.many=false∧x.kind=10 then
   match a.subs,b.subs with
   | s::_,t::_=>if C4v g d (D0w g x.type) s t=0 then .ok (A4y (jnB g.msgs (d+1)) g.msgs x a b) else .error (C4v g d (D0w g x.type) s t)
   | _,_=>.ok (A4y (jnB g.msgs (d+1)) g.msgs x a b)
  else .ok (A4y (jnB g.msgs (d+1)) g.msgs x a b):=rfl
def A1w (g:GI)(d:Nat)(fs:List FI)(x:FI)(b:BO (BI d))(v:VI (BI d)):Except Int (BO (BI d)):=
 if A1i v=0 then .ok b
 else match b.vals.find? (isV v.number) with
  | none=>if 60<A1i v then .error 5 else .ok ⟨A5i fs x b.vals v,b.unk⟩
  | some u=>match C8e g d x u v with
   | .error E=>.error E
   | .ok v'=>if 60<A1i v' then .error 5 else .ok ⟨A5i fs x b.vals v',b.unk⟩
theorem B7s {w:World}{d:Nat}(v:VI (BI d)){a1 a2 a3:Option Addr}{n1 n2 n3 c1 c2 c3:Nat}(h1:n1=v.bits.length)(h2:n2=v.bytes.length)(h3:n3=v.subs.length)(hl:n1+n2+n3≤1000000000000)(q:Int) :
  Calls Tryz.prog 105 #[.agg #[.int .i64 q,.slice a1 n1 c1,.slice a2 n2 c2,.slice a3 n3 c3]] w fun e w'=>e = .returned (.int .i64 ((A1i v:Nat):Int))∧Below w.heap.size w w':=by
 have hb:Below w.heap.size w (w.alloc (.cells #[.int .i64 q,.slice a1 n1 c1,.slice a2 n2 c2,.slice a3 n3 c3] 62)):=(Below.refl _ _).alloc (Nat.le_refl _) _
 have HN:Hid (((A1i v:Nat):Int)=(n1:Int)+(n2:Int)+(n3:Int)):=by show _=_;unfold A1i;rw[h1,h2,h3];omega
 have ac:n1≤1000000000000:=by omega
 have ag:n2≤1000000000000:=by omega
 have ah:n3≤1000000000000:=by omega
 have e1:IntKind.i64.wrap ((n1:Int)+(n2:Int))=(n1:Int)+(n2:Int):=by rw[IntKind.wrap_i64];omega
 have e2:IntKind.i64.wrap ((n1:Int)+(n2:Int)+(n3:Int))=(n1:Int)+(n2:Int)+(n3:Int):=by rw[IntKind.wrap_i64];omega
 clear h1 h2 h3 hl
 go_enter Tryz.func105,Tryz.ntmps105
 go_wp2_with fail
 go_ret
 exact⟨by rw[HN.out];rfl,hb⟩
theorem C8t {d:Nat}{w:World}{base:Nat}{v:VL (LB d)}(h:OwnV (ekB d) (OwnB base d) w base v):RdL 1 UAt w v.p1.v (VL.pl (LB.pl d) v).bits∧RdL 1 ZAt w v.p2.v (VL.pl (LB.pl d) v).bytes∧RdL 2 (BAt d) w v.p3.v (VL.pl (LB.pl d) v).subs:=
 ⟨h.r1.rdU,h.r2.rdZ h.r2y,RdL.mapB (P:=fun w (x:Addr) (s:LB d)=>∃ g i,x=⟨g,i,none⟩∧∀ j u,(C0f d s)[j]?=some u→w.cell? ⟨g,i+j,none⟩=some u) _ (h.r3.rd _ fun g i a hc=>⟨g,i,rfl,hc⟩) fun _ s hs' ⟨g,i,e,hc⟩=>by rw[e];exact OwnB.at d s g i (h.r3s s hs') hc⟩
def D5j (d:Nat)(w:World)(F:List Nat)(num:Int)(res:Except Int (VI (BI d)))(e:Ending)(w':World):Prop:=
 ∃ (a1:Option Addr) (n1 c1:Nat) (a2:Option Addr) (n2 c2:Nat) (a3:Option Addr) (n3 c3:Nat) (E:Int),e = .returned (.tuple #[.agg #[.int .i64 num,.slice a1 n1 c1,.slice a2 n2 c2,.slice a3 n3 c3],.int .i64 E])∧FrB F w w'∧
  match res with
  | .error E'=>E=E'∧E≠0
  | .ok v=>E=0∧v.number=num∧∀ w'',Apt F w w' w''→RdL 1 UAt w'' (.slice a1 n1 c1) v.bits∧RdL 1 ZAt w'' (.slice a2 n2 c2) v.bytes∧RdL 2 (BAt d) w'' (.slice a3 n3 c3) v.subs
theorem D7e {ms:List MI}{d:Nat}{W0 w:World}{x:FI}{y z:VL (LB d)}{e:Ending}{w':World}(h:B9o ms d W0 w x y z e w')(hn:(A4y (jnB ms d) ms x (VL.pl (LB.pl d) y) (VL.pl (LB.pl d) z)).number=z.number):D5j d w (VL.fp (LB.fp d) y++VL.fp (LB.fp d) z) z.number (.ok (A4y (jnB ms d) ms x (VL.pl (LB.pl d) y) (VL.pl (LB.pl d) z))) e w':=by
 obtain⟨t,rfl,hpl,ho,_,ah,hf⟩:=h
 have aj:∀ w'',Apt (VL.fp (LB.fp d) y++VL.fp (LB.fp d) z) w w' w''→RdL 1 UAt w'' t.p1.v (A4y (jnB ms d) ms x (VL.pl (LB.pl d) y) (VL.pl (LB.pl d) z)).bits∧RdL 1 ZAt w'' t.p2.v (A4y (jnB ms d) ms x (VL.pl (LB.pl d) y) (VL.pl (LB.pl d) z)).bytes∧RdL 2 (BAt d) w'' t.p3.v (A4y (jnB ms d) ms x (VL.pl (LB.pl d) y) (VL.pl (LB.pl d) z)).subs:=fun w'' ⟨G,hG,ag⟩=>by
  rw[←hpl]
  exact C8t (OwnV.fr (OwnB.fr d) ho hG (fun k hk hm=>by
   have h1:=ag k hm
   rcases ah.mem hk with h|h
   ·exact h1.2 h
   ·omega))
 have ac:t.number=z.number:=by rw[←hn,←hpl];rfl
 obtain⟨nu,bi,ak,su,⟨a1,n1,c1⟩,⟨a2,n2,c2⟩,⟨a3,n3,c3⟩⟩:=t
 have ac:nu=z.number:=ac
 subst ac
 exact⟨a1,n1,c1,a2,n2,c2,a3,n3,c3,0,rfl,hf,rfl,hn,aj⟩
def A8e (g:GI)(x:FI):Prop:=∀ (d:Nat) (W0 w:World) (y z:VL (LB d)),MetIn d W0 w y z→∀ (am:Option Addr) (nm cm:Nat) (ae:Option Addr) (ne ce:Nat),y.number=z.number→(∀ j:Nat,j<g.msgs.length→WIn g am nm cm ae ne ce (j:Int) w)→(x.many=false→x.kind=10→(∃ M,g.msgs.find? (isN x.type)=some M)∧y.bits = []∧y.bytes = []∧z.bits = []∧z.bytes = []∧∃ s t,y.subs = [s]∧z.subs = [t]∧BOk d (LB.pl d s)∧BOk d (LB.pl d t))→
  Calls Tryz.prog 106 #[.agg #[.slice am nm cm,.slice ae ne ce],vFI x,.agg #[.int .i64 y.number,y.p1.v,y.p2.v,y.p3.v],.agg #[.int .i64 z.number,z.p1.v,z.p2.v,z.p3.v]] w fun e w'=>D5j d w (VL.fp (LB.fp d) y++VL.fp (LB.fp d) z) z.number (C8e g d x (VL.pl (LB.pl d) y) (VL.pl (LB.pl d) z)) e w'
theorem D1h {g:GI}{d:Nat}{W0 w:World}{y z:VL (LB d)}(h:MetIn d W0 w y z){am:Option Addr}{nm cm:Nat}{ae:Option Addr}{ne ce:Nat}(x:FI)(hS:x.many=false→x.kind=10→A8e g x)(ac:y.number=z.number)(hI:∀ j:Nat,j<g.msgs.length→WIn g am nm cm ae ne ce (j:Int) w)
  (ah:x.many=false→x.kind=10→(∃ M,g.msgs.find? (isN x.type)=some M)∧y.bits = []∧y.bytes = []∧z.bits = []∧z.bytes = []∧∃ s t,y.subs = [s]∧z.subs = [t]∧BOk d (LB.pl d s)∧BOk d (LB.pl d t)) :
  Calls Tryz.prog 106 #[.agg #[.slice am nm cm,.slice ae ne ce],vFI x,.agg #[.int .i64 y.number,y.p1.v,y.p2.v,y.p3.v],.agg #[.int .i64 z.number,z.p1.v,z.p2.v,z.p3.v]] w fun e w'=>D5j d w (VL.fp (LB.fp d) y++VL.fp (LB.fp d) z) z.number (C8e g d x (VL.pl (LB.pl d) y) (VL.pl (LB.pl d) z)) e w':=by
 have ag:(VL.pl (LB.pl d) y).number=(VL.pl (LB.pl d) z).number:=ac
 have aj:(A4y (jnB g.msgs d) g.msgs x (VL.pl (LB.pl d) y) (VL.pl (LB.pl d) z)).number=z.number:=B0n ag
 cases hm:x.many with
 | true=>
  have e:C8e g d x (VL.pl (LB.pl d) y) (VL.pl (LB.pl d) z) = .ok (A4y (jnB g.msgs d) g.msgs x (VL.pl (LB.pl d) y) (VL.pl (LB.pl d) z)):=by
   cases d with
   | zero=>rfl
   | succ d=>rw[A7b,if_neg (by rw[hm];simp)]
  rw[e]
  exact(C7a h am nm cm ae ne ce x hm ac).mono fun e w' ho=>D7e ho aj
 | false=>
  by_cases hk:x.kind=10
  ·exact hS hm hk d W0 w y z h am nm cm ae ne ce ac hI ah
  ·have e:C8e g d x (VL.pl (LB.pl d) y) (VL.pl (LB.pl d) z) = .ok (A4y (jnB g.msgs d) g.msgs x (VL.pl (LB.pl d) y) (VL.pl (LB.pl d) z)):=by
    cases d with
    | zero=>rfl
    | succ d=>rw[A7b,if_neg (fun h=>hk h.2)]
   rw[e]
   exact(C6z h am nm cm ae ne ce x hm hk).mono fun e w' ho=>D7e ho aj
end L
end Go.Proofs.YtgaoojpakjjdnaaGreatDoor
