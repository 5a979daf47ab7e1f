import Derived.Test.YtgaoojpakjjdnaaGreatDoorU19
import Derived.Test.YtgaoojpakjjdnaaGreatDoorU14
import Derived.Test.YtgaoojpakjjdnaaGreatDoorU09
set_option maxHeartbeats 32000000
set_option maxRecDepth 100000
namespace Go.Proofs.YtgaoojpakjjdnaaGreatDoor
namespace L
open Go.RowKit
def A4v (e:Nat→Int):Nat→Nat→Int
 | _,0=>0
 | k,m+1=>if e k=0 then A4v e (k+1) m else e k
theorem B5c {c0 ca B g cm ct cv:Nat}{w:World}(L:List (Nat×Array Value)) (sAt:Nat→Int×List Int) (eAt:Nat→Int) (hn:L.length≤1000) (hm:Mm c0 ca B (sAt 0) w)
  (ag:∀ s' W,Stp c0 ca B w s' W→∀ (j:Nat) (p:Nat×Array Value),L[j]?=some p→W.cell? ⟨g,j,none⟩=some (.func (.func p.1) #[] p.2))
  (hstep:∀ (j:Nat) (p:Nat×Array Value) (W:World),L[j]?=some p→Stp c0 ca B w (sAt j) W→(∀ i,i < j→eAt i=0)→Calls Tryz.prog 121 #[.func (.func p.1) #[] p.2,.pointer (some ⟨cm,0,none⟩),.pointer (some ⟨ct,0,none⟩),.pointer (some ⟨cv,0,none⟩)] W fun e W'=>e = .returned (.int .i64 (eAt j))∧Stp c0 ca B W (sAt (j+1)) W') :
  Calls Tryz.prog 120 #[.slice (some ⟨g,0,none⟩) L.length L.length,.func (.func 121) #[] #[.pointer (some ⟨cm,0,none⟩),.pointer (some ⟨ct,0,none⟩),.pointer (some ⟨cv,0,none⟩)]] w
   fun e w'=>e = .returned (.int .i64 (A4v eAt 0 L.length))∧∃ s',Stp c0 ca B w s' w'∧(A4v eAt 0 L.length=0→s'=sAt L.length):=by
 obtain⟨n,Hn⟩:∃ n,Hid (n=L.length):=⟨_,rfl⟩
 obtain⟨R,HR⟩:∃ R,Hid (R=A4v eAt 0 n):=⟨_,rfl⟩
 rw[←Hn.out] at hn ⊢
 rw[←HR.out]
 go_enter Tryz.func120,Tryz.ntmps120
 go_wp2_with fail
 go_loopg [10] n (fun m i wr=>∃ k:Nat,k+m=n∧i = .int .i64 k∧Hid (R=A4v eAt k m)∧Hid (∀ i,i < k→eAt i=0)∧Stp c0 ca B w (sAt k) wr)
 case atStart=>exact⟨0,by omega,rfl,HR,(show Hid _ from fun i hi=>absurd hi (Nat.not_lt_zero i)),Stp.refl hm⟩
 case round=>
  obtain⟨k,hk,rfl,HK,HZ,hs⟩:=hrel
  by_cases hlt:k < n
  ·obtain⟨p,Hp⟩:∃ p,Hid (L[k]?=some p):=⟨L[k]'(by rw[←Hn.out];exact hlt),List.getElem?_eq_getElem (by rw[←Hn.out];exact hlt)⟩
   obtain⟨fn,cap⟩:=p
   have hat:wr.cell? ⟨g,k,none⟩=some (.func (.func fn) #[] cap):=ag _ wr hs k (fn,cap) Hp.out
   have aj:(k:Int) < (n:Int):=by omega
   have ac:=hstep k (fn,cap) wr Hp.out hs HZ.out
   obtain⟨m,rfl⟩:∃ m,gk=m+1:=⟨gk - 1,by omega⟩
   have hst:A4v eAt k (m+1)=if eAt k=0 then A4v eAt (k+1) m else eAt k:=rfl
   obtain⟨F,HF⟩:∃ F,Hid (F=eAt k):=⟨_,rfl⟩
   rw[←HF.out] at ac hst
   by_cases hz:F=0
   ·have HX:Hid (R=A4v eAt (k+1) m):=by
     show _=_
     rw[HK.out,hst,if_pos hz]
    have ah:Hid (∀ i,i < k+1→eAt i=0):=by
     show ∀ i,i < k+1→eAt i=0
     intro i hi
     rcases Nat.lt_succ_iff_lt_or_eq.1 hi with h|h
     ·exact HZ.out i h
     ·rw[h,←HF.out,hz]
    have ez:(F != 0)=false:=by simp[hz]
    clear hst hz hstep ag
    go_wp2_with fail
    refine ac.mono ?_
    rintro e w1 ⟨rfl,hs1⟩
    go_wp2_with fail
    go_roundg m
    case measure=>omega
    case rel=>exact⟨k+1,by omega,by go_num,HX,ah,hs.trans hs1⟩
   ·have HX:Hid (R=F):=by
     show _=_
     rw[HK.out,hst,if_neg hz]
    have HY:Hid (R≠0):=by show R≠0;rw[HX.out];exact hz
    have ez:(F != 0)=true:=by simpa using hz
    clear hst hz hstep ag
    go_wp2_with fail
    refine ac.mono ?_
    rintro e w1 ⟨rfl,hs1⟩
    go_wp2
    go_ret
    exact⟨by rw[HX.out];rfl,_,hs.trans hs1,fun e=>absurd e HY.out⟩
  ·obtain rfl:k=n:=by omega
   obtain rfl:gk=0:=by omega
   have HX:Hid (R=0):=HK
   go_wp2
   go_ret
   exact⟨by rw[HX.out];rfl,_,hs,fun _=>rfl⟩
open Go.ChangeShapes Go.WideShapes Go.ChangeAt Go.RowKit
section
variable {H:Type}{enc:TypeId×Value→H}{w:World}{base:Nat}{spare:Nat→Bool}{held:Bool}
end
open Go.RowKit
theorem A2n {α:Type}(p : α→Bool):∀ l:List α,(A0m p l = -1∧l.find? p=none)∨∃ (k:Nat) (x : α),A0m p l=(k:Int)∧l[k]?=some x∧l.find? p=some x∧p x=true
 | []=>.inl ⟨rfl,rfl⟩
 | a::l=>by
  cases hp:p a with
  | true=>exact .inr ⟨0,a,by simp[A0m,List.findIdx?_cons,hp],rfl,by simp[hp],hp⟩
  | false=>
   rcases A2n p l with⟨h1,h2⟩|⟨k,x,h1,h2,h3,h4⟩
   ·refine .inl ⟨?_,by simp[hp,h2]⟩
    unfold A0m at h1 ⊢
    rw[List.findIdx?_cons,hp]
    cases h:l.findIdx? p with
    | none=>simp
    | some k=>rw[h] at h1;simp at h1
   ·refine .inr ⟨k+1,x,?_,by simpa using h2,by simp[hp,h3],h4⟩
    unfold A0m at h1 ⊢
    rw[List.findIdx?_cons,hp]
    cases h:l.findIdx? p with
    | none=>rw[h] at h1;simp at h1
    | some k'=>rw[h] at h1;simp at h1 ⊢;omega
def eAt {β:Type}(x:FI) (v:VI β) (f:List UInt8→β→Int) (s:Int×List Int):Nat→Int
 | 0=>if decide (v.number≤s.1) then 2 else 0
 | 1=>if A1m x v then 8 else 0
 | 2=>if A5x x v then 5 else 0
 | 3=>if A0v x v then 2 else 0
 | 4=>A1b (A2u x.kind) v.bits
 | 5=>A1b (A2g x.kind) v.bytes
 | 6=>A1b (f x.type) v.subs
 | 7=>if decide (0 < x.choice∧x.choice∈s.2) then 8 else 0
 | _=>0
def sAt {β:Type}(x:FI) (v:VI β) (s:Int×List Int):Nat→Int×List Int
 | 0=>s
 | j+1=>(v.number,if j=7 then A7m x s.2 else s.2)
structure Fx (c0 ca B:Nat) (w:World) (k:Nat) (xs:Array Value) (t:TypeId):Prop where
 at_:w.heap[k]?=some (.cells xs t (0,0))
 lt:k < B
 n0:k≠c0
 na:k≠ca
theorem Fx.stp {c0 ca B:Nat}{w w':World}{k:Nat}{xs:Array Value}{t:TypeId}{s:Int×List Int}(h:Fx c0 ca B w k xs t) (hs:Stp c0 ca B w s w'):Fx c0 ca B w' k xs t:=⟨hs.block h.at_ h.n0 h.na h.lt,h.lt,h.n0,h.na⟩
theorem Fx.below {c0 ca B:Nat}{w w':World}{k:Nat}{xs:Array Value}{t:TypeId}(h:Fx c0 ca B w k xs t) (hb:Below w.heap.size w w'):Fx c0 ca B w' k xs t:=⟨(hb.block k (Array.getElem?_eq_some_iff.1 h.at_).1).trans h.at_,h.lt,h.n0,h.na⟩
def pt (k:Nat):Value:=.pointer (some ⟨k,0,none⟩)
def ckL (gd:Nat) (b e:Nat→Nat):List (Nat×Array Value):=[(194,#[pt (b 0),pt (e 0)]),(194,#[pt (b 1),pt (e 1)]),(194,#[pt (b 2),pt (e 2)]),(194,#[pt (b 3),pt (e 3)]),(126,#[]),(130,#[]),(134,#[pt gd]),(194,#[pt (b 7),pt (e 7)])]
def ckV (p:Nat×Array Value):Value:=.func (.func p.1) #[] p.2
structure CkM (c0 ca B fnD:Nat) (capD:Array Value) (g gd:Nat) (b e:Nat→Nat) (w:World):Prop where
 arr:Fx c0 ca B w g ((ckL gd b e).map ckV).toArray 188
 deep:Fx c0 ca B w gd #[.func (.func fnD) #[] capD] 113
 f0:Fx c0 ca B w (b 0) #[.func (.func 195) #[] #[pt c0]] 132
 f1:Fx c0 ca B w (b 1) #[.func (.func 124) #[] #[]] 132
 f2:Fx c0 ca B w (b 2) #[.func (.func 125) #[] #[]] 132
 f3:Fx c0 ca B w (b 3) #[.func (.func 70) #[] #[]] 132
 f7:Fx c0 ca B w (b 7) #[.func (.func 196) #[] #[pt ca]] 132
 x0:Fx c0 ca B w (e 0) #[.int .i64 2] 33
 x1:Fx c0 ca B w (e 1) #[.int .i64 8] 33
 x2:Fx c0 ca B w (e 2) #[.int .i64 5] 33
 x3:Fx c0 ca B w (e 3) #[.int .i64 2] 33
 x7:Fx c0 ca B w (e 7) #[.int .i64 8] 33
theorem CkM.stp {c0 ca B ag:Nat}{ac:Array Value}{g gd:Nat}{b e:Nat→Nat}{w w':World}{s:Int×List Int}(h:CkM c0 ca B ag ac g gd b e w) (k:Stp c0 ca B w s w'):CkM c0 ca B ag ac g gd b e w':=
 ⟨h.arr.stp k,h.deep.stp k,h.f0.stp k,h.f1.stp k,h.f2.stp k,h.f3.stp k,h.f7.stp k,h.x0.stp k,h.x1.stp k,h.x2.stp k,h.x3.stp k,h.x7.stp k⟩
theorem CkM.below {c0 ca B ag:Nat}{ac:Array Value}{g gd:Nat}{b e:Nat→Nat}{w w':World}(h:CkM c0 ca B ag ac g gd b e w) (k:Below w.heap.size w w'):CkM c0 ca B ag ac g gd b e w':=
 ⟨h.arr.below k,h.deep.below k,h.f0.below k,h.f1.below k,h.f2.below k,h.f3.below k,h.f7.below k,h.x0.below k,h.x1.below k,h.x2.below k,h.x3.below k,h.x7.below k⟩
structure VRd {d:Nat}(w:World) (v:VI (BI d)) (a1:Option Addr) (n1 c1:Nat) (a2:Option Addr) (n2 c2:Nat) (a3:Option Addr) (n3 c3:Nat):Prop where
 r1:RdL 1 UAt w (.slice a1 n1 c1) v.bits
 r2:RdL 1 ZAt w (.slice a2 n2 c2) v.bytes
 r3:RdL 2 (BAt d) w (.slice a3 n3 c3) v.subs
 u:∀ n∈v.bits,n < 18446744073709551616
 b1:n1≤140737488355328
 b2:n2≤140737488355328
 b3:n3≤140737488355328
theorem VRd.below {d:Nat}{w w':World}{v:VI (BI d)}{a1 a2 a3:Option Addr}{n1 c1 n2 c2 n3 c3:Nat}(h:VRd w v a1 n1 c1 a2 n2 c2 a3 n3 c3) (hb:Below w.heap.size w w'):VRd w' v a1 n1 c1 a2 n2 c2 a3 n3 c3:=
 ⟨h.r1.below UAt.stays hb,h.r2.below ZAt.stays hb,h.r3.below (BAt.stays d) hb,h.u,h.b1,h.b2,h.b3⟩
theorem B7x {d:Nat}{c0 ca B ak:Nat}{ag:Array Value}{g gd:Nat}{b e:Nat→Nat}{V:World}{s:Int×List Int}{x:FI}{v:VI (BI d)}{f:List UInt8→BI d→Int}{a1 a2 a3:Option Addr}{n1 c1 n2 c2 n3 c3:Nat}(ac:CkM c0 ca B ak ag g gd b e V) (hv:VRd V v a1 n1 c1 a2 n2 c2 a3 n3 c3) (hT:Tabs V) (hl:s.2.length≤17592186044415)
  (aj:∀ (args:Array Value) (w:World),(callFunc ak args).run Tryz.prog w = .ok (.enter ak args) w) (ah:A1m x v=false→Deeper d ak ag x.type (f x.type) v.subs V)
  (j:Nat) (p:Nat×Array Value) (hp:(ckL gd b e)[j]?=some p) (hm:Mm c0 ca B (sAt x v s j) V) (hz:∀ i,i < j→eAt x v f s i=0) :
  (∀ (args:Array Value) (w:World),(callFunc p.1 args).run Tryz.prog w = .ok (.enter p.1 args) w)∧Calls Tryz.prog p.1 (#[vFI x,.agg #[.int .i64 v.number,.slice a1 n1 c1,.slice a2 n2 c2,.slice a3 n3 c3]]++p.2) V fun r W'=>r = .returned (.int .i64 (eAt x v f s j))∧Stp c0 ca B V (sAt x v s (j+1)) W':=by
 have H1:Hid (n1=v.bits.length):=hv.r1.len.1
 have H2:Hid (n2=v.bytes.length):=hv.r2.len.1
 have H3:Hid (n3=v.subs.length):=hv.r3.len.1
 have hw:∀ (args:Array Value) (w:World),(callFunc 194 args).run Tryz.prog w = .ok (.enter 194 args) w:=enters_of Tryz.func194 (by kernel_rfl) rfl
 match j,hp,hm,hz with
 | 0,hp,hm,_=>
  cases hp
  refine⟨hw,A7o (s':=(v.number,s.2)) (r:=decide (v.number≤s.1)) hm (enters_of Tryz.func195 (by kernel_rfl) rfl) ac.f0.at_ ac.x0.at_ ac.x0.lt ac.x0.n0 ac.x0.na x v fun W hW=>?_⟩
  exact C6i (hm.below hW) x v
 | 1,hp,hm,_=>
  cases hp
  refine⟨hw,A7o (s':=(v.number,s.2)) (r:=A1m x v) hm (enters_of Tryz.func124 (by kernel_rfl) rfl) ac.f1.at_ ac.x1.at_ ac.x1.lt ac.x1.n0 ac.x1.na x v fun W hW=>?_⟩
  exact(B9a x v H1 H2 H3 hv.b1 hv.b2 hv.b3).mono fun _ _ h=>⟨h.1,Stp.of_below (hm.below hW) h.2⟩
 | 2,hp,hm,_=>
  cases hp
  refine⟨hw,A7o (s':=(v.number,s.2)) (r:=A5x x v) hm (enters_of Tryz.func125 (by kernel_rfl) rfl) ac.f2.at_ ac.x2.at_ ac.x2.lt ac.x2.n0 ac.x2.na x v fun W hW=>?_⟩
  exact(C5s x v H1 H2 H3 hv.b1 hv.b2 hv.b3).mono fun _ _ h=>⟨h.1,Stp.of_below (hm.below hW) h.2⟩
 | 3,hp,hm,_=>
  cases hp
  refine⟨hw,A7o (s':=(v.number,s.2)) (r:=A0v x v) hm (enters_of Tryz.func70 (by kernel_rfl) rfl) ac.f3.at_ ac.x3.at_ ac.x3.lt ac.x3.n0 ac.x3.na x v fun W hW=>?_⟩
  have hv':=hv.below hW
  exact(B0d x v hv'.r1 hv'.r2 hv'.r3 hv.b1 hv.b2 hv.b3).mono fun _ _ h=>⟨h.1,Stp.of_below (hm.below hW) h.2⟩
 | 4,hp,hm,_=>
  cases hp
  exact⟨enters_of Tryz.func126 (by kernel_rfl) rfl,(B7u x v hv.r1 hv.u).mono fun _ _ h=>⟨h.1,Stp.of_below hm h.2⟩⟩
 | 5,hp,hm,_=>
  cases hp
  exact⟨enters_of Tryz.func130 (by kernel_rfl) rfl,(B7v x v hv.r2 hT).mono fun _ _ h=>⟨h.1,Stp.of_below hm h.2⟩⟩
 | 6,hp,hm,hz=>
  cases hp
  have ho:A1m x v=false:=by
   have:=hz 1 (by omega)
   cases h:A1m x v with
   | false=>rfl
   | true=>simp[eAt,h] at this
  exact⟨enters_of Tryz.func134 (by kernel_rfl) rfl,(B7w x v hv.r3 ac.deep.at_ aj (ah ho)).mono fun _ _ h=>⟨h.1,Stp.of_below hm h.2⟩⟩
 | 7,hp,hm,_=>
  cases hp
  refine⟨hw,A7o (s':=(v.number,A7m x s.2)) (r:=decide (0 < x.choice∧x.choice∈s.2)) hm (enters_of Tryz.func196 (by kernel_rfl) rfl) ac.f7.at_ ac.x7.at_ ac.x7.lt ac.x7.n0 ac.x7.na x v fun W hW=>?_⟩
  exact C3c (s:=(v.number,s.2)) (hm.below hW) hl x v
 | j+8,hp,_,_=>
  rw[List.getElem?_eq_none (by simp[ckL])] at hp
  cases hp
open Go.RowKit
def B9r {β:Type}(fs:List FI) (f:List UInt8→β→Int) (v:VI β) (s:Int×List Int):Int:=
 match fs.find? (fun y=>decide (y.number=v.number)) with
 | none=>6
 | some x=>A4v (eAt x v f s) 0 8
def B0p {β:Type}(fs:List FI) (v:VI β) (s:Int×List Int):Int×List Int:=
 match fs.find? (fun y=>decide (y.number=v.number)) with
 | none=>s
 | some x=>(v.number,A7m x s.2)
structure Ctx {d:Nat}(wE:World) (c0 ca B fnD:Nat) (capD:Array Value) (g gd:Nat) (b e:Nat→Nat) (cm cl:Nat) (nm:List UInt8) (af:Option Addr) (nf cf:Nat) (ab:Option Addr) (nb cb:Nat) (fs:List FI) (f:List UInt8→BI d→Int) (Q:BI d→Prop) (w:World):Prop where
 below:Below wE.heap.size wE w
 e0:wE.heap.size≤c0
 ea:wE.heap.size≤ca
 ck:CkM c0 ca B fnD capD g gd b e w
 m:Fx c0 ca B w cm #[.string (S nm),.slice af nf cf,.slice ab nb cb] 38
 l:Fx c0 ca B w cl #[.slice (some ⟨g,0,none⟩) 8 8] 115
 fields:RdL 6 FAt wE (.slice af nf cf) fs
 tabs:Tabs wE
 entD:∀ (args:Array Value) (w:World),(callFunc fnD args).run Tryz.prog w = .ok (.enter fnD args) w
 deeper:∀ x∈fs,∀ v:VI (BI d),(∀ s∈v.subs,Q s)→A1m x v=false→Deeper d fnD capD x.type (f x.type) v.subs wE
theorem Ctx.stp {d:Nat}{wE:World}{c0 ca B ag:Nat}{ac:Array Value}{g gd:Nat}{b e:Nat→Nat}{cm cl:Nat}{nm:List UInt8}{af:Option Addr}{nf cf:Nat}{ab:Option Addr}{nb cb:Nat}{fs:List FI}{f:List UInt8→BI d→Int}{Q:BI d→Prop}{w w':World}{s:Int×List Int}(h:Ctx wE c0 ca B ag ac g gd b e cm cl nm af nf cf ab nb cb fs f Q w) (k:Stp c0 ca B w s w'):Ctx wE c0 ca B ag ac g gd b e cm cl nm af nf cf ab nb cb fs f Q w':=
 ⟨h.below.trans (k.below h.e0 h.ea),h.e0,h.ea,h.ck.stp k,h.m.stp k,h.l.stp k,h.fields,h.tabs,h.entD,h.deeper⟩
theorem B9u {d:Nat}{wE:World}{c0 ca B bl:Nat}{ba:Array Value}{g gd:Nat}{b e:Nat→Nat}{cm cl:Nat}{nm:List UInt8}{af:Option Addr}{nf cf:Nat}{ab:Option Addr}{nb cb:Nat}{fs:List FI}{f:List UInt8→BI d→Int}{Q:BI d→Prop}{w:World}{s:Int×List Int}(hC:Ctx wE c0 ca B bl ba g gd b e cm cl nm af nf cf ab nb cb fs f Q w) (hm:Mm c0 ca B s w) (hl:s.2.length≤17592186044415)
  {v:VI (BI d)}{a1 a2 a3:Option Addr}{n1 c1 n2 c2 n3 c3:Nat}(hv:VRd wE v a1 n1 c1 a2 n2 c2 a3 n3 c3) (hQ:∀ s∈v.subs,Q s) :
  Calls Tryz.prog 119 #[.agg #[.int .i64 v.number,.slice a1 n1 c1,.slice a2 n2 c2,.slice a3 n3 c3],.pointer (some ⟨cm,0,none⟩),.pointer (some ⟨cl,0,none⟩)] w
   fun r w'=>r = .returned (.int .i64 (B9r fs f v s))∧∃ s',Stp c0 ca B w s' w'∧(B9r fs f v s=0→s'=B0p fs v s):=by
 obtain⟨W1,ag⟩:∃ W1,Hid (W1=w.alloc (.cells #[.int .i64 v.number,.slice a1 n1 c1,.slice a2 n2 c2,.slice a3 n3 c3] 62)):=⟨_,rfl⟩
 have hb1:Below w.heap.size w W1:=by rw[ag.out];exact(Below.refl _ _).alloc (Nat.le_refl _) _
 have x1:W1.heap[w.heap.size]?=some (.cells #[.int .i64 v.number,.slice a1 n1 c1,.slice a2 n2 c2,.slice a3 n3 c3] 62 (0,0)):=by rw[ag.out];exact heap_alloc_new _ _
 have hz1:w.heap.size+1≤W1.heap.size:=by rw[ag.out];simp
 have bn:Below wE.heap.size wE W1:=hC.below.trans (hb1.mono hC.below.size)
 have ak:=A2h (hC.fields.below FAt.stays bn) ⟨ab,nb,cb,rfl⟩ ⟨nm,rfl⟩ v.number
 have m0:w.cell? ⟨cm,0,none⟩=some (.string (S nm)):=A0a hC.m.at_ 0 _ rfl
 have m1:w.cell? ⟨cm,1,none⟩=some (.slice af nf cf):=A0a hC.m.at_ 1 _ rfl
 have m2:w.cell? ⟨cm,2,none⟩=some (.slice ab nb cb):=A0a hC.m.at_ 2 _ rfl
 have bt:=(Array.getElem?_eq_some_iff.1 hC.m.at_).1
 have br:=(Array.getElem?_eq_some_iff.1 hC.l.at_).1
 rcases A2n (fun y:FI=>decide (y.number=v.number)) fs with⟨h1,h2⟩|⟨k,x,h1,h2,h3,h4⟩
 ·have HR:Hid (B9r fs f v s=6):=by show _=_;unfold B9r;rw[h2]
  rw[HR.out]
  rw[h1] at ak
  clear h1 h2
  go_enter Tryz.func119,Tryz.ntmps119
  go_wp2_with fail
  rw[←ag.out]
  refine ak.mono ?_
  rintro r w2 ⟨rfl,hb2⟩
  go_wp2
  go_ret
  refine⟨rfl,s,Stp.of_below hm (hb1.trans ((hb2.mono hb1.size).alloc (Nat.le_trans hb1.size hb2.size) _)),fun h=>by cases h⟩
 ·have HR:Hid (B9r fs f v s=A4v (eAt x v f s) 0 8):=by show _=_;unfold B9r;rw[h3]
  have HN:Hid (B0p fs v s=sAt x v s 8):=by show _=_;unfold B0p;rw[h3];rfl
  rw[HR.out,HN.out]
  rw[h1] at ak
  have hx:x∈fs:=List.mem_of_getElem? h2
  have HK:Hid (fs[k]?=some x):=h2
  clear h1 h2 h3 h4
  go_enter Tryz.func119,Tryz.ntmps119
  go_wp2_with fail
  rw[←ag.out]
  refine ak.mono ?_
  rintro r w2 ⟨rfl,hb2⟩
  obtain⟨W3,au⟩:∃ W3,Hid (W3=w2.alloc (.cells #[.int .i64 (k:Int)] 3)):=⟨_,rfl⟩
  have bg:Below w2.heap.size w2 W3:=by rw[au.out];exact(Below.refl _ _).alloc (Nat.le_refl _) _
  have ah:Below W1.heap.size W1 W3:=hb2.trans (bg.mono hb2.size)
  have hb3:Below w.heap.size w W3:=hb1.trans (ah.mono hb1.size)
  have x3:W3.heap[w2.heap.size]?=some (.cells #[.int .i64 (k:Int)] 3 (0,0)):=by rw[au.out];exact heap_alloc_new _ _
  have y3:W3.heap[w.heap.size]?=some (.cells #[.int .i64 v.number,.slice a1 n1 c1,.slice a2 n2 c2,.slice a3 n3 c3] 62 (0,0)):=(ah.block _ (by omega)).trans x1
  have hs3:=Stp.of_below hm hb3
  have aw:=hC.stp hs3
  have hw2:w.heap.size≤w2.heap.size:=Nat.le_trans hb1.size hb2.size
  have ac:=B5c (g:=g) (cm:=cm) (ct:=w2.heap.size) (cv:=w.heap.size) (ckL gd b e) (sAt x v s) (eAt x v f s) (by simp[ckL]) hs3.mm (w:=W3)
   (fun s' W hS j p hp=>by
    have:=(aw.stp hS).ck.arr.at_
    refine A0a this j _ ?_
    rw[List.getElem?_toArray,List.getElem?_map,hp]
    rfl)
   (fun j p W hp hS hz=>by
    have hCW:=aw.stp hS
    have hD:Below W.heap.size W W.drew:=(Below.refl _ _).drew
    have bk:=Stp.of_below hS.mm hD
    have bc:Below wE.heap.size wE W.drew:=hCW.below.trans (hD.mono hCW.below.size)
    obtain⟨bh,aj⟩:=B7x (hCW.ck.below hD) (hv.below bc) (hC.tabs.below bc) hl hC.entD (fun ho=>(hC.deeper x hx v hQ ho).below bc) j p hp bk.mm hz
    exact C1h (post:=fun w'=>Stp c0 ca B W (sAt x v s (j+1)) w') hCW.m.at_ (Stp.block' hm hb3 hS x3 hw2) (Stp.block' hm hb3 hS y3 (Nat.le_refl _)) (hC.fields.below FAt.stays hCW.below) HK.out bh (aj.mono fun _ _ h=>⟨h.1,bk.trans h.2⟩))
  have k3:W3.cell? ⟨cl,0,none⟩=some (.slice (some ⟨g,0,none⟩) 8 8):=A0a aw.l.at_ 0 _ rfl
  have q3:W3.cell? ⟨w2.heap.size,0,none⟩=some (.int .i64 (k:Int)):=A0a x3 0 _ rfl
  have hlen:(ckL gd b e).length=8:=rfl
  rw[hlen] at ac
  have bu:¬ ((k:Int) < 0):=by omega
  have bv:=A3i
  rw[au.out] at k3 q3
  clear ak hC aw hv x1 x3 y3
  go_wp2_with fail
  rw[←au.out]
  refine ac.mono ?_
  rintro r w4 ⟨rfl,s',bq,bp⟩
  go_wp2
  go_ret
  exact⟨rfl,s',hs3.trans bq,bp⟩
open Go.RowKit
def A5a {β:Type}(fs:List FI) (f:List UInt8→β→Int):List (VI β)→Int×List Int→Int
 | [],_=>0
 | v::l,s=>if B9r fs f v s=0 then A5a fs f l (B0p fs v s) else B9r fs f v s
theorem C6t {β:Type}{fs:List FI}{f:List UInt8→β→Int}{l:List (VI β)}{k:Nat}{v:VI β}(h:l[k]?=some v) (s:Int×List Int):A5a fs f (l.drop k) s=if B9r fs f v s=0 then A5a fs f (l.drop (k+1)) (B0p fs v s) else B9r fs f v s:=by
 obtain⟨hk,e⟩:=List.getElem?_eq_some_iff.1 h
 rw[List.drop_eq_getElem_cons hk,e,A5a]
theorem C2a {β:Type}(fs:List FI) (v:VI β) (s:Int×List Int):(B0p fs v s).2.length≤s.2.length+1:=by
 unfold B0p
 split
 ·omega
 ·unfold A7m
  split <;> simp
theorem C6u {d:Nat}{wE:World}{c0 ca B ba:Nat}{aj:Array Value}{g gd:Nat}{b e:Nat→Nat}{cm cl:Nat}{nm:List UInt8}{af:Option Addr}{nf cf:Nat}{ab:Option Addr}{nb cb:Nat}{fs:List FI}{f:List UInt8→BI d→Int}{Q:BI d→Prop}{w:World}{s:Int×List Int}(hC:Ctx wE c0 ca B ba aj g gd b e cm cl nm af nf cf ab nb cb fs f Q w) (hm:Mm c0 ca B s w) (hs0:s.2 = [])
  {l:List (VI (BI d))}{vl:Value}(h:RdL 4 (VAt (BAt d)) wE vl l) (hV:∀ v∈l,VOk Q v) (hlen:l.length*80≤reachBytes) :
  Calls Tryz.prog 118 #[vl,.func (.func 119) #[] #[.pointer (some ⟨cm,0,none⟩),.pointer (some ⟨cl,0,none⟩)]] w
   fun r w'=>r = .returned (.int .i64 (A5a fs f l s))∧∃ s',Stp c0 ca B w s' w':=by
 obtain⟨ao,n,cap,rfl,Hn,bg⟩:=h.shape
 have hn:n*80≤reachBytes:=by rw[Hn.out];exact hlen
 unfold reachBytes at hn
 obtain⟨R,HR⟩:∃ R,Hid (R=A5a fs f l s):=⟨_,rfl⟩
 rw[←HR.out]
 have bc:s.2.length≤0:=by rw[hs0];simp
 go_enter Tryz.func118,Tryz.ntmps118
 go_wp2_with fail
 go_loopg [10] n (fun m i wr=>∃ (k:Nat) (s':Int×List Int),k+m=n∧i = .int .i64 k∧Hid (R=A5a fs f (l.drop k) s')∧s'.2.length≤k∧Stp c0 ca B w s' wr)
 case atStart=>exact⟨0,s,by omega,rfl,HR,bc,Stp.refl hm⟩
 case round=>
  obtain⟨k,s',hk,rfl,HK,hsk,hS⟩:=hrel
  have ag:=hC.stp hS
  by_cases hlt:k < n
  ·obtain⟨v,Ha⟩:∃ v,Hid (l[k]?=some v):=⟨l[k]'(by rw[←Hn.out];exact hlt),List.getElem?_eq_getElem (by rw[←Hn.out];exact hlt)⟩
   obtain⟨bb,off,rfl,hat⟩:=h.get VAt.plain Ha.out
   obtain⟨v1,v2,v3,t0,t1,t2,t3,r1,r2,r3⟩:=hat.at
   obtain⟨a1,n1,c1,rfl,H1,_⟩:=r1.shape
   obtain⟨a2,n2,c2,rfl,H2,_⟩:=r2.shape
   obtain⟨a3,n3,c3,rfl,H3,_⟩:=r3.shape
   obtain⟨_,hu,hb1,_,hb2,hq,hb3⟩:=hV v (A2v Ha.out)
   unfold reachBytes at hb1 hb2 hb3
   have hv:VRd wE v a1 n1 c1 a2 n2 c2 a3 n3 c3:=⟨r1,r2,r3,hu,by rw[H1.out];omega,by rw[H2.out];omega,by rw[H3.out];omega⟩
   have u0:=A0c ag.below t0
   have u1:=A0c ag.below t1
   have u2:=A0c ag.below t2
   have u3:=A0c ag.below t3
   have bh:(k:Int) < (n:Int):=by omega
   obtain⟨W1,ah⟩:∃ W1,Hid (W1=wr.alloc (.cells #[.int .i64 v.number,.slice a1 n1 c1,.slice a2 n2 c2,.slice a3 n3 c3] 62)):=⟨_,rfl⟩
   have au:Below wr.heap.size wr W1:=by rw[ah.out];exact(Below.refl _ _).alloc (Nat.le_refl _) _
   have hS1:=Stp.of_below hS.mm au
   have ac:=B9u (ag.stp hS1) hS1.mm (by omega) hv hq
   have hst:=C6t (fs:=fs) (f:=f) Ha.out s'
   have bk:=C2a fs v s'
   obtain⟨F,HF⟩:∃ F,Hid (F=B9r fs f v s'):=⟨_,rfl⟩
   rw[←HF.out] at ac hst
   clear hC ag hv r1 r2 r3 t0 t1 t2 t3 hat h hV hu hq
   by_cases hz:F=0
   ·have HX:Hid (R=A5a fs f (l.drop (k+1)) (B0p fs v s')):=by
     show _=_
     rw[HK.out,hst,if_pos hz]
    have ez:(F != 0)=false:=by simp[hz]
    have HZ:Hid (F=0):=hz
    clear hst hz
    go_wp2_with fail
    rw[←ah.out]
    refine ac.mono ?_
    rintro r w2 ⟨rfl,s2,ak,aw⟩
    go_wp2_with fail
    go_roundg (n - (k+1))
    case measure=>omega
    case rel=>
     obtain rfl:=aw HZ.out
     exact⟨k+1,_,by omega,by go_num,HX,by omega,(hS.trans hS1).trans ak⟩
   ·have HX:Hid (R=F):=by
     show _=_
     rw[HK.out,hst,if_neg hz]
    have ez:(F != 0)=true:=by simpa using hz
    clear hst hz
    go_wp2_with fail
    rw[←ah.out]
    refine ac.mono ?_
    rintro r w2 ⟨rfl,s2,ak,aw⟩
    go_wp2
    go_ret
    exact⟨by rw[HX.out];rfl,_,(hS.trans hS1).trans ak⟩
  ·have HX:Hid (R=0):=by
    show _=_
    rw[HK.out,List.drop_of_length_le (by rw[←Hn.out];omega)]
    rfl
   go_wp2
   go_ret
   exact⟨by rw[HX.out];rfl,_,hS⟩
open Go.RowKit
theorem A7n (err:Int) (fn:Nat) (cap:Array Value) (w:World) :
  Calls Tryz.prog 122 #[.int .i64 err,.func (.func fn) #[] cap] w fun r w'=>r = .returned (.func (.func 194) #[] #[pt (w.heap.size+1),pt w.heap.size])∧Below w.heap.size w w'∧Hid (w'.heap.size=w.heap.size+2)∧w'.heap[w.heap.size]?=some (.cells #[.int .i64 err] 33 (0,0))∧w'.heap[w.heap.size+1]?=some (.cells #[.func (.func fn) #[] cap] 132 (0,0)):=by
 have ac:=A3i
 go_enter Tryz.func122,Tryz.ntmps122
 go_wp2
 go_ret
 exact⟨by simp[pt],((Below.refl _ _).alloc (Nat.le_refl _) _).alloc (by simp) _,(show Hid _ by show _=_;simp),A0l _ _ _,A0i _ _ _⟩
theorem C6h (w:World) :
  Calls Tryz.prog 123 #[] w fun r w'=>r = .returned (.func (.func 195) #[] #[pt w.heap.size])∧Below w.heap.size w w'∧Hid (w'.heap.size=w.heap.size+1)∧w'.heap[w.heap.size]?=some (.cells #[.int .i64 0] 3 (0,0)):=by
 have ac:=A3i
 go_enter Tryz.func123,Tryz.ntmps123
 go_wp2
 go_ret
 exact⟨by simp[pt],(Below.refl _ _).alloc (Nat.le_refl _) _,(show Hid _ by show _=_;simp),heap_alloc_new _ _⟩
theorem C3b (w:World) :
  Calls Tryz.prog 137 #[] w fun r w'=>r = .returned (.func (.func 196) #[] #[pt w.heap.size])∧Below w.heap.size w w'∧Hid (w'.heap.size=w.heap.size+1)∧w'.heap[w.heap.size]?=some (.cells #[.slice none 0 0] 30 (0,0)):=by
 have ac:=A3i
 go_enter Tryz.func137,Tryz.ntmps137
 go_wp2
 go_ret
 exact⟨by simp[pt],(Below.refl _ _).alloc (Nat.le_refl _) _,(show Hid _ by show _=_;simp),heap_alloc_new _ _⟩
def bF (N:Nat):Nat→Nat
 | 0=>N+3
 | 1=>N+5
 | 2=>N+7
 | 3=>N+9
 | _=>N+12
def eF (N:Nat):Nat→Nat
 | 0=>N+2
 | 1=>N+4
 | 2=>N+6
 | 3=>N+8
 | _=>N+11
theorem Fx.mono {c0 ca B B':Nat}{w:World}{k:Nat}{xs:Array Value}{t:TypeId}(h:Fx c0 ca B w k xs t) (hB:B≤B'):Fx c0 ca B' w k xs t:=⟨h.at_,Nat.lt_of_lt_of_le h.lt hB,h.n0,h.na⟩
theorem CkM.mono {c0 ca B B' ag:Nat}{ac:Array Value}{g gd:Nat}{b e:Nat→Nat}{w:World}(h:CkM c0 ca B ag ac g gd b e w) (k:B≤B'):CkM c0 ca B' ag ac g gd b e w:=
 ⟨h.arr.mono k,h.deep.mono k,h.f0.mono k,h.f1.mono k,h.f2.mono k,h.f3.mono k,h.f7.mono k,h.x0.mono k,h.x1.mono k,h.x2.mono k,h.x3.mono k,h.x7.mono k⟩
theorem B7y (ag:Nat) (ac:Array Value) (w:World) :
  Calls Tryz.prog 57 #[.func (.func ag) #[] ac] w fun r w'=>r = .returned (.slice (some ⟨w.heap.size+13,0,none⟩) 8 8)∧Below w.heap.size w w'∧Hid (w'.heap.size=w.heap.size+14)∧CkM (w.heap.size+1) (w.heap.size+10) (w.heap.size+14) ag ac (w.heap.size+13) w.heap.size (bF w.heap.size) (eF w.heap.size) w'∧w'.heap[w.heap.size+1]?=some (.cells #[.int .i64 0] 3 (0,0))∧w'.heap[w.heap.size+10]?=some (.cells #[.slice none 0 0] 30 (0,0)):=by
 obtain⟨N,HN⟩:∃ N,Hid (N=w.heap.size):=⟨_,rfl⟩
 obtain⟨W0,ah⟩:∃ W0,Hid (W0=w.alloc (.cells #[.func (.func ag) #[] ac] 113)):=⟨_,rfl⟩
 have B0:Below w.heap.size w W0:=by rw[ah.out];exact(Below.refl _ _).alloc (Nat.le_refl _) _
 have Z0:Hid (W0.heap.size=N+1):=by show _=_;rw[ah.out,HN.out];simp
 have y0:W0.heap[N]?=some (.cells #[.func (.func ag) #[] ac] 113 (0,0)):=by rw[ah.out,HN.out];exact heap_alloc_new _ _
 have bc:=A3i
 rw[←HN.out]
 have k1:=C6h W0
 rw[Z0.out] at k1
 go_enter Tryz.func57,Tryz.ntmps57
 go_wp2_with fail
 rw[←ah.out]
 refine k1.mono ?_
 rintro r W1 ⟨rfl,B1,Z1,y1⟩
 have k2:=A7n 2 195 #[pt (N+1)] W1
 rw[Z1.out] at k2
 go_wp2_with fail
 refine k2.mono ?_
 rintro r W2 ⟨rfl,B2,Z2,y2,y3⟩
 have k3:=A7n 8 124 #[] W2
 rw[Z2.out] at k3
 go_wp2_with fail
 refine k3.mono ?_
 rintro r W3 ⟨rfl,B3,Z3,y4,y5⟩
 have k4:=A7n 5 125 #[] W3
 rw[Z3.out] at k4
 go_wp2_with fail
 refine k4.mono ?_
 rintro r W4 ⟨rfl,B4,Z4,y6,y7⟩
 have k5:=A7n 2 70 #[] W4
 rw[Z4.out] at k5
 go_wp2_with fail
 refine k5.mono ?_
 rintro r W5 ⟨rfl,B5,Z5,y8,y9⟩
 have k6:=C3b W5
 rw[Z5.out] at k6
 go_wp2_with fail
 refine k6.mono ?_
 rintro r W6 ⟨rfl,B6,Z6,ak⟩
 have k7:=A7n 8 196 #[pt (N+10)] W6
 rw[Z6.out] at k7
 go_wp2_with fail
 refine k7.mono ?_
 rintro r W7 ⟨rfl,B7,Z7,au,aw⟩
 obtain⟨W8,aj⟩:∃ W8,Hid (W8=W7.alloc (.cells ((ckL N (bF N) (eF N)).map ckV).toArray 188)):=⟨_,rfl⟩
 have B8:Below W7.heap.size W7 W8:=by rw[aj.out];exact(Below.refl _ _).alloc (Nat.le_refl _) _
 have ba:W8.heap[N+13]?=some (.cells ((ckL N (bF N) (eF N)).map ckV).toArray 188 (0,0)):=by rw[aj.out,show N+13=W7.heap.size by rw[Z7.out]];exact heap_alloc_new _ _
 have Z8:Hid (W8.heap.size=N+14):=by show _=_;rw[aj.out];simp[Z7.out]
 go_wp2
 go_ret
 have z1:=Z1.out;have z2:=Z2.out;have z3:=Z3.out;have z4:=Z4.out;have z5:=Z5.out;have z6:=Z6.out;have z7:=Z7.out;have z8:=Z8.out;have z0:=Z0.out;have hn:=HN.out
 have A8:Below (N+13) W7 W8:=B8.mono (by omega)
 have A7:Below (N+11) W6 W8:=(B7.mono (by omega)).trans (A8.mono (by omega))
 have A6:Below (N+10) W5 W8:=(B6.mono (by omega)).trans (A7.mono (by omega))
 have A5:Below (N+8) W4 W8:=(B5.mono (by omega)).trans (A6.mono (by omega))
 have A4:Below (N+6) W3 W8:=(B4.mono (by omega)).trans (A5.mono (by omega))
 have A3:Below (N+4) W2 W8:=(B3.mono (by omega)).trans (A4.mono (by omega))
 have A2:Below (N+2) W1 W8:=(B2.mono (by omega)).trans (A3.mono (by omega))
 have A1:Below (N+1) W0 W8:=(B1.mono (by omega)).trans (A2.mono (by omega))
 have A0:Below N w W8:=(B0.mono (by omega)).trans (A1.mono (by omega))
 have fin:∀ W,W=W8→Below N w W∧Hid (W.heap.size=N+14)∧CkM (N+1) (N+10) (N+14) ag ac (N+13) N (bF N) (eF N) W∧W.heap[N+1]?=some (.cells #[.int .i64 0] 3 (0,0))∧W.heap[N+10]?=some (.cells #[.slice none 0 0] 30 (0,0)):=by
  rintro W rfl
  refine⟨A0,Z8,⟨⟨ba,by omega,by omega,by omega⟩,⟨(A1.block N (by omega)).trans y0,by omega,by omega,by omega⟩,⟨(A3.block (N+3) (by omega)).trans y3,?_,?_,?_⟩,⟨(A4.block (N+5) (by omega)).trans y5,?_,?_,?_⟩,⟨(A5.block (N+7) (by omega)).trans y7,?_,?_,?_⟩,⟨(A6.block (N+9) (by omega)).trans y9,?_,?_,?_⟩,⟨(A8.block (N+12) (by omega)).trans aw,?_,?_,?_⟩,⟨(A3.block (N+2) (by omega)).trans y2,?_,?_,?_⟩,⟨(A4.block (N+4) (by omega)).trans y4,?_,?_,?_⟩,⟨(A5.block (N+6) (by omega)).trans y6,?_,?_,?_⟩,⟨(A6.block (N+8) (by omega)).trans y8,?_,?_,?_⟩,⟨(A8.block (N+11) (by omega)).trans au,?_,?_,?_⟩⟩,(A2.block (N+1) (by omega)).trans y1,(A7.block (N+10) (by omega)).trans ak⟩
  all_goals (simp only[bF,eF];omega)
 exact⟨by rw[z7];rfl,fin _ (by rw[aj.out,←HN.out];rfl)⟩
end L
end Go.Proofs.YtgaoojpakjjdnaaGreatDoor
