import Derived.Test.YtgaoojpakjjdnaaGreatDoorV16
set_option maxHeartbeats 32000000
set_option maxRecDepth 100000
namespace Go.Proofs.YtgaoojpakjjdnaaGreatDoor
namespace L
open Go.RowKit
def B7i {β:Type}(fs:List FI)(f:List UInt8→β→Int)(v:VI β)(s:Int×List Int):Int:=
 match fs.find? (fun y=>decide (y.number=v.number)) with
 | none=>6
 | some x=>A5j (eAt x v f s) 0 8
def B1h {β:Type}(fs:List FI)(v:VI β)(s:Int×List Int):Int×List Int:=
 match fs.find? (fun y=>decide (y.number=v.number)) with
 | none=>s
 | some x=>(v.number,A8a x s.2)
structure Ctx {d:Nat}(wE:World) (c0 ca B fnD:Nat) (capD:Array Value) (g gd:Nat) (b e:Nat→Nat) (cm cl:Nat) (nm:List UInt8) (af:Option Addr) (nf cf:Nat) (ab:Option Addr) (nb cb:Nat) (fs:List FI) (f:List UInt8→BI d→Int) (Q:BI d→Prop) (w:World):Prop where
 below:Below wE.heap.size wE w
 e0:wE.heap.size≤c0
 ea:wE.heap.size≤ca
 ck:CkM c0 ca B fnD capD g gd b e w
 m:Fx c0 ca B w cm #[.string (S nm),.slice af nf cf,.slice ab nb cb] 38
 l:Fx c0 ca B w cl #[.slice (some ⟨g,0,none⟩) 8 8] 115
 fields:RdL 6 FAt wE (.slice af nf cf) fs
 tabs:Tabs wE
 entD:∀ (args:Array Value) (w:World),(callFunc fnD args).run Tryz.prog w = .ok (.enter fnD args) w
 deeper:∀ x∈fs,∀ v:VI (BI d),(∀ s∈v.subs,Q s)→A0v x v=false→Deeper d fnD capD x.type (f x.type) v.subs wE
theorem Ctx.stp {d:Nat}{wE:World}{c0 ca B ag:Nat}{ac:Array Value}{g gd:Nat}{b e:Nat→Nat}{cm cl:Nat}{nm:List UInt8}{af:Option Addr}{nf cf:Nat}{ab:Option Addr}{nb cb:Nat}{fs:List FI}{f:List UInt8→BI d→Int}{Q:BI d→Prop}{w w':World}{s:Int×List Int}(h:Ctx wE c0 ca B ag ac g gd b e cm cl nm af nf cf ab nb cb fs f Q w)(k:Stp c0 ca B w s w'):Ctx wE c0 ca B ag ac g gd b e cm cl nm af nf cf ab nb cb fs f Q w':=
 ⟨h.below.trans (k.below h.e0 h.ea),h.e0,h.ea,h.ck.stp k,h.m.stp k,h.l.stp k,h.fields,h.tabs,h.entD,h.deeper⟩
theorem C6a {d:Nat}{wE:World}{c0 ca B bn:Nat}{ba:Array Value}{g gd:Nat}{b e:Nat→Nat}{cm cl:Nat}{nm:List UInt8}{af:Option Addr}{nf cf:Nat}{ab:Option Addr}{nb cb:Nat}{fs:List FI}{f:List UInt8→BI d→Int}{Q:BI d→Prop}{w:World}{s:Int×List Int}(hC:Ctx wE c0 ca B bn ba g gd b e cm cl nm af nf cf ab nb cb fs f Q w)(hm:Mm c0 ca B s w)(hl:s.2.length≤17592186044415)
  {v:VI (BI d)}{a1 a2 a3:Option Addr}{n1 c1 n2 c2 n3 c3:Nat}(hv:VRd wE v a1 n1 c1 a2 n2 c2 a3 n3 c3) (hQ:∀ s∈v.subs,Q s) :
  Calls Tryz.prog 119 #[.agg #[.int .i64 v.number,.slice a1 n1 c1,.slice a2 n2 c2,.slice a3 n3 c3],.pointer (some ⟨cm,0,none⟩),.pointer (some ⟨cl,0,none⟩)] w
   fun r w'=>r = .returned (.int .i64 (B7i fs f v s))∧∃ s',Stp c0 ca B w s' w'∧(B7i fs f v s=0→s'=B1h fs v s):=by
 obtain⟨W1,ag⟩:∃ W1,Hid (W1=w.alloc (.cells #[.int .i64 v.number,.slice a1 n1 c1,.slice a2 n2 c2,.slice a3 n3 c3] 62)):=⟨_,rfl⟩
 have hb1:Below w.heap.size w W1:=by rw[ag.out];exact(Below.refl _ _).alloc (Nat.le_refl _) _
 have x1:W1.heap[w.heap.size]?=some (.cells #[.int .i64 v.number,.slice a1 n1 c1,.slice a2 n2 c2,.slice a3 n3 c3] 62 (0,0)):=by rw[ag.out];exact heap_alloc_new _ _
 have hz1:w.heap.size+1≤W1.heap.size:=by rw[ag.out];simp
 have bp:Below wE.heap.size wE W1:=hC.below.trans (hb1.mono hC.below.size)
 have ak:=A3e (hC.fields.below FAt.stays bp) ⟨ab,nb,cb,rfl⟩ ⟨nm,rfl⟩ v.number
 have m0:w.cell? ⟨cm,0,none⟩=some (.string (S nm)):=A0a hC.m.at_ 0 _ rfl
 have m1:w.cell? ⟨cm,1,none⟩=some (.slice af nf cf):=A0a hC.m.at_ 1 _ rfl
 have m2:w.cell? ⟨cm,2,none⟩=some (.slice ab nb cb):=A0a hC.m.at_ 2 _ rfl
 have bu:=(Array.getElem?_eq_some_iff.1 hC.m.at_).1
 have bt:=(Array.getElem?_eq_some_iff.1 hC.l.at_).1
 rcases A3l (fun y:FI=>decide (y.number=v.number)) fs with⟨h1,h2⟩|⟨k,x,h1,h2,h3,h4⟩
 ·have HR:Hid (B7i fs f v s=6):=by show _=_;unfold B7i;rw[h2]
  rw[HR.out]
  rw[h1] at ak
  clear h1 h2
  go_enter Tryz.func119,Tryz.ntmps119
  go_wp2_with fail
  rw[←ag.out]
  refine ak.mono ?_
  rintro r w2 ⟨rfl,hb2⟩
  go_wp2
  go_ret
  refine⟨rfl,s,Stp.of_below hm (hb1.trans ((hb2.mono hb1.size).alloc (Nat.le_trans hb1.size hb2.size) _)),fun h=>by cases h⟩
 ·have HR:Hid (B7i fs f v s=A5j (eAt x v f s) 0 8):=by show _=_;unfold B7i;rw[h3]
  have HN:Hid (B1h fs v s=sAt x v s 8):=by show _=_;unfold B1h;rw[h3];rfl
  rw[HR.out,HN.out]
  rw[h1] at ak
  have hx:x∈fs:=List.mem_of_getElem? h2
  have HK:Hid (fs[k]?=some x):=h2
  clear h1 h2 h3 h4
  go_enter Tryz.func119,Tryz.ntmps119
  go_wp2_with fail
  rw[←ag.out]
  refine ak.mono ?_
  rintro r w2 ⟨rfl,hb2⟩
  obtain⟨W3,au⟩:∃ W3,Hid (W3=w2.alloc (.cells #[.int .i64 (k:Int)] 3)):=⟨_,rfl⟩
  have bg:Below w2.heap.size w2 W3:=by rw[au.out];exact(Below.refl _ _).alloc (Nat.le_refl _) _
  have ah:Below W1.heap.size W1 W3:=hb2.trans (bg.mono hb2.size)
  have hb3:Below w.heap.size w W3:=hb1.trans (ah.mono hb1.size)
  have x3:W3.heap[w2.heap.size]?=some (.cells #[.int .i64 (k:Int)] 3 (0,0)):=by rw[au.out];exact heap_alloc_new _ _
  have y3:W3.heap[w.heap.size]?=some (.cells #[.int .i64 v.number,.slice a1 n1 c1,.slice a2 n2 c2,.slice a3 n3 c3] 62 (0,0)):=(ah.block _ (by omega)).trans x1
  have hs3:=Stp.of_below hm hb3
  have aw:=hC.stp hs3
  have hw2:w.heap.size≤w2.heap.size:=Nat.le_trans hb1.size hb2.size
  have ac:=C0d (g:=g) (cm:=cm) (ct:=w2.heap.size) (cv:=w.heap.size) (ckL gd b e) (sAt x v s) (eAt x v f s) (by simp[ckL]) hs3.mm (w:=W3)
   (fun s' W hS j p hp=>by
    have:=(aw.stp hS).ck.arr.at_
    refine A0a this j _ ?_
    rw[List.getElem?_toArray,List.getElem?_map,hp]
    rfl)
   (fun j p W hp hS hz=>by
    have hCW:=aw.stp hS
    have hD:Below W.heap.size W W.drew:=(Below.refl _ _).drew
    have bk:=Stp.of_below hS.mm hD
    have bc:Below wE.heap.size wE W.drew:=hCW.below.trans (hD.mono hCW.below.size)
    obtain⟨bh,aj⟩:=C3w (hCW.ck.below hD) (hv.below bc) (hC.tabs.below bc) hl hC.entD (fun ho=>(hC.deeper x hx v hQ ho).below bc) j p hp bk.mm hz
    exact C7t (post:=fun w'=>Stp c0 ca B W (sAt x v s (j+1)) w') hCW.m.at_ (Stp.block' hm hb3 hS x3 hw2) (Stp.block' hm hb3 hS y3 (Nat.le_refl _)) (hC.fields.below FAt.stays hCW.below) HK.out bh (aj.mono fun _ _ h=>⟨h.1,bk.trans h.2⟩))
  have k3:W3.cell? ⟨cl,0,none⟩=some (.slice (some ⟨g,0,none⟩) 8 8):=A0a aw.l.at_ 0 _ rfl
  have q3:W3.cell? ⟨w2.heap.size,0,none⟩=some (.int .i64 (k:Int)):=A0a x3 0 _ rfl
  have hlen:(ckL gd b e).length=8:=rfl
  rw[hlen] at ac
  have bv:¬ ((k:Int)<0):=by omega
  have bw:=A4j
  rw[au.out] at k3 q3
  clear ak hC aw hv x1 x3 y3
  go_wp2_with fail
  rw[←au.out]
  refine ac.mono ?_
  rintro r w4 ⟨rfl,s',br,bq⟩
  go_wp2
  go_ret
  exact⟨rfl,s',hs3.trans br,bq⟩
def A3y {β:Type}(fs:List FI)(f:List UInt8→β→Int):List (VI β)→Int×List Int→Int
 | [],_=>0
 | v::l,s=>if B7i fs f v s=0 then A3y fs f l (B1h fs v s) else B7i fs f v s
theorem D4c {β:Type}{fs:List FI}{f:List UInt8→β→Int}{l:List (VI β)}{k:Nat}{v:VI β}(h:l[k]?=some v)(s:Int×List Int):A3y fs f (l.drop k) s=if B7i fs f v s=0 then A3y fs f (l.drop (k+1)) (B1h fs v s) else B7i fs f v s:=by
 obtain⟨hk,e⟩:=List.getElem?_eq_some_iff.1 h
 rw[List.drop_eq_getElem_cons hk,e,A3y]
theorem C8k {β:Type}(fs:List FI)(v:VI β)(s:Int×List Int):(B1h fs v s).2.length≤s.2.length+1:=by
 unfold B1h
 split
 ·omega
 ·unfold A8a
  split <;> simp
theorem D4d {d:Nat}{wE:World}{c0 ca B ba:Nat}{aj:Array Value}{g gd:Nat}{b e:Nat→Nat}{cm cl:Nat}{nm:List UInt8}{af:Option Addr}{nf cf:Nat}{ab:Option Addr}{nb cb:Nat}{fs:List FI}{f:List UInt8→BI d→Int}{Q:BI d→Prop}{w:World}{s:Int×List Int}(hC:Ctx wE c0 ca B ba aj g gd b e cm cl nm af nf cf ab nb cb fs f Q w)(hm:Mm c0 ca B s w)(hs0:s.2 = [])
  {l:List (VI (BI d))}{vl:Value}(h:RdL 4 (VAt (BAt d)) wE vl l) (hV:∀ v∈l,VOk Q v) (hlen:l.length*80≤reachBytes) :
  Calls Tryz.prog 118 #[vl,.func (.func 119) #[] #[.pointer (some ⟨cm,0,none⟩),.pointer (some ⟨cl,0,none⟩)]] w
   fun r w'=>r = .returned (.int .i64 (A3y fs f l s))∧∃ s',Stp c0 ca B w s' w':=by
 obtain⟨ao,n,cap,rfl,Hn,bg⟩:=h.shape
 have hn:n*80≤reachBytes:=by rw[Hn.out];exact hlen
 unfold reachBytes at hn
 obtain⟨R,HR⟩:∃ R,Hid (R=A3y fs f l s):=⟨_,rfl⟩
 rw[←HR.out]
 have bc:s.2.length≤0:=by rw[hs0];simp
 go_enter Tryz.func118,Tryz.ntmps118
 go_wp2_with fail
 go_loopg [10] n (fun m i wr=>∃ (k:Nat) (s':Int×List Int),k+m=n∧i = .int .i64 k∧Hid (R=A3y fs f (l.drop k) s')∧s'.2.length≤k∧Stp c0 ca B w s' wr)
 case atStart=>exact⟨0,s,by omega,rfl,HR,bc,Stp.refl hm⟩
 case round=>
  obtain⟨k,s',hk,rfl,HK,hsk,hS⟩:=hrel
  have ag:=hC.stp hS
  by_cases hlt:k<n
  ·obtain⟨v,Ha⟩:∃ v,Hid (l[k]?=some v):=⟨l[k]'(by rw[←Hn.out];exact hlt),List.getElem?_eq_getElem (by rw[←Hn.out];exact hlt)⟩
   obtain⟨bb,off,rfl,hat⟩:=h.get VAt.plain Ha.out
   obtain⟨v1,v2,v3,t0,t1,t2,t3,r1,r2,r3⟩:=hat.at
   obtain⟨a1,n1,c1,rfl,H1,_⟩:=r1.shape
   obtain⟨a2,n2,c2,rfl,H2,_⟩:=r2.shape
   obtain⟨a3,n3,c3,rfl,H3,_⟩:=r3.shape
   obtain⟨_,hu,hb1,_,hb2,hq,hb3⟩:=hV v (A3u Ha.out)
   unfold reachBytes at hb1 hb2 hb3
   have hv:VRd wE v a1 n1 c1 a2 n2 c2 a3 n3 c3:=⟨r1,r2,r3,hu,by rw[H1.out];omega,by rw[H2.out];omega,by rw[H3.out];omega⟩
   have u0:=A0c ag.below t0
   have u1:=A0c ag.below t1
   have u2:=A0c ag.below t2
   have u3:=A0c ag.below t3
   have bh:(k:Int)<(n:Int):=by omega
   obtain⟨W1,ah⟩:∃ W1,Hid (W1=wr.alloc (.cells #[.int .i64 v.number,.slice a1 n1 c1,.slice a2 n2 c2,.slice a3 n3 c3] 62)):=⟨_,rfl⟩
   have au:Below wr.heap.size wr W1:=by rw[ah.out];exact(Below.refl _ _).alloc (Nat.le_refl _) _
   have hS1:=Stp.of_below hS.mm au
   have ac:=C6a (ag.stp hS1) hS1.mm (by omega) hv hq
   have hst:=D4c (fs:=fs) (f:=f) Ha.out s'
   have bk:=C8k fs v s'
   obtain⟨F,HF⟩:∃ F,Hid (F=B7i fs f v s'):=⟨_,rfl⟩
   rw[←HF.out] at ac hst
   clear hC ag hv r1 r2 r3 t0 t1 t2 t3 hat h hV hu hq
   by_cases hz:F=0
   ·have HX:Hid (R=A3y fs f (l.drop (k+1)) (B1h fs v s')):=by
     show _=_
     rw[HK.out,hst,if_pos hz]
    have ez:(F != 0)=false:=by simp[hz]
    have HZ:Hid (F=0):=hz
    clear hst hz
    go_wp2_with fail
    rw[←ah.out]
    refine ac.mono ?_
    rintro r w2 ⟨rfl,s2,ak,aw⟩
    go_wp2_with fail
    go_roundg (n-(k+1))
    case measure=>omega
    case rel=>
     obtain rfl:=aw HZ.out
     exact⟨k+1,_,by omega,by go_num,HX,by omega,(hS.trans hS1).trans ak⟩
   ·have HX:Hid (R=F):=by
     show _=_
     rw[HK.out,hst,if_neg hz]
    have ez:(F != 0)=true:=by simpa using hz
    clear hst hz
    go_wp2_with fail
    rw[←ah.out]
    refine ac.mono ?_
    rintro r w2 ⟨rfl,s2,ak,aw⟩
    go_wp2
    go_ret
    exact⟨by rw[HX.out];rfl,_,(hS.trans hS1).trans ak⟩
  ·have HX:Hid (R=0):=by
    show _=_
    rw[HK.out,List.drop_of_length_le (by rw[←Hn.out];omega)]
    rfl
   go_wp2
   go_ret
   exact⟨by rw[HX.out];rfl,_,hS⟩
theorem A9y (err:Int)(fn:Nat)(cap:Array Value)(w:World) :
  Calls Tryz.prog 122 #[.int .i64 err,.func (.func fn) #[] cap] w fun r w'=>r = .returned (.func (.func 194) #[] #[pt (w.heap.size+1),pt w.heap.size])∧Below w.heap.size w w'∧Hid (w'.heap.size=w.heap.size+2)∧w'.heap[w.heap.size]?=some (.cells #[.int .i64 err] 33 (0,0))∧w'.heap[w.heap.size+1]?=some (.cells #[.func (.func fn) #[] cap] 132 (0,0)):=by
 have ac:=A4j
 go_enter Tryz.func122,Tryz.ntmps122
 go_wp2
 go_ret
 exact⟨by simp[pt],((Below.refl _ _).alloc (Nat.le_refl _) _).alloc (by simp) _,(show Hid _ by show _=_;simp),A0o _ _ _,A0j _ _ _⟩
theorem D3j (w:World) :
  Calls Tryz.prog 123 #[] w fun r w'=>r = .returned (.func (.func 195) #[] #[pt w.heap.size])∧Below w.heap.size w w'∧Hid (w'.heap.size=w.heap.size+1)∧w'.heap[w.heap.size]?=some (.cells #[.int .i64 0] 3 (0,0)):=by
 have ac:=A4j
 go_enter Tryz.func123,Tryz.ntmps123
 go_wp2
 go_ret
 exact⟨by simp[pt],(Below.refl _ _).alloc (Nat.le_refl _) _,(show Hid _ by show _=_;simp),heap_alloc_new _ _⟩
theorem C9z (w:World) :
  Calls Tryz.prog 137 #[] w fun r w'=>r = .returned (.func (.func 196) #[] #[pt w.heap.size])∧Below w.heap.size w w'∧Hid (w'.heap.size=w.heap.size+1)∧w'.heap[w.heap.size]?=some (.cells #[.slice none 0 0] 30 (0,0)):=by
 have ac:=A4j
 go_enter Tryz.func137,Tryz.ntmps137
 go_wp2
 go_ret
 exact⟨by simp[pt],(Below.refl _ _).alloc (Nat.le_refl _) _,(show Hid _ by show _=_;simp),heap_alloc_new _ _⟩
def bF (N:Nat):Nat→Nat
 | 0=>N+3
 | 1=>N+5
 | 2=>N+7
 | 3=>N+9
 | _=>N+12
def eF (N:Nat):Nat→Nat
 | 0=>N+2
 | 1=>N+4
 | 2=>N+6
 | 3=>N+8
 | _=>N+11
theorem Fx.mono {c0 ca B B':Nat}{w:World}{k:Nat}{xs:Array Value}{t:TypeId}(h:Fx c0 ca B w k xs t)(hB:B≤B'):Fx c0 ca B' w k xs t:=⟨h.at_,Nat.lt_of_lt_of_le h.lt hB,h.n0,h.na⟩
theorem CkM.mono {c0 ca B B' ag:Nat}{ac:Array Value}{g gd:Nat}{b e:Nat→Nat}{w:World}(h:CkM c0 ca B ag ac g gd b e w)(k:B≤B'):CkM c0 ca B' ag ac g gd b e w:=
 ⟨h.arr.mono k,h.deep.mono k,h.f0.mono k,h.f1.mono k,h.f2.mono k,h.f3.mono k,h.f7.mono k,h.x0.mono k,h.x1.mono k,h.x2.mono k,h.x3.mono k,h.x7.mono k⟩
theorem C3x (ag:Nat)(ac:Array Value)(w:World) :
  Calls Tryz.prog 57 #[.func (.func ag) #[] ac] w fun r w'=>r = .returned (.slice (some ⟨w.heap.size+13,0,none⟩) 8 8)∧Below w.heap.size w w'∧Hid (w'.heap.size=w.heap.size+14)∧CkM (w.heap.size+1) (w.heap.size+10) (w.heap.size+14) ag ac (w.heap.size+13) w.heap.size (bF w.heap.size) (eF w.heap.size) w'∧w'.heap[w.heap.size+1]?=some (.cells #[.int .i64 0] 3 (0,0))∧w'.heap[w.heap.size+10]?=some (.cells #[.slice none 0 0] 30 (0,0)):=by
 obtain⟨N,HN⟩:∃ N,Hid (N=w.heap.size):=⟨_,rfl⟩
 obtain⟨W0,ah⟩:∃ W0,Hid (W0=w.alloc (.cells #[.func (.func ag) #[] ac] 113)):=⟨_,rfl⟩
 have B0:Below w.heap.size w W0:=by rw[ah.out];exact(Below.refl _ _).alloc (Nat.le_refl _) _
 have Z0:Hid (W0.heap.size=N+1):=by show _=_;rw[ah.out,HN.out];simp
 have y0:W0.heap[N]?=some (.cells #[.func (.func ag) #[] ac] 113 (0,0)):=by rw[ah.out,HN.out];exact heap_alloc_new _ _
 have bc:=A4j
 rw[←HN.out]
 have k1:=D3j W0
 rw[Z0.out] at k1
 go_enter Tryz.func57,Tryz.ntmps57
 go_wp2_with fail
 rw[←ah.out]
 refine k1.mono ?_
 rintro r W1 ⟨rfl,B1,Z1,y1⟩
 have k2:=A9y 2 195 #[pt (N+1)] W1
 rw[Z1.out] at k2
 go_wp2_with fail
 refine k2.mono ?_
 rintro r W2 ⟨rfl,B2,Z2,y2,y3⟩
 have k3:=A9y 8 124 #[] W2
 rw[Z2.out] at k3
 go_wp2_with fail
 refine k3.mono ?_
 rintro r W3 ⟨rfl,B3,Z3,y4,y5⟩
 have k4:=A9y 5 125 #[] W3
 rw[Z3.out] at k4
 go_wp2_with fail
 refine k4.mono ?_
 rintro r W4 ⟨rfl,B4,Z4,y6,y7⟩
 have k5:=A9y 2 70 #[] W4
 rw[Z4.out] at k5
 go_wp2_with fail
 refine k5.mono ?_
 rintro r W5 ⟨rfl,B5,Z5,y8,y9⟩
 have k6:=C9z W5
 rw[Z5.out] at k6
 go_wp2_with fail
 refine k6.mono ?_
 rintro r W6 ⟨rfl,B6,Z6,ak⟩
 have k7:=A9y 8 196 #[pt (N+10)] W6
 rw[Z6.out] at k7
 go_wp2_with fail
 refine k7.mono ?_
 rintro r W7 ⟨rfl,B7,Z7,au,aw⟩
 obtain⟨W8,aj⟩:∃ W8,Hid (W8=W7.alloc (.cells ((ckL N (bF N) (eF N)).map ckV).toArray 188)):=⟨_,rfl⟩
 have B8:Below W7.heap.size W7 W8:=by rw[aj.out];exact(Below.refl _ _).alloc (Nat.le_refl _) _
 have ba:W8.heap[N+13]?=some (.cells ((ckL N (bF N) (eF N)).map ckV).toArray 188 (0,0)):=by rw[aj.out,show N+13=W7.heap.size by rw[Z7.out]];exact heap_alloc_new _ _
 have Z8:Hid (W8.heap.size=N+14):=by show _=_;rw[aj.out];simp[Z7.out]
 go_wp2
 go_ret
 have z1:=Z1.out;have z2:=Z2.out;have z3:=Z3.out;have z4:=Z4.out;have z5:=Z5.out;have z6:=Z6.out;have z7:=Z7.out;have z8:=Z8.out;have z0:=Z0.out;have hn:=HN.out
 have A8:Below (N+13) W7 W8:=B8.mono (by omega)
 have A7:Below (N+11) W6 W8:=(B7.mono (by omega)).trans (A8.mono (by omega))
 have A6:Below (N+10) W5 W8:=(B6.mono (by omega)).trans (A7.mono (by omega))
 have A5:Below (N+8) W4 W8:=(B5.mono (by omega)).trans (A6.mono (by omega))
 have A4:Below (N+6) W3 W8:=(B4.mono (by omega)).trans (A5.mono (by omega))
 have A3:Below (N+4) W2 W8:=(B3.mono (by omega)).trans (A4.mono (by omega))
 have A2:Below (N+2) W1 W8:=(B2.mono (by omega)).trans (A3.mono (by omega))
 have A1:Below (N+1) W0 W8:=(B1.mono (by omega)).trans (A2.mono (by omega))
 have A0:Below N w W8:=(B0.mono (by omega)).trans (A1.mono (by omega))
 have fin:∀ W,W=W8→Below N w W∧Hid (W.heap.size=N+14)∧CkM (N+1) (N+10) (N+14) ag ac (N+13) N (bF N) (eF N) W∧W.heap[N+1]?=some (.cells #[.int .i64 0] 3 (0,0))∧W.heap[N+10]?=some (.cells #[.slice none 0 0] 30 (0,0)):=by
  rintro W rfl
  refine⟨A0,Z8,⟨⟨ba,by omega,by omega,by omega⟩,⟨(A1.block N (by omega)).trans y0,by omega,by omega,by omega⟩,⟨(A3.block (N+3) (by omega)).trans y3,?_,?_,?_⟩,⟨(A4.block (N+5) (by omega)).trans y5,?_,?_,?_⟩,⟨(A5.block (N+7) (by omega)).trans y7,?_,?_,?_⟩,⟨(A6.block (N+9) (by omega)).trans y9,?_,?_,?_⟩,⟨(A8.block (N+12) (by omega)).trans aw,?_,?_,?_⟩,⟨(A3.block (N+2) (by omega)).trans y2,?_,?_,?_⟩,⟨(A4.block (N+4) (by omega)).trans y4,?_,?_,?_⟩,⟨(A5.block (N+6) (by omega)).trans y6,?_,?_,?_⟩,⟨(A6.block (N+8) (by omega)).trans y8,?_,?_,?_⟩,⟨(A8.block (N+11) (by omega)).trans au,?_,?_,?_⟩⟩,(A2.block (N+1) (by omega)).trans y1,(A7.block (N+10) (by omega)).trans ak⟩
  all_goals (simp only[bF,eF];omega)
 exact⟨by rw[z7];rfl,fin _ (by rw[aj.out,←HN.out];rfl)⟩
theorem BTd {A V V':World}(h:Below A.heap.size A V)(k:Below V.heap.size V V'):Below A.heap.size A V':=h.trans (k.mono h.size)
theorem C7d {W:World}{cf cd:Nat}{am ae:Option Addr}{ac ag ne ce:Nat}{g:GI}{k R:Int}{name:List UInt8}{i:Nat}{m:MI}{a0 a1:Option Addr}{n0 c0 n1 c1:Nat}(bc:W.heap[cf]?=some (.cells #[.slice am ac ag,.slice ae ne ce] 25 (0,0)))(bg:W.heap[cd]?=some (.cells #[.int .i64 k] 3 (0,0)))(hg:GRd W (.slice am ac ag) (.slice ae ne ce) g)(bh:A0k (fun m=>decide (m.name=name)) g.msgs=(i:Int))(hi:g.msgs[i]?=some m)(hk:0≤k)(hk2:k≤1000)
  (aj:∀ vf vb,RdL 6 FAt W vf m.fields→RdL 1 NAt W vb m.barred→∀ V,Below W.heap.size W V→Calls Tryz.prog 25 #[.agg #[.slice am ac ag,.slice ae ne ce],.agg #[.string (S m.name),vf,vb],.agg #[.slice a0 n0 c0,.slice a1 n1 c1],.int .i64 (k+1)] V fun e V'=>e = .returned (.int .i64 R)∧Below V.heap.size V V') :
  Calls Tryz.prog 55 #[.string (S name),.agg #[.slice a0 n0 c0,.slice a1 n1 c1],.pointer (some ⟨cf,0,none⟩),.pointer (some ⟨cd,0,none⟩)] W fun e W'=>e = .returned (.int .i64 R)∧Below W.heap.size W W':=by
 obtain⟨W1,ak⟩:∃ W1,Hid (W1=W.alloc (.cells #[.slice a0 n0 c0,.slice a1 n1 c1] 29)):=⟨_,rfl⟩
 have hb1:Below W.heap.size W W1:=by rw[ak.out];exact(Below.refl _ _).alloc (Nat.le_refl _) _
 have x1:W1.heap[W.heap.size]?=some (.cells #[.slice a0 n0 c0,.slice a1 n1 c1] 29 (0,0)):=by rw[ak.out];exact heap_alloc_new _ _
 obtain⟨b,off,rfl,hat⟩:=hg.1.get MAt.plain hi
 obtain⟨vf,vb,t0,t1,t2,hf,hbr⟩:=hat.at
 obtain⟨af,nf,au,rfl,_,_⟩:=hf.shape
 obtain⟨ab,nb,cb,rfl,_,_⟩:=hbr.shape
 have hlen:=hg.1.len.1
 have bq:i<ac:=by rw[hlen];exact(List.getElem?_eq_some_iff.1 hi).1
 have br:(i:Int)<(ac:Int):=by omega
 have bk:∀ V,Below W1.heap.size W1 V→Below W1.heap.size W1 V∧V.cell? ⟨cf,0,none⟩=some (.slice (some ⟨b,off,none⟩) ac ag)∧V.cell? ⟨cf,1,none⟩=some (.slice ae ne ce)∧V.cell? ⟨cd,0,none⟩=some (.int .i64 k)∧V.cell? ⟨W.heap.size,0,none⟩=some (.slice a0 n0 c0)∧V.cell? ⟨W.heap.size,1,none⟩=some (.slice a1 n1 c1)∧V.cell? ⟨b,off+i*3,none⟩=some (.string (S m.name))∧V.cell? ⟨b,off+i*3+1,none⟩=some (.slice af nf au)∧V.cell? ⟨b,off+i*3+2,none⟩=some (.slice ab nb cb):=fun V hV=>
  have ah:Below W.heap.size W V:=BTd hb1 hV
  ⟨hV,A0c ah (A0a bc 0 _ rfl),A0c ah (A0a bc 1 _ rfl),A0c ah (A0a bg 0 _ rfl),A0c hV (A0a x1 0 _ rfl),A0c hV (A0a x1 1 _ rfl),A0c ah t0,A0c ah t1,A0c ah t2⟩
 have bn:∀ V,Below W1.heap.size W1 V→Calls Tryz.prog 35 #[.agg #[.slice (some ⟨b,off,none⟩) ac ag,.slice ae ne ce],.string (S name)] V fun e V'=>e = .returned (.int .i64 (i:Int))∧Below V.heap.size V V':=by
  intro V hV
  rw[←bh]
  exact A2y (hg.below (BTd hb1 hV)).1 ⟨ae,ne,ce,rfl⟩ name
 have bp:∀ V,Below W1.heap.size W1 V→Calls Tryz.prog 25 #[.agg #[.slice (some ⟨b,off,none⟩) ac ag,.slice ae ne ce],.agg #[.string (S m.name),.slice af nf au,.slice ab nb cb],.agg #[.slice a0 n0 c0,.slice a1 n1 c1],.int .i64 (k+1)] V fun e V'=>e = .returned (.int .i64 R)∧Below V.heap.size V V':=fun V hV=>aj _ _ hf hbr V (BTd hb1 hV)
 have hwr:IntKind.i64.wrap (k+1)=k+1:=by rw[IntKind.wrap_i64];omega
 clear aj hg bh hat t0 t1 t2 hf hbr bc bg x1 hlen hi
 go_enter Tryz.func55,Tryz.ntmps55
 go_wp2_with fail
 rw[←ak.out]
 go_region_held3 (fun V=>Below W1.heap.size W1 V∧V.cell? ⟨cf,0,none⟩=some (.slice (some ⟨b,off,none⟩) ac ag)∧V.cell? ⟨cf,1,none⟩=some (.slice ae ne ce)∧V.cell? ⟨cd,0,none⟩=some (.int .i64 k)∧V.cell? ⟨W.heap.size,0,none⟩=some (.slice a0 n0 c0)∧V.cell? ⟨W.heap.size,1,none⟩=some (.slice a1 n1 c1)∧V.cell? ⟨b,off+i*3,none⟩=some (.string (S m.name))∧V.cell? ⟨b,off+i*3+1,none⟩=some (.slice af nf au)∧V.cell? ⟨b,off+i*3+2,none⟩=some (.slice ab nb cb)) ((refine bk _ ?_;first|exact(Below.refl _ _).drew|exact aw)) ((first|(go_at_call 35;go_split_ands;refine(bn _ (by assumption)).mono ?_;rintro e wn ⟨rfl,ba⟩;have aw:=BTd (by assumption) ba)|(go_at_call 25;go_split_ands;refine(bp _ (by assumption)).mono ?_;rintro e wn ⟨rfl,ba⟩;have aw:=BTd (by assumption) ba)))
 all_goals go_wp2
 all_goals go_ret
 all_goals exact⟨rfl,BTd hb1 aw⟩
def A2a (h:Int):Bool:=decide (h=0∨h=1∨h=2∨h=5)
theorem A0d {h:Int}(k:h=0∨h=1∨h=2∨h=5):true=A2a h:=by unfold A2a;simp[k]
theorem A5v {h:Int}(k:¬ (h=0∨h=1∨h=2∨h=5)):false=A2a h:=by unfold A2a;simp only[k,decide_false]
theorem A0h (h:Int)(w:World) :
  Calls Tryz.prog 152 #[.int .i64 h] w fun e w'=>e = .returned (.bool (A2a h))∧w=w':=by
 by_cases k:h=0∨h=1∨h=2∨h=5
 ·rw[←A0d k]
  rcases k with rfl|rfl|rfl|rfl
  all_goals
   go_enter Tryz.func152,Tryz.ntmps152
   go_wp2
   go_ret
   exact⟨rfl,rfl⟩
 ·rw[←A5v k]
  have b0:(h==0)=false:=beq_eq_false_iff_ne.2 (by omega)
  have b1:(h==1)=false:=beq_eq_false_iff_ne.2 (by omega)
  have b2:(h==2)=false:=beq_eq_false_iff_ne.2 (by omega)
  have b5:(h==5)=false:=beq_eq_false_iff_ne.2 (by omega)
  go_enter Tryz.func152,Tryz.ntmps152
  go_wp2
  go_ret
  exact⟨rfl,rfl⟩
def A0t (num how:Int)(bits len:Nat):Int:=
 if A2a how=false then 1
 else if how=2∧4000<len then 4
 else if num<1∨536870912≤num then 3
 else if how=5∧bits / 4294967296≠0 then 3
 else if how=2∧bits≠0 then 8
 else if how≠2∧0<len then 8
 else 0
theorem B0y {num how:Int}{bits len:Nat}(h:A2a how=false):A0t num how bits len=1:=by
 unfold A0t;rw[if_pos h]
theorem B2u {how:Int}(h:how=0∨how=1∨how=2∨how=5):¬ A2a how=false:=by rw[←A0d h];decide
theorem B0b (num how:Int)(bits:Nat)(ao:Option Addr)(len cap:Nat)(w:World)(ag:len≤9223372036854775807) :
  Calls Tryz.prog 90 #[.agg #[.int .i64 num,.int .i64 how,.int .u64 (bits:Int),.slice ao len cap]] w fun e w'=>e = .returned (.int .i64 (A0t num how bits len))∧Below w.heap.size w w':=by
 have fin:∀ (o:Obj),Below w.heap.size w (w.alloc o):=fun o=>(Below.refl _ _).alloc (Nat.le_refl _) o
 by_cases hk:A2a how=false
 ·rw[B0y hk]
  go_enter Tryz.func90,Tryz.ntmps90
  go_wp2_with (go_at_call 152;refine(A0h how _).mono ?_;rintro e w1 ⟨rfl,rfl⟩)
  go_ret
  exact⟨rfl,fin _⟩
 ·obtain⟨E,HE⟩:∃ E,Hid (E=A0t num how bits len):=⟨_,rfl⟩
  rw[←HE.out]
  have hh:how=0∨how=1∨how=2∨how=5:=by
   rcases Decidable.em (how=0∨how=1∨how=2∨how=5) with h|h
   ·exact h
   ·exact absurd (A5v h).symm hk
  have ac:Hid (E=(if how=2∧4000<len then 4
   else if num<1∨536870912≤num then 3
   else if how=5∧bits / 4294967296≠0 then 3
   else if how=2∧bits≠0 then 8
   else if how≠2∧0<len then 8
   else 0)):=by
   show _=_
   rw[HE.out,A0t,if_neg hk]
  clear HE hk
  rcases hh with rfl|rfl|rfl|rfl
  ·by_cases h3:num<1
   ·have HF:Hid (E=3):=by show _=_;rw[ac.out,if_neg (by omega),if_pos (by omega)]
    clear ac
    go_enter Tryz.func90,Tryz.ntmps90
    go_wp2_with (go_at_call 152;refine(A0h _ _).mono ?_;rintro e w1 ⟨rfl,rfl⟩;rw[←A0d (by omega)])
    go_ret
    exact⟨A1r HF.out.symm,fin _⟩
   ·by_cases h2:536870912≤num
    ·have HF:Hid (E=3):=by show _=_;rw[ac.out,if_neg (by omega),if_pos (by omega)]
     clear ac
     go_enter Tryz.func90,Tryz.ntmps90
     go_wp2_with (go_at_call 152;refine(A0h _ _).mono ?_;rintro e w1 ⟨rfl,rfl⟩;rw[←A0d (by omega)])
     go_ret
     exact⟨A1r HF.out.symm,fin _⟩
    ·by_cases h1:0<len
     rotate_right
     focus
      have HF:Hid (E=0):=by show _=_;rw[ac.out,if_neg (by omega),if_neg (by omega),if_neg (by omega),if_neg (by omega),if_neg (by omega)]
     rotate_right
     focus
      have HF:Hid (E=8):=by show _=_;rw[ac.out,if_neg (by omega),if_neg (by omega),if_neg (by omega),if_neg (by omega),if_pos (by omega)]
     all_goals
      clear ac
      go_enter Tryz.func90,Tryz.ntmps90
      go_wp2_with (go_at_call 152;refine(A0h _ _).mono ?_;rintro e w1 ⟨rfl,rfl⟩;rw[←A0d (by omega)])
      go_ret
      exact⟨A1r HF.out.symm,fin _⟩
  ·by_cases h3:num<1
   ·have HF:Hid (E=3):=by show _=_;rw[ac.out,if_neg (by omega),if_pos (by omega)]
    clear ac
    go_enter Tryz.func90,Tryz.ntmps90
    go_wp2_with (go_at_call 152;refine(A0h _ _).mono ?_;rintro e w1 ⟨rfl,rfl⟩;rw[←A0d (by omega)])
    go_ret
    exact⟨A1r HF.out.symm,fin _⟩
   ·by_cases h2:536870912≤num
    ·have HF:Hid (E=3):=by show _=_;rw[ac.out,if_neg (by omega),if_pos (by omega)]
     clear ac
     go_enter Tryz.func90,Tryz.ntmps90
     go_wp2_with (go_at_call 152;refine(A0h _ _).mono ?_;rintro e w1 ⟨rfl,rfl⟩;rw[←A0d (by omega)])
     go_ret
     exact⟨A1r HF.out.symm,fin _⟩
    ·by_cases h1:0<len
     rotate_right
     focus
      have HF:Hid (E=0):=by show _=_;rw[ac.out,if_neg (by omega),if_neg (by omega),if_neg (by omega),if_neg (by omega),if_neg (by omega)]
     rotate_right
     focus
      have HF:Hid (E=8):=by show _=_;rw[ac.out,if_neg (by omega),if_neg (by omega),if_neg (by omega),if_neg (by omega),if_pos (by omega)]
     all_goals
      clear ac
      go_enter Tryz.func90,Tryz.ntmps90
      go_wp2_with (go_at_call 152;refine(A0h _ _).mono ?_;rintro e w1 ⟨rfl,rfl⟩;rw[←A0d (by omega)])
      go_ret
      exact⟨A1r HF.out.symm,fin _⟩
  ·by_cases h4:4000<len
   ·have HF:Hid (E=4):=by show _=_;rw[ac.out,if_pos (by omega)]
    clear ac
    go_enter Tryz.func90,Tryz.ntmps90
    go_wp2_with (go_at_call 152;refine(A0h _ _).mono ?_;rintro e w1 ⟨rfl,rfl⟩;rw[←A0d (by omega)])
    go_ret
    exact⟨A1r HF.out.symm,fin _⟩
   ·by_cases h3:num<1
    ·have HF:Hid (E=3):=by show _=_;rw[ac.out,if_neg (by omega),if_pos (by omega)]
     clear ac
     go_enter Tryz.func90,Tryz.ntmps90
     go_wp2_with (go_at_call 152;refine(A0h _ _).mono ?_;rintro e w1 ⟨rfl,rfl⟩;rw[←A0d (by omega)])
     go_ret
     exact⟨A1r HF.out.symm,fin _⟩
    ·by_cases h2:536870912≤num
     ·have HF:Hid (E=3):=by show _=_;rw[ac.out,if_neg (by omega),if_pos (by omega)]
      clear ac
      go_enter Tryz.func90,Tryz.ntmps90
      go_wp2_with (go_at_call 152;refine(A0h _ _).mono ?_;rintro e w1 ⟨rfl,rfl⟩;rw[←A0d (by omega)])
      go_ret
      exact⟨A1r HF.out.symm,fin _⟩
     ·by_cases h1:bits≠0
      rotate_right
      focus
       have hx:((bits:Int) != 0)=false:=by simp;omega
       have HF:Hid (E=0):=by show _=_;rw[ac.out,if_neg (by omega),if_neg (by omega),if_neg (by omega),if_neg (by omega),if_neg (by omega)]
       clear ac
      rotate_right
      focus
       have HF:Hid (E=8):=by show _=_;rw[ac.out,if_neg (by omega),if_neg (by omega),if_neg (by omega),if_pos (by omega)]
       clear ac
       have hx:((bits:Int) != 0)=true:=by rw[bne_iff_ne];omega
      all_goals
       go_enter Tryz.func90,Tryz.ntmps90
       go_wp2_with (go_at_call 152;refine(A0h _ _).mono ?_;rintro e w1 ⟨rfl,rfl⟩;rw[←A0d (by omega)])
       go_ret
       exact⟨A1r HF.out.symm,fin _⟩
  ·by_cases h4:num<1
   ·have HF:Hid (E=3):=by show _=_;rw[ac.out,if_neg (by omega),if_pos (by omega)]
    clear ac
    go_enter Tryz.func90,Tryz.ntmps90
    go_wp2_with (go_at_call 152;refine(A0h _ _).mono ?_;rintro e w1 ⟨rfl,rfl⟩;rw[←A0d (by omega)])
    go_ret
    exact⟨A1r HF.out.symm,fin _⟩
   ·by_cases h3:536870912≤num
    ·have HF:Hid (E=3):=by show _=_;rw[ac.out,if_neg (by omega),if_pos (by omega)]
     clear ac
     go_enter Tryz.func90,Tryz.ntmps90
     go_wp2_with (go_at_call 152;refine(A0h _ _).mono ?_;rintro e w1 ⟨rfl,rfl⟩;rw[←A0d (by omega)])
     go_ret
     exact⟨A1r HF.out.symm,fin _⟩
    ·by_cases h2:bits / 4294967296≠0
     ·have HF:Hid (E=3):=by show _=_;rw[ac.out,if_neg (by omega),if_neg (by omega),if_pos (by omega)]
      clear ac
      have hx:((bits:Int) / 4294967296 != 0)=true:=by rw[bne_iff_ne];omega
      go_enter Tryz.func90,Tryz.ntmps90
      go_wp2_with (go_at_call 152;refine(A0h _ _).mono ?_;rintro e w1 ⟨rfl,rfl⟩;rw[←A0d (by omega)])
      go_ret
      exact⟨A1r HF.out.symm,fin _⟩
     ·have hx:((bits:Int) / 4294967296 != 0)=false:=by simp;omega
      by_cases h1:0<len
      rotate_right
      focus
       have HF:Hid (E=0):=by show _=_;rw[ac.out,if_neg (by omega),if_neg (by omega),if_neg (by omega),if_neg (by omega),if_neg (by omega)]
      rotate_right
      focus
       have HF:Hid (E=8):=by show _=_;rw[ac.out,if_neg (by omega),if_neg (by omega),if_neg (by omega),if_neg (by omega),if_pos (by omega)]
      all_goals
       clear ac
       go_enter Tryz.func90,Tryz.ntmps90
       go_wp2_with (go_at_call 152;refine(A0h _ _).mono ?_;rintro e w1 ⟨rfl,rfl⟩;rw[←A0d (by omega)])
       go_ret
       exact⟨A1r HF.out.symm,fin _⟩
def A8r (fs:List FI)(r:RI):Int:=
 if A0t r.number r.how r.bits r.bytes.length=0 then(if 0≤A0k (fun f:FI=>decide (f.number=r.number)) fs then 7 else 0) else A0t r.number r.how r.bits r.bytes.length
theorem C1l {w:World}{nm:List UInt8}{af ab:Option Addr}{nf cf nb cb:Nat}{fs:List FI}(hf:RdL 6 FAt w (.slice af nf cf) fs)(r:RI){ao:Option Addr}{n cap:Nat}(Hn:Hid (n=r.bytes.length))(hn:n≤9223372036854775807) :
  Calls Tryz.prog 60 #[.agg #[.string (S nm),.slice af nf cf,.slice ab nb cb],.agg #[.int .i64 r.number,.int .i64 r.how,.int .u64 (r.bits:Int),.slice ao n cap]] w fun e w'=>e = .returned (.int .i64 (A8r fs r))∧Below w.heap.size w w':=by
 obtain⟨W2,ag⟩:∃ W2,Hid (W2=(w.alloc (.cells #[.string (S nm),.slice af nf cf,.slice ab nb cb] 38)).alloc (.cells #[.int .i64 r.number,.int .i64 r.how,.int .u64 (r.bits:Int),.slice ao n cap] 106)):=⟨_,rfl⟩
 have hb2:Below w.heap.size w W2:=by rw[ag.out];exact((Below.refl _ _).alloc (Nat.le_refl _) _).alloc (by simp) _
 have x1:W2.heap[w.heap.size]?=some (.cells #[.string (S nm),.slice af nf cf,.slice ab nb cb] 38 (0,0)):=by rw[ag.out];exact A0o _ _ _
 have x2:W2.heap[w.heap.size+1]?=some (.cells #[.int .i64 r.number,.int .i64 r.how,.int .u64 (r.bits:Int),.slice ao n cap] 106 (0,0)):=by rw[ag.out];exact A0j _ _ _
 have hz2:w.heap.size+2≤W2.heap.size:=by rw[ag.out];simp
 have hw:=B0b r.number r.how r.bits ao n cap W2 hn
 obtain⟨E,HE⟩:∃ E,Hid (E=A0t r.number r.how r.bits n):=⟨_,rfl⟩
 rw[←HE.out] at hw
 go_enter Tryz.func60,Tryz.ntmps60
 go_wp2_with fail
 rw[←ag.out]
 refine hw.mono ?_
 rintro e w3 ⟨rfl,hb3⟩
 have ac:Below w.heap.size w w3:=hb2.trans (hb3.mono hb2.size)
 clear hw
 by_cases hz:E=0
 ·have ez:(E != 0)=false:=by simp[hz]
  have y1:=(hb3.block w.heap.size (by omega)).trans x1
  have y2:=(hb3.block (w.heap.size+1) (by omega)).trans x2
  have m0:w3.cell? ⟨w.heap.size,0,none⟩=some (.string (S nm)):=A0a y1 0 _ rfl
  have m1:w3.cell? ⟨w.heap.size,1,none⟩=some (.slice af nf cf):=A0a y1 1 _ rfl
  have m2:w3.cell? ⟨w.heap.size,2,none⟩=some (.slice ab nb cb):=A0a y1 2 _ rfl
  have m3:w3.cell? ⟨w.heap.size+1,0,none⟩=some (.int .i64 r.number):=A0a y2 0 _ rfl
  have ah:=A3e (hf.below FAt.stays ac) ⟨ab,nb,cb,rfl⟩ ⟨nm,rfl⟩ r.number
  obtain⟨k,Hk⟩:∃ k,Hid (k=A0k (fun f:FI=>decide (f.number=r.number)) fs):=⟨_,rfl⟩
  rw[←Hk.out] at ah
  by_cases hk:0≤k
  rotate_right
  focus
   have HR:Hid (A8r fs r=0):=by
    show _=_
    unfold A8r
    rw[←Hn.out,←HE.out,if_pos hz,←Hk.out,if_neg hk]
   have dk:decide (0≤k)=false:=decide_eq_false hk
  rotate_right
  focus
   have HR:Hid (A8r fs r=7):=by
    show _=_
    unfold A8r
    rw[←Hn.out,←HE.out,if_pos hz,←Hk.out,if_pos hk]
   have dk:decide (0≤k)=true:=decide_eq_true hk
  all_goals
   clear hz hk
   go_wp2_with fail
   refine ah.mono ?_
   rintro e w4 ⟨rfl,hb4⟩
   go_wp2
   go_ret
   exact⟨by rw[HR.out];rfl,ac.trans (hb4.mono ac.size)⟩
 ·have ez:(E != 0)=true:=by simpa using hz
  have HR:Hid (A8r fs r=E):=by
   show _=_
   unfold A8r
   rw[←Hn.out,←HE.out,if_neg hz]
  clear hz
  go_wp2
  go_ret
  exact⟨by rw[HR.out];rfl,ac⟩
end L
end Go.Proofs.YtgaoojpakjjdnaaGreatDoor
