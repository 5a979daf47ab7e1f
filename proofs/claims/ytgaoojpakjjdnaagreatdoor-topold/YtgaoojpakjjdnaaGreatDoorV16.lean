import Derived.Test.YtgaoojpakjjdnaaGreatDoorV15
set_option maxHeartbeats 32000000
set_option maxRecDepth 100000
namespace Go.Proofs.YtgaoojpakjjdnaaGreatDoor
namespace L
open Go.RowKit
def Deeper (d fn:Nat)(cap:Array Value)(name:List UInt8)(f:BI d→Int)(l:List (BI d))(w:World):Prop:=
 ∀ W,Below w.heap.size w W→∀ s∈l,∀ v0 v1,BQ d W v0 v1 s→Calls Tryz.prog fn (#[.string (S name),.agg #[v0,v1]]++cap) W fun e W'=>e = .returned (.int .i64 (f s))∧Below W.heap.size W W'
theorem Deeper.below {d fn:Nat}{cap:Array Value}{name:List UInt8}{f:BI d→Int}{l:List (BI d)}{w w':World}(h:Deeper d fn cap name f l w)(hb:Below w.heap.size w w'):Deeper d fn cap name f l w':=
 fun W hW=>h W (hb.trans (hW.mono hb.size))
theorem C5v {d:Nat}{w:World}{c cx:Nat}{ag:Array Value}{fn:Nat}{x:FI}{f:BI d→Int}{l:List (BI d)}(hc:w.heap[c]?=some (.cells #[.func (.func fn) #[] ag] 113 (0,0)))(hx:w.heap[cx]?=some (.cells (cFI x) 40 (0,0)))(ah:∀ (args:Array Value) (w:World),(callFunc fn args).run Tryz.prog w = .ok (.enter fn args) w){s:BI d}(hs:s∈l){a0 a1:Option Addr}{n0 c0 n1 c1:Nat}(hq:BQ d w (.slice a0 n0 c0) (.slice a1 n1 c1) s)(ac:Deeper d fn ag x.type f l w) :
  Calls Tryz.prog 136 #[.agg #[.slice a0 n0 c0,.slice a1 n1 c1],.pointer (some ⟨c,0,none⟩),.pointer (some ⟨cx,0,none⟩)] w fun e w'=>e = .returned (.int .i64 (f s))∧Below w.heap.size w w':=by
 have k0:w.cell? ⟨c,0,none⟩=some (.func (.func fn) #[] ag):=A0a hc 0 _ rfl
 have k3:w.cell? ⟨cx,3,none⟩=some (.string (S x.type)):=A0a hx 3 _ rfl
 have aj:=(Array.getElem?_eq_some_iff.1 hc).1
 have ak:=(Array.getElem?_eq_some_iff.1 hx).1
 have hb1:Below w.heap.size w (w.alloc (.cells #[.slice a0 n0 c0,.slice a1 n1 c1] 29)):=(Below.refl _ _).alloc (Nat.le_refl _) _
 have hd:=ac _ hb1 s hs _ _ (hq.below hb1)
 clear ac hq
 go_enter Tryz.func136,Tryz.ntmps136
 go_wp2_with fail
 refine hd.mono ?_
 rintro e w1 ⟨rfl,hb2⟩
 go_wp2
 go_ret
 exact⟨rfl,hb1.trans (hb2.mono hb1.size)⟩
theorem D3s {d:Nat}{v:Value}{l:List (BI d)}{w:World}{c cx:Nat}{ah:Array Value}{fn:Nat}{x:FI}{f:BI d→Int}(h:RdL 2 (BAt d) w v l)(hc:w.heap[c]?=some (.cells #[.func (.func fn) #[] ah] 113 (0,0)))(hx:w.heap[cx]?=some (.cells (cFI x) 40 (0,0)))(au:∀ (args:Array Value) (w:World),(callFunc fn args).run Tryz.prog w = .ok (.enter fn args) w)(aj:Deeper d fn ah x.type f l w) :
  Calls Tryz.prog 135 #[v,.func (.func 136) #[] #[.pointer (some ⟨c,0,none⟩),.pointer (some ⟨cx,0,none⟩)]] w fun e w'=>e = .returned (.int .i64 (A1g (f) l))∧Below w.heap.size w w':=by
 obtain⟨ao,n,cap,rfl,Hn,bc⟩:=h.shape
 obtain⟨R,HR⟩:∃ R,Hid (R=A1g (f) l):=⟨_,rfl⟩
 rw[←HR.out]
 go_enter Tryz.func135,Tryz.ntmps135
 go_wp2_with fail
 go_loopg [10] n (fun m i wr=>∃ k:Nat,k+m=n∧i = .int .i64 k∧Hid (R=A1g (f) (l.drop k))∧Below w.heap.size w wr)
 case atStart=>exact⟨0,by omega,rfl,HR,Below.refl _ _⟩
 case round=>
  obtain⟨k,hk,rfl,HK,hb⟩:=hrel
  have aw:=(hb.block c (Array.getElem?_eq_some_iff.1 hc).1).trans hc
  have ba:=(hb.block cx (Array.getElem?_eq_some_iff.1 hx).1).trans hx
  by_cases hlt:k<n
  ·obtain⟨a,Ha⟩:∃ a,Hid (l[k]?=some a):=⟨l[k]'(by rw[←Hn.out];exact hlt),List.getElem?_eq_getElem (by rw[←Hn.out];exact hlt)⟩
   obtain⟨b,off,rfl,hat⟩:=(h.below (BAt.stays d) hb).get (BAt.plain d) Ha.out
   obtain⟨v0,v1,s0,s1,hq⟩:=BQ.of d hat
   obtain⟨a0,n0,c0,a1,n1,c1,rfl,rfl⟩:=hq.shape
   have bg:(k:Int)<(n:Int):=by omega
   obtain⟨W1,ak⟩:∃ W1,Hid (W1=wr.alloc (.cells #[.slice a0 n0 c0,.slice a1 n1 c1] 29)):=⟨_,rfl⟩
   have hb1:Below wr.heap.size wr W1:=by rw[ak.out];exact(Below.refl _ _).alloc (Nat.le_refl _) _
   have ac:Below w.heap.size w W1:=hb.trans (hb1.mono hb.size)
   have ag:=C5v ((hb1.block c (Array.getElem?_eq_some_iff.1 aw).1).trans aw) ((hb1.block cx (Array.getElem?_eq_some_iff.1 ba).1).trans ba) au (A3u Ha.out) (hq.below hb1) (aj.below ac)
   have hst:=A9c (f:=f) Ha.out
   generalize hF:f a=F at ag hst
   clear hq
   by_cases hz:F=0
   ·have HX:Hid (R=A1g (f) (l.drop (k+1))):=by
     show _=_
     rw[HK.out,hst,if_pos hz]
    have ez:(F != 0)=false:=by simp[hz]
    clear hst hF hz hat
    go_wp2_with fail
    rw[←ak.out]
    refine ag.mono ?_
    rintro e w1 ⟨rfl,hb2⟩
    go_wp2_with fail
    go_roundg (n-(k+1))
    case measure=>omega
    case rel=>exact⟨k+1,by omega,by go_num,HX,ac.trans (hb2.mono ac.size)⟩
   ·have HX:Hid (R=F):=by
     show _=_
     rw[HK.out,hst,if_neg hz]
    have ez:(F != 0)=true:=by simpa using hz
    clear hst hF hz hat
    go_wp2_with fail
    rw[←ak.out]
    refine ag.mono ?_
    rintro e w1 ⟨rfl,hb2⟩
    go_wp2
    go_ret
    exact⟨by rw[HX.out];rfl,ac.trans (hb2.mono ac.size)⟩
  ·have HX:Hid (R=0):=by
    show _=_
    rw[HK.out]
    exact A7n (by rw[←Hn.out];omega)
   go_wp2
   go_ret
   exact⟨by rw[HX.out];rfl,hb⟩
theorem C3v {d:Nat}{w:World}(x:FI)(v:VI (BI d)){gd:Nat}{ag:Array Value}{fn:Nat}{f:BI d→Int}{a1 a2 a3:Option Addr}{n1 n2 n3 c1 c2 c3:Nat}(h3:RdL 2 (BAt d) w (.slice a3 n3 c3) v.subs)(hc:w.heap[gd]?=some (.cells #[.func (.func fn) #[] ag] 113 (0,0)))(ah:∀ (args:Array Value) (w:World),(callFunc fn args).run Tryz.prog w = .ok (.enter fn args) w)(ac:Deeper d fn ag x.type f v.subs w) :
  Calls Tryz.prog 134 #[vFI x,.agg #[.int .i64 v.number,.slice a1 n1 c1,.slice a2 n2 c2,.slice a3 n3 c3],.pointer (some ⟨gd,0,none⟩)] w fun e w'=>e = .returned (.int .i64 (A1g f v.subs))∧Below w.heap.size w w':=by
 have hb2:Below w.heap.size w ((w.alloc (.cells (cFI x) 40)).alloc (.cells #[.int .i64 v.number,.slice a1 n1 c1,.slice a2 n2 c2,.slice a3 n3 c3] 62)):=((Below.refl _ _).alloc (Nat.le_refl _) _).alloc (by simp) _
 have hi:=D3s (x:=x) (h3.below (BAt.stays d) hb2) ((hb2.block gd (Array.getElem?_eq_some_iff.1 hc).1).trans hc) (A0o w _ _) ah (ac.below hb2)
 have aj:=A4j
 clear ac
 unfold cFI at hb2 hi
 unfold vFI
 go_enter Tryz.func134,Tryz.ntmps134
 go_wp2_with fail
 refine hi.mono ?_
 rintro e w1 ⟨rfl,hb1⟩
 go_wp2
 go_ret
 exact⟨rfl,hb2.trans (hb1.mono hb2.size)⟩
structure Mm (c0 ca B:Nat) (s:Int×List Int) (w:World):Prop where
 last:w.heap[c0]?=some (.cells #[.int .i64 s.1] 3 (0,0))
 row:∃ v,w.heap[ca]?=some (.cells #[v] 30 (0,0))∧Row ekN w B v s.2
 size:B≤w.heap.size
 lt0:c0<B
 lta:ca<B
structure Stp (c0 ca B:Nat) (w:World) (s:Int×List Int) (w':World):Prop where
 mm:Mm c0 ca B s w'
 os:w'.os=w.os
 tape:w'.tape=w.tape
 output:w'.output=w.output
 size:w.heap.size≤w'.heap.size
 own:∃ v v',w.heap[ca]?=some (.cells #[v] 30 (0,0))∧w'.heap[ca]?=some (.cells #[v'] 30 (0,0))∧(∀ k,v.ownBlock=some k→B≤k)∧(∀ k,v'.ownBlock=some k→v.ownBlock=some k∨w.heap.size≤k)∧∀ k,k<w.heap.size→k≠c0→k≠ca→v.ownBlock≠some k→w'.heap[k]?=w.heap[k]?
theorem Mm.below {c0 ca B:Nat}{s:Int×List Int}{w w':World}(h:Mm c0 ca B s w)(hb:Below w.heap.size w w'):Mm c0 ca B s w':=by
 obtain⟨v,h1,h2⟩:=h.row
 have hs:=h.size;have h0:=h.lt0;have ha:=h.lta
 exact⟨(hb.block c0 (by omega)).trans h.last,⟨v,(hb.block ca (by omega)).trans h1,h2.below hb⟩,Nat.le_trans hs hb.size,h0,ha⟩
theorem Stp.of_below {c0 ca B:Nat}{s:Int×List Int}{w w':World}(h:Mm c0 ca B s w)(hb:Below w.heap.size w w'):Stp c0 ca B w s w':=by
 obtain⟨v,h1,h2⟩:=h.row
 have hs:=h.size;have ha:=h.lta
 exact⟨h.below hb,hb.os,hb.tape,hb.output,hb.size,v,v,h1,(hb.block ca (by omega)).trans h1,fun k hk=>(h2.own k hk).1,fun k hk=>.inl hk,fun k hk _ _ _=>hb.block k hk⟩
theorem Stp.refl {c0 ca B:Nat}{s:Int×List Int}{w:World}(h:Mm c0 ca B s w):Stp c0 ca B w s w:=.of_below h (Below.refl _ _)
theorem Stp.trans {c0 ca B:Nat}{s1 s2:Int×List Int}{w w1 w2:World}(h:Stp c0 ca B w s1 w1)(k:Stp c0 ca B w1 s2 w2):Stp c0 ca B w s2 w2:=by
 obtain⟨v,v1,a1,a2,a3,a4,a5⟩:=h.own
 obtain⟨u,u2,b1,b2,b3,b4,b5⟩:=k.own
 rw[a2] at b1
 simp only[Option.some.injEq,Obj.cells.injEq,Array.mk.injEq,List.cons.injEq,and_true] at b1
 subst b1
 have hsz:=h.size
 refine⟨k.mm,k.os.trans h.os,k.tape.trans h.tape,k.output.trans h.output,Nat.le_trans h.size k.size,v,u2,a1,b2,a3,?_,?_⟩
 ·intro i hi
  rcases b4 i hi with h1|h1
  ·exact a4 i h1
  ·exact .inr (by omega)
 ·intro i hi h0 ha hv
  rw[b5 i (by omega) h0 ha ?_,a5 i hi h0 ha hv]
  intro e
  rcases a4 i e with h1|h1
  ·exact hv h1
  ·omega
theorem Stp.below {c0 ca B B0:Nat}{s:Int×List Int}{w w':World}(h:Stp c0 ca B w s w')(h0:B0≤c0)(ha:B0≤ca):Below B0 w w':=by
 obtain⟨v,v1,a1,a2,a3,a4,a5⟩:=h.own
 have hl:=h.mm.lt0
 have ac:ca<w.heap.size:=(Array.getElem?_eq_some_iff.1 a1).1
 exact⟨h.os,h.tape,h.output,h.size,fun k hk=>a5 k (by omega) (by omega) (by omega) (fun e=>by have:=a3 k e;omega)⟩
theorem Stp.block {c0 ca B:Nat}{s:Int×List Int}{w w':World}(h:Stp c0 ca B w s w'){k:Nat}{xs:Array Value}{t:TypeId}{fr:Nat×Nat}(hk:w.heap[k]?=some (.cells xs t fr))(h0:k≠c0)(ha:k≠ca)(hB:k<B):w'.heap[k]?=some (.cells xs t fr):=by
 obtain⟨v,v1,a1,a2,a3,a4,a5⟩:=h.own
 rw[a5 k (Array.getElem?_eq_some_iff.1 hk).1 h0 ha (fun e=>by have:=a3 k e;omega)]
 exact hk
theorem Stp.block' {c0 ca B:Nat}{s s1:Int×List Int}{w0 w w':World}(h0:Mm c0 ca B s w0)(hb:Below w0.heap.size w0 w)(h:Stp c0 ca B w s1 w'){k:Nat}{xs:Array Value}{t:TypeId}{fr:Nat×Nat}(hk:w.heap[k]?=some (.cells xs t fr))(hlt:w0.heap.size≤k):w'.heap[k]?=some (.cells xs t fr):=by
 obtain⟨v,v1,a1,a2,a3,a4,a5⟩:=h.own
 obtain⟨u,b1,b2⟩:=h0.row
 have hs:=h0.size;have hl0:=h0.lt0;have ac:=h0.lta
 have e:=(hb.block ca (by omega)).trans b1
 rw[a1] at e
 simp only[Option.some.injEq,Obj.cells.injEq,Array.mk.injEq,List.cons.injEq,and_true] at e
 subst e
 rw[a5 k (Array.getElem?_eq_some_iff.1 hk).1 (by omega) (by omega) (fun e=>by have:=(b2.own k e).2;omega)]
 exact hk
theorem D3k {β:Type}{w:World}{c0 ca B:Nat}{s:Int×List Int}(hm:Mm c0 ca B s w)(x:FI)(v:VI β){a1 a2 a3:Option Addr}{n1 n2 n3 c1 c2 c3:Nat} :
  Calls Tryz.prog 195 #[vFI x,.agg #[.int .i64 v.number,.slice a1 n1 c1,.slice a2 n2 c2,.slice a3 n3 c3],.pointer (some ⟨c0,0,none⟩)] w fun e w'=>e = .returned (.bool (decide (v.number≤s.1)))∧Stp c0 ca B w (v.number,s.2) w':=by
 obtain⟨u,h1,h2⟩:=hm.row
 have hs:=hm.size;have hl0:=hm.lt0;have ak:=hm.lta
 have aj:c0<w.heap.size:=by omega
 have au:w.cell? ⟨c0,0,none⟩=some (.int .i64 s.1):=A0a hm.last 0 _ rfl
 have f0:=A0b hm.last 0
 have hne:c0≠ca:=fun e=>by have:=hm.last;rw[e,h1] at this;simp at this
 have hX:(w.setCell ⟨c0,0,none⟩ (.int .i64 v.number)).heap[c0]?=some (.cells #[.int .i64 v.number] 3 (0,0)):=heap_setCell_same _ _ 0 _ _ _ hm.last
 have ag:∀ o o',Stp c0 ca B w (v.number,s.2) (((w.setCell ⟨c0,0,none⟩ (.int .i64 v.number)).alloc o).alloc o'):=by
  intro o o'
  have hb2:Below w.heap.size (w.setCell ⟨c0,0,none⟩ (.int .i64 v.number)) (((w.setCell ⟨c0,0,none⟩ (.int .i64 v.number)).alloc o).alloc o'):=((Below.refl _ _).alloc (by simp) _).alloc (by simp) _
  have ac:∀ k,k≠c0→(w.setCell ⟨c0,0,none⟩ (.int .i64 v.number)).heap[k]?=w.heap[k]?:=fun k hk=>Below.heap_setCell w ⟨c0,0,none⟩ _ k (show k≠c0 from hk)
  have ah:=(hb2.block ca (by omega)).trans ((ac ca (Ne.symm hne)).trans h1)
  have hown:∀ k,u.ownBlock=some k→B≤k∧k<w.heap.size:=h2.own
  refine⟨⟨(hb2.block c0 aj).trans hX,⟨u,ah,?_⟩,?_,hl0,ak⟩,hb2.os,hb2.tape,hb2.output,by simpa using hb2.size,u,u,h1,ah,fun k hk=>(hown k hk).1,fun k hk=>.inl hk,fun k hk h0 _ _=>(hb2.block k hk).trans (ac k h0)⟩
  ·exact(h2.other (fun e=>by have:=(hown c0 e).1;omega) 0 _).keep fun k _ hk=>hb2.block k (by simpa using hk)
  ·have:=hb2.size;simp at this ⊢;omega
 unfold vFI
 go_enter Tryz.func195,Tryz.ntmps195
 go_wp2
 go_ret
 exact⟨rfl,ag _ _⟩
def A8a (x:FI)(l:List Int):List Int:=if 0<x.choice then l++[x.choice] else l
theorem D0a {β:Type}{w:World}{c0 ca B:Nat}{s:Int×List Int}(hm:Mm c0 ca B s w)(hl:s.2.length≤17592186044415)(x:FI)(y:VI β){a1 a2 a3:Option Addr}{n1 n2 n3 c1 c2 c3:Nat} :
  Calls Tryz.prog 196 #[vFI x,.agg #[.int .i64 y.number,.slice a1 n1 c1,.slice a2 n2 c2,.slice a3 n3 c3],.pointer (some ⟨ca,0,none⟩)] w fun e w'=>e = .returned (.bool (decide (0<x.choice∧x.choice∈s.2)))∧Stp c0 ca B w (s.1,A8a x s.2) w':=by
 obtain⟨v,hc,hr⟩:=hm.row
 obtain⟨last,l⟩:=s
 have hr:Row ekN w B v l:=hr
 have hl:l.length≤17592186044415:=hl
 have hB:=hm.size;have hl0:=hm.lt0;have bw:=hm.lta
 obtain⟨ao,n,cap,rfl,Hn⟩:=hr.shape'
 have bq:ca<w.heap.size:=by omega
 obtain⟨W2,aj⟩:∃ W2,Hid (W2=(w.alloc (.cells #[.string (S x.name),.int .i64 x.number,.int .i64 x.kind,.string (S x.type),.bool x.many,.int .i64 x.choice] 40)).alloc (.cells #[.int .i64 y.number,.slice a1 n1 c1,.slice a2 n2 c2,.slice a3 n3 c3] 62)):=⟨_,rfl⟩
 have hb2:Below w.heap.size w W2:=by rw[aj.out];exact((Below.refl _ _).alloc (Nat.le_refl _) _).alloc (by simp) _
 have hz2:w.heap.size+2≤W2.heap.size:=by rw[aj.out];simp
 have x1:W2.heap[w.heap.size]?=some (.cells #[.string (S x.name),.int .i64 x.number,.int .i64 x.kind,.string (S x.type),.bool x.many,.int .i64 x.choice] 40 (0,0)):=by rw[aj.out];exact A0o _ _ _
 have hc2:=(hb2.block ca bq).trans hc
 have hr2:=hr.below hb2
 have bt:w.cell? ⟨ca,0,none⟩=some (.slice ao n cap):=A0a hc 0 _ rfl
 unfold vFI
 by_cases h0:0<x.choice
 ·have HD:Hid (decide (0<x.choice∧x.choice∈l)=decide (x.choice∈l)):=by show _=_;simp[h0]
  have d0:decide (x.choice≤0)=false:=by simp;omega
  have HT:Hid (A8a x l=l++[x.choice]):=by show _=_;unfold A8a;rw[if_pos h0]
  show Calls _ _ _ _ fun e w'=>e = .returned (.bool (decide (0<x.choice∧x.choice∈l)))∧Stp c0 ca B w (last,A8a x l) w'
  rw[HD.out,HT.out]
  clear h0
  have br:=A6h hr2.rdN x.choice
  obtain⟨q,Hq⟩:∃ q,Hid (q=decide (x.choice∈l)):=⟨_,rfl⟩
  rw[←Hq.out] at br ⊢
  obtain⟨W4,au⟩:∃ W4,Hid (W4=W2.alloc (.cells #[.int .i64 x.choice] 3)):=⟨_,rfl⟩
  have bp:Below W2.heap.size W2 W4:=by rw[au.out];exact(Below.refl _ _).alloc (Nat.le_refl _) _
  have bn:W4.cell? ⟨W2.heap.size,0,none⟩=some (.int .i64 x.choice):=by rw[au.out];exact A0a (heap_alloc_new W2 _) 0 _ rfl
  have hr4:Row ekN W4 B (.slice ao n cap) l:=hr2.below bp
  have ac:Below w.heap.size w W4:=hb2.trans (bp.mono hb2.size)
  have bv:=(ac.block ca bq).trans hc
  have hlen:(l.length + [x.choice].length)*ekN.bytes≤140737488355328:=by
   show(l.length+1)*8≤_
   omega
  have hcell:∀ ad,(some ⟨W2.heap.size,0,none⟩:Option Addr)=some ad→∀ k y,[x.choice][k]?=some y→∀ j u,(ekN.enc y)[j]?=some u→W4.cell? (ad.add (k*ekN.size+j))=some u:=by
   intro ad had k y hy j u hu
   cases had
   have hk:k=0:=by
    cases k with
    | zero=>rfl
    | succ k=>simp at hy
   subst hk
   simp at hy
   subst hy
   have hj:j=0:=by
    cases j with
    | zero=>rfl
    | succ j=>simp[ekN,D6y] at hu
   subst hj
   have hu:u = .int .i64 x.choice:=by simpa [ekN,D6y] using hu.symm
   subst hu
   rw[A0e]
   simpa using bn
  obtain⟨_,_,_,_,_,d5⟩:=B0h x1
  have e0:W2.cell? ⟨ca,0,none⟩=some (.slice ao n cap):=A0a hc2 0 _ rfl
  have bu:B≤W4.heap.size:=Nat.le_trans hB ac.size
  go_enter Tryz.func196,Tryz.ntmps196
  go_wp2_with fail
  rw[←aj.out]
  refine br.mono ?_
  rintro e w1 ⟨rfl,rfl⟩
  go_wp2_with (at_builtin;rw[←au.out];refine A1s rfl ekN _ _ rfl B _ l [x.choice] rfl hr4 (some ⟨W2.heap.size,0,none⟩) 1 1 rfl rfl (fun h=>by cases h) hcell (by decide) hlen bu ?_)
  intro v5 w5 bh ah cg
  have hown:=hr4.own
  have ba:(Value.slice ao n cap).ownBlock≠some ca:=fun hh=>by have:=(hown ca hh).1;omega
  have aw:=(ah.block ca (by omega) (fun hh=>ba hh.symm)).trans bv
  have k0:=A0a aw 0 _ rfl
  have k1:=A0b aw 0
  obtain⟨a5,n5,ag,rfl,cu⟩:=bh.shape'
  go_wp2
  go_ret
  have cj:=ah.size
  have cw:=ac.size
  have bk:∀ k,k≠ca→(w5.setCell ⟨ca,0,none⟩ (.slice a5 n5 ag)).heap[k]?=w5.heap[k]?:=fun k hk=>Below.heap_setCell w5 ⟨ca,0,none⟩ _ k (show k≠ca from hk)
  have ak:(w5.setCell ⟨ca,0,none⟩ (.slice a5 n5 ag)).heap[ca]?=some (.cells #[.slice a5 n5 ag] 30 (0,0)):=heap_setCell_same _ _ 0 _ _ _ aw
  have hne:c0≠ca:=fun e=>by have:=hm.last;rw[e,hc] at this;simp at this
  have hblk:∀ k,k<w.heap.size→k≠ca→(Value.slice ao n cap).ownBlock≠some k→(w5.setCell ⟨ca,0,none⟩ (.slice a5 n5 ag)).heap[k]?=w.heap[k]?:=fun k hk bc bg=>by
   rw[bk k bc,ah.block k (by omega) (fun e=>bg e.symm),ac.block k hk]
  refine⟨rfl,⟨⟨?_,⟨_,ak,?_⟩,?_,hl0,bw⟩,?_,?_,?_,?_,_,_,hc,ak,fun k hk=>(hr.own k hk).1,?_,fun k hk _ bc bg=>hblk k hk bc bg⟩⟩
  ·rw[hblk c0 (by omega) hne (fun hh=>by have:=(hown c0 hh).1;omega)];exact hm.last
  ·exact bh.other (fun hh=>by have:=(bh.own ca hh).1;omega) 0 _
  ·simp;omega
  ·exact ah.os.trans ac.os
  ·exact ah.tape.trans ac.tape
  ·exact ah.output.trans ac.output
  ·simp;omega
  ·intro k hk
   rcases cg k hk with h1|h1
   ·exact .inl h1
   ·exact .inr (by omega)
 ·have HD:Hid (decide (0<x.choice∧x.choice∈l)=false):=by show _=_;simp[h0]
  have d0:decide (x.choice≤0)=true:=by simp;omega
  have HT:Hid (A8a x l=l):=by show _=_;unfold A8a;rw[if_neg h0]
  show Calls _ _ _ _ fun e w'=>e = .returned (.bool (decide (0<x.choice∧x.choice∈l)))∧Stp c0 ca B w (last,A8a x l) w'
  rw[HD.out,HT.out]
  clear h0 bt
  go_enter Tryz.func196,Tryz.ntmps196
  go_wp2
  go_ret
  rw[←aj.out]
  exact⟨rfl,Stp.of_below hm hb2⟩
theorem A9z {β:Type}{w:World}{c0 ca B:Nat}{s s':Int×List Int}(hm:Mm c0 ca B s w){fn cb ce:Nat}{cap:Array Value}{err:Int}{r:Bool}(bc:∀ (args:Array Value) (w:World),(callFunc fn args).run Tryz.prog w = .ok (.enter fn args) w)
  (hcb:w.heap[cb]?=some (.cells #[.func (.func fn) #[] cap] 132 (0,0))) (hce:w.heap[ce]?=some (.cells #[.int .i64 err] 33 (0,0))) (aw:ce<B) (au:ce≠c0) (ba:ce≠ca) (x:FI) (v:VI β){a1 a2 a3:Option Addr}{n1 n2 n3 c1 c2 c3:Nat}
  (ac:∀ W,Below w.heap.size w W→Calls Tryz.prog fn (#[vFI x,.agg #[.int .i64 v.number,.slice a1 n1 c1,.slice a2 n2 c2,.slice a3 n3 c3]]++cap) W fun e w'=>e = .returned (.bool r)∧Stp c0 ca B W s' w') :
  Calls Tryz.prog 194 #[vFI x,.agg #[.int .i64 v.number,.slice a1 n1 c1,.slice a2 n2 c2,.slice a3 n3 c3],.pointer (some ⟨cb,0,none⟩),.pointer (some ⟨ce,0,none⟩)] w fun e w'=>e = .returned (.int .i64 (if r then err else 0))∧Stp c0 ca B w s' w':=by
 obtain⟨W2,aj⟩:∃ W2,Hid (W2=(w.alloc (.cells #[.string (S x.name),.int .i64 x.number,.int .i64 x.kind,.string (S x.type),.bool x.many,.int .i64 x.choice] 40)).alloc (.cells #[.int .i64 v.number,.slice a1 n1 c1,.slice a2 n2 c2,.slice a3 n3 c3] 62)):=⟨_,rfl⟩
 have hb2:Below w.heap.size w W2:=by rw[aj.out];exact((Below.refl _ _).alloc (Nat.le_refl _) _).alloc (by simp) _
 have k0:w.cell? ⟨cb,0,none⟩=some (.func (.func fn) #[] cap):=A0a hcb 0 _ rfl
 have hc:=ac W2 hb2
 have ag:=(hb2.block ce (Array.getElem?_eq_some_iff.1 hce).1).trans hce
 have ak:=(Array.getElem?_eq_some_iff.1 hcb).1
 clear ac
 unfold vFI at hc ⊢
 go_enter Tryz.func194,Tryz.ntmps194
 go_wp2_with fail
 rw[←aj.out]
 refine hc.mono ?_
 rintro e w3 ⟨rfl,hs3⟩
 have ah:=hs3.block ag au ba aw
 have k1:w3.cell? ⟨ce,0,none⟩=some (.int .i64 err):=A0a ah 0 _ rfl
 have hst:=(Stp.of_below hm hb2).trans hs3
 cases r with
 | true=>
  go_wp2
  go_ret
  exact⟨rfl,hst⟩
 | false=>
  go_wp2
  go_ret
  exact⟨rfl,hst⟩
theorem C7t {R:Int}{post:World→Prop}{W:World}{cm ct cv k fn:Nat}{cap:Array Value}{nm:List UInt8}{af ab:Option Addr}{nf cf nb cb:Nat}{fs:List FI}{x:FI}{number:Int}{a1 a2 a3:Option Addr}{n1 n2 n3 c1 c2 c3:Nat}
  (hcm:W.heap[cm]?=some (.cells #[.string (S nm),.slice af nf cf,.slice ab nb cb] 38 (0,0))) (ag:W.heap[ct]?=some (.cells #[.int .i64 (k:Int)] 3 (0,0))) (hcv:W.heap[cv]?=some (.cells #[.int .i64 number,.slice a1 n1 c1,.slice a2 n2 c2,.slice a3 n3 c3] 62 (0,0)))
  (hf:RdL 6 FAt W (.slice af nf cf) fs) (hk:fs[k]?=some x) (ah:∀ (args:Array Value) (w:World),(callFunc fn args).run Tryz.prog w = .ok (.enter fn args) w)
  (ac:Calls Tryz.prog fn (#[vFI x,.agg #[.int .i64 number,.slice a1 n1 c1,.slice a2 n2 c2,.slice a3 n3 c3]]++cap) W.drew fun e w'=>e = .returned (.int .i64 R)∧post w') :
  Calls Tryz.prog 121 #[.func (.func fn) #[] cap,.pointer (some ⟨cm,0,none⟩),.pointer (some ⟨ct,0,none⟩),.pointer (some ⟨cv,0,none⟩)] W fun e w'=>e = .returned (.int .i64 R)∧post w':=by
 have hb:Below W.heap.size W W.drew:=(Below.refl _ _).drew
 obtain⟨b,o,rfl,hat⟩:=hf.get FAt.plain hk
 have aj:=hf.len.1
 have ak:k<nf:=by rw[aj];exact(List.getElem?_eq_some_iff.1 hk).1
 have au:(k:Int)<(nf:Int):=by omega
 have hat':=FAt.stays _ _ _ _ hb hat
 simp only[FAt,A0e] at hat'
 obtain⟨f0,f1,f2,f3,f4,f5⟩:=hat'
 have m1:W.drew.cell? ⟨cm,1,none⟩=some (.slice (some ⟨b,o,none⟩) nf cf):=A0c hb (A0a hcm 1 _ rfl)
 have t0:W.drew.cell? ⟨ct,0,none⟩=some (.int .i64 (k:Int)):=A0c hb (A0a ag 0 _ rfl)
 have v0:W.drew.cell? ⟨cv,0,none⟩=some (.int .i64 number):=A0c hb (A0a hcv 0 _ rfl)
 have v1:W.drew.cell? ⟨cv,1,none⟩=some (.slice a1 n1 c1):=A0c hb (A0a hcv 1 _ rfl)
 have v2:W.drew.cell? ⟨cv,2,none⟩=some (.slice a2 n2 c2):=A0c hb (A0a hcv 2 _ rfl)
 have v3:W.drew.cell? ⟨cv,3,none⟩=some (.slice a3 n3 c3):=A0c hb (A0a hcv 3 _ rfl)
 clear hf hcm ag hcv hat
 unfold vFI at ac
 go_enter Tryz.func121,Tryz.ntmps121
 go_wp2
 go_region_with (refine ac.mono ?_;rintro e w1 ⟨rfl,hp⟩)
 all_goals
  go_wp2
  go_ret
  exact⟨rfl,hp⟩
def A5j (e:Nat→Int):Nat→Nat→Int
 | _,0=>0
 | k,m+1=>if e k=0 then A5j e (k+1) m else e k
theorem C0d {c0 ca B g cm ct cv:Nat}{w:World}(L:List (Nat×Array Value))(sAt:Nat→Int×List Int)(eAt:Nat→Int)(hn:L.length≤1000)(hm:Mm c0 ca B (sAt 0) w)
  (ag:∀ s' W,Stp c0 ca B w s' W→∀ (j:Nat) (p:Nat×Array Value),L[j]?=some p→W.cell? ⟨g,j,none⟩=some (.func (.func p.1) #[] p.2))
  (hstep:∀ (j:Nat) (p:Nat×Array Value) (W:World),L[j]?=some p→Stp c0 ca B w (sAt j) W→(∀ i,i<j→eAt i=0)→Calls Tryz.prog 121 #[.func (.func p.1) #[] p.2,.pointer (some ⟨cm,0,none⟩),.pointer (some ⟨ct,0,none⟩),.pointer (some ⟨cv,0,none⟩)] W fun e W'=>e = .returned (.int .i64 (eAt j))∧Stp c0 ca B W (sAt (j+1)) W') :
  Calls Tryz.prog 120 #[.slice (some ⟨g,0,none⟩) L.length L.length,.func (.func 121) #[] #[.pointer (some ⟨cm,0,none⟩),.pointer (some ⟨ct,0,none⟩),.pointer (some ⟨cv,0,none⟩)]] w
   fun e w'=>e = .returned (.int .i64 (A5j eAt 0 L.length))∧∃ s',Stp c0 ca B w s' w'∧(A5j eAt 0 L.length=0→s'=sAt L.length):=by
 obtain⟨n,Hn⟩:∃ n,Hid (n=L.length):=⟨_,rfl⟩
 obtain⟨R,HR⟩:∃ R,Hid (R=A5j eAt 0 n):=⟨_,rfl⟩
 rw[←Hn.out] at hn ⊢
 rw[←HR.out]
 go_enter Tryz.func120,Tryz.ntmps120
 go_wp2_with fail
 go_loopg [10] n (fun m i wr=>∃ k:Nat,k+m=n∧i = .int .i64 k∧Hid (R=A5j eAt k m)∧Hid (∀ i,i<k→eAt i=0)∧Stp c0 ca B w (sAt k) wr)
 case atStart=>exact⟨0,by omega,rfl,HR,(show Hid _ from fun i hi=>absurd hi (Nat.not_lt_zero i)),Stp.refl hm⟩
 case round=>
  obtain⟨k,hk,rfl,HK,HZ,hs⟩:=hrel
  by_cases hlt:k<n
  ·obtain⟨p,Hp⟩:∃ p,Hid (L[k]?=some p):=⟨L[k]'(by rw[←Hn.out];exact hlt),List.getElem?_eq_getElem (by rw[←Hn.out];exact hlt)⟩
   obtain⟨fn,cap⟩:=p
   have hat:wr.cell? ⟨g,k,none⟩=some (.func (.func fn) #[] cap):=ag _ wr hs k (fn,cap) Hp.out
   have aj:(k:Int)<(n:Int):=by omega
   have ac:=hstep k (fn,cap) wr Hp.out hs HZ.out
   obtain⟨m,rfl⟩:∃ m,gk=m+1:=⟨gk-1,by omega⟩
   have hst:A5j eAt k (m+1)=if eAt k=0 then A5j eAt (k+1) m else eAt k:=rfl
   obtain⟨F,HF⟩:∃ F,Hid (F=eAt k):=⟨_,rfl⟩
   rw[←HF.out] at ac hst
   by_cases hz:F=0
   ·have HX:Hid (R=A5j eAt (k+1) m):=by
     show _=_
     rw[HK.out,hst,if_pos hz]
    have ah:Hid (∀ i,i<k+1→eAt i=0):=by
     show ∀ i,i<k+1→eAt i=0
     intro i hi
     rcases Nat.lt_succ_iff_lt_or_eq.1 hi with h|h
     ·exact HZ.out i h
     ·rw[h,←HF.out,hz]
    have ez:(F != 0)=false:=by simp[hz]
    clear hst hz hstep ag
    go_wp2_with fail
    refine ac.mono ?_
    rintro e w1 ⟨rfl,hs1⟩
    go_wp2_with fail
    go_roundg m
    case measure=>omega
    case rel=>exact⟨k+1,by omega,by go_num,HX,ah,hs.trans hs1⟩
   ·have HX:Hid (R=F):=by
     show _=_
     rw[HK.out,hst,if_neg hz]
    have HY:Hid (R≠0):=by show R≠0;rw[HX.out];exact hz
    have ez:(F != 0)=true:=by simpa using hz
    clear hst hz hstep ag
    go_wp2_with fail
    refine ac.mono ?_
    rintro e w1 ⟨rfl,hs1⟩
    go_wp2
    go_ret
    exact⟨by rw[HX.out];rfl,_,hs.trans hs1,fun e=>absurd e HY.out⟩
  ·obtain rfl:k=n:=by omega
   obtain rfl:gk=0:=by omega
   have HX:Hid (R=0):=HK
   go_wp2
   go_ret
   exact⟨by rw[HX.out];rfl,_,hs,fun _=>rfl⟩
theorem A3l {α:Type}(p : α→Bool):∀ l:List α,(A0k p l = -1∧l.find? p=none)∨∃ (k:Nat) (x : α),A0k p l=(k:Int)∧l[k]?=some x∧l.find? p=some x∧p x=true
 | []=>.inl ⟨rfl,rfl⟩
 | a::l=>by
  cases hp:p a with
  | true=>exact .inr ⟨0,a,by simp[A0k,List.findIdx?_cons,hp],rfl,by simp[hp],hp⟩
  | false=>
   rcases A3l p l with⟨h1,h2⟩|⟨k,x,h1,h2,h3,h4⟩
   ·refine .inl ⟨?_,by simp[hp,h2]⟩
    unfold A0k at h1 ⊢
    rw[List.findIdx?_cons,hp]
    cases h:l.findIdx? p with
    | none=>simp
    | some k=>rw[h] at h1;simp at h1
   ·refine .inr ⟨k+1,x,?_,by simpa using h2,by simp[hp,h3],h4⟩
    unfold A0k at h1 ⊢
    rw[List.findIdx?_cons,hp]
    cases h:l.findIdx? p with
    | none=>rw[h] at h1;simp at h1
    | some k'=>rw[h] at h1;simp at h1 ⊢;omega
def eAt {β:Type}(x:FI)(v:VI β)(f:List UInt8→β→Int)(s:Int×List Int):Nat→Int
 | 0=>if decide (v.number≤s.1) then 2 else 0
 | 1=>if A0v x v then 8 else 0
 | 2=>if A3p x v then 5 else 0
 | 3=>if A0p x v then 2 else 0
 | 4=>A1g (A2h x.kind) v.bits
 | 5=>A1g (A2k x.kind) v.bytes
 | 6=>A1g (f x.type) v.subs
 | 7=>if decide (0<x.choice∧x.choice∈s.2) then 8 else 0
 | _=>0
def sAt {β:Type}(x:FI)(v:VI β)(s:Int×List Int):Nat→Int×List Int
 | 0=>s
 | j+1=>(v.number,if j=7 then A8a x s.2 else s.2)
structure Fx (c0 ca B:Nat) (w:World) (k:Nat) (xs:Array Value) (t:TypeId):Prop where
 at_:w.heap[k]?=some (.cells xs t (0,0))
 lt:k<B
 n0:k≠c0
 na:k≠ca
theorem Fx.stp {c0 ca B:Nat}{w w':World}{k:Nat}{xs:Array Value}{t:TypeId}{s:Int×List Int}(h:Fx c0 ca B w k xs t)(hs:Stp c0 ca B w s w'):Fx c0 ca B w' k xs t:=⟨hs.block h.at_ h.n0 h.na h.lt,h.lt,h.n0,h.na⟩
theorem Fx.below {c0 ca B:Nat}{w w':World}{k:Nat}{xs:Array Value}{t:TypeId}(h:Fx c0 ca B w k xs t)(hb:Below w.heap.size w w'):Fx c0 ca B w' k xs t:=⟨(hb.block k (Array.getElem?_eq_some_iff.1 h.at_).1).trans h.at_,h.lt,h.n0,h.na⟩
def pt (k:Nat):Value:=.pointer (some ⟨k,0,none⟩)
def ckL (gd:Nat)(b e:Nat→Nat):List (Nat×Array Value):=[(194,#[pt (b 0),pt (e 0)]),(194,#[pt (b 1),pt (e 1)]),(194,#[pt (b 2),pt (e 2)]),(194,#[pt (b 3),pt (e 3)]),(126,#[]),(130,#[]),(134,#[pt gd]),(194,#[pt (b 7),pt (e 7)])]
def ckV (p:Nat×Array Value):Value:=.func (.func p.1) #[] p.2
structure CkM (c0 ca B fnD:Nat) (capD:Array Value) (g gd:Nat) (b e:Nat→Nat) (w:World):Prop where
 arr:Fx c0 ca B w g ((ckL gd b e).map ckV).toArray 188
 deep:Fx c0 ca B w gd #[.func (.func fnD) #[] capD] 113
 f0:Fx c0 ca B w (b 0) #[.func (.func 195) #[] #[pt c0]] 132
 f1:Fx c0 ca B w (b 1) #[.func (.func 124) #[] #[]] 132
 f2:Fx c0 ca B w (b 2) #[.func (.func 125) #[] #[]] 132
 f3:Fx c0 ca B w (b 3) #[.func (.func 70) #[] #[]] 132
 f7:Fx c0 ca B w (b 7) #[.func (.func 196) #[] #[pt ca]] 132
 x0:Fx c0 ca B w (e 0) #[.int .i64 2] 33
 x1:Fx c0 ca B w (e 1) #[.int .i64 8] 33
 x2:Fx c0 ca B w (e 2) #[.int .i64 5] 33
 x3:Fx c0 ca B w (e 3) #[.int .i64 2] 33
 x7:Fx c0 ca B w (e 7) #[.int .i64 8] 33
theorem CkM.stp {c0 ca B ag:Nat}{ac:Array Value}{g gd:Nat}{b e:Nat→Nat}{w w':World}{s:Int×List Int}(h:CkM c0 ca B ag ac g gd b e w)(k:Stp c0 ca B w s w'):CkM c0 ca B ag ac g gd b e w':=
 ⟨h.arr.stp k,h.deep.stp k,h.f0.stp k,h.f1.stp k,h.f2.stp k,h.f3.stp k,h.f7.stp k,h.x0.stp k,h.x1.stp k,h.x2.stp k,h.x3.stp k,h.x7.stp k⟩
theorem CkM.below {c0 ca B ag:Nat}{ac:Array Value}{g gd:Nat}{b e:Nat→Nat}{w w':World}(h:CkM c0 ca B ag ac g gd b e w)(k:Below w.heap.size w w'):CkM c0 ca B ag ac g gd b e w':=
 ⟨h.arr.below k,h.deep.below k,h.f0.below k,h.f1.below k,h.f2.below k,h.f3.below k,h.f7.below k,h.x0.below k,h.x1.below k,h.x2.below k,h.x3.below k,h.x7.below k⟩
structure VRd {d:Nat}(w:World) (v:VI (BI d)) (a1:Option Addr) (n1 c1:Nat) (a2:Option Addr) (n2 c2:Nat) (a3:Option Addr) (n3 c3:Nat):Prop where
 r1:RdL 1 UAt w (.slice a1 n1 c1) v.bits
 r2:RdL 1 ZAt w (.slice a2 n2 c2) v.bytes
 r3:RdL 2 (BAt d) w (.slice a3 n3 c3) v.subs
 u:∀ n∈v.bits,n<18446744073709551616
 b1:n1≤140737488355328
 b2:n2≤140737488355328
 b3:n3≤140737488355328
theorem VRd.below {d:Nat}{w w':World}{v:VI (BI d)}{a1 a2 a3:Option Addr}{n1 c1 n2 c2 n3 c3:Nat}(h:VRd w v a1 n1 c1 a2 n2 c2 a3 n3 c3)(hb:Below w.heap.size w w'):VRd w' v a1 n1 c1 a2 n2 c2 a3 n3 c3:=
 ⟨h.r1.below UAt.stays hb,h.r2.below ZAt.stays hb,h.r3.below (BAt.stays d) hb,h.u,h.b1,h.b2,h.b3⟩
theorem C3w {d:Nat}{c0 ca B ak:Nat}{ag:Array Value}{g gd:Nat}{b e:Nat→Nat}{V:World}{s:Int×List Int}{x:FI}{v:VI (BI d)}{f:List UInt8→BI d→Int}{a1 a2 a3:Option Addr}{n1 c1 n2 c2 n3 c3:Nat}(ac:CkM c0 ca B ak ag g gd b e V)(hv:VRd V v a1 n1 c1 a2 n2 c2 a3 n3 c3)(hT:Tabs V)(hl:s.2.length≤17592186044415)
  (aj:∀ (args:Array Value) (w:World),(callFunc ak args).run Tryz.prog w = .ok (.enter ak args) w) (ah:A0v x v=false→Deeper d ak ag x.type (f x.type) v.subs V)
  (j:Nat) (p:Nat×Array Value) (hp:(ckL gd b e)[j]?=some p) (hm:Mm c0 ca B (sAt x v s j) V) (hz:∀ i,i<j→eAt x v f s i=0) :
  (∀ (args:Array Value) (w:World),(callFunc p.1 args).run Tryz.prog w = .ok (.enter p.1 args) w)∧Calls Tryz.prog p.1 (#[vFI x,.agg #[.int .i64 v.number,.slice a1 n1 c1,.slice a2 n2 c2,.slice a3 n3 c3]]++p.2) V fun r W'=>r = .returned (.int .i64 (eAt x v f s j))∧Stp c0 ca B V (sAt x v s (j+1)) W':=by
 have H1:Hid (n1=v.bits.length):=hv.r1.len.1
 have H2:Hid (n2=v.bytes.length):=hv.r2.len.1
 have H3:Hid (n3=v.subs.length):=hv.r3.len.1
 have hw:∀ (args:Array Value) (w:World),(callFunc 194 args).run Tryz.prog w = .ok (.enter 194 args) w:=enters_of Tryz.func194 (by kernel_rfl) rfl
 match j,hp,hm,hz with
 | 0,hp,hm,_=>
  cases hp
  refine⟨hw,A9z (s':=(v.number,s.2)) (r:=decide (v.number≤s.1)) hm (enters_of Tryz.func195 (by kernel_rfl) rfl) ac.f0.at_ ac.x0.at_ ac.x0.lt ac.x0.n0 ac.x0.na x v fun W hW=>?_⟩
  exact D3k (hm.below hW) x v
 | 1,hp,hm,_=>
  cases hp
  refine⟨hw,A9z (s':=(v.number,s.2)) (r:=A0v x v) hm (enters_of Tryz.func124 (by kernel_rfl) rfl) ac.f1.at_ ac.x1.at_ ac.x1.lt ac.x1.n0 ac.x1.na x v fun W hW=>?_⟩
  exact(C5e x v H1 H2 H3 hv.b1 hv.b2 hv.b3).mono fun _ _ h=>⟨h.1,Stp.of_below (hm.below hW) h.2⟩
 | 2,hp,hm,_=>
  cases hp
  refine⟨hw,A9z (s':=(v.number,s.2)) (r:=A3p x v) hm (enters_of Tryz.func125 (by kernel_rfl) rfl) ac.f2.at_ ac.x2.at_ ac.x2.lt ac.x2.n0 ac.x2.na x v fun W hW=>?_⟩
  exact(D2n x v H1 H2 H3 hv.b1 hv.b2 hv.b3).mono fun _ _ h=>⟨h.1,Stp.of_below (hm.below hW) h.2⟩
 | 3,hp,hm,_=>
  cases hp
  refine⟨hw,A9z (s':=(v.number,s.2)) (r:=A0p x v) hm (enters_of Tryz.func70 (by kernel_rfl) rfl) ac.f3.at_ ac.x3.at_ ac.x3.lt ac.x3.n0 ac.x3.na x v fun W hW=>?_⟩
  have hv':=hv.below hW
  exact(B3p x v hv'.r1 hv'.r2 hv'.r3 hv.b1 hv.b2 hv.b3).mono fun _ _ h=>⟨h.1,Stp.of_below (hm.below hW) h.2⟩
 | 4,hp,hm,_=>
  cases hp
  exact⟨enters_of Tryz.func126 (by kernel_rfl) rfl,(C3t x v hv.r1 hv.u).mono fun _ _ h=>⟨h.1,Stp.of_below hm h.2⟩⟩
 | 5,hp,hm,_=>
  cases hp
  exact⟨enters_of Tryz.func130 (by kernel_rfl) rfl,(C3u x v hv.r2 hT).mono fun _ _ h=>⟨h.1,Stp.of_below hm h.2⟩⟩
 | 6,hp,hm,hz=>
  cases hp
  have ho:A0v x v=false:=by
   have:=hz 1 (by omega)
   cases h:A0v x v with
   | false=>rfl
   | true=>simp[eAt,h] at this
  exact⟨enters_of Tryz.func134 (by kernel_rfl) rfl,(C3v x v hv.r3 ac.deep.at_ aj (ah ho)).mono fun _ _ h=>⟨h.1,Stp.of_below hm h.2⟩⟩
 | 7,hp,hm,_=>
  cases hp
  refine⟨hw,A9z (s':=(v.number,A8a x s.2)) (r:=decide (0<x.choice∧x.choice∈s.2)) hm (enters_of Tryz.func196 (by kernel_rfl) rfl) ac.f7.at_ ac.x7.at_ ac.x7.lt ac.x7.n0 ac.x7.na x v fun W hW=>?_⟩
  exact D0a (s:=(v.number,s.2)) (hm.below hW) hl x v
 | j+8,hp,_,_=>
  rw[List.getElem?_eq_none (by simp[ckL])] at hp
  cases hp
end L
end Go.Proofs.YtgaoojpakjjdnaaGreatDoor
