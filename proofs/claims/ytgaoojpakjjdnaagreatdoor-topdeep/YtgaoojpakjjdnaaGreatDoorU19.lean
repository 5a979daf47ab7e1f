import Derived.Test.YtgaoojpakjjdnaaGreatDoorU03
import Derived.Test.YtgaoojpakjjdnaaGreatDoorU13
import Derived.Test.YtgaoojpakjjdnaaGreatDoorU05
import Derived.Test.YtgaoojpakjjdnaaGreatDoorU12
set_option maxHeartbeats 32000000
set_option maxRecDepth 100000
namespace Go.Proofs.YtgaoojpakjjdnaaGreatDoor
namespace L
open Go.RowKit
def A2g (kind:Int) (l:List UInt8):Int:=if 4000 < l.length then 4 else if kind=8∧Lib.validD l=false then 9 else 0
theorem B4g {w:World}{ao:Option Addr}{cap:Nat}(hao:ao=none→cap=0) (ac:cap≤9223372036854775807) :
  Calls Tryz.prog 104 #[.slice ao 0 cap] w fun e w'=>e = .returned (.bool true)∧Below w.heap.size w w':=by
 have ag:(0:Int)≤(cap:Int):=by omega
 cases ao with
 | none=>
  obtain rfl:=hao rfl
  go_enter Tryz.func104,Tryz.ntmps104
  go_wp2
  go_loopg [0] 1 (fun _ s0 wx=>s0 = .slice none 0 0∧w=wx)
  case atStart=>exact⟨rfl,rfl⟩
  case round=>
   obtain⟨rfl,rfl⟩:=hrel
   go_wp2
   go_ret
   exact⟨rfl,Below.refl _ _⟩
 | some x=>
  go_enter Tryz.func104,Tryz.ntmps104
  go_wp2
  go_loopg [0] 1 (fun _ s0 wx=>s0 = .slice (some x) 0 0∧w=wx)
  case atStart=>exact⟨rfl,rfl⟩
  case round=>
   obtain⟨rfl,rfl⟩:=hrel
   go_wp2
   go_ret
   exact⟨rfl,Below.refl _ _⟩
theorem B4h {w:World}{ao:Option Addr}{n cap:Nat}{l:List UInt8}(h:RdL 1 YAt w (.slice ao n cap) l) (hT:Tabs w) :
  Calls Tryz.prog 104 #[.slice ao n cap] w fun e w'=>e = .returned (.bool (Lib.validD l))∧Below w.heap.size w w':=by
 obtain⟨ac,n',cap',e,h1,h2,h3,h4,h5⟩:=h
 cases e
 unfold maxLen at h3
 by_cases hn:n=0
 ·subst hn
  have hl:l = []:=List.eq_nil_of_length_eq_zero h1
  subst hl
  exact B4g (fun e=>(h4 e).2) h3
 ·obtain⟨y,hy⟩:∃ y,l[0]?=some y:=⟨l[0]'(by omega),List.getElem?_eq_getElem (by omega)⟩
  obtain⟨b,o,rfl,_⟩:=RdL.get (n:=n) (cap:=cap) YAt.plain ⟨ao,n,cap,rfl,h1,h2,by unfold maxLen;exact h3,h4,h5⟩ hy
  exact B9t (fun i x hx=>by have:=h5 _ rfl i x hx;rw[Nat.mul_one,A0d] at this;exact this) h1.symm h2 h3 hT
theorem B0w {w:World}(kind:Int){ao:Option Addr}{n cap:Nat}{l:List UInt8}(h:RdL 1 YAt w (.slice ao n cap) l) (hT:Tabs w) :
  Calls Tryz.prog 133 #[.int .i64 kind,.slice ao n cap] w fun e w'=>e = .returned (.int .i64 (A2g kind l))∧Below w.heap.size w w':=by
 have hv:=B4h h hT
 obtain⟨ag,n',cap',e,h1,h2,h3,h4,h5⟩:=h
 cases e
 have HL:Hid (l.length=n):=h1
 clear h1 h5
 obtain⟨q,Hq⟩:∃ q,Hid (q=Lib.validD l):=⟨_,rfl⟩
 rw[←Hq.out] at hv
 by_cases hm:4000 < n
 ·have HR:Hid (A2g kind l=4):=by show _=_;unfold A2g;rw[HL.out,if_pos hm]
  have ac:(4000:Int) < (n:Int):=by omega
  go_enter Tryz.func133,Tryz.ntmps133
  go_wp2
  go_ret
  exact⟨by rw[HR.out];rfl,Below.refl _ _⟩
 ·have ac:¬ ((4000:Int) < (n:Int)):=by omega
  by_cases hk:kind=8
  ·subst hk
   cases q with
   | true=>
    have HR:Hid (A2g 8 l=0):=by show _=_;unfold A2g;rw[HL.out,if_neg hm,←Hq.out,if_neg (by simp)]
    go_enter Tryz.func133,Tryz.ntmps133
    go_wp2_with (go_at_call 104;refine hv.mono ?_;rintro e w1 ⟨rfl,hb1⟩)
    go_ret
    exact⟨by rw[HR.out];rfl,hb1⟩
   | false=>
    have HR:Hid (A2g 8 l=9):=by show _=_;unfold A2g;rw[HL.out,if_neg hm,←Hq.out,if_pos ⟨rfl,rfl⟩]
    go_enter Tryz.func133,Tryz.ntmps133
    go_wp2_with (go_at_call 104;refine hv.mono ?_;rintro e w1 ⟨rfl,hb1⟩)
    go_ret
    exact⟨by rw[HR.out];rfl,hb1⟩
  ·have HR:Hid (A2g kind l=0):=by show _=_;unfold A2g;rw[HL.out,if_neg hm,if_neg (by intro h;exact hk h.1)]
   have hkb:(kind == 8)=false:=beq_eq_false_iff_ne.2 hk
   clear hk hv
   go_enter Tryz.func133,Tryz.ntmps133
   go_wp2
   go_ret
   exact⟨by rw[HR.out];rfl,Below.refl _ _⟩
theorem B4z {w:World}{c:Nat}{x:FI}(hc:w.heap[c]?=some (.cells (cFI x) 40 (0,0))){ao:Option Addr}{n cap:Nat}{l:List UInt8}(h:RdL 1 YAt w (.slice ao n cap) l) (hT:Tabs w) :
  Calls Tryz.prog 132 #[.slice ao n cap,.pointer (some ⟨c,0,none⟩)] w fun e w'=>e = .returned (.int .i64 (A2g x.kind l))∧Below w.heap.size w w':=by
 have c2:w.cell? ⟨c,2,none⟩=some (.int .i64 x.kind):=A0a hc 2 _ rfl
 have ac:c < w.heap.size:=(Array.getElem?_eq_some_iff.1 hc).1
 have hf:=B0w x.kind h hT
 go_enter Tryz.func132,Tryz.ntmps132
 go_wp2_with fail
 refine hf.mono ?_
 rintro e w1 ⟨rfl,hb⟩
 go_wp2
 go_ret
 exact⟨rfl,hb⟩
theorem B7r {v:Value}{l:List (List UInt8)}{w:World}{c:Nat}{x:FI}(h:RdL 1 ZAt w v l) (hT:Tabs w) (hc:w.heap[c]?=some (.cells (cFI x) 40 (0,0))) :
  Calls Tryz.prog 131 #[v,.func (.func 132) #[] #[.pointer (some ⟨c,0,none⟩)]] w fun e w'=>e = .returned (.int .i64 (A1b (A2g x.kind) l))∧Below w.heap.size w w':=by
 obtain⟨ao,n,cap,rfl,Hn,ag⟩:=h.shape
 obtain⟨R,HR⟩:∃ R,Hid (R=A1b (A2g x.kind) l):=⟨_,rfl⟩
 rw[←HR.out]
 go_enter Tryz.func131,Tryz.ntmps131
 go_wp2_with fail
 go_loopg [10] n (fun m i wr=>∃ k:Nat,k+m=n∧i = .int .i64 k∧Hid (R=A1b (A2g x.kind) (l.drop k))∧Below w.heap.size w wr)
 case atStart=>exact⟨0,by omega,rfl,HR,Below.refl _ _⟩
 case round=>
  obtain⟨k,hk,rfl,HK,hb⟩:=hrel
  have ah:=(hb.block c (Array.getElem?_eq_some_iff.1 hc).1).trans hc
  by_cases hlt:k < n
  ·obtain⟨a,Ha⟩:∃ a,Hid (l[k]?=some a):=⟨l[k]'(by rw[←Hn.out];exact hlt),List.getElem?_eq_getElem (by rw[←Hn.out];exact hlt)⟩
   obtain⟨b,off,rfl,hat⟩:=(h.below ZAt.stays hb).get ZAt.plain Ha.out
   obtain⟨vz,hz0,hz1⟩:=hat
   rw[Nat.mul_one] at hz0
   have ak:(k:Int) < (n:Int):=by omega
   obtain⟨az,nz,cz,rfl,aj,hnz⟩:=hz1.shape
   have ac:=B4z ah hz1 (hT.below hb)
   have hst:=A6y (f:=A2g x.kind) Ha.out
   generalize hF:A2g x.kind a=F at ac hst
   by_cases hz:F=0
   ·have HX:Hid (R=A1b (A2g x.kind) (l.drop (k+1))):=by
     show _=_
     rw[HK.out,hst,if_pos hz]
    have ez:(F != 0)=false:=by simp[hz]
    clear hst hF hz
    go_wp2_with fail
    refine ac.mono ?_
    rintro e w1 ⟨rfl,hb1⟩
    go_wp2_with fail
    go_roundg (n - (k+1))
    case measure=>omega
    case rel=>exact⟨k+1,by omega,by go_num,HX,hb.trans (hb1.mono hb.size)⟩
   ·have HX:Hid (R=F):=by
     show _=_
     rw[HK.out,hst,if_neg hz]
    have ez:(F != 0)=true:=by simpa using hz
    clear hst hF hz
    go_wp2_with fail
    refine ac.mono ?_
    rintro e w1 ⟨rfl,hb1⟩
    go_wp2
    go_ret
    exact⟨by rw[HX.out];rfl,hb.trans (hb1.mono hb.size)⟩
  ·have HX:Hid (R=0):=by
    show _=_
    rw[HK.out]
    exact A5q (by rw[←Hn.out];omega)
   go_wp2
   go_ret
   exact⟨by rw[HX.out];rfl,hb⟩
theorem B7v {β:Type}{w:World}(x:FI) (v:VI β){a1 a2 a3:Option Addr}{n1 n2 n3 c1 c2 c3:Nat}(h2:RdL 1 ZAt w (.slice a2 n2 c2) v.bytes) (hT:Tabs w) :
  Calls Tryz.prog 130 #[vFI x,.agg #[.int .i64 v.number,.slice a1 n1 c1,.slice a2 n2 c2,.slice a3 n3 c3]] w fun e w'=>e = .returned (.int .i64 (A1b (A2g x.kind) v.bytes))∧Below w.heap.size w w':=by
 have hb2:Below w.heap.size w ((w.alloc (.cells (cFI x) 40)).alloc (.cells #[.int .i64 v.number,.slice a1 n1 c1,.slice a2 n2 c2,.slice a3 n3 c3] 62)):=((Below.refl _ _).alloc (Nat.le_refl _) _).alloc (by simp) _
 have hi:=B7r (x:=x) (h2.below ZAt.stays hb2) (hT.below hb2) (A0l w _ _)
 have ac:=A3i
 unfold cFI at hb2 hi
 unfold vFI
 go_enter Tryz.func130,Tryz.ntmps130
 go_wp2_with fail
 refine hi.mono ?_
 rintro e w1 ⟨rfl,hb1⟩
 go_wp2
 go_ret
 exact⟨rfl,hb2.trans (hb1.mono hb2.size)⟩
open Go.RowKit
def Deeper (d fn:Nat) (cap:Array Value) (name:List UInt8) (f:BI d→Int) (l:List (BI d)) (w:World):Prop:=
 ∀ W,Below w.heap.size w W→∀ s∈l,∀ v0 v1,BQ d W v0 v1 s→Calls Tryz.prog fn (#[.string (S name),.agg #[v0,v1]]++cap) W fun e W'=>e = .returned (.int .i64 (f s))∧Below W.heap.size W W'
theorem Deeper.below {d fn:Nat}{cap:Array Value}{name:List UInt8}{f:BI d→Int}{l:List (BI d)}{w w':World}(h:Deeper d fn cap name f l w) (hb:Below w.heap.size w w'):Deeper d fn cap name f l w':=
 fun W hW=>h W (hb.trans (hW.mono hb.size))
theorem B9o {d:Nat}{w:World}{c cx:Nat}{ag:Array Value}{fn:Nat}{x:FI}{f:BI d→Int}{l:List (BI d)}(hc:w.heap[c]?=some (.cells #[.func (.func fn) #[] ag] 113 (0,0))) (hx:w.heap[cx]?=some (.cells (cFI x) 40 (0,0))) (ah:∀ (args:Array Value) (w:World),(callFunc fn args).run Tryz.prog w = .ok (.enter fn args) w){s:BI d}(hs:s∈l){a0 a1:Option Addr}{n0 c0 n1 c1:Nat}(hq:BQ d w (.slice a0 n0 c0) (.slice a1 n1 c1) s) (ac:Deeper d fn ag x.type f l w) :
  Calls Tryz.prog 136 #[.agg #[.slice a0 n0 c0,.slice a1 n1 c1],.pointer (some ⟨c,0,none⟩),.pointer (some ⟨cx,0,none⟩)] w fun e w'=>e = .returned (.int .i64 (f s))∧Below w.heap.size w w':=by
 have k0:w.cell? ⟨c,0,none⟩=some (.func (.func fn) #[] ag):=A0a hc 0 _ rfl
 have k3:w.cell? ⟨cx,3,none⟩=some (.string (S x.type)):=A0a hx 3 _ rfl
 have aj:=(Array.getElem?_eq_some_iff.1 hc).1
 have ak:=(Array.getElem?_eq_some_iff.1 hx).1
 have hb1:Below w.heap.size w (w.alloc (.cells #[.slice a0 n0 c0,.slice a1 n1 c1] 29)):=(Below.refl _ _).alloc (Nat.le_refl _) _
 have hd:=ac _ hb1 s hs _ _ (hq.below hb1)
 clear ac hq
 go_enter Tryz.func136,Tryz.ntmps136
 go_wp2_with fail
 refine hd.mono ?_
 rintro e w1 ⟨rfl,hb2⟩
 go_wp2
 go_ret
 exact⟨rfl,hb1.trans (hb2.mono hb1.size)⟩
theorem C6n {d:Nat}{v:Value}{l:List (BI d)}{w:World}{c cx:Nat}{ah:Array Value}{fn:Nat}{x:FI}{f:BI d→Int}(h:RdL 2 (BAt d) w v l) (hc:w.heap[c]?=some (.cells #[.func (.func fn) #[] ah] 113 (0,0))) (hx:w.heap[cx]?=some (.cells (cFI x) 40 (0,0))) (au:∀ (args:Array Value) (w:World),(callFunc fn args).run Tryz.prog w = .ok (.enter fn args) w) (aj:Deeper d fn ah x.type f l w) :
  Calls Tryz.prog 135 #[v,.func (.func 136) #[] #[.pointer (some ⟨c,0,none⟩),.pointer (some ⟨cx,0,none⟩)]] w fun e w'=>e = .returned (.int .i64 (A1b (f) l))∧Below w.heap.size w w':=by
 obtain⟨ao,n,cap,rfl,Hn,bc⟩:=h.shape
 obtain⟨R,HR⟩:∃ R,Hid (R=A1b (f) l):=⟨_,rfl⟩
 rw[←HR.out]
 go_enter Tryz.func135,Tryz.ntmps135
 go_wp2_with fail
 go_loopg [10] n (fun m i wr=>∃ k:Nat,k+m=n∧i = .int .i64 k∧Hid (R=A1b (f) (l.drop k))∧Below w.heap.size w wr)
 case atStart=>exact⟨0,by omega,rfl,HR,Below.refl _ _⟩
 case round=>
  obtain⟨k,hk,rfl,HK,hb⟩:=hrel
  have aw:=(hb.block c (Array.getElem?_eq_some_iff.1 hc).1).trans hc
  have ba:=(hb.block cx (Array.getElem?_eq_some_iff.1 hx).1).trans hx
  by_cases hlt:k < n
  ·obtain⟨a,Ha⟩:∃ a,Hid (l[k]?=some a):=⟨l[k]'(by rw[←Hn.out];exact hlt),List.getElem?_eq_getElem (by rw[←Hn.out];exact hlt)⟩
   obtain⟨b,off,rfl,hat⟩:=(h.below (BAt.stays d) hb).get (BAt.plain d) Ha.out
   obtain⟨v0,v1,s0,s1,hq⟩:=BQ.of d hat
   obtain⟨a0,n0,c0,a1,n1,c1,rfl,rfl⟩:=hq.shape
   have bg:(k:Int) < (n:Int):=by omega
   obtain⟨W1,ak⟩:∃ W1,Hid (W1=wr.alloc (.cells #[.slice a0 n0 c0,.slice a1 n1 c1] 29)):=⟨_,rfl⟩
   have hb1:Below wr.heap.size wr W1:=by rw[ak.out];exact(Below.refl _ _).alloc (Nat.le_refl _) _
   have ac:Below w.heap.size w W1:=hb.trans (hb1.mono hb.size)
   have ag:=B9o ((hb1.block c (Array.getElem?_eq_some_iff.1 aw).1).trans aw) ((hb1.block cx (Array.getElem?_eq_some_iff.1 ba).1).trans ba) au (A2v Ha.out) (hq.below hb1) (aj.below ac)
   have hst:=A6y (f:=f) Ha.out
   generalize hF:f a=F at ag hst
   clear hq
   by_cases hz:F=0
   ·have HX:Hid (R=A1b (f) (l.drop (k+1))):=by
     show _=_
     rw[HK.out,hst,if_pos hz]
    have ez:(F != 0)=false:=by simp[hz]
    clear hst hF hz hat
    go_wp2_with fail
    rw[←ak.out]
    refine ag.mono ?_
    rintro e w1 ⟨rfl,hb2⟩
    go_wp2_with fail
    go_roundg (n - (k+1))
    case measure=>omega
    case rel=>exact⟨k+1,by omega,by go_num,HX,ac.trans (hb2.mono ac.size)⟩
   ·have HX:Hid (R=F):=by
     show _=_
     rw[HK.out,hst,if_neg hz]
    have ez:(F != 0)=true:=by simpa using hz
    clear hst hF hz hat
    go_wp2_with fail
    rw[←ak.out]
    refine ag.mono ?_
    rintro e w1 ⟨rfl,hb2⟩
    go_wp2
    go_ret
    exact⟨by rw[HX.out];rfl,ac.trans (hb2.mono ac.size)⟩
  ·have HX:Hid (R=0):=by
    show _=_
    rw[HK.out]
    exact A5q (by rw[←Hn.out];omega)
   go_wp2
   go_ret
   exact⟨by rw[HX.out];rfl,hb⟩
theorem B7w {d:Nat}{w:World}(x:FI) (v:VI (BI d)){gd:Nat}{ag:Array Value}{fn:Nat}{f:BI d→Int}{a1 a2 a3:Option Addr}{n1 n2 n3 c1 c2 c3:Nat}(h3:RdL 2 (BAt d) w (.slice a3 n3 c3) v.subs) (hc:w.heap[gd]?=some (.cells #[.func (.func fn) #[] ag] 113 (0,0))) (ah:∀ (args:Array Value) (w:World),(callFunc fn args).run Tryz.prog w = .ok (.enter fn args) w) (ac:Deeper d fn ag x.type f v.subs w) :
  Calls Tryz.prog 134 #[vFI x,.agg #[.int .i64 v.number,.slice a1 n1 c1,.slice a2 n2 c2,.slice a3 n3 c3],.pointer (some ⟨gd,0,none⟩)] w fun e w'=>e = .returned (.int .i64 (A1b f v.subs))∧Below w.heap.size w w':=by
 have hb2:Below w.heap.size w ((w.alloc (.cells (cFI x) 40)).alloc (.cells #[.int .i64 v.number,.slice a1 n1 c1,.slice a2 n2 c2,.slice a3 n3 c3] 62)):=((Below.refl _ _).alloc (Nat.le_refl _) _).alloc (by simp) _
 have hi:=C6n (x:=x) (h3.below (BAt.stays d) hb2) ((hb2.block gd (Array.getElem?_eq_some_iff.1 hc).1).trans hc) (A0l w _ _) ah (ac.below hb2)
 have aj:=A3i
 clear ac
 unfold cFI at hb2 hi
 unfold vFI
 go_enter Tryz.func134,Tryz.ntmps134
 go_wp2_with fail
 refine hi.mono ?_
 rintro e w1 ⟨rfl,hb1⟩
 go_wp2
 go_ret
 exact⟨rfl,hb2.trans (hb1.mono hb2.size)⟩
open Go.RowKit
open Go.RowKit
structure Mm (c0 ca B:Nat) (s:Int×List Int) (w:World):Prop where
 last:w.heap[c0]?=some (.cells #[.int .i64 s.1] 3 (0,0))
 row:∃ v,w.heap[ca]?=some (.cells #[v] 30 (0,0))∧Row ekN w B v s.2
 size:B≤w.heap.size
 lt0:c0 < B
 lta:ca < B
structure Stp (c0 ca B:Nat) (w:World) (s:Int×List Int) (w':World):Prop where
 mm:Mm c0 ca B s w'
 os:w'.os=w.os
 tape:w'.tape=w.tape
 output:w'.output=w.output
 size:w.heap.size≤w'.heap.size
 own:∃ v v',w.heap[ca]?=some (.cells #[v] 30 (0,0))∧w'.heap[ca]?=some (.cells #[v'] 30 (0,0))∧(∀ k,v.ownBlock=some k→B≤k)∧(∀ k,v'.ownBlock=some k→v.ownBlock=some k∨w.heap.size≤k)∧∀ k,k < w.heap.size→k≠c0→k≠ca→v.ownBlock≠some k→w'.heap[k]?=w.heap[k]?
theorem Mm.below {c0 ca B:Nat}{s:Int×List Int}{w w':World}(h:Mm c0 ca B s w) (hb:Below w.heap.size w w'):Mm c0 ca B s w':=by
 obtain⟨v,h1,h2⟩:=h.row
 have hs:=h.size;have h0:=h.lt0;have ha:=h.lta
 exact⟨(hb.block c0 (by omega)).trans h.last,⟨v,(hb.block ca (by omega)).trans h1,h2.below hb⟩,Nat.le_trans hs hb.size,h0,ha⟩
theorem Stp.of_below {c0 ca B:Nat}{s:Int×List Int}{w w':World}(h:Mm c0 ca B s w) (hb:Below w.heap.size w w'):Stp c0 ca B w s w':=by
 obtain⟨v,h1,h2⟩:=h.row
 have hs:=h.size;have ha:=h.lta
 exact⟨h.below hb,hb.os,hb.tape,hb.output,hb.size,v,v,h1,(hb.block ca (by omega)).trans h1,fun k hk=>(h2.own k hk).1,fun k hk=>.inl hk,fun k hk _ _ _=>hb.block k hk⟩
theorem Stp.refl {c0 ca B:Nat}{s:Int×List Int}{w:World}(h:Mm c0 ca B s w):Stp c0 ca B w s w:=.of_below h (Below.refl _ _)
theorem Stp.trans {c0 ca B:Nat}{s1 s2:Int×List Int}{w w1 w2:World}(h:Stp c0 ca B w s1 w1) (k:Stp c0 ca B w1 s2 w2):Stp c0 ca B w s2 w2:=by
 obtain⟨v,v1,a1,a2,a3,a4,a5⟩:=h.own
 obtain⟨u,u2,b1,b2,b3,b4,b5⟩:=k.own
 rw[a2] at b1
 simp only[Option.some.injEq,Obj.cells.injEq,Array.mk.injEq,List.cons.injEq,and_true] at b1
 subst b1
 have hsz:=h.size
 refine⟨k.mm,k.os.trans h.os,k.tape.trans h.tape,k.output.trans h.output,Nat.le_trans h.size k.size,v,u2,a1,b2,a3,?_,?_⟩
 ·intro i hi
  rcases b4 i hi with h1|h1
  ·exact a4 i h1
  ·exact .inr (by omega)
 ·intro i hi h0 ha hv
  rw[b5 i (by omega) h0 ha ?_,a5 i hi h0 ha hv]
  intro e
  rcases a4 i e with h1|h1
  ·exact hv h1
  ·omega
theorem Stp.below {c0 ca B B0:Nat}{s:Int×List Int}{w w':World}(h:Stp c0 ca B w s w') (h0:B0≤c0) (ha:B0≤ca):Below B0 w w':=by
 obtain⟨v,v1,a1,a2,a3,a4,a5⟩:=h.own
 have hl:=h.mm.lt0
 have ac:ca < w.heap.size:=(Array.getElem?_eq_some_iff.1 a1).1
 exact⟨h.os,h.tape,h.output,h.size,fun k hk=>a5 k (by omega) (by omega) (by omega) (fun e=>by have:=a3 k e;omega)⟩
theorem Stp.block {c0 ca B:Nat}{s:Int×List Int}{w w':World}(h:Stp c0 ca B w s w'){k:Nat}{xs:Array Value}{t:TypeId}{fr:Nat×Nat}(hk:w.heap[k]?=some (.cells xs t fr)) (h0:k≠c0) (ha:k≠ca) (hB:k < B):w'.heap[k]?=some (.cells xs t fr):=by
 obtain⟨v,v1,a1,a2,a3,a4,a5⟩:=h.own
 rw[a5 k (Array.getElem?_eq_some_iff.1 hk).1 h0 ha (fun e=>by have:=a3 k e;omega)]
 exact hk
theorem Stp.block' {c0 ca B:Nat}{s s1:Int×List Int}{w0 w w':World}(h0:Mm c0 ca B s w0) (hb:Below w0.heap.size w0 w) (h:Stp c0 ca B w s1 w'){k:Nat}{xs:Array Value}{t:TypeId}{fr:Nat×Nat}(hk:w.heap[k]?=some (.cells xs t fr)) (hlt:w0.heap.size≤k):w'.heap[k]?=some (.cells xs t fr):=by
 obtain⟨v,v1,a1,a2,a3,a4,a5⟩:=h.own
 obtain⟨u,b1,b2⟩:=h0.row
 have hs:=h0.size;have hl0:=h0.lt0;have ac:=h0.lta
 have e:=(hb.block ca (by omega)).trans b1
 rw[a1] at e
 simp only[Option.some.injEq,Obj.cells.injEq,Array.mk.injEq,List.cons.injEq,and_true] at e
 subst e
 rw[a5 k (Array.getElem?_eq_some_iff.1 hk).1 (by omega) (by omega) (fun e=>by have:=(b2.own k e).2;omega)]
 exact hk
theorem C6i {β:Type}{w:World}{c0 ca B:Nat}{s:Int×List Int}(hm:Mm c0 ca B s w) (x:FI) (v:VI β){a1 a2 a3:Option Addr}{n1 n2 n3 c1 c2 c3:Nat} :
  Calls Tryz.prog 195 #[vFI x,.agg #[.int .i64 v.number,.slice a1 n1 c1,.slice a2 n2 c2,.slice a3 n3 c3],.pointer (some ⟨c0,0,none⟩)] w fun e w'=>e = .returned (.bool (decide (v.number≤s.1)))∧Stp c0 ca B w (v.number,s.2) w':=by
 obtain⟨u,h1,h2⟩:=hm.row
 have hs:=hm.size;have hl0:=hm.lt0;have ak:=hm.lta
 have aj:c0 < w.heap.size:=by omega
 have au:w.cell? ⟨c0,0,none⟩=some (.int .i64 s.1):=A0a hm.last 0 _ rfl
 have f0:=A0b hm.last 0
 have hne:c0≠ca:=fun e=>by have:=hm.last;rw[e,h1] at this;simp at this
 have hX:(w.setCell ⟨c0,0,none⟩ (.int .i64 v.number)).heap[c0]?=some (.cells #[.int .i64 v.number] 3 (0,0)):=heap_setCell_same _ _ 0 _ _ _ hm.last
 have ag:∀ o o',Stp c0 ca B w (v.number,s.2) (((w.setCell ⟨c0,0,none⟩ (.int .i64 v.number)).alloc o).alloc o'):=by
  intro o o'
  have hb2:Below w.heap.size (w.setCell ⟨c0,0,none⟩ (.int .i64 v.number)) (((w.setCell ⟨c0,0,none⟩ (.int .i64 v.number)).alloc o).alloc o'):=((Below.refl _ _).alloc (by simp) _).alloc (by simp) _
  have ac:∀ k,k≠c0→(w.setCell ⟨c0,0,none⟩ (.int .i64 v.number)).heap[k]?=w.heap[k]?:=fun k hk=>Below.heap_setCell w ⟨c0,0,none⟩ _ k (show k≠c0 from hk)
  have ah:=(hb2.block ca (by omega)).trans ((ac ca (Ne.symm hne)).trans h1)
  have hown:∀ k,u.ownBlock=some k→B≤k∧k < w.heap.size:=h2.own
  refine⟨⟨(hb2.block c0 aj).trans hX,⟨u,ah,?_⟩,?_,hl0,ak⟩,hb2.os,hb2.tape,hb2.output,by simpa using hb2.size,u,u,h1,ah,fun k hk=>(hown k hk).1,fun k hk=>.inl hk,fun k hk h0 _ _=>(hb2.block k hk).trans (ac k h0)⟩
  ·exact(h2.other (fun e=>by have:=(hown c0 e).1;omega) 0 _).keep fun k _ hk=>hb2.block k (by simpa using hk)
  ·have:=hb2.size;simp at this ⊢;omega
 unfold vFI
 go_enter Tryz.func195,Tryz.ntmps195
 go_wp2
 go_ret
 exact⟨rfl,ag _ _⟩
open Go.RowKit
def A7m (x:FI) (l:List Int):List Int:=if 0 < x.choice then l++[x.choice] else l
theorem C3c {β:Type}{w:World}{c0 ca B:Nat}{s:Int×List Int}(hm:Mm c0 ca B s w) (hl:s.2.length≤17592186044415) (x:FI) (y:VI β){a1 a2 a3:Option Addr}{n1 n2 n3 c1 c2 c3:Nat} :
  Calls Tryz.prog 196 #[vFI x,.agg #[.int .i64 y.number,.slice a1 n1 c1,.slice a2 n2 c2,.slice a3 n3 c3],.pointer (some ⟨ca,0,none⟩)] w fun e w'=>e = .returned (.bool (decide (0 < x.choice∧x.choice∈s.2)))∧Stp c0 ca B w (s.1,A7m x s.2) w':=by
 obtain⟨v,hc,hr⟩:=hm.row
 obtain⟨last,l⟩:=s
 have hr:Row ekN w B v l:=hr
 have hl:l.length≤17592186044415:=hl
 have hB:=hm.size;have hl0:=hm.lt0;have bv:=hm.lta
 obtain⟨ao,n,cap,rfl,Hn⟩:=hr.shape'
 have bp:ca < w.heap.size:=by omega
 obtain⟨W2,aj⟩:∃ W2,Hid (W2=(w.alloc (.cells #[.string (S x.name),.int .i64 x.number,.int .i64 x.kind,.string (S x.type),.bool x.many,.int .i64 x.choice] 40)).alloc (.cells #[.int .i64 y.number,.slice a1 n1 c1,.slice a2 n2 c2,.slice a3 n3 c3] 62)):=⟨_,rfl⟩
 have hb2:Below w.heap.size w W2:=by rw[aj.out];exact((Below.refl _ _).alloc (Nat.le_refl _) _).alloc (by simp) _
 have hz2:w.heap.size+2≤W2.heap.size:=by rw[aj.out];simp
 have x1:W2.heap[w.heap.size]?=some (.cells #[.string (S x.name),.int .i64 x.number,.int .i64 x.kind,.string (S x.type),.bool x.many,.int .i64 x.choice] 40 (0,0)):=by rw[aj.out];exact A0l _ _ _
 have hc2:=(hb2.block ca bp).trans hc
 have hr2:=hr.below hb2
 have br:w.cell? ⟨ca,0,none⟩=some (.slice ao n cap):=A0a hc 0 _ rfl
 unfold vFI
 by_cases h0:0 < x.choice
 ·have HD:Hid (decide (0 < x.choice∧x.choice∈l)=decide (x.choice∈l)):=by show _=_;simp[h0]
  have d0:decide (x.choice≤0)=false:=by simp;omega
  have HT:Hid (A7m x l=l++[x.choice]):=by show _=_;unfold A7m;rw[if_pos h0]
  show Calls _ _ _ _ fun e w'=>e = .returned (.bool (decide (0 < x.choice∧x.choice∈l)))∧Stp c0 ca B w (last,A7m x l) w'
  rw[HD.out,HT.out]
  clear h0
  have bq:=A4r hr2.rdN x.choice
  obtain⟨q,Hq⟩:∃ q,Hid (q=decide (x.choice∈l)):=⟨_,rfl⟩
  rw[←Hq.out] at bq ⊢
  obtain⟨W4,au⟩:∃ W4,Hid (W4=W2.alloc (.cells #[.int .i64 x.choice] 3)):=⟨_,rfl⟩
  have bn:Below W2.heap.size W2 W4:=by rw[au.out];exact(Below.refl _ _).alloc (Nat.le_refl _) _
  have bl:W4.cell? ⟨W2.heap.size,0,none⟩=some (.int .i64 x.choice):=by rw[au.out];exact A0a (heap_alloc_new W2 _) 0 _ rfl
  have hr4:Row ekN W4 B (.slice ao n cap) l:=hr2.below bn
  have ac:Below w.heap.size w W4:=hb2.trans (bn.mono hb2.size)
  have bu:=(ac.block ca bp).trans hc
  have hlen:(l.length + [x.choice].length)*ekN.bytes≤140737488355328:=by
   show(l.length+1)*8≤_
   omega
  have hcell:∀ ad,(some ⟨W2.heap.size,0,none⟩:Option Addr)=some ad→∀ k y,[x.choice][k]?=some y→∀ j u,(ekN.enc y)[j]?=some u→W4.cell? (ad.add (k*ekN.size+j))=some u:=by
   intro ad had k y hy j u hu
   cases had
   have hk:k=0:=by
    cases k with
    | zero=>rfl
    | succ k=>simp at hy
   subst hk
   simp at hy
   subst hy
   have hj:j=0:=by
    cases j with
    | zero=>rfl
    | succ j=>simp[ekN,C9j] at hu
   subst hj
   have hu:u = .int .i64 x.choice:=by simpa [ekN,C9j] using hu.symm
   subst hu
   rw[A0d]
   simpa using bl
  obtain⟨_,_,_,_,_,d5⟩:=A8g x1
  have e0:W2.cell? ⟨ca,0,none⟩=some (.slice ao n cap):=A0a hc2 0 _ rfl
  have bt:B≤W4.heap.size:=Nat.le_trans hB ac.size
  go_enter Tryz.func196,Tryz.ntmps196
  go_wp2_with fail
  rw[←aj.out]
  refine bq.mono ?_
  rintro e w1 ⟨rfl,rfl⟩
  go_wp2_with (at_builtin;rw[←au.out];refine A1f rfl ekN _ _ rfl B _ l [x.choice] rfl hr4 (some ⟨W2.heap.size,0,none⟩) 1 1 rfl rfl (fun h=>by cases h) hcell (by decide) hlen bt ?_)
  intro v5 w5 bh ah bw
  have hown:=hr4.own
  have ba:(Value.slice ao n cap).ownBlock≠some ca:=fun hh=>by have:=(hown ca hh).1;omega
  have aw:=(ah.block ca (by omega) (fun hh=>ba hh.symm)).trans bu
  have k0:=A0a aw 0 _ rfl
  have k1:=A0b aw 0
  obtain⟨a5,n5,ag,rfl,cj⟩:=bh.shape'
  go_wp2
  go_ret
  have cg:=ah.size
  have cu:=ac.size
  have bk:∀ k,k≠ca→(w5.setCell ⟨ca,0,none⟩ (.slice a5 n5 ag)).heap[k]?=w5.heap[k]?:=fun k hk=>Below.heap_setCell w5 ⟨ca,0,none⟩ _ k (show k≠ca from hk)
  have ak:(w5.setCell ⟨ca,0,none⟩ (.slice a5 n5 ag)).heap[ca]?=some (.cells #[.slice a5 n5 ag] 30 (0,0)):=heap_setCell_same _ _ 0 _ _ _ aw
  have hne:c0≠ca:=fun e=>by have:=hm.last;rw[e,hc] at this;simp at this
  have hblk:∀ k,k < w.heap.size→k≠ca→(Value.slice ao n cap).ownBlock≠some k→(w5.setCell ⟨ca,0,none⟩ (.slice a5 n5 ag)).heap[k]?=w.heap[k]?:=fun k hk bc bg=>by
   rw[bk k bc,ah.block k (by omega) (fun e=>bg e.symm),ac.block k hk]
  refine⟨rfl,⟨⟨?_,⟨_,ak,?_⟩,?_,hl0,bv⟩,?_,?_,?_,?_,_,_,hc,ak,fun k hk=>(hr.own k hk).1,?_,fun k hk _ bc bg=>hblk k hk bc bg⟩⟩
  ·rw[hblk c0 (by omega) hne (fun hh=>by have:=(hown c0 hh).1;omega)];exact hm.last
  ·exact bh.other (fun hh=>by have:=(bh.own ca hh).1;omega) 0 _
  ·simp;omega
  ·exact ah.os.trans ac.os
  ·exact ah.tape.trans ac.tape
  ·exact ah.output.trans ac.output
  ·simp;omega
  ·intro k hk
   rcases bw k hk with h1|h1
   ·exact .inl h1
   ·exact .inr (by omega)
 ·have HD:Hid (decide (0 < x.choice∧x.choice∈l)=false):=by show _=_;simp[h0]
  have d0:decide (x.choice≤0)=true:=by simp;omega
  have HT:Hid (A7m x l=l):=by show _=_;unfold A7m;rw[if_neg h0]
  show Calls _ _ _ _ fun e w'=>e = .returned (.bool (decide (0 < x.choice∧x.choice∈l)))∧Stp c0 ca B w (last,A7m x l) w'
  rw[HD.out,HT.out]
  clear h0 br
  go_enter Tryz.func196,Tryz.ntmps196
  go_wp2
  go_ret
  rw[←aj.out]
  exact⟨rfl,Stp.of_below hm hb2⟩
theorem A7o {β:Type}{w:World}{c0 ca B:Nat}{s s':Int×List Int}(hm:Mm c0 ca B s w){fn cb ce:Nat}{cap:Array Value}{err:Int}{r:Bool}(bc:∀ (args:Array Value) (w:World),(callFunc fn args).run Tryz.prog w = .ok (.enter fn args) w)
  (hcb:w.heap[cb]?=some (.cells #[.func (.func fn) #[] cap] 132 (0,0))) (hce:w.heap[ce]?=some (.cells #[.int .i64 err] 33 (0,0))) (aw:ce < B) (au:ce≠c0) (ba:ce≠ca) (x:FI) (v:VI β){a1 a2 a3:Option Addr}{n1 n2 n3 c1 c2 c3:Nat}
  (ac:∀ W,Below w.heap.size w W→Calls Tryz.prog fn (#[vFI x,.agg #[.int .i64 v.number,.slice a1 n1 c1,.slice a2 n2 c2,.slice a3 n3 c3]]++cap) W fun e w'=>e = .returned (.bool r)∧Stp c0 ca B W s' w') :
  Calls Tryz.prog 194 #[vFI x,.agg #[.int .i64 v.number,.slice a1 n1 c1,.slice a2 n2 c2,.slice a3 n3 c3],.pointer (some ⟨cb,0,none⟩),.pointer (some ⟨ce,0,none⟩)] w fun e w'=>e = .returned (.int .i64 (if r then err else 0))∧Stp c0 ca B w s' w':=by
 obtain⟨W2,aj⟩:∃ W2,Hid (W2=(w.alloc (.cells #[.string (S x.name),.int .i64 x.number,.int .i64 x.kind,.string (S x.type),.bool x.many,.int .i64 x.choice] 40)).alloc (.cells #[.int .i64 v.number,.slice a1 n1 c1,.slice a2 n2 c2,.slice a3 n3 c3] 62)):=⟨_,rfl⟩
 have hb2:Below w.heap.size w W2:=by rw[aj.out];exact((Below.refl _ _).alloc (Nat.le_refl _) _).alloc (by simp) _
 have k0:w.cell? ⟨cb,0,none⟩=some (.func (.func fn) #[] cap):=A0a hcb 0 _ rfl
 have hc:=ac W2 hb2
 have ag:=(hb2.block ce (Array.getElem?_eq_some_iff.1 hce).1).trans hce
 have ak:=(Array.getElem?_eq_some_iff.1 hcb).1
 clear ac
 unfold vFI at hc ⊢
 go_enter Tryz.func194,Tryz.ntmps194
 go_wp2_with fail
 rw[←aj.out]
 refine hc.mono ?_
 rintro e w3 ⟨rfl,hs3⟩
 have ah:=hs3.block ag au ba aw
 have k1:w3.cell? ⟨ce,0,none⟩=some (.int .i64 err):=A0a ah 0 _ rfl
 have hst:=(Stp.of_below hm hb2).trans hs3
 cases r with
 | true=>
  go_wp2
  go_ret
  exact⟨rfl,hst⟩
 | false=>
  go_wp2
  go_ret
  exact⟨rfl,hst⟩
open Go.RowKit
theorem C1h {R:Int}{post:World→Prop}{W:World}{cm ct cv k fn:Nat}{cap:Array Value}{nm:List UInt8}{af ab:Option Addr}{nf cf nb cb:Nat}{fs:List FI}{x:FI}{number:Int}{a1 a2 a3:Option Addr}{n1 n2 n3 c1 c2 c3:Nat}
  (hcm:W.heap[cm]?=some (.cells #[.string (S nm),.slice af nf cf,.slice ab nb cb] 38 (0,0))) (ag:W.heap[ct]?=some (.cells #[.int .i64 (k:Int)] 3 (0,0))) (hcv:W.heap[cv]?=some (.cells #[.int .i64 number,.slice a1 n1 c1,.slice a2 n2 c2,.slice a3 n3 c3] 62 (0,0)))
  (hf:RdL 6 FAt W (.slice af nf cf) fs) (hk:fs[k]?=some x) (ah:∀ (args:Array Value) (w:World),(callFunc fn args).run Tryz.prog w = .ok (.enter fn args) w)
  (ac:Calls Tryz.prog fn (#[vFI x,.agg #[.int .i64 number,.slice a1 n1 c1,.slice a2 n2 c2,.slice a3 n3 c3]]++cap) W.drew fun e w'=>e = .returned (.int .i64 R)∧post w') :
  Calls Tryz.prog 121 #[.func (.func fn) #[] cap,.pointer (some ⟨cm,0,none⟩),.pointer (some ⟨ct,0,none⟩),.pointer (some ⟨cv,0,none⟩)] W fun e w'=>e = .returned (.int .i64 R)∧post w':=by
 have hb:Below W.heap.size W W.drew:=(Below.refl _ _).drew
 obtain⟨b,o,rfl,hat⟩:=hf.get FAt.plain hk
 have aj:=hf.len.1
 have ak:k < nf:=by rw[aj];exact(List.getElem?_eq_some_iff.1 hk).1
 have au:(k:Int) < (nf:Int):=by omega
 have hat':=FAt.stays _ _ _ _ hb hat
 simp only[FAt,A0d] at hat'
 obtain⟨f0,f1,f2,f3,f4,f5⟩:=hat'
 have m1:W.drew.cell? ⟨cm,1,none⟩=some (.slice (some ⟨b,o,none⟩) nf cf):=A0c hb (A0a hcm 1 _ rfl)
 have t0:W.drew.cell? ⟨ct,0,none⟩=some (.int .i64 (k:Int)):=A0c hb (A0a ag 0 _ rfl)
 have v0:W.drew.cell? ⟨cv,0,none⟩=some (.int .i64 number):=A0c hb (A0a hcv 0 _ rfl)
 have v1:W.drew.cell? ⟨cv,1,none⟩=some (.slice a1 n1 c1):=A0c hb (A0a hcv 1 _ rfl)
 have v2:W.drew.cell? ⟨cv,2,none⟩=some (.slice a2 n2 c2):=A0c hb (A0a hcv 2 _ rfl)
 have v3:W.drew.cell? ⟨cv,3,none⟩=some (.slice a3 n3 c3):=A0c hb (A0a hcv 3 _ rfl)
 clear hf hcm ag hcv hat
 unfold vFI at ac
 go_enter Tryz.func121,Tryz.ntmps121
 go_wp2
 go_region_with (refine ac.mono ?_;rintro e w1 ⟨rfl,hp⟩)
 all_goals
  go_wp2
  go_ret
  exact⟨rfl,hp⟩
end L
end Go.Proofs.YtgaoojpakjjdnaaGreatDoor
