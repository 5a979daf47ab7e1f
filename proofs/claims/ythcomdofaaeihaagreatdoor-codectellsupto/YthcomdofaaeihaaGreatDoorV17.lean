import Derived.Test.YthcomdofaaeihaaGreatDoorV06
import Derived.Test.YthcomdofaaeihaaGreatDoorV07
set_option maxHeartbeats 32000000
set_option maxRecDepth 100000
namespace Go.Proofs.YthcomdofaaeihaaGreatDoor
namespace L
open Go.RowKit
variable{β:Type}{a1 ao a3 a2:Option Addr}{k fn cv cx c1 c0 B c3 cb ct cap n2 n c c2 d cm ca n1 n3:Nat}{w' w:World}{t:TypeId}{ag xs:Array Value}{l:List UInt8}{v:Value}{x:FI}
def wN (kind:Int)(l:List UInt8):Int:=if 4000<l.length then 4 else if kind=8∧Lib.validD l=false then 9 else 0
theorem B9f (hao:ao=none→cap=0)(ac:cap≤9223372036854775807) :
  Calls Tryz.prog 101 #[.slice ao 0 cap] w fun e w'=>e = .returned (.bool true)∧zB w w':=by
 have ag:(0:Int)≤(cap:Int):=by omega
 cases ao with
 | none=>
  obtain rfl:=hao rfl;go_enter Tryz.func101,Tryz.ntmps101;go_wp2;go_loopg [0] 1 (fun _ s0 wx=>s0 = .slice none 0 0∧w=wx)
  case atStart=>exact⟨rfl,rfl⟩
  obtain⟨rfl,rfl⟩:=hrel;go_wp2;go_ret;exact⟨rfl,zH _ _⟩
 | some x=>
 go_enter Tryz.func101,Tryz.ntmps101;go_wp2;go_loopg [0] 1 (fun _ s0 wx=>s0 = .slice (some x) 0 0∧w=wx)
 case atStart=>exact⟨rfl,rfl⟩
 obtain⟨rfl,rfl⟩:=hrel;go_wp2;go_ret;exact⟨rfl,zH _ _⟩
theorem B9g (h:RdL 1 YAt w (.slice ao n cap) l)(hT:Tabs w) :
  Calls Tryz.prog 101 #[.slice ao n cap] w fun e w'=>e = .returned (.bool (Lib.validD l))∧zB w w':=by
 obtain⟨ac,n',cap',e,h1,h2,h3,h4,h5⟩:=h;cases e
 unfold maxLen at h3;by_cases hn:n=0
 ·subst hn;have hl:=uE h1;subst hl;exact B9f (fun e=>(h4 e).2) h3
 obtain⟨y,hy⟩:∃ y,l[0]?=some y:=⟨l[0]'(by omega),vG (by omega)⟩
 obtain⟨b,o,rfl,_⟩:=RdL.get (n:=n) (cap:=cap) YAt.plain ⟨ao,n,cap,rfl,h1,h2,by unfold maxLen;exact h3,h4,h5⟩ hy;exact C6t (fun i x hx=>by have:=h5 _ rfl i x hx;rw[tS,xS] at this;exact this) h1.symm h2 h3 hT
theorem Qh2{P:Prop}(h:P:=by
 go_enter Tryz.func139,Tryz.ntmps139;go_wp2_with (go_at_call 101;refine hv.mono ?_;rintro e w1 ⟨rfl,hb1⟩)
 go_ret;exact⟨by rw[HR.out];rfl,hb1⟩):P:=h
theorem B3x (kind:Int)(h:RdL 1 YAt w (.slice ao n cap) l)(hT:Tabs w) :
  Calls Tryz.prog 139 #[.int .i64 kind,.slice ao n cap] w fun e w'=>e = .returned (.int .i64 (wN kind l))∧zB w w':=by
 have hv:=B9g h hT;obtain⟨ag,n',cap',e,h1,h2,h3,h4,h5⟩:=h;cases e
 have HL:=zI h1;clear h1 h5;obtain⟨q,Hq⟩:=zM (Lib.validD l);rw[←Hq.out] at hv;by_cases hm:4000<n
 ·have HR:Hid (wN kind l=4):=by show _=_;unfold wN;rw[HL.out,zF hm]
  have ac:(4000:Int)<(n:Int):=by omega
  go_enter Tryz.func139,Tryz.ntmps139;go_wp2;go_ret;exact⟨by rw[HR.out];rfl,zH _ _⟩
 have ac:¬ ((4000:Int)<(n:Int)):=by omega
 by_cases hk:kind=8
 ·subst hk;cases q with
  | true=>
   have HR:Hid (wN 8 l=0):=by show _=_;unfold wN;rw[HL.out,zC hm,←Hq.out,zC (by simp)]
   exact Qh2
  | false=>
  have HR:Hid (wN 8 l=9):=by show _=_;unfold wN;rw[HL.out,zC hm,←Hq.out,zF ⟨rfl,rfl⟩]
  exact Qh2
 have HR:Hid (wN kind l=0):=by show _=_;unfold wN;rw[HL.out,zC hm,zC (by intro h;exact hk h.1)]
 have hkb:=beq_eq_false_iff_ne.2 hk;clear hk hv;go_enter Tryz.func139,Tryz.ntmps139;go_wp2;go_ret;exact⟨by rw[HR.out];rfl,zH _ _⟩
theorem B9u (hc:w.heap[c]?=some (.cells (cFI x) 47 (0,0)))(h:RdL 1 YAt w (.slice ao n cap) l)(hT:Tabs w) :
  Calls Tryz.prog 138 #[.slice ao n cap,.pointer (some ⟨c,0,none⟩)] w fun e w'=>e = .returned (.int .i64 (wN x.kind l))∧zB w w':=by
 have c2:w.cell? ⟨c,2,none⟩=some (.int .i64 x.kind):=zL hc 2 _ rfl;have ac:=(zR hc)
 have hf:=B3x x.kind h hT;go_enter Tryz.func138,Tryz.ntmps138;go_wp2_with fail
 refine hf.mono ?_;rintro e w1 ⟨rfl,hb⟩;go_wp2;go_ret;exact⟨rfl,hb⟩
theorem aE{P:Prop}(h:P:=by
 have HX:Hid (R=0):=by
  show _=_;rw[HK.out];exact gD (by rw[←Hn.out];omega)
 go_wp2;go_ret;exact⟨by rw[HX.out];rfl,hb⟩):P:=h
theorem C4b {l:List (List UInt8)}(h:RdL 1 ZAt w v l)(hT:Tabs w)(hc:w.heap[c]?=some (.cells (cFI x) 47 (0,0))) :
  Calls Tryz.prog 137 #[v,.func (.func 138) #[] #[.pointer (some ⟨c,0,none⟩)]] w fun e w'=>e = .returned (.int .i64 (yJ (wN x.kind) l))∧zB w w':=by
 obtain⟨ao,n,cap,rfl,Hn,ag⟩:=h.sH;obtain⟨R,HR⟩:=zM (yJ (wN x.kind) l);rw[←HR.out];go_enter Tryz.func137,Tryz.ntmps137;go_wp2_with fail
 go_loopg [10] n (fun m i wr=>∃ k:Nat,k+m=n∧i = .int .i64 k∧Hid (R=yJ (wN x.kind) (l.drop k))∧zB w wr)
 case atStart=>exact⟨0,by omega,rfl,HR,zH _ _⟩
 obtain⟨k,hk,rfl,HK,hb⟩:=hrel;have ah:=(hb.block c (zR hc)).trans hc;by_cases hlt:k<n
 ·obtain⟨a,Ha⟩:=yE (l:=l) (k:=k) (by rw[←Hn.out];exact hlt);obtain⟨b,off,rfl,hat⟩:=(h.bL ZAt.sT hb).get ZAt.plain Ha.out;obtain⟨vz,hz0,hz1⟩:=hat;rw[tS] at hz0;have ak:(k:Int)<(n:Int):=by omega
  obtain⟨az,nz,cz,rfl,aj,hnz⟩:=hz1.sH;have ac:=B9u ah hz1 (hT.bL hb);have hst:=lO (f:=wN x.kind) Ha.out;generalize hF:wN x.kind a=F at ac hst;by_cases hz:F=0
  ·have HX:Hid (R=yJ (wN x.kind) (l.drop (k+1))):=by
    show _=_;rw[HK.out,hst,zF hz]
   have ez:(F != 0)=false:=by simp[hz]
   clear hst hF hz;go_wp2_with fail
   refine ac.mono ?_;rintro e w1 ⟨rfl,hb1⟩;go_wp2_with fail
   go_roundg (n-(k+1))
   case measure=>omega
   case rel=>exact⟨k+1,by omega,by go_num,HX,hb.trans (hb1.mono hb.size)⟩
  have HX:Hid (R=F):=by
   show _=_;rw[HK.out,hst,zC hz]
  have ez:(F != 0)=true:=by simpa using hz
  clear hst hF hz;go_wp2_with fail
  refine ac.mono ?_;rintro e w1 ⟨rfl,hb1⟩;go_wp2;go_ret;exact⟨by rw[HX.out];rfl,hb.trans (hb1.mono hb.size)⟩
 exact aE
theorem Qh4{P:Prop}(h:P:=by
 go_wp2_with fail
 refine hi.mono ?_;rintro e w1 ⟨rfl,hb1⟩;go_wp2;go_ret;exact⟨rfl,hb2.trans (hb1.mono hb2.size)⟩):P:=h
theorem C4d (x:FI)(v:VI β)(h2:RdL 1 ZAt w (.slice a2 n2 c2) v.bytes)(hT:Tabs w) :
  Calls Tryz.prog 136 #[vFI x,.agg #[.int .i64 v.nU,.slice a1 n1 c1,.slice a2 n2 c2,.slice a3 n3 c3]] w fun e w'=>e = .returned (.int .i64 (yJ (wN x.kind) v.bytes))∧zB w w':=by
 have hb2:zB w ((w.alloc (.cells (cFI x) 47)).alloc (.cells #[.int .i64 v.nU,.slice a1 n1 c1,.slice a2 n2 c2,.slice a3 n3 c3] 63)):=((zH _ _).alloc (zG _) _).alloc (by simp) _;have hi:=C4b (x:=x) (h2.bL ZAt.sT hb2) (hT.bL hb2) (oP w _ _);have ac:=tM;unfold cFI at hb2 hi;unfold vFI;go_enter Tryz.func136,Tryz.ntmps136;exact Qh4
def Deeper (d fn:Nat)(cap:Array Value)(name:List UInt8)(f:BI d→Int)(l:List (BI d))(w:World):Prop:=
 ∀ W,zB w W→∀ s∈l,∀ v0 v1,BQ d W v0 v1 s→Calls Tryz.prog fn (#[.string (S name),.agg #[v0,v1]]++cap) W fun e W'=>e = .returned (.int .i64 (f s))∧zB W W'
theorem Deeper.bL {cap:Array Value}{name:List UInt8}{f:BI d→Int}{l:List (BI d)}(h:Deeper d fn cap name f l w)(hb:zB w w'):Deeper d fn cap name f l w':=
 fun W hW=>h W (hb.trans (hW.mono hb.size))
theorem C6p {f:BI d→Int}{l:List (BI d)}(hc:w.heap[c]?=some (.cells #[.func (.func fn) #[] ag] 123 (0,0)))(hx:w.heap[cx]?=some (.cells (cFI x) 47 (0,0)))(ah:∀ (args:Array Value) (w:World),(callFunc fn args).run Tryz.prog w = .ok (.enter fn args) w){s:BI d}(hs:s∈l){a0:Option Addr}{n0:Nat}(hq:BQ d w (.slice a0 n0 c0) (.slice a1 n1 c1) s)(ac:Deeper d fn ag x.type f l w) :
  Calls Tryz.prog 142 #[.agg #[.slice a0 n0 c0,.slice a1 n1 c1],.pointer (some ⟨c,0,none⟩),.pointer (some ⟨cx,0,none⟩)] w fun e w'=>e = .returned (.int .i64 (f s))∧zB w w':=by
 have k0:w.cell? ⟨c,0,none⟩=some (.func (.func fn) #[] ag):=zL hc 0 _ rfl;have k3:w.cell? ⟨cx,3,none⟩=some (.string (S x.type)):=zL hx 3 _ rfl;have aj:=(zR hc)
 have ak:=(zR hx)
 have hb1:zB w (w.alloc (.cells #[.slice a0 n0 c0,.slice a1 n1 c1] 29)):=(zH _ _).alloc (zG _) _;have hd:=ac _ hb1 s hs _ _ (hq.bL hb1);clear ac hq;go_enter Tryz.func142,Tryz.ntmps142;go_wp2_with fail
 refine hd.mono ?_;rintro e w1 ⟨rfl,hb2⟩;go_wp2;go_ret;exact⟨rfl,hb1.trans (hb2.mono hb1.size)⟩
theorem D5z {l:List (BI d)}{ah:Array Value}{f:BI d→Int}(h:RdL 2 (BAt d) w v l)(hc:w.heap[c]?=some (.cells #[.func (.func fn) #[] ah] 123 (0,0)))(hx:w.heap[cx]?=some (.cells (cFI x) 47 (0,0)))(ak:∀ (args:Array Value) (w:World),(callFunc fn args).run Tryz.prog w = .ok (.enter fn args) w)(aj:Deeper d fn ah x.type f l w) :
  Calls Tryz.prog 141 #[v,.func (.func 142) #[] #[.pointer (some ⟨c,0,none⟩),.pointer (some ⟨cx,0,none⟩)]] w fun e w'=>e = .returned (.int .i64 (yJ (f) l))∧zB w w':=by
 obtain⟨ao,n,cap,rfl,Hn,ba⟩:=h.sH;obtain⟨R,HR⟩:=zM (yJ (f) l);rw[←HR.out];go_enter Tryz.func141,Tryz.ntmps141;go_wp2_with fail
 go_loopg [10] n (fun m i wr=>∃ k:Nat,k+m=n∧i = .int .i64 k∧Hid (R=yJ (f) (l.drop k))∧zB w wr)
 case atStart=>exact⟨0,by omega,rfl,HR,zH _ _⟩
 obtain⟨k,hk,rfl,HK,hb⟩:=hrel;have av:=(hb.block c (zR hc)).trans hc;have aw:=(hb.block cx (zR hx)).trans hx;by_cases hlt:k<n
 ·obtain⟨a,Ha⟩:=yE (l:=l) (k:=k) (by rw[←Hn.out];exact hlt);obtain⟨b,off,rfl,hat⟩:=(h.bL (BAt.sT d) hb).get (BAt.plain d) Ha.out;obtain⟨v0,v1,s0,s1,hq⟩:=BQ.of d hat;obtain⟨a0,n0,c0,a1,n1,c1,rfl,rfl⟩:=hq.sH;have bc:(k:Int)<(n:Int):=by omega
  obtain⟨W1,au,hb1,-,-⟩:=zV wr (.cells #[.slice a0 n0 c0,.slice a1 n1 c1] 29);have ac:=hb.trans (hb1.mono hb.size);have ag:=C6p ((hb1.block c (zR av)).trans av) ((hb1.block cx (zR aw)).trans aw) ak (uO Ha.out) (hq.bL hb1) (aj.bL ac);have hst:=lO (f:=f) Ha.out;generalize hF:f a=F at ag hst;clear hq;by_cases hz:F=0
  ·have HX:Hid (R=yJ (f) (l.drop (k+1))):=by
    show _=_;rw[HK.out,hst,zF hz]
   have ez:(F != 0)=false:=by simp[hz]
   clear hst hF hz hat;go_wp2_with fail
   rw[←au.out];refine ag.mono ?_;rintro e w1 ⟨rfl,hb2⟩;go_wp2_with fail
   go_roundg (n-(k+1))
   case measure=>omega
   case rel=>exact⟨k+1,by omega,by go_num,HX,ac.trans (hb2.mono ac.size)⟩
  have HX:Hid (R=F):=by
   show _=_;rw[HK.out,hst,zC hz]
  have ez:(F != 0)=true:=by simpa using hz
  clear hst hF hz hat;go_wp2_with fail
  rw[←au.out];refine ag.mono ?_;rintro e w1 ⟨rfl,hb2⟩;go_wp2;go_ret;exact⟨by rw[HX.out];rfl,ac.trans (hb2.mono ac.size)⟩
 exact aE
theorem C4e (x:FI)(v:VI (BI d)){gd:Nat}{f:BI d→Int}(h3:RdL 2 (BAt d) w (.slice a3 n3 c3) v.subs)(hc:w.heap[gd]?=some (.cells #[.func (.func fn) #[] ag] 123 (0,0)))(ah:∀ (args:Array Value) (w:World),(callFunc fn args).run Tryz.prog w = .ok (.enter fn args) w)(ac:Deeper d fn ag x.type f v.subs w) :
  Calls Tryz.prog 140 #[vFI x,.agg #[.int .i64 v.nU,.slice a1 n1 c1,.slice a2 n2 c2,.slice a3 n3 c3],.pointer (some ⟨gd,0,none⟩)] w fun e w'=>e = .returned (.int .i64 (yJ f v.subs))∧zB w w':=by
 have hb2:zB w ((w.alloc (.cells (cFI x) 47)).alloc (.cells #[.int .i64 v.nU,.slice a1 n1 c1,.slice a2 n2 c2,.slice a3 n3 c3] 63)):=((zH _ _).alloc (zG _) _).alloc (by simp) _;have hi:=D5z (x:=x) (h3.bL (BAt.sT d) hb2) ((hb2.block gd (zR hc)).trans hc) (oP w _ _) ah (ac.bL hb2);have aj:=tM;clear ac;unfold cFI at hb2 hi;unfold vFI;go_enter Tryz.func140,Tryz.ntmps140;exact Qh4
structure Mm (c0 ca B:Nat) (s:Int×List Int) (w:World):Prop where
 last:w.heap[c0]?=some (.cells #[.int .i64 s.1] 3 (0,0))
 row:∃ v,w.heap[ca]?=some (.cells #[v] 33 (0,0))∧Row ekN w B v s.2
 size:B≤w.heap.size
 lt0:c0<B
 lta:ca<B
structure Stp (c0 ca B:Nat) (w:World) (s:Int×List Int) (w':World):Prop where
 mm:Mm c0 ca B s w'
 os:w'.os=w.os
 tape:w'.tape=w.tape
 output:w'.output=w.output
 size:w.heap.size≤w'.heap.size
 own:∃ v v',w.heap[ca]?=some (.cells #[v] 33 (0,0))∧w'.heap[ca]?=some (.cells #[v'] 33 (0,0))∧(∀ k,v.ownBlock=some k→B≤k)∧(∀ k,v'.ownBlock=some k→v.ownBlock=some k∨w.heap.size≤k)∧∀ k,k<w.heap.size→k≠c0→k≠ca→v.ownBlock≠some k→w'.heap[k]?=w.heap[k]?
theorem Mm.bL {s:Int×List Int}(h:Mm c0 ca B s w)(hb:zB w w'):Mm c0 ca B s w':=by
 obtain⟨v,h1,h2⟩:=h.row;have hs:=h.size;have h0:=h.lt0;have ha:=h.lta;exact⟨(hb.block c0 (by omega)).trans h.last,⟨v,(hb.block ca (by omega)).trans h1,h2.bL hb⟩,yN hs hb.size,h0,ha⟩
theorem Stp.of_below {s:Int×List Int}(h:Mm c0 ca B s w)(hb:zB w w'):Stp c0 ca B w s w':=by
 obtain⟨v,h1,h2⟩:=h.row;have hs:=h.size;have ha:=h.lta;exact⟨h.bL hb,hb.os,hb.tape,hb.output,hb.size,v,v,h1,(hb.block ca (by omega)).trans h1,fun k hk=>(h2.own k hk).1,fun k hk=>.inl hk,fun k hk _ _ _=>hb.block k hk⟩
theorem Stp.refl {s:Int×List Int}(h:Mm c0 ca B s w):Stp c0 ca B w s w:=.of_below h (zH _ _)
theorem Stp.trans {s1 s2:Int×List Int}{w1 w2:World}(h:Stp c0 ca B w s1 w1)(k:Stp c0 ca B w1 s2 w2):Stp c0 ca B w s2 w2:=by
 obtain⟨v,v1,a1,a2,a3,a4,a5⟩:=h.own;obtain⟨u,u2,b1,b2,b3,b4,b5⟩:=k.own;rw[a2] at b1;simp only[Option.some.injEq,Obj.cells.injEq,Array.mk.injEq,List.cons.injEq,and_true] at b1;subst b1;have hsz:=h.size;refine⟨k.mm,k.os.trans h.os,k.tape.trans h.tape,k.output.trans h.output,yN h.size k.size,v,u2,a1,b2,a3,?_,?_⟩
 ·intro i hi;rcases b4 i hi with h1|h1
  ·exact a4 i h1
  exact .inr (by omega)
 intro i hi h0 ha hv;rw[b5 i (by omega) h0 ha ?_,a5 i hi h0 ha hv];intro e;rcases a4 i e with h1|h1
 ·exact hv h1
 omega
theorem Stp.bL {B0:Nat}{s:Int×List Int}(h:Stp c0 ca B w s w')(h0:B0≤c0)(ha:B0≤ca):Below B0 w w':=by
 obtain⟨v,v1,a1,a2,a3,a4,a5⟩:=h.own;have hl:=h.mm.lt0;have ac:=(zR a1)
 exact⟨h.os,h.tape,h.output,h.size,fun k hk=>a5 k (by omega) (by omega) (by omega) (fun e=>by have:=a3 k e;omega)⟩
theorem Stp.block {s:Int×List Int}(h:Stp c0 ca B w s w'){fr:Nat×Nat}(hk:w.heap[k]?=some (.cells xs t fr))(h0:k≠c0)(ha:k≠ca)(hB:k<B):w'.heap[k]?=some (.cells xs t fr):=by
 obtain⟨v,v1,a1,a2,a3,a4,a5⟩:=h.own;rw[a5 k (zR hk) h0 ha (fun e=>by have:=a3 k e;omega)];exact hk
theorem Stp.block' {s s1:Int×List Int}{w0:World}(h0:Mm c0 ca B s w0)(hb:zB w0 w)(h:Stp c0 ca B w s1 w'){fr:Nat×Nat}(hk:w.heap[k]?=some (.cells xs t fr))(hlt:w0.heap.size≤k):w'.heap[k]?=some (.cells xs t fr):=by
 obtain⟨v,v1,a1,a2,a3,a4,a5⟩:=h.own;obtain⟨u,b1,b2⟩:=h0.row;have hs:=h0.size;have hl0:=h0.lt0;have ac:=h0.lta;have e:=(hb.block ca (by omega)).trans b1;rw[a1] at e;simp only[Option.some.injEq,Obj.cells.injEq,Array.mk.injEq,List.cons.injEq,and_true] at e;subst e;rw[a5 k (zR hk) (by omega) (by omega) (fun e=>by have:=(b2.own k e).2;omega)];exact hk
theorem D5n {s:Int×List Int}(hm:Mm c0 ca B s w)(x:FI)(v:VI β) :
  Calls Tryz.prog 187 #[vFI x,.agg #[.int .i64 v.nU,.slice a1 n1 c1,.slice a2 n2 c2,.slice a3 n3 c3],.pointer (some ⟨c0,0,none⟩)] w fun e w'=>e = .returned (.bool (decide (v.nU≤s.1)))∧Stp c0 ca B w (v.nU,s.2) w':=by
 obtain⟨u,h1,h2⟩:=hm.row;have hs:=hm.size;have hl0:=hm.lt0;have ak:=hm.lta;have aj:c0<w.heap.size:=by omega
 have au:w.cell? ⟨c0,0,none⟩=some (.int .i64 s.1):=zL hm.last 0 _ rfl;have f0:=zJ hm.last 0;have hne:c0≠ca:=fun e=>by have:=hm.last;rw[e,h1] at this;simp at this
 have hX:(w.setCell ⟨c0,0,none⟩ (.int .i64 v.nU)).heap[c0]?=some (.cells #[.int .i64 v.nU] 3 (0,0)):=yO _ _ 0 _ _ _ hm.last;have ag:∀ o o',Stp c0 ca B w (v.nU,s.2) (((w.setCell ⟨c0,0,none⟩ (.int .i64 v.nU)).alloc o).alloc o'):=by
  intro o o';have hb2:Below w.heap.size (w.setCell ⟨c0,0,none⟩ (.int .i64 v.nU)) (((w.setCell ⟨c0,0,none⟩ (.int .i64 v.nU)).alloc o).alloc o'):=((zH _ _).alloc (by simp) _).alloc (by simp) _;have ac:∀ k,k≠c0→(w.setCell ⟨c0,0,none⟩ (.int .i64 v.nU)).heap[k]?=w.heap[k]?:=fun k hk=>zZ w ⟨c0,0,none⟩ _ k (show k≠c0 from hk)
  have ah:=(hb2.block ca (by omega)).trans ((ac ca (Ne.symm hne)).trans h1);have hown:=h2.own;refine⟨⟨(hb2.block c0 aj).trans hX,⟨u,ah,?_⟩,?_,hl0,ak⟩,hb2.os,hb2.tape,hb2.output,by simpa using hb2.size,u,u,h1,ah,fun k hk=>(hown k hk).1,fun k hk=>.inl hk,fun k hk h0 _ _=>(hb2.block k hk).trans (ac k h0)⟩
  ·exact(h2.other (fun e=>by have:=(hown c0 e).1;omega) 0 _).keep fun k _ hk=>hb2.block k (by simpa using hk)
  have:=hb2.size;simp at this ⊢;omega
 unfold vFI;go_enter Tryz.func187,Tryz.ntmps187;go_wp2;go_ret;exact⟨rfl,ag _ _⟩
def tF (x:FI)(l:List Int):List Int:=if 0<x.cE then l++[x.cE] else l
theorem D1v {s:Int×List Int}(hm:Mm c0 ca B s w)(hl:s.2.length≤17592186044415)(x:FI)(y:VI β) :
  Calls Tryz.prog 188 #[vFI x,.agg #[.int .i64 y.nU,.slice a1 n1 c1,.slice a2 n2 c2,.slice a3 n3 c3],.pointer (some ⟨ca,0,none⟩)] w fun e w'=>e = .returned (.bool (decide (0<x.cE∧x.cE∈s.2)))∧Stp c0 ca B w (s.1,tF x s.2) w':=by
 obtain⟨v,hc,hr⟩:=hm.row;obtain⟨last,l⟩:=s;have hr:Row ekN w B v l:=hr;have hl:l.length≤17592186044415:=hl;have hB:=hm.size;have hl0:=hm.lt0;have cw:=hm.lta;obtain⟨ao,n,cap,rfl,Hn⟩:=hr.shape';have bn:ca<w.heap.size:=by omega
 obtain⟨W2,bh,hb2,hz2,x1,-⟩:=uD w (.cells #[.string (S x.name),.int .i64 x.nU,.int .i64 x.kind,.string (S x.type),.bool x.many,.int .i64 x.cE] 47) (.cells #[.int .i64 y.nU,.slice a1 n1 c1,.slice a2 n2 c2,.slice a3 n3 c3] 63);have hc2:=(hb2.block ca bn).trans hc;have hr2:=hr.bL hb2;have cg:w.cell? ⟨ca,0,none⟩=some (.slice ao n cap):=zL hc 0 _ rfl;unfold vFI;by_cases h0:0<x.cE
 ·have HD:Hid (decide (0<x.cE∧x.cE∈l)=decide (x.cE∈l)):=by show _=_;simp[h0]
  have d0:decide (x.cE≤0)=false:=by simp;omega
  have HT:Hid (tF x l=l++[x.cE]):=by show _=_;unfold tF;rw[zF h0]
  show Calls _ _ _ _ fun e w'=>e = .returned (.bool (decide (0<x.cE∧x.cE∈l)))∧Stp c0 ca B w (last,tF x l) w'
  rw[HD.out,HT.out];clear h0;have bu:=SK hr2.rdN x.cE;obtain⟨q,Hq⟩:=zM (decide (x.cE∈l));rw[←Hq.out] at bu ⊢;obtain⟨W4,bk,bl,-,-⟩:=zV W2 (.cells #[.int .i64 x.cE] 3);have bg:W4.cell? ⟨W2.heap.size,0,none⟩=some (.int .i64 x.cE):=by rw[bk.out];exact zL (yM W2 _) 0 _ rfl
  have hr4:=hr2.bL bl;have ac:=hb2.trans (bl.mono hb2.size);have cu:=(ac.block ca bn).trans hc;have hlen:(l.length + [x.cE].length)*ekN.bytes≤140737488355328:=by
   show(l.length+1)*8≤_;omega
  have hcell:∀ ad,(some ⟨W2.heap.size,0,none⟩:Option Addr)=some ad→∀ k y,[x.cE][k]?=some y→∀ j u,(ekN.enc y)[j]?=some u→W4.cell? (ad.add (k*ekN.size+j))=some u:=by
   intro ad had k y hy j u hu;cases had
   have hk:k=0:=by
    cases k with
    | zero=>rfl
    | succ k=>simp at hy
   subst hk;simp at hy;subst hy;have hj:j=0:=by
    cases j with
    | zero=>rfl
    | succ j=>simp[ekN,gY] at hu
   subst hj;have hu:u = .int .i64 x.cE:=by simpa [ekN,gY] using hu.symm
   subst hu;rw[xS];simpa using bg
  obtain⟨_,_,_,_,_,d5⟩:=tW x1;have e0:W2.cell? ⟨ca,0,none⟩=some (.slice ao n cap):=zL hc2 0 _ rfl;have cj:=yN hB ac.size;go_enter Tryz.func188,Tryz.ntmps188;go_wp2_with fail
  rw[←bh.out];refine bu.mono ?_;rintro e w1 ⟨rfl,rfl⟩;go_wp2_with (at_builtin;rw[←bk.out];refine mP rfl ekN _ _ rfl B _ l [x.cE] rfl hr4 (some ⟨W2.heap.size,0,none⟩) 1 1 rfl rfl (fun h=>by cases h) hcell (by decide) hlen cj ?_)
  intro v5 w5 ba ah df;have hown:=hr4.own;have au:(Value.slice ao n cap).ownBlock≠some ca:=fun hh=>by have:=(hown ca hh).1;omega
  have ak:=(ah.block ca (by omega) (fun hh=>au hh.symm)).trans cu;have k0:=zL ak 0 _ rfl;have k1:=zJ ak 0;obtain⟨a5,n5,ag,rfl,dh⟩:=ba.shape';go_wp2;go_ret;have dg:=ah.size;have di:=ac.size;have bc:∀ k,k≠ca→(w5.setCell ⟨ca,0,none⟩ (.slice a5 n5 ag)).heap[k]?=w5.heap[k]?:=fun k hk=>zZ w5 ⟨ca,0,none⟩ _ k (show k≠ca from hk)
  have aj:(w5.setCell ⟨ca,0,none⟩ (.slice a5 n5 ag)).heap[ca]?=some (.cells #[.slice a5 n5 ag] 33 (0,0)):=yO _ _ 0 _ _ _ ak;have hne:c0≠ca:=fun e=>by have:=hm.last;rw[e,hc] at this;simp at this
  have hblk:∀ k,k<w.heap.size→k≠ca→(Value.slice ao n cap).ownBlock≠some k→(w5.setCell ⟨ca,0,none⟩ (.slice a5 n5 ag)).heap[k]?=w.heap[k]?:=fun k hk av aw=>by
   rw[bc k av,ah.block k (by omega) (fun e=>aw e.symm),ac.block k hk]
  refine⟨rfl,⟨⟨?_,⟨_,aj,?_⟩,?_,hl0,cw⟩,?_,?_,?_,?_,_,_,hc,aj,fun k hk=>(hr.own k hk).1,?_,fun k hk _ av aw=>hblk k hk av aw⟩⟩
  ·rw[hblk c0 (by omega) hne (fun hh=>by have:=(hown c0 hh).1;omega)];exact hm.last
  ·exact ba.other (fun hh=>by have:=(ba.own ca hh).1;omega) 0 _
  ·simp;omega
  ·exact ah.os.trans ac.os
  ·exact ah.tape.trans ac.tape
  ·exact ah.output.trans ac.output
  ·simp;omega
  intro k hk;rcases df k hk with h1|h1
  ·exact .inl h1
  exact .inr (by omega)
 have HD:Hid (decide (0<x.cE∧x.cE∈l)=false):=by show _=_;simp[h0]
 have d0:decide (x.cE≤0)=true:=by simp;omega
 have HT:Hid (tF x l=l):=by show _=_;unfold tF;rw[zC h0]
 show Calls _ _ _ _ fun e w'=>e = .returned (.bool (decide (0<x.cE∧x.cE∈l)))∧Stp c0 ca B w (last,tF x l) w'
 rw[HD.out,HT.out];clear h0 cg;go_enter Tryz.func188,Tryz.ntmps188;go_wp2;go_ret;rw[←bh.out];exact⟨rfl,Stp.of_below hm hb2⟩
theorem dR {s s':Int×List Int}(hm:Mm c0 ca B s w){ce:Nat}{cap:Array Value}{err:Int}{r:Bool}(ba:∀ (args:Array Value) (w:World),(callFunc fn args).run Tryz.prog w = .ok (.enter fn args) w)
  (hcb:w.heap[cb]?=some (.cells #[.func (.func fn) #[] cap] 185 (0,0))) (hce:w.heap[ce]?=some (.cells #[.int .i64 err] 37 (0,0))) (av:ce<B) (au:ce≠c0) (aw:ce≠ca) (x:FI) (v:VI β)
  (ac:∀ W,zB w W→Calls Tryz.prog fn (#[vFI x,.agg #[.int .i64 v.nU,.slice a1 n1 c1,.slice a2 n2 c2,.slice a3 n3 c3]]++cap) W fun e w'=>e = .returned (.bool r)∧Stp c0 ca B W s' w') :
  Calls Tryz.prog 186 #[vFI x,.agg #[.int .i64 v.nU,.slice a1 n1 c1,.slice a2 n2 c2,.slice a3 n3 c3],.pointer (some ⟨cb,0,none⟩),.pointer (some ⟨ce,0,none⟩)] w fun e w'=>e = .returned (.int .i64 (if r then err else 0))∧Stp c0 ca B w s' w':=by
 obtain⟨W2,aj,hb2,-,-,-⟩:=uD w (.cells #[.string (S x.name),.int .i64 x.nU,.int .i64 x.kind,.string (S x.type),.bool x.many,.int .i64 x.cE] 47) (.cells #[.int .i64 v.nU,.slice a1 n1 c1,.slice a2 n2 c2,.slice a3 n3 c3] 63);have k0:w.cell? ⟨cb,0,none⟩=some (.func (.func fn) #[] cap):=zL hcb 0 _ rfl;have hc:=ac W2 hb2;have ag:=(hb2.block ce (zR hce)).trans hce;have ak:=(zR hcb)
 clear ac;unfold vFI at hc ⊢;go_enter Tryz.func186,Tryz.ntmps186;go_wp2_with fail
 rw[←aj.out];refine hc.mono ?_;rintro e w3 ⟨rfl,hs3⟩;have ah:=hs3.block ag au aw av;have k1:w3.cell? ⟨ce,0,none⟩=some (.int .i64 err):=zL ah 0 _ rfl;have hst:=(Stp.of_below hm hb2).trans hs3;cases r with
 | true=>
  go_wp2;go_ret;exact⟨rfl,hst⟩
 | false=>
  go_wp2;go_ret;exact⟨rfl,hst⟩
theorem C8m {R:Int}{post:World→Prop}{W:World}{cap:Array Value}{nm:List UInt8}{af ab:Option Addr}{nf cf nb:Nat}{fs:List FI}{nU:Int}
  (hcm:W.heap[cm]?=some (.cells #[.string (S nm),.slice af nf cf,.slice ab nb cb] 35 (0,0))) (ag:W.heap[ct]?=some (.cells #[.int .i64 (k:Int)] 3 (0,0))) (hcv:W.heap[cv]?=some (.cells #[.int .i64 nU,.slice a1 n1 c1,.slice a2 n2 c2,.slice a3 n3 c3] 63 (0,0)))
  (hf:RdL 6 FAt W (.slice af nf cf) fs) (hk:fs[k]?=some x) (ah:∀ (args:Array Value) (w:World),(callFunc fn args).run Tryz.prog w = .ok (.enter fn args) w)
  (ac:Calls Tryz.prog fn (#[vFI x,.agg #[.int .i64 nU,.slice a1 n1 c1,.slice a2 n2 c2,.slice a3 n3 c3]]++cap) W.drew fun e w'=>e = .returned (.int .i64 R)∧post w') :
  Calls Tryz.prog 126 #[.func (.func fn) #[] cap,.pointer (some ⟨cm,0,none⟩),.pointer (some ⟨ct,0,none⟩),.pointer (some ⟨cv,0,none⟩)] W fun e w'=>e = .returned (.int .i64 R)∧post w':=by
 have hb:zB W W.drew:=(zH _ _).drew;obtain⟨b,o,rfl,hat⟩:=hf.get FAt.plain hk;have aj:=hf.len.1;have ak:k<nf:=by rw[aj];exact(yG.1 hk).1
 have au:(k:Int)<(nf:Int):=by omega
 have hat':=FAt.sT _ _ _ _ hb hat;simp only[FAt,xS] at hat';obtain⟨f0,f1,f2,f3,f4,f5⟩:=hat';have m1:W.drew.cell? ⟨cm,1,none⟩=some (.slice (some ⟨b,o,none⟩) nf cf):=zQ hb (zL hcm 1 _ rfl);have t0:W.drew.cell? ⟨ct,0,none⟩=some (.int .i64 (k:Int)):=zQ hb (zL ag 0 _ rfl);have v0:W.drew.cell? ⟨cv,0,none⟩=some (.int .i64 nU):=zQ hb (zL hcv 0 _ rfl);have v1:W.drew.cell? ⟨cv,1,none⟩=some (.slice a1 n1 c1):=zQ hb (zL hcv 1 _ rfl);have v2:W.drew.cell? ⟨cv,2,none⟩=some (.slice a2 n2 c2):=zQ hb (zL hcv 2 _ rfl);have v3:W.drew.cell? ⟨cv,3,none⟩=some (.slice a3 n3 c3):=zQ hb (zL hcv 3 _ rfl);clear hf hcm ag hcv hat;unfold vFI at ac;go_enter Tryz.func126,Tryz.ntmps126;go_wp2;go_region_with (refine ac.mono ?_;rintro e w1 ⟨rfl,hp⟩)
 all_goals
  go_wp2;go_ret;exact⟨rfl,hp⟩
def rO (e:Nat→Int):Nat→Nat→Int
 | _,0=>0
 | k,m+1=>if e k=0 then rO e (k+1) m else e k
theorem B9w {g:Nat}(L:List (Nat×Array Value))(oQ:Nat→Int×List Int)(uY:Nat→Int)(hn:L.length≤1000)(hm:Mm c0 ca B (oQ 0) w)
  (ag:∀ s' W,Stp c0 ca B w s' W→∀ (j:Nat) (p:Nat×Array Value),L[j]?=some p→W.cell? ⟨g,j,none⟩=some (.func (.func p.1) #[] p.2))
  (hstep:∀ (j:Nat) (p:Nat×Array Value) (W:World),L[j]?=some p→Stp c0 ca B w (oQ j) W→(∀ i,i<j→uY i=0)→Calls Tryz.prog 126 #[.func (.func p.1) #[] p.2,.pointer (some ⟨cm,0,none⟩),.pointer (some ⟨ct,0,none⟩),.pointer (some ⟨cv,0,none⟩)] W fun e W'=>e = .returned (.int .i64 (uY j))∧Stp c0 ca B W (oQ (j+1)) W') :
  Calls Tryz.prog 125 #[.slice (some ⟨g,0,none⟩) L.length L.length,.func (.func 126) #[] #[.pointer (some ⟨cm,0,none⟩),.pointer (some ⟨ct,0,none⟩),.pointer (some ⟨cv,0,none⟩)]] w
   fun e w'=>e = .returned (.int .i64 (rO uY 0 L.length))∧∃ s',Stp c0 ca B w s' w'∧(rO uY 0 L.length=0→s'=oQ L.length):=by
 obtain⟨n,Hn⟩:=zM (L.length);obtain⟨R,HR⟩:=zM (rO uY 0 n);rw[←Hn.out] at hn ⊢;rw[←HR.out];go_enter Tryz.func125,Tryz.ntmps125;go_wp2_with fail
 go_loopg [10] n (fun m i wr=>∃ k:Nat,k+m=n∧i = .int .i64 k∧Hid (R=rO uY k m)∧Hid (∀ i,i<k→uY i=0)∧Stp c0 ca B w (oQ k) wr)
 case atStart=>exact⟨0,by omega,rfl,HR,(show Hid _ from fun i hi=>absurd hi (Nat.not_lt_zero i)),Stp.refl hm⟩
 case round=>
  obtain⟨k,hk,rfl,HK,HZ,hs⟩:=hrel;by_cases hlt:k<n
  ·obtain⟨p,Hp⟩:=yE (l:=L) (k:=k) (by rw[←Hn.out];exact hlt);obtain⟨fn,cap⟩:=p;have hat:wr.cell? ⟨g,k,none⟩=some (.func (.func fn) #[] cap):=ag _ wr hs k (fn,cap) Hp.out;have aj:(k:Int)<(n:Int):=by omega
   have ac:=hstep k (fn,cap) wr Hp.out hs HZ.out;obtain⟨m,rfl⟩:∃ m,gk=m+1:=⟨gk-1,by omega⟩
   have hst:rO uY k (m+1)=if uY k=0 then rO uY (k+1) m else uY k:=rfl
   obtain⟨F,HF⟩:=zM (uY k);rw[←HF.out] at ac hst;by_cases hz:F=0
   ·have HX:Hid (R=rO uY (k+1) m):=by
     show _=_;rw[HK.out,hst,zF hz]
    have ah:Hid (∀ i,i<k+1→uY i=0):=by
     show ∀ i,i<k+1→uY i=0;intro i hi;rcases Nat.lt_succ_iff_lt_or_eq.1 hi with h|h
     ·exact HZ.out i h
     ·rw[h,←HF.out,hz]
    have ez:(F != 0)=false:=by simp[hz]
    clear hst hz hstep ag;go_wp2_with fail
    refine ac.mono ?_;rintro e w1 ⟨rfl,hs1⟩;go_wp2_with fail
    go_roundg m
    case measure=>omega
    case rel=>exact⟨k+1,by omega,by go_num,HX,ah,hs.trans hs1⟩
   ·have HX:Hid (R=F):=by
     show _=_;rw[HK.out,hst,zC hz]
    have HY:Hid (R≠0):=by show R≠0;rw[HX.out];exact hz
    have ez:(F != 0)=true:=by simpa using hz
    clear hst hz hstep ag;go_wp2_with fail
    refine ac.mono ?_;rintro e w1 ⟨rfl,hs1⟩;go_wp2;go_ret;exact⟨by rw[HX.out];rfl,_,hs.trans hs1,fun e=>absurd e HY.out⟩
  ·obtain rfl:k=n:=by omega
   obtain rfl:gk=0:=by omega
   have HX:Hid (R=0):=HK;go_wp2;go_ret;exact⟨by rw[HX.out];rfl,_,hs,fun _=>rfl⟩
end L
end Go.Proofs.YthcomdofaaeihaaGreatDoor
