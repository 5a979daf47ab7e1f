import Derived.Test.YtgaoojpakjjdnaaGreatDoorV09
set_option maxHeartbeats 32000000
set_option maxRecDepth 100000
namespace Go.Proofs.YtgaoojpakjjdnaaGreatDoor
namespace L
open Go.RowKit
def vFI (x:FI):Value:=.agg #[.string (S x.name),.int .i64 x.number,.int .i64 x.kind,.string (S x.type),.bool x.many,.int .i64 x.choice]
theorem C5e {β:Type}{w:World}(x:FI)(v:VI β){a1 a2 a3:Option Addr}{n1 n2 n3 c1 c2 c3:Nat}(H1:Hid (n1=v.bits.length))(H2:Hid (n2=v.bytes.length))(H3:Hid (n3=v.subs.length))(b1:n1≤140737488355328)(b2:n2≤140737488355328)(b3:n3≤140737488355328) :
  Calls Tryz.prog 124 #[vFI x,.agg #[.int .i64 v.number,.slice a1 n1 c1,.slice a2 n2 c2,.slice a3 n3 c3]] w fun e w'=>e = .returned (.bool (A0v x v))∧Below w.heap.size w w':=by
 have hb2:Below w.heap.size w ((w.alloc (.cells #[.string (S x.name),.int .i64 x.number,.int .i64 x.kind,.string (S x.type),.bool x.many,.int .i64 x.choice] 40)).alloc (.cells #[.int .i64 v.number,.slice a1 n1 c1,.slice a2 n2 c2,.slice a3 n3 c3] 62)):=((Below.refl _ _).alloc (Nat.le_refl _) _).alloc (by simp) _
 unfold vFI
 by_cases h8:x.kind=8
 ·have HR:Hid (A0v x v=decide ((0:Int)<(n1:Int)+(n3:Int))):=by
   show _=_;unfold A0v;rw[if_pos (Or.inl h8),H1.out,H3.out];exact decide_eq_decide.2 (by omega)
  have e8:(x.kind==8)=true:=by simp[h8]
  clear h8
  go_enter Tryz.func124,Tryz.ntmps124
  go_wp2
  go_ret
  exact⟨by rw[HR.out];rfl,hb2⟩
 have e8:(x.kind==8)=false:=by simpa using h8
 by_cases h9:x.kind=9
 ·have HR:Hid (A0v x v=decide ((0:Int)<(n1:Int)+(n3:Int))):=by
   show _=_;unfold A0v;rw[if_pos (Or.inr h9),H1.out,H3.out];exact decide_eq_decide.2 (by omega)
  have e9:(x.kind==9)=true:=by simp[h9]
  clear h8 h9
  go_enter Tryz.func124,Tryz.ntmps124
  go_wp2
  go_ret
  exact⟨by rw[HR.out];rfl,hb2⟩
 have e9:(x.kind==9)=false:=by simpa using h9
 by_cases h10:x.kind=10
 ·have HR:Hid (A0v x v=decide ((0:Int)<(n1:Int)+(n2:Int))):=by
   show _=_;unfold A0v;rw[if_neg (by omega),if_pos h10,H1.out,H2.out];exact decide_eq_decide.2 (by omega)
  have ac:(x.kind==10)=true:=by simp[h10]
  clear h8 h9 h10
  go_enter Tryz.func124,Tryz.ntmps124
  go_wp2
  go_ret
  exact⟨by rw[HR.out];rfl,hb2⟩
 ·have HR:Hid (A0v x v=decide ((0:Int)<(n2:Int)+(n3:Int))):=by
   show _=_;unfold A0v;rw[if_neg (by omega),if_neg h10,H2.out,H3.out];exact decide_eq_decide.2 (by omega)
  have ac:(x.kind==10)=false:=by simpa using h10
  clear h8 h9 h10
  go_enter Tryz.func124,Tryz.ntmps124
  go_wp2
  go_ret
  exact⟨by rw[HR.out];rfl,hb2⟩
theorem D2n {β:Type}{w:World}(x:FI)(v:VI β){a1 a2 a3:Option Addr}{n1 n2 n3 c1 c2 c3:Nat}(H1:Hid (n1=v.bits.length))(H2:Hid (n2=v.bytes.length))(H3:Hid (n3=v.subs.length))(b1:n1≤140737488355328)(b2:n2≤140737488355328)(b3:n3≤140737488355328) :
  Calls Tryz.prog 125 #[vFI x,.agg #[.int .i64 v.number,.slice a1 n1 c1,.slice a2 n2 c2,.slice a3 n3 c3]] w fun e w'=>e = .returned (.bool (A3p x v))∧Below w.heap.size w w':=by
 have hb2:Below w.heap.size w ((w.alloc (.cells #[.string (S x.name),.int .i64 x.number,.int .i64 x.kind,.string (S x.type),.bool x.many,.int .i64 x.choice] 40)).alloc (.cells #[.int .i64 v.number,.slice a1 n1 c1,.slice a2 n2 c2,.slice a3 n3 c3] 62)):=((Below.refl _ _).alloc (Nat.le_refl _) _).alloc (by simp) _
 have hm:A1i v=n1+n2+n3:=by unfold A1i;rw[H1.out,H2.out,H3.out]
 unfold vFI
 by_cases h1:n1+n2+n3<1
 ·have HR:Hid (A3p x v=true):=by show _=_;unfold A3p;rw[hm];simp;omega
  have d1:decide ((n1:Int)+(n2:Int)+(n3:Int)<1)=true:=by simp;omega
  clear hm h1
  go_enter Tryz.func125,Tryz.ntmps125
  go_wp2
  go_ret
  exact⟨by rw[HR.out];rfl,hb2⟩
 have d1:decide ((n1:Int)+(n2:Int)+(n3:Int)<1)=false:=by simp;omega
 by_cases h2:60<n1+n2+n3
 ·have HR:Hid (A3p x v=true):=by show _=_;unfold A3p;rw[hm];simp[h2]
  have d2:decide ((60:Int)<(n1:Int)+(n2:Int)+(n3:Int))=true:=by simp;omega
  clear hm h1 h2
  go_enter Tryz.func125,Tryz.ntmps125
  go_wp2
  go_ret
  exact⟨by rw[HR.out];rfl,hb2⟩
 have d2:decide ((60:Int)<(n1:Int)+(n2:Int)+(n3:Int))=false:=by simp;omega
 by_cases h3:1<n1+n2+n3
 ·have d3:decide ((1:Int)<(n1:Int)+(n2:Int)+(n3:Int))=true:=by simp;omega
  have HR:Hid (A3p x v = !x.many):=by
   show _=_;unfold A3p;rw[hm,decide_eq_false h1,decide_eq_false h2,decide_eq_true h3];simp
  clear hm h1 h2 h3
  go_enter Tryz.func125,Tryz.ntmps125
  go_wp2
  go_ret
  exact⟨by rw[HR.out];rfl,hb2⟩
 ·have d3:decide ((1:Int)<(n1:Int)+(n2:Int)+(n3:Int))=false:=by simp;omega
  have HR:Hid (A3p x v=false):=by
   show _=_;unfold A3p;rw[hm,decide_eq_false h1,decide_eq_false h2,decide_eq_false h3];simp
  clear hm h1 h2 h3
  go_enter Tryz.func125,Tryz.ntmps125
  go_wp2
  go_ret
  exact⟨by rw[HR.out];rfl,hb2⟩
abbrev PV:=Option Addr×Nat×Nat
def PV.v (p:PV):Value:=.slice p.1 p.2.1 p.2.2
def own1 (p:PV):List Nat:=p.v.ownBlock.toList
structure VL (β:Type) where
 number:Int
 bits:List Nat
 bytes:List (List UInt8×PV)
 subs:List β
 p1:PV
 p2:PV
 p3:PV
structure BL (β:Type) where
 vals:List (VL β)
 unk:List (RI×PV)
 q0:PV
 q1:PV
def LB:Nat→Type
 | 0=>Empty
 | d+1=>BL (LB d)
def VL.pl {β γ:Type}(f : β→γ)(v:VL β):VI γ:=⟨v.number,v.bits,v.bytes.map Prod.fst,v.subs.map f⟩
def LB.pl:(d:Nat)→LB d→BI d
 | 0=>fun b=>b
 | d+1=>fun b=>(⟨(BL.vals b).map (VL.pl (LB.pl d)),(BL.unk b).map Prod.fst⟩:BO (BI d))
def D8q (n:Nat):List Value:=[.int .u64 (n:Int)]
def D8g (b:UInt8):List Value:=[.int .u8 (b.toNat:Int)]
def D9o (z:List UInt8×PV):List Value:=[z.2.v]
def D4o (r:RI×PV):List Value:=[.int .i64 r.1.number,.int .i64 r.1.how,.int .u64 (r.1.bits:Int),r.2.v]
def D9n {β:Type}(v:VL β):List Value:=[.int .i64 v.number,v.p1.v,v.p2.v,v.p3.v]
def C0f:(d:Nat)→LB d→List Value
 | 0=>fun b=>nomatch (b:Empty)
 | _+1=>fun b=>[(BL.q0 b).v,(BL.q1 b).v]
def ekU:EK Nat where
 elem:=63
 slice:=59
 size:=1
 bytes:=8
 zero:=.int .u64 0
 enc:=D8q
 under:=Tryz.underlying59
 info:=by kernel_rfl
 zs:=rfl
 pos:=by decide
 small:=by decide
 len:=fun _=>rfl
 one:=by intro a u hu;simp only[D8q,List.mem_singleton] at hu;subst hu;rfl
def ekY:EK UInt8 where
 elem:=5
 slice:=32
 size:=1
 bytes:=1
 zero:=.int .u8 0
 enc:=D8g
 under:=Tryz.underlying32
 info:=by kernel_rfl
 zs:=rfl
 pos:=by decide
 small:=by decide
 len:=fun _=>rfl
 one:=by intro a u hu;simp only[D8g,List.mem_singleton] at hu;subst hu;rfl
def ekZ:EK (List UInt8×PV) where
 elem:=32
 slice:=58
 size:=1
 bytes:=24
 zero:=.slice none 0 0
 enc:=D9o
 under:=Tryz.underlying58
 info:=by kernel_rfl
 zs:=rfl
 pos:=by decide
 small:=by decide
 len:=fun _=>rfl
 one:=by intro a u hu;simp only[D9o,List.mem_singleton] at hu;subst hu;rfl
def ekR:EK (RI×PV) where
 elem:=106
 slice:=27
 size:=4
 bytes:=48
 zero:=.agg #[.int .i64 0,.int .i64 0,.int .u64 0,.slice none 0 0]
 enc:=D4o
 under:=Tryz.underlying27
 info:=by kernel_rfl
 zs:=rfl
 pos:=by decide
 small:=by decide
 len:=fun _=>rfl
 one:=by intro a u hu;simp only[D4o,List.mem_cons,List.mem_nil_iff,or_false] at hu;rcases hu with rfl|rfl|rfl|rfl <;> rfl
def ekV (β:Type):EK (VL β) where
 elem:=62
 slice:=26
 size:=4
 bytes:=80
 zero:=.agg #[.int .i64 0,.slice none 0 0,.slice none 0 0,.slice none 0 0]
 enc:=D9n
 under:=Tryz.underlying26
 info:=by kernel_rfl
 zs:=rfl
 pos:=by decide
 small:=by decide
 len:=fun _=>rfl
 one:=by intro a u hu;simp only[D9n,List.mem_cons,List.mem_nil_iff,or_false] at hu;rcases hu with rfl|rfl|rfl|rfl <;> rfl
theorem D1o:∀ (d:Nat) (b:LB d),(C0f d b).length=2
 | 0,b=>nomatch (b:Empty)
 | _+1,_=>rfl
theorem D1p:∀ (d:Nat) (b:LB d),∀ u∈C0f d b,u.oneCell'=true
 | 0,b=>nomatch (b:Empty)
 | _+1,b=>by intro u hu;simp only[C0f,List.mem_cons,List.mem_nil_iff,or_false] at hu;rcases hu with rfl|rfl <;> rfl
def ekB (d:Nat):EK (LB d) where
 elem:=29
 slice:=60
 size:=2
 bytes:=48
 zero:=.agg #[.slice none 0 0,.slice none 0 0]
 enc:=C0f d
 under:=Tryz.underlying60
 info:=by kernel_rfl
 zs:=rfl
 pos:=by decide
 small:=by decide
 len:=D1o d
 one:=D1p d
structure OwnV {β:Type}(E:EK β) (O:World→β→Prop) (w:World) (base:Nat) (v:VL β):Prop where
 r1:Row ekU w base v.p1.v v.bits
 r2:Row ekZ w base v.p2.v v.bytes
 r2y:∀ z∈v.bytes,Row ekY w base z.2.v z.1
 r3:Row E w base v.p3.v v.subs
 r3s:∀ s∈v.subs,O w s
structure OwnL {β:Type}(E:EK β) (O:World→β→Prop) (w:World) (base:Nat) (b:BL β):Prop where
 r0:Row (ekV β) w base b.q0.v b.vals
 r0v:∀ v∈b.vals,OwnV E O w base v
 r1:Row ekR w base b.q1.v b.unk
 r1y:∀ r∈b.unk,Row ekY w base r.2.v r.1.bytes
def OwnB (base:Nat):(d:Nat)→World→LB d→Prop
 | 0=>fun _ _=>False
 | d+1=>fun w b=>OwnL (ekB d) (OwnB base d) w base b
def VL.fp {β:Type}(f : β→List Nat)(v:VL β):List Nat:=own1 v.p1++own1 v.p2++own1 v.p3++v.subs.flatMap f
def BL.fp {β:Type}(f : β→List Nat)(b:BL β):List Nat:=own1 b.q0++own1 b.q1++b.vals.flatMap (VL.fp f)
def LB.fp:(d:Nat)→LB d→List Nat
 | 0=>fun _=>[]
 | d+1=>fun b=>BL.fp (LB.fp d) b
structure FrB (F:List Nat) (w w':World):Prop where
 os:w'.os=w.os
 tape:w'.tape=w.tape
 output:w'.output=w.output
 size:w.heap.size≤w'.heap.size
 block:∀ k,k<w.heap.size→(k∉F∨∃ cs fr,w.heap[k]?=some (.cells cs 5 fr))→w'.heap[k]?=w.heap[k]?
theorem FrB.refl (F:List Nat)(w:World):FrB F w w:=⟨rfl,rfl,rfl,Nat.le_refl _,fun _ _ _=>rfl⟩
theorem FrB.of_below {F:List Nat}{w w':World}(h:Below w.heap.size w w'):FrB F w w':=⟨h.os,h.tape,h.output,h.size,fun k hk _=>h.block k hk⟩
theorem FrB.mono {F G:List Nat}{w w':World}(h:FrB F w w')(hs:∀ k∈F,k∈G):FrB G w w':=⟨h.os,h.tape,h.output,h.size,fun k hk hc=>h.block k hk (hc.imp (fun h1 h2=>h1 (hs k h2)) id)⟩
theorem FrB.trans {F G H:List Nat}{a b c:World}(h:FrB F a b)(k:FrB G b c)(hF:∀ i∈F,i∈H)(hG:∀ i∈G,i∈H∨a.heap.size≤i):FrB H a c:=
 ⟨k.os.trans h.os,k.tape.trans h.tape,k.output.trans h.output,Nat.le_trans h.size k.size,fun i hi hc=>by
  have e:=h.block i hi (hc.imp (fun h1 h2=>h1 (hF i h2)) id)
  rw[k.block i (Nat.lt_of_lt_of_le hi h.size) ?_,e]
  rcases hc with hc|⟨cs,fr,hc⟩
  ·left;intro hi';rcases hG i hi' with h1|h1
   ·exact hc h1
   ·omega
  ·right;exact⟨cs,fr,by rw[e];exact hc⟩⟩
theorem FrB.below {F:List Nat}{w w':World}{B:Nat}(h:FrB F w w')(hB:B≤w.heap.size)(hF:∀ k∈F,B≤k):Below B w w':=
 ⟨h.os,h.tape,h.output,h.size,fun k hk=>h.block k (by omega) (.inl fun ac=>by have:=hF k ac;omega)⟩
theorem A0u {p:PV}{k:Nat}:k∈own1 p↔p.v.ownBlock=some k:=by unfold own1;simp
theorem Row.frB {α:Type}{E:EK α}{F:List Nat}{w w':World}{base:Nat}{p:PV}{l:List α}(h:Row E w base p.v l)(hf:FrB F w w')(hd:∀ k∈own1 p,k∉F):Row E w' base p.v l:=by
 refine⟨h.1,?_⟩
 rcases h.2 with hn|⟨g,cap,cur,hv,hbg,hg,r⟩
 ·exact .inl hn
 ·refine .inr ⟨g,cap,cur,hv,hbg,?_,r⟩
  rw[hf.block g (Array.getElem?_eq_some_iff.1 hg).1 (.inl (hd g (A0u.2 (by rw[hv];rfl))))]
  exact hg
theorem Row.frY {F:List Nat}{w w':World}{base:Nat}{v:Value}{l:List UInt8}(h:Row ekY w base v l)(hf:FrB F w w'):Row ekY w' base v l:=by
 refine⟨h.1,?_⟩
 rcases h.2 with hn|⟨g,cap,cur,hv,hbg,hg,r⟩
 ·exact .inl hn
 ·refine .inr ⟨g,cap,cur,hv,hbg,?_,r⟩
  rw[hf.block g (Array.getElem?_eq_some_iff.1 hg).1 (.inr ⟨cur,_,hg⟩)]
  exact hg
theorem OwnV.fr {β:Type}{E:EK β}{O:World→β→Prop}{f : β→List Nat}(hO:∀ (F:List Nat) (w w':World) b,O w b→FrB F w w'→(∀ k∈f b,k∉F)→O w' b){F:List Nat}{w w':World}{base:Nat}{v:VL β}(h:OwnV E O w base v)(hf:FrB F w w')(hd:∀ k∈VL.fp f v,k∉F):OwnV E O w' base v where
 r1:=h.r1.frB hf fun k hk=>hd k (by unfold VL.fp;simp[hk])
 r2:=h.r2.frB hf fun k hk=>hd k (by unfold VL.fp;simp[hk])
 r2y:=fun z hz=>(h.r2y z hz).frY hf
 r3:=h.r3.frB hf fun k hk=>hd k (by unfold VL.fp;simp[hk])
 r3s:=fun s hs=>hO F w w' s (h.r3s s hs) hf fun k hk=>hd k (by unfold VL.fp;simp only[List.mem_append,List.mem_flatMap];exact .inr ⟨s,hs,hk⟩)
theorem OwnL.fr {β:Type}{E:EK β}{O:World→β→Prop}{f : β→List Nat}(hO:∀ (F:List Nat) (w w':World) b,O w b→FrB F w w'→(∀ k∈f b,k∉F)→O w' b){F:List Nat}{w w':World}{base:Nat}{b:BL β}(h:OwnL E O w base b)(hf:FrB F w w')(hd:∀ k∈BL.fp f b,k∉F):OwnL E O w' base b where
 r0:=h.r0.frB hf fun k hk=>hd k (by unfold BL.fp;simp[hk])
 r0v:=fun v hv=>(h.r0v v hv).fr hO hf fun k hk=>hd k (by unfold BL.fp;simp only[List.mem_append,List.mem_flatMap];exact .inr ⟨v,hv,hk⟩)
 r1:=h.r1.frB hf fun k hk=>hd k (by unfold BL.fp;simp[hk])
 r1y:=fun r hr=>(h.r1y r hr).frY hf
theorem OwnB.fr {base:Nat}:∀ (d:Nat) (F:List Nat) (w w':World) (b:LB d),OwnB base d w b→FrB F w w'→(∀ k∈LB.fp d b,k∉F)→OwnB base d w' b
 | 0,_,_,_,_,h,_,_=>h
 | d+1,_,_,_,_,h,hf,hd=>OwnL.fr (fun F w w' b=>OwnB.fr d F w w' b) h hf hd
theorem OwnB.below {base d:Nat}{w w':World}{b:LB d}(h:OwnB base d w b)(hb:Below w.heap.size w w'):OwnB base d w' b:=OwnB.fr d [] w w' b h (.of_below hb) (fun _ _=>List.not_mem_nil)
theorem OwnV.below {base d:Nat}{w w':World}{v:VL (LB d)}(h:OwnV (ekB d) (OwnB base d) w base v)(hb:Below w.heap.size w w'):OwnV (ekB d) (OwnB base d) w' base v:=OwnV.fr (F:=[]) (OwnB.fr d) h (.of_below hb) (fun _ _=>List.not_mem_nil)
theorem Row.own1 {α:Type}{E:EK α}{w:World}{base:Nat}{p:PV}{l:List α}(h:Row E w base p.v l):∀ k∈own1 p,base≤k∧k<w.heap.size:=fun k hk=>h.own k (A0u.1 hk)
theorem OwnV.inB {β:Type}{E:EK β}{O:World→β→Prop}{f : β→List Nat}{w:World}{base:Nat}{v:VL β}(hO:∀ s∈v.subs,O w s→∀ k∈f s,base≤k∧k<w.heap.size)(h:OwnV E O w base v):∀ k∈VL.fp f v,base≤k∧k<w.heap.size:=by
 intro k hk
 unfold VL.fp at hk
 simp only[List.mem_append,List.mem_flatMap] at hk
 rcases hk with((hk|hk)|hk)|⟨s,hs,hk⟩
 ·exact h.r1.own1 k hk
 ·exact h.r2.own1 k hk
 ·exact h.r3.own1 k hk
 ·exact hO s hs (h.r3s s hs) k hk
theorem OwnB.inB {base:Nat}:∀ (d:Nat){w:World}{b:LB d},OwnB base d w b→∀ k∈LB.fp d b,base≤k∧k<w.heap.size
 | 0,_,_,h=>h.elim
 | d+1,w,b,h=>by
  intro k hk
  have hk:k∈BL.fp (LB.fp d) b:=hk
  have h:OwnL (ekB d) (OwnB base d) w base b:=h
  unfold BL.fp at hk
  simp only[List.mem_append,List.mem_flatMap] at hk
  rcases hk with(hk|hk)|⟨v,hv,hk⟩
  ·exact h.r0.own1 k hk
  ·exact h.r1.own1 k hk
  ·exact(h.r0v v hv).inB (fun s _ hs=>OwnB.inB d hs) k hk
theorem RdL.mapB {α β:Type}{sz:Nat}{P:World→Addr→α→Prop}{R:World→Addr→β→Prop}{w:World}{v:Value}{l:List α}(f : α→β)(h:RdL sz P w v l)(hf:∀ x a,a∈l→P w x a→R w x (f a)):RdL sz R w v (l.map f):=by
 obtain⟨ao,n,cap,e,h1,h2,h3,h4,h5⟩:=h
 refine⟨ao,n,cap,e,by simpa using h1,h2,h3,h4,fun x hx k b hb=>?_⟩
 rw[List.getElem?_map] at hb
 cases ha:l[k]? with
 | none=>rw[ha] at hb;simp at hb
 | some a=>
  rw[ha] at hb
  simp at hb
  subst hb
  exact hf _ a (List.mem_of_getElem? ha) (h5 x hx k a ha)
theorem Row.rdU {w:World}{base:Nat}{v:Value}{l:List Nat}(h:Row ekU w base v l):RdL 1 UAt w v l:=h.rd UAt fun g i a hc=>by have:=hc 0 _ rfl;simpa [UAt] using this
theorem Row.rdY {w:World}{base:Nat}{v:Value}{l:List UInt8}(h:Row ekY w base v l):RdL 1 YAt w v l:=h.rd YAt fun g i a hc=>by have:=hc 0 _ rfl;simpa [YAt] using this
theorem Row.rdZ {w:World}{base:Nat}{v:Value}{l:List (List UInt8×PV)}(h:Row ekZ w base v l)(hy:∀ z∈l,Row ekY w base z.2.v z.1):RdL 1 ZAt w v (l.map Prod.fst):=
 RdL.mapB Prod.fst (h.rd (fun w x (z:List UInt8×PV)=>w.cell? x=some z.2.v) fun g i a hc=>by have:=hc 0 _ rfl;simpa using this) fun _ z hz hc=>⟨z.2.v,hc,(hy z hz).rdY⟩
theorem Row.rdR {w:World}{base:Nat}{v:Value}{l:List (RI×PV)}(h:Row ekR w base v l)(hy:∀ r∈l,Row ekY w base r.2.v r.1.bytes):RdL 4 RAt w v (l.map Prod.fst):=
 RdL.mapB Prod.fst (h.rd (fun w x (r:RI×PV)=>w.cell? x=some (.int .i64 r.1.number)∧w.cell? (x.add 1)=some (.int .i64 r.1.how)∧w.cell? (x.add 2)=some (.int .u64 (r.1.bits:Int))∧w.cell? (x.add 3)=some r.2.v) fun g i a hc=>by
  refine⟨by simpa using hc 0 _ rfl,?_,?_,?_⟩ <;> rw[A0e]
  ·exact hc 1 _ rfl
  ·exact hc 2 _ rfl
  ·exact hc 3 _ rfl) fun _ r hr ⟨h0,h1,h2,h3⟩=>⟨r.2.v,h0,h1,h2,h3,(hy r hr).rdY⟩
theorem OwnL.rdV {d:Nat}{w:World}{base:Nat}{b:BL (LB d)}(hs:∀ (s:LB d) (g i:Nat),OwnB base d w s→(∀ j u,(C0f d s)[j]?=some u→w.cell? ⟨g,i+j,none⟩=some u)→BAt d w ⟨g,i,none⟩ (LB.pl d s))(h:OwnL (ekB d) (OwnB base d) w base b):RdL 4 (VAt (BAt d)) w b.q0.v (b.vals.map (VL.pl (LB.pl d))):=by
 refine RdL.mapB _ (h.r0.rd (fun w x (v:VL (LB d))=>w.cell? x=some (.int .i64 v.number)∧w.cell? (x.add 1)=some v.p1.v∧w.cell? (x.add 2)=some v.p2.v∧w.cell? (x.add 3)=some v.p3.v) fun g i a hc=>?_) ?_
 ·refine⟨by simpa using hc 0 _ rfl,?_,?_,?_⟩ <;> rw[A0e]
  ·exact hc 1 _ rfl
  ·exact hc 2 _ rfl
  ·exact hc 3 _ rfl
 ·rintro x v hv ⟨h0,h1,h2,h3⟩
  have ho:=h.r0v v hv
  refine⟨v.p1.v,v.p2.v,v.p3.v,h0,h1,h2,h3,ho.r1.rdU,ho.r2.rdZ ho.r2y,?_⟩
  exact RdL.mapB (P:=fun w (x:Addr) (s:LB d)=>∃ g i,x=⟨g,i,none⟩∧∀ j u,(C0f d s)[j]?=some u→w.cell? ⟨g,i+j,none⟩=some u) _ (ho.r3.rd _ fun g i a hc=>⟨g,i,rfl,hc⟩) fun _ s hs' ⟨g,i,e,hc⟩=>by rw[e];exact hs s g i (ho.r3s s hs') hc
theorem OwnB.at {base:Nat}:∀ (d:Nat){w:World}(s:LB d) (g i:Nat),OwnB base d w s→(∀ j u,(C0f d s)[j]?=some u→w.cell? ⟨g,i+j,none⟩=some u)→BAt d w ⟨g,i,none⟩ (LB.pl d s)
 | 0,_,_,_,_,h,_=>h.elim
 | d+1,w,s,g,i,h,hc=>by
  have h:OwnL (ekB d) (OwnB base d) w base s:=h
  refine⟨(BL.q0 s).v,(BL.q1 s).v,by simpa using hc 0 _ rfl,by rw[A0e];exact hc 1 _ rfl,h.rdV (fun s g i=>OwnB.at d s g i),h.r1.rdR h.r1y⟩
theorem OwnB.rd {d:Nat}{w:World}{base:Nat}{b:BL (LB d)}(h:OwnB base (d+1) w b):BRd d w b.q0.v b.q1.v (LB.pl (d+1) b):=
 have h:OwnL (ekB d) (OwnB base d) w base b:=h
 ⟨h.rdV (fun s g i=>OwnB.at d s g i),h.r1.rdR h.r1y⟩
section
variable {α:Type}{w:World}
theorem C2x (E:EK α)(ty:TypeId)(base:Nat)(v:Value)(l m:List α)(hown:Row E w base v l)(ao:Option Addr)(n cap:Nat)(hm:m.length=n)(hnil:ao=none→n=0∧cap=0)
  (hcell:∀ ad,ao=some ad→∀ k y,m[k]?=some y→∀ j u,(E.enc y)[j]?=some u→w.cell? (ad.add (k*E.size+j))=some u)
  (hby:1≤E.bytes) (hlen:(l.length+m.length)*E.bytes≤140737488355328) (hb:base≤w.heap.size) :
  ∃ v' w',(Builtin.append_ #[E.slice,E.slice] ty #[v,.slice ao n cap]).run Tryz.prog w = .ok v' w'∧Row E w' base v' (l++m)∧w.grownBy w' v.ownBlock∧∀ k,v'.ownBlock=some k→v.ownBlock=some k∨w.heap.size≤k:=by
 obtain⟨i0,hi,hz0,hz1,hz2⟩:=info_parts E.info
 have h63:l.length+m.length≤maxLen:=by
  have:l.length+m.length≤(l.length+m.length)*E.bytes:=Nat.le_mul_of_pos_right _ hby
  unfold maxLen;omega
 cases ao with
 | none=>
  obtain⟨rfl,rfl⟩:=hnil rfl
  have ah:m = []:=List.eq_nil_of_length_eq_zero hm
  subst ah
  have hrun:=run_append_owned_none (P:=Tryz.prog) (w:=w) base E.slice ty E.elem i0 E.size E.under hi v l.length (E.flat l) hown
  exact⟨v,w,hrun,by rw[List.append_nil];exact hown,⟨rfl,rfl,rfl,Nat.le_refl _,fun _ _ _=>rfl⟩,fun k hk=>.inl hk⟩
 | some ad=>
  have hl:(E.flat m).length=n*E.size:=by rw[E.flat_len,hm]
  have hnews:∀ j u,(E.flat m)[j]?=some u→w.cell? (ad.add j)=some u:=by
   intro j u hu
   obtain⟨y,h1,h2⟩:=E.flat_get hu
   have:=hcell ad rfl _ y h1 _ u h2
   rwa [Nat.mul_comm,Nat.div_add_mod] at this
  have h1c:∀ u∈E.flat m,u.oneCell'=true:=by
   intro y hy
   simp only[EK.flat,List.mem_flatMap] at hy
   obtain⟨p,hp,hy⟩:=hy
   exact E.one p y hy
  obtain⟨v',w',hr,h1,h2,h3⟩:=run_append_own (P:=Tryz.prog) w base E.slice ty E.elem i0 _ E.size E.bytes E.under hi hz0 hz1 hz2 E.zs E.pos v l.length (E.flat l) hown ad n cap (E.flat m) hl hnews h1c (by rw[←hm];exact h63) (by rw[←hm];exact hlen) hb
  refine⟨v',w',hr,?_,h2,?_⟩
  ·show w'.ownsRow base E.elem E.size v' (l++m).length (E.flat (l++m))
   rw[List.length_append,E.flat_append,hm]
   exact h1
  ·rcases hown.2 with⟨hv,hn⟩|⟨g,cap',cur,hv,hbg,hg,hnc,hcm,hcs,htake⟩
   ·subst hv
    have hl0:l = []:=List.eq_nil_of_length_eq_zero hn
    subst hl0
    obtain⟨v2,w2,hr2,ag,_,_⟩:=run_append_own (P:=Tryz.prog) w w.heap.size E.slice ty E.elem i0 _ E.size E.bytes E.under hi hz0 hz1 hz2 E.zs E.pos (.slice none 0 0) 0 [] (World.ownsRow_nil _ _ _ _) ad n cap (E.flat m) hl hnews h1c (by rw[←hm];simpa using h63) (by rw[←hm];simpa using hlen) (Nat.le_refl _)
    rw[hr2] at hr
    cases hr
    exact fun k hk=>.inr (World.ownsRow.lt ag k hk).1
   ·subst hv
    by_cases hroom:l.length+n≤cap'
    ·have ac:l.length*i0.size+(E.flat m).length≤cur.size:=by rw[hl,hcs,hz1,←Nat.add_mul];exact Nat.mul_le_mul_right _ hroom
     have hr2:=run_append_room (P:=Tryz.prog) w E.slice ty E.elem i0 E.under hi g l.length cap' cur hg ad n cap (E.flat m) (by rw[hl,hz1]) hnews h1c hroom ac
     rw[hr2] at hr
     cases hr
     exact fun k hk=>.inl hk
    ·have holds:=World.ownsRow.cells hown (g:=g) rfl
     have hr2:=run_append_grow (P:=Tryz.prog) w E.slice ty E.elem i0 _ E.under hi hz0 ⟨g,0,none⟩ l.length cap' (E.flat l) (by rw[hz1];exact hown.1) holds ad n cap (E.flat m) (by rw[hl,hz1]) hnews (by omega) (by unfold maxLen at h63;omega) (growslice_fits (by omega) (by rw[hz2,←hm];exact hlen))
     rw[hr2] at hr
     cases hr
     intro k hk
     simp only[Value.ownBlock,Option.some.injEq] at hk
     exact .inr (by omega)
theorem D0o {o:Oper}{a:Act}{K:Act→World→Prop}{Q:Exit→Act→World→Prop}(E:EK α)(s x:Operand)
  (ho:o.op = .call { callee:=.builtin .append,args:=#[s,x],argTypes:=#[E.slice,E.slice] })
  (base:Nat) (v:Value) (l m:List α) (hs:a.eval s=v) (hown:Row E w base v l) (ao:Option Addr) (n cap:Nat) (hx:a.eval x = .slice ao n cap) (hm:m.length=n) (hnil:ao=none→n=0∧cap=0)
  (hcell:∀ ad,ao=some ad→∀ k y,m[k]?=some y→∀ j u,(E.enc y)[j]?=some u→w.cell? (ad.add (k*E.size+j))=some u)
  (hby:1≤E.bytes) (hlen:(l.length+m.length)*E.bytes≤140737488355328) (hb:base≤w.heap.size)
  (h:∀ v' w',Row E w' base v' (l++m)→w.grownBy w' v.ownBlock→(∀ k,v'.ownBlock=some k→v.ownBlock=some k∨w.heap.size≤k)→K (a.put o.dst v') w'):o.wp Tryz.prog a w K Q:=by
 obtain⟨v',w',hr,h1,h2,h3⟩:=C2x E o.type base v l m hown ao n cap hm hnil hcell hby hlen hb
 unfold Oper.wp execOp
 simp only[ho,resolve,invoke,builtin,Sem.run_bind,Sem.run_pure,Result.andThen_ok,List.map_toArray,List.map_cons,List.map_nil,hs,hx,hr]
 exact h v' w' h1 h2 h3
theorem C9t {ops:Array Oper}{o:Oper}{a:Act}{K:Act→World→Prop}{Q:Exit→Act→World→Prop}{X:Prop}(hgd:o.guard=none)(E:EK α)(s x:Operand)
  (ho:o.op = .call { callee:=.builtin .append,args:=#[s,x],argTypes:=#[E.slice,E.slice] })
  (base:Nat) (v:Value) (l m:List α) (hs:a.eval s=v) (hown:Row E w base v l) (ao:Option Addr) (n cap:Nat) (hx:a.eval x = .slice ao n cap) (hm:m.length=n) (hnil:ao=none→n=0∧cap=0)
  (hcell:∀ ad,ao=some ad→∀ k y,m[k]?=some y→∀ j u,(E.enc y)[j]?=some u→w.cell? (ad.add (k*E.size+j))=some u)
  (hby:1≤E.bytes) (hlen:(l.length+m.length)*E.bytes≤140737488355328) (hb:base≤w.heap.size)
  (h:∀ v' w',Row E w' base v' (l++m)→w.grownBy w' v.ownBlock→(∀ k,v'.ownBlock=some k→v.ownBlock=some k∨w.heap.size≤k)→K (a.put o.dst v') w') :
  if Region.wanted o (yielded ops a.tmps)=true then Oper.wp Tryz.prog o a w K Q else X:=by
 have hw:Region.wanted o (yielded ops a.tmps)=true:=by simp[Region.wanted,hgd]
 rw[if_pos hw]
 exact D0o E s x ho base v l m hs hown ao n cap hx hm hnil hcell hby hlen hb h
theorem A1s {ops:Array Oper}{rest:List Oper}{o:Oper}{a:Act}{Q:Exit→Act→World→Prop}(hgd:o.guard=none)(E:EK α)(s x:Operand)
  (ho:o.op = .call { callee:=.builtin .append,args:=#[s,x],argTypes:=#[E.slice,E.slice] })
  (base:Nat) (v:Value) (l m:List α) (hs:a.eval s=v) (hown:Row E w base v l) (ao:Option Addr) (n cap:Nat) (hx:a.eval x = .slice ao n cap) (hm:m.length=n) (hnil:ao=none→n=0∧cap=0)
  (hcell:∀ ad,ao=some ad→∀ k y,m[k]?=some y→∀ j u,(E.enc y)[j]?=some u→w.cell? (ad.add (k*E.size+j))=some u)
  (hby:1≤E.bytes) (hlen:(l.length+m.length)*E.bytes≤140737488355328) (hb:base≤w.heap.size)
  (h:∀ v' w',Row E w' base v' (l++m)→w.grownBy w' v.ownBlock→(∀ k,v'.ownBlock=some k→v.ownBlock=some k∨w.heap.size≤k)→wpList Tryz.prog ops Q rest (a.put o.dst v') w'):wpList Tryz.prog ops Q (o::rest) a w:=
 wpList_plain hgd fun _ hK=>D0o E s x ho base v l m hs hown ao n cap hx hm hnil hcell hby hlen hb fun v' w' h2 h3 h4=>hK _ _ (h v' w' h2 h3 h4)
end
structure Ent {α':Type}(O:World→α'→Prop) (fp : α'→List Nat):Prop where
 fr:∀ (F:List Nat) (w w':World) (a : α'),O w a→FrB F w w'→(∀ k∈fp a,k∉F)→O w' a
 inB:∀ (w:World) (a : α'),O w a→∀ k∈fp a,k<w.heap.size
theorem Ent.below {α':Type}{O:World→α'→Prop}{fp : α'→List Nat}(h:Ent O fp){w w':World}{a : α'}(ho:O w a)(hb:Below w.heap.size w w'):O w' a:=h.fr [] w w' a ho (.of_below hb) (fun _ _=>List.not_mem_nil)
structure Cop {α α':Type}(E:EK α') (er : α'→α) (O:World→α'→Prop) (fp : α'→List Nat) (w:World) (B0:Nat) (l:List α) (W:World) (p:PV) (l':List α'):Prop where
 map:l'.map er=l
 row:Row E W B0 p.v l'
 own:∀ a∈l',O W a
 ge:∀ k∈own1 p++l'.flatMap fp,w.heap.size≤k
 nd:(own1 p++l'.flatMap fp).Nodup
 below:Below w.heap.size w W
section
variable {α α':Type}{E:EK α'}{er : α'→α}{O:World→α'→Prop}{fp : α'→List Nat}{w W:World}{B0:Nat}{l:List α}{p:PV}{l':List α'}
theorem Cop.nil (w:World)(B0:Nat):Cop E er O fp w B0 [] w (none,0,0) []:=⟨rfl,Row.nil _ _ _,fun _ h=>by simp at h,fun _ h=>by simp[own1,PV.v,Value.ownBlock] at h,by simp[own1,PV.v,Value.ownBlock],Below.refl _ _⟩
theorem Cop.step (hE:Ent O fp)(hY:E.elem≠5)(h:Cop E er O fp w B0 l W p l'){W1 W2 W3:World}{a : α}{a' : α'}(he:er a'=a)(ho:O W1 a')(ah:∀ k∈fp a',W.heap.size≤k)(bh:(fp a').Nodup)(hb1:Below W.heap.size W W1)(hb2:Below W1.heap.size W1 W2)
  {p3:PV}(hrow:Row E W3 B0 p3.v (l'++[a'])) (hg:W2.grownBy W3 p.v.ownBlock) (hk:∀ k,p3.v.ownBlock=some k→p.v.ownBlock=some k∨W2.heap.size≤k):Cop E er O fp w B0 (l++[a]) W3 p3 (l'++[a']):=by
 have ac:Below W.heap.size W W2:=hb1.trans (hb2.mono hb1.size)
 have hrow2:Row E W2 B0 p.v l':=h.row.below ac
 have bc:∀ k∈own1 p,k<W.heap.size:=fun k hk=>(h.row.own1 k hk).2
 have ba:FrB (own1 p) W2 W3:=by
  refine⟨hg.os,hg.tape,hg.output,hg.size,fun k hk hc=>hg.block k hk fun e=>?_⟩
  have bg:k∈own1 p:=A0u.2 e.symm
  rcases hc with hc|⟨cs,fr,hc⟩
  ·exact hc bg
  ·exact hrow2.ne_blk hc (fun e=>hY e.symm) e.symm
 have hsz:=h.below.size
 have hs1:=hb1.size
 have hs2:=hb2.size
 have hs3:=hg.size
 have hl':∀ k∈l'.flatMap fp,k<W.heap.size:=fun k hk=>by
  obtain⟨x,hx,hk⟩:=List.mem_flatMap.1 hk
  exact hE.inB W x (h.own x hx) k hk
 have ag:=List.nodup_append.1 h.nd
 have ha1:∀ k∈fp a',k<W1.heap.size:=hE.inB W1 a' ho
 refine⟨by rw[List.map_append,h.map,List.map_singleton,he],hrow,?_,?_,?_,?_⟩
 ·intro x hx
  rcases List.mem_append.1 hx with hx|hx
  ·exact hE.fr _ W2 W3 x (hE.below (h.own x hx) ac) ba fun k au ak=>ag.2.2 k ak k (List.mem_flatMap.2 ⟨x,hx,au⟩) rfl
  ·rw[List.mem_singleton.1 hx]
   exact hE.fr _ W2 W3 a' (hE.below ho hb2) ba fun k au ak=>by have:=ah k au;have:=bc k ak;omega
 ·intro k aj
  rw[List.flatMap_append,List.flatMap_singleton] at aj
  rcases List.mem_append.1 aj with hk1|hk1
  ·rcases hk k (A0u.1 hk1) with h1|h1
   ·exact h.ge k (List.mem_append_left _ (A0u.2 h1))
   ·omega
  ·rcases List.mem_append.1 hk1 with hk2|hk2
   ·exact h.ge k (List.mem_append_right _ hk2)
   ·have:=ah k hk2;omega
 ·rw[List.flatMap_append,List.flatMap_singleton]
  refine List.nodup_append.2 ⟨?_,List.nodup_append.2 ⟨ag.2.1,bh,?_⟩,?_⟩
  ·unfold own1;cases p3.v.ownBlock <;> simp
  ·intro x hx y hy e
   have:=hl' x hx;have:=ah y hy;omega
  ·intro x hx y hy e
   subst e
   rcases hk x (A0u.1 hx) with h1|h1
   ·have aw:=A0u.2 h1
    rcases List.mem_append.1 hy with hy|hy
    ·exact ag.2.2 x aw x hy rfl
    ·have:=bc x aw;have:=ah x hy;omega
   ·rcases List.mem_append.1 hy with hy|hy
    ·have:=hl' x hy;omega
    ·have:=ha1 x hy;omega
 ·refine⟨hg.os.trans (ac.os.trans h.below.os),hg.tape.trans (ac.tape.trans h.below.tape),hg.output.trans (ac.output.trans h.below.output),by omega,fun k aj=>?_⟩
  rw[hg.block k (by omega) ?_,ac.block k (by omega),h.below.block k aj]
  intro e
  have:=h.ge k (List.mem_append_left _ (A0u.2 e.symm))
  omega
end
def A0p {β:Type}(x:FI)(v:VI β):Bool:=
 if x.many=true∨0<x.choice∨x.kind=10 then false
 else if A1i v≠1 then false
 else decide (v.bits = [0])||decide (v.bytes = [[]])
theorem B3p {β:Type}{P:World→Addr→β→Prop}{w:World}(x:FI)(v:VI β){a1 a2 a3:Option Addr}{n1 n2 n3 c1 c2 c3:Nat}(h1:RdL 1 UAt w (.slice a1 n1 c1) v.bits)(h2:RdL 1 ZAt w (.slice a2 n2 c2) v.bytes)(h3:RdL 2 P w (.slice a3 n3 c3) v.subs)(b1:n1≤140737488355328)(b2:n2≤140737488355328)(b3:n3≤140737488355328) :
  Calls Tryz.prog 70 #[vFI x,.agg #[.int .i64 v.number,.slice a1 n1 c1,.slice a2 n2 c2,.slice a3 n3 c3]] w fun e w'=>e = .returned (.bool (A0p x v))∧Below w.heap.size w w':=by
 have hb2:Below w.heap.size w ((w.alloc (.cells #[.string (S x.name),.int .i64 x.number,.int .i64 x.kind,.string (S x.type),.bool x.many,.int .i64 x.choice] 40)).alloc (.cells #[.int .i64 v.number,.slice a1 n1 c1,.slice a2 n2 c2,.slice a3 n3 c3] 62)):=((Below.refl _ _).alloc (Nat.le_refl _) _).alloc (by simp) _
 have l1:=h1.len.1
 have l2:=h2.len.1
 have l3:=h3.len.1
 have hm:A1i v=n1+n2+n3:=by unfold A1i;omega
 unfold vFI
 cases hmany:x.many with
 | true=>
  have HR:Hid (A0p x v=false):=by show _=_;unfold A0p;rw[if_pos (Or.inl hmany)]
  clear hm l1 l2 l3
  rw[hmany] at hb2
  clear hmany
  go_enter Tryz.func70,Tryz.ntmps70
  go_wp2
  go_ret
  exact⟨by rw[HR.out];rfl,hb2⟩
 | false=>
 rw[hmany] at hb2
 by_cases hc:0<x.choice
 ·have HR:Hid (A0p x v=false):=by show _=_;unfold A0p;rw[if_pos (Or.inr (Or.inl hc))]
  have dc:decide (0<x.choice)=true:=decide_eq_true hc
  clear hm l1 l2 l3 hmany hc
  go_enter Tryz.func70,Tryz.ntmps70
  go_wp2
  go_ret
  exact⟨by rw[HR.out];rfl,hb2⟩
 have dc:decide (0<x.choice)=false:=decide_eq_false hc
 by_cases hk:x.kind=10
 ·have HR:Hid (A0p x v=false):=by show _=_;unfold A0p;rw[if_pos (Or.inr (Or.inr hk))]
  have ek:(x.kind==10)=true:=by simp[hk]
  clear hm l1 l2 l3 hmany hc hk
  go_enter Tryz.func70,Tryz.ntmps70
  go_wp2
  go_ret
  exact⟨by rw[HR.out];rfl,hb2⟩
 have ek:(x.kind==10)=false:=by simpa using hk
 have hno:¬ (x.many=true∨0<x.choice∨x.kind=10):=by
  rintro(h|h|h)
  ·rw[hmany] at h;cases h
  ·exact hc h
  ·exact hk h
 clear hmany hc hk
 by_cases hs:n1+n2+n3=1
 ·have hs1:A1i v=1:=by omega
  by_cases h11:n1=1
  ·obtain rfl:n2=0:=by omega
   obtain rfl:n3=0:=by omega
   subst h11
   have hby:v.bytes = []:=List.eq_nil_of_length_eq_zero l2.symm
   obtain⟨q,hq⟩:∃ q,v.bits = [q]:=by
    match hv:v.bits,l1 with
    | [q],_=>exact⟨q,rfl⟩
   obtain⟨b,off,rfl,hat⟩:=h1.get UAt.plain (show v.bits[0]?=some q by rw[hq];rfl)
   have hat:w.cell? ⟨b,off,none⟩=some (.int .u64 (q:Int)):=by simpa [UAt] using hat
   have hbl:b<w.heap.size:=World.block_lt_of_cell? w _ hat
   have HR:Hid (A0p x v=((q:Int)==0)):=by
    show _=_;unfold A0p;rw[if_neg hno,if_neg (by omega),hq,hby,Bool.eq_iff_iff];simp
   clear hm hs1 hq l1 l2 l3 h1 h2 h3 hs hno hby
   cases hz:((q:Int)==0) with
   | true=>
    rw[hz] at HR
    go_enter Tryz.func70,Tryz.ntmps70
    go_wp2
    go_ret
    exact⟨by rw[HR.out];rfl,hb2⟩
   | false=>
    rw[hz] at HR
    go_enter Tryz.func70,Tryz.ntmps70
    go_wp2
    go_ret
    exact⟨by rw[HR.out];rfl,hb2⟩
  ·obtain rfl:n1=0:=by omega
   have ac:v.bits = []:=List.eq_nil_of_length_eq_zero l1.symm
   by_cases h21:n2=1
   ·obtain rfl:n3=0:=by omega
    subst h21
    obtain⟨q,hq⟩:∃ q,v.bytes = [q]:=by
     match hv:v.bytes,l2 with
     | [q],_=>exact⟨q,rfl⟩
    obtain⟨b,off,rfl,hat⟩:=h2.get ZAt.plain (show v.bytes[0]?=some q by rw[hq];rfl)
    obtain⟨u,hat,ag⟩:=hat.at
    obtain⟨a4,n4,c4,rfl,ah,aj⟩:=ag.shape
    have hat:w.cell? ⟨b,off,none⟩=some (.slice a4 n4 c4):=by simpa using hat
    have hbl:b<w.heap.size:=World.block_lt_of_cell? w _ hat
    have HR:Hid (A0p x v=((n4:Int)==0)):=by
     show _=_;unfold A0p;rw[if_neg hno,if_neg (by omega),hq,ac,Bool.eq_iff_iff,ah.out]
     simp
    clear hm hs1 hq l1 l2 l3 h1 h2 h3 hs hno ac ag
    go_enter Tryz.func70,Tryz.ntmps70
    go_wp2
    go_ret
    exact⟨by rw[HR.out];rfl,hb2⟩
   ·obtain rfl:n2=0:=by omega
    obtain rfl:n3=1:=by omega
    have hby:v.bytes = []:=List.eq_nil_of_length_eq_zero l2.symm
    have HR:Hid (A0p x v=false):=by
     show _=_;unfold A0p;rw[if_neg hno,if_neg (by omega),ac,hby];rfl
    clear hm hs1 l1 l2 l3 h1 h2 h3 hs hno ac hby h11 h21
    go_enter Tryz.func70,Tryz.ntmps70
    go_wp2
    go_ret
    exact⟨by rw[HR.out];rfl,hb2⟩
 ·have HR:Hid (A0p x v=false):=by show _=_;unfold A0p;rw[if_neg hno,if_pos (by omega)]
  have ds:((n1:Int)+(n2:Int)+(n3:Int) != 1)=true:=by simp;omega
  clear hm l1 l2 l3 h1 h2 h3 hs hno
  go_enter Tryz.func70,Tryz.ntmps70
  go_wp2
  go_ret
  exact⟨by rw[HR.out];rfl,hb2⟩
end L
end Go.Proofs.YtgaoojpakjjdnaaGreatDoor
