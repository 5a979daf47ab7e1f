import Derived.Test.YtgaoojpakjjdnaaGreatDoorX09
import Derived.Lib.LazyBuf
set_option maxHeartbeats 32000000
set_option maxRecDepth 100000
namespace Go.Proofs.YtgaoojpakjjdnaaGreatDoor
namespace L
open Go.RowKit
def A0p {β:Type}(x:FI)(v:VI β):Bool:=
 if x.many=true∨0<x.choice∨x.kind=10 then false
 else if A1h v≠1 then false
 else decide (v.bits = [0])||decide (v.bytes = [[]])
theorem B3r {β:Type}{P:World→Addr→β→Prop}{w:World}(x:FI)(v:VI β){a1 a2 a3:Option Addr}{n1 n2 n3 c1 c2 c3:Nat}(h1:RdL 1 UAt w (.slice a1 n1 c1) v.bits)(h2:RdL 1 ZAt w (.slice a2 n2 c2) v.bytes)(h3:RdL 2 P w (.slice a3 n3 c3) v.subs)(b1:n1≤140737488355328)(b2:n2≤140737488355328)(b3:n3≤140737488355328) :
  Calls Tryz.prog 70 #[vFI x,.agg #[.int .i64 v.number,.slice a1 n1 c1,.slice a2 n2 c2,.slice a3 n3 c3]] w fun e w'=>e = .returned (.bool (A0p x v))∧Below w.heap.size w w':=by
 have hb2:Below w.heap.size w ((w.alloc (.cells #[.string (S x.name),.int .i64 x.number,.int .i64 x.kind,.string (S x.type),.bool x.many,.int .i64 x.choice] 40)).alloc (.cells #[.int .i64 v.number,.slice a1 n1 c1,.slice a2 n2 c2,.slice a3 n3 c3] 62)):=((Below.refl _ _).alloc (Nat.le_refl _) _).alloc (by simp) _
 have l1:=h1.len.1
 have l2:=h2.len.1
 have l3:=h3.len.1
 have hm:A1h v=n1+n2+n3:=by unfold A1h;omega
 unfold vFI
 cases hmany:x.many with
 | true=>
  have HR:Hid (A0p x v=false):=by show _=_;unfold A0p;rw[if_pos (Or.inl hmany)]
  clear hm l1 l2 l3
  rw[hmany] at hb2
  clear hmany
  go_enter Tryz.func70,Tryz.ntmps70
  go_wp2
  go_ret
  exact⟨by rw[HR.out];rfl,hb2⟩
 | false=>
 rw[hmany] at hb2
 by_cases hc:0<x.choice
 ·have HR:Hid (A0p x v=false):=by show _=_;unfold A0p;rw[if_pos (Or.inr (Or.inl hc))]
  have dc:decide (0<x.choice)=true:=decide_eq_true hc
  clear hm l1 l2 l3 hmany hc
  go_enter Tryz.func70,Tryz.ntmps70
  go_wp2
  go_ret
  exact⟨by rw[HR.out];rfl,hb2⟩
 have dc:decide (0<x.choice)=false:=decide_eq_false hc
 by_cases hk:x.kind=10
 ·have HR:Hid (A0p x v=false):=by show _=_;unfold A0p;rw[if_pos (Or.inr (Or.inr hk))]
  have ek:(x.kind==10)=true:=by simp[hk]
  clear hm l1 l2 l3 hmany hc hk
  go_enter Tryz.func70,Tryz.ntmps70
  go_wp2
  go_ret
  exact⟨by rw[HR.out];rfl,hb2⟩
 have ek:(x.kind==10)=false:=by simpa using hk
 have hno:¬ (x.many=true∨0<x.choice∨x.kind=10):=by
  rintro(h|h|h)
  ·rw[hmany] at h;cases h
  ·exact hc h
  ·exact hk h
 clear hmany hc hk
 by_cases hs:n1+n2+n3=1
 ·have hs1:A1h v=1:=by omega
  by_cases h11:n1=1
  ·obtain rfl:n2=0:=by omega
   obtain rfl:n3=0:=by omega
   subst h11
   have hby:v.bytes = []:=List.eq_nil_of_length_eq_zero l2.symm
   obtain⟨q,hq⟩:∃ q,v.bits = [q]:=by
    match hv:v.bits,l1 with
    | [q],_=>exact⟨q,rfl⟩
   obtain⟨b,off,rfl,hat⟩:=h1.get UAt.plain (show v.bits[0]?=some q by rw[hq];rfl)
   have hat:w.cell? ⟨b,off,none⟩=some (.int .u64 (q:Int)):=by simpa [UAt] using hat
   have hbl:b<w.heap.size:=World.block_lt_of_cell? w _ hat
   have HR:Hid (A0p x v=((q:Int)==0)):=by
    show _=_;unfold A0p;rw[if_neg hno,if_neg (by omega),hq,hby,Bool.eq_iff_iff];simp
   clear hm hs1 hq l1 l2 l3 h1 h2 h3 hs hno hby
   cases hz:((q:Int)==0) with
   | true=>
    rw[hz] at HR
    go_enter Tryz.func70,Tryz.ntmps70
    go_wp2
    go_ret
    exact⟨by rw[HR.out];rfl,hb2⟩
   | false=>
    rw[hz] at HR
    go_enter Tryz.func70,Tryz.ntmps70
    go_wp2
    go_ret
    exact⟨by rw[HR.out];rfl,hb2⟩
  ·obtain rfl:n1=0:=by omega
   have ac:v.bits = []:=List.eq_nil_of_length_eq_zero l1.symm
   by_cases h21:n2=1
   ·obtain rfl:n3=0:=by omega
    subst h21
    obtain⟨q,hq⟩:∃ q,v.bytes = [q]:=by
     match hv:v.bytes,l2 with
     | [q],_=>exact⟨q,rfl⟩
    obtain⟨b,off,rfl,hat⟩:=h2.get ZAt.plain (show v.bytes[0]?=some q by rw[hq];rfl)
    obtain⟨u,hat,ag⟩:=hat.at
    obtain⟨a4,n4,c4,rfl,ah,aj⟩:=ag.shape
    have hat:w.cell? ⟨b,off,none⟩=some (.slice a4 n4 c4):=by simpa using hat
    have hbl:b<w.heap.size:=World.block_lt_of_cell? w _ hat
    have HR:Hid (A0p x v=((n4:Int)==0)):=by
     show _=_;unfold A0p;rw[if_neg hno,if_neg (by omega),hq,ac,Bool.eq_iff_iff,ah.out]
     simp
    clear hm hs1 hq l1 l2 l3 h1 h2 h3 hs hno ac ag
    go_enter Tryz.func70,Tryz.ntmps70
    go_wp2
    go_ret
    exact⟨by rw[HR.out];rfl,hb2⟩
   ·obtain rfl:n2=0:=by omega
    obtain rfl:n3=1:=by omega
    have hby:v.bytes = []:=List.eq_nil_of_length_eq_zero l2.symm
    have HR:Hid (A0p x v=false):=by
     show _=_;unfold A0p;rw[if_neg hno,if_neg (by omega),ac,hby];rfl
    clear hm hs1 l1 l2 l3 h1 h2 h3 hs hno ac hby h11 h21
    go_enter Tryz.func70,Tryz.ntmps70
    go_wp2
    go_ret
    exact⟨by rw[HR.out];rfl,hb2⟩
 ·have HR:Hid (A0p x v=false):=by show _=_;unfold A0p;rw[if_neg hno,if_pos (by omega)]
  have ds:((n1:Int)+(n2:Int)+(n3:Int) != 1)=true:=by simp;omega
  clear hm l1 l2 l3 h1 h2 h3 hs hno
  go_enter Tryz.func70,Tryz.ntmps70
  go_wp2
  go_ret
  exact⟨by rw[HR.out];rfl,hb2⟩
def A0x {α:Type}(f : α→Int):List α→Int
 | []=>0
 | a::l=>if f a=0 then A0x f l else f a
theorem A9n {α:Type}{f : α→Int}{l:List α}{k:Nat}{a : α}(ha:l[k]?=some a):A0x f (l.drop k)=if f a=0 then A0x f (l.drop (k+1)) else f a:=by
 obtain⟨hk,e⟩:=List.getElem?_eq_some_iff.1 ha
 rw[List.drop_eq_getElem_cons hk,e,A0x]
theorem A8a {α:Type}{f : α→Int}{l:List α}{k:Nat}(h:l.length≤k):A0x f (l.drop k)=0:=by
 rw[List.drop_of_length_le h];rfl
def cFI (x:FI):Array Value:=#[.string (S x.name),.int .i64 x.number,.int .i64 x.kind,.string (S x.type),.bool x.many,.int .i64 x.choice]
theorem C8t {w:World}{c:Nat}{x:FI}(hc:w.heap[c]?=some (.cells (cFI x) 40 (0,0)))(n:Nat)(hn:n<18446744073709551616) :
  Calls Tryz.prog 128 #[.int .u64 (n:Int),.pointer (some ⟨c,0,none⟩)] w fun e w'=>e = .returned (.int .i64 (A2r x.kind n))∧Below w.heap.size w w':=by
 have c2:w.cell? ⟨c,2,none⟩=some (.int .i64 x.kind):=A0a hc 2 _ rfl
 have ac:c<w.heap.size:=(Array.getElem?_eq_some_iff.1 hc).1
 have hf:=D3w (w:=w) x.kind n hn
 go_enter Tryz.func128,Tryz.ntmps128
 go_wp2_with fail
 refine hf.mono ?_
 rintro e w1 ⟨rfl,rfl⟩
 go_wp2
 go_ret
 exact⟨rfl,Below.refl _ _⟩
theorem D3v {v:Value}{l:List Nat}{w:World}{c:Nat}{x:FI}(h:RdL 1 UAt w v l)(hu:∀ n∈l,n<18446744073709551616)(hc:w.heap[c]?=some (.cells (cFI x) 40 (0,0))) :
  Calls Tryz.prog 127 #[v,.func (.func 128) #[] #[.pointer (some ⟨c,0,none⟩)]] w fun e w'=>e = .returned (.int .i64 (A0x (A2r x.kind) l))∧Below w.heap.size w w':=by
 obtain⟨ao,n,cap,rfl,Hn,ag⟩:=h.shape
 obtain⟨R,HR⟩:∃ R,Hid (R=A0x (A2r x.kind) l):=⟨_,rfl⟩
 rw[←HR.out]
 go_enter Tryz.func127,Tryz.ntmps127
 go_wp2_with fail
 go_loopg [10] n (fun m i wr=>∃ k:Nat,k+m=n∧i = .int .i64 k∧Hid (R=A0x (A2r x.kind) (l.drop k))∧Below w.heap.size w wr)
 case atStart=>exact⟨0,by omega,rfl,HR,Below.refl _ _⟩
 case round=>
  obtain⟨k,hk,rfl,HK,hb⟩:=hrel
  have ah:=(hb.block c (Array.getElem?_eq_some_iff.1 hc).1).trans hc
  by_cases hlt:k<n
  ·obtain⟨a,Ha⟩:∃ a,Hid (l[k]?=some a):=⟨l[k]'(by rw[←Hn.out];exact hlt),List.getElem?_eq_getElem (by rw[←Hn.out];exact hlt)⟩
   obtain⟨b,off,rfl,hat⟩:=(h.below UAt.stays hb).get UAt.plain Ha.out
   have hat:wr.cell? ⟨b,off+k,none⟩=some (.int .u64 (a:Int)):=by simpa [UAt] using hat
   have aj:(k:Int)<(n:Int):=by omega
   have ac:=C8t ah a (hu a (A3z Ha.out))
   have hst:=A9n (f:=A2r x.kind) Ha.out
   generalize hF:A2r x.kind a=F at ac hst
   by_cases hz:F=0
   ·have HX:Hid (R=A0x (A2r x.kind) (l.drop (k+1))):=by
     show _=_
     rw[HK.out,hst,if_pos hz]
    have ez:(F != 0)=false:=by simp[hz]
    clear hst hF hz
    go_wp2_with fail
    refine ac.mono ?_
    rintro e w1 ⟨rfl,hb1⟩
    go_wp2_with fail
    go_roundg (n-(k+1))
    case measure=>omega
    case rel=>exact⟨k+1,by omega,by go_num,HX,hb.trans (hb1.mono hb.size)⟩
   ·have HX:Hid (R=F):=by
     show _=_
     rw[HK.out,hst,if_neg hz]
    have ez:(F != 0)=true:=by simpa using hz
    clear hst hF hz
    go_wp2_with fail
    refine ac.mono ?_
    rintro e w1 ⟨rfl,hb1⟩
    go_wp2
    go_ret
    exact⟨by rw[HX.out];rfl,hb.trans (hb1.mono hb.size)⟩
  ·have HX:Hid (R=0):=by
    show _=_
    rw[HK.out]
    exact A8a (by rw[←Hn.out];omega)
   go_wp2
   go_ret
   exact⟨by rw[HX.out];rfl,hb⟩
theorem C4u {β:Type}{w:World}(x:FI)(v:VI β){a1 a2 a3:Option Addr}{n1 n2 n3 c1 c2 c3:Nat}(h1:RdL 1 UAt w (.slice a1 n1 c1) v.bits)(hu:∀ n∈v.bits,n<18446744073709551616) :
  Calls Tryz.prog 126 #[vFI x,.agg #[.int .i64 v.number,.slice a1 n1 c1,.slice a2 n2 c2,.slice a3 n3 c3]] w fun e w'=>e = .returned (.int .i64 (A0x (A2r x.kind) v.bits))∧Below w.heap.size w w':=by
 have hb2:Below w.heap.size w ((w.alloc (.cells (cFI x) 40)).alloc (.cells #[.int .i64 v.number,.slice a1 n1 c1,.slice a2 n2 c2,.slice a3 n3 c3] 62)):=((Below.refl _ _).alloc (Nat.le_refl _) _).alloc (by simp) _
 have hi:=D3v (x:=x) (h1.below UAt.stays hb2) hu (A0l w _ _)
 have ac:=A4s
 unfold cFI at hb2 hi
 unfold vFI
 go_enter Tryz.func126,Tryz.ntmps126
 go_wp2_with fail
 refine hi.mono ?_
 rintro e w1 ⟨rfl,hb1⟩
 go_wp2
 go_ret
 exact⟨rfl,hb2.trans (hb1.mono hb2.size)⟩
theorem Row.empB {α:Type}(E:EK α){w:World}{base g:Nat}(hb:base≤g)(h:w.heap[g]?=some (.cells #[] E.elem (0,0))):Row E w base (.slice (some ⟨g,0,none⟩) 0 0) []:=
 ⟨by simp[EK.flat],.inr ⟨g,0,#[],rfl,hb,h,Nat.le_refl _,by unfold maxLen;omega,by simp,by simp[EK.flat]⟩⟩
def Src {α:Type}(E:EK α)(w:World)(ao:Option Addr)(n cap:Nat)(l:List α):Prop:=l.length=n∧(ao=none→n=0∧cap=0)∧∀ ad,ao=some ad→∀ k y,l[k]?=some y→∀ j u,(E.enc y)[j]?=some u→w.cell? (ad.add (k*E.size+j))=some u
theorem RdL.src1 {α:Type}{P:World→Addr→α→Prop}{E:EK α}(v : α→Value)(hs:E.size=1)(hE:∀ a,E.enc a = [v a]){w:World}(hP:∀ x a,P w x a→w.cell? x=some (v a)){ao:Option Addr}{n cap:Nat}{l:List α}(h:RdL 1 P w (.slice ao n cap) l):Src E w ao n cap l:=by
 obtain⟨ac,n',cap',e,h1,_,_,h4,h5⟩:=h
 cases e
 refine⟨h1,h4,fun ad had k y hy j u hu=>?_⟩
 rw[hE] at hu
 have hj:j=0:=by
  cases j with
  | zero=>rfl
  | succ j=>simp at hu
 subst hj
 simp at hu
 subst hu
 rw[hs]
 exact hP _ y (h5 ad had k y hy)
theorem RdL.srcY {w:World}{ao:Option Addr}{n cap:Nat}{l:List UInt8}(h:RdL 1 YAt w (.slice ao n cap) l):Src ekY w ao n cap l:=RdL.src1 (E:=ekY) (fun b=>.int .u8 (b.toNat:Int)) rfl (fun _=>rfl) (fun _ _ h=>h) h
theorem RdL.srcU {w:World}{ao:Option Addr}{n cap:Nat}{l:List Nat}(h:RdL 1 UAt w (.slice ao n cap) l):Src ekU w ao n cap l:=RdL.src1 (E:=ekU) (fun n=>.int .u64 (n:Int)) rfl (fun _=>rfl) (fun _ _ h=>h) h
theorem D3t (w:World)(a:Option Addr)(l c:Nat):(binOp .eql 32 (.slice a l c) (.slice none 0 0)).run Tryz.prog w = .ok (.bool a.isNone) w:=
 run_eql_slice_nil w 32 5 a l c Tryz.underlying32
theorem A9h {w:World}{B0:Nat}(hB:B0≤w.heap.size){ao:Option Addr}{n cap:Nat}{l:List UInt8}(h:RdL 1 YAt w (.slice ao n cap) l)(hl:l.length≤140737488355328) :
  Calls Tryz.prog 77 #[.slice ao n cap] w fun e w'=>∃ p:PV,e = .returned p.v∧Row ekY w' B0 p.v l∧Below w.heap.size w w':=by
 obtain⟨h1,h2,h3⟩:=h.srcY
 have hnil:=D3t
 cases ao with
 | none=>
  obtain⟨rfl,rfl⟩:=h2 rfl
  obtain rfl:l = []:=List.eq_nil_of_length_eq_zero h1
  go_enter Tryz.func77,Tryz.ntmps77
  go_wp2
  go_ret
  exact⟨none,0,0,rfl,Row.nil _ _ _,Below.refl _ _⟩
 | some x=>
  obtain⟨W1,ac⟩:∃ W1,Hid (W1=w.alloc (.cells #[] 5)):=⟨_,rfl⟩
  have hb1:Below w.heap.size w W1:=by rw[ac.out];exact(Below.refl _ _).alloc (Nat.le_refl _) _
  have z1:w.heap.size+1≤W1.heap.size:=by rw[ac.out];simp
  have x1:W1.heap[w.heap.size]?=some (.cells #[] 5 (0,0)):=by rw[ac.out];exact heap_alloc_new _ _
  have hr1:Row ekY W1 B0 (.slice (some ⟨w.heap.size,0,none⟩) 0 0) []:=Row.empB ekY hB x1
  obtain⟨_,_,hc⟩:=(h.below YAt.stays hb1).srcY
  have hlen:(([]:List UInt8).length+l.length)*ekY.bytes≤140737488355328:=by show(0+l.length)*1≤_;omega
  clear h h3
  go_enter Tryz.func77,Tryz.ntmps77
  go_wp2_with (at_builtin;rw[←ac.out];refine A1s rfl ekY _ _ rfl B0 _ [] l rfl hr1 (some x) n cap rfl h1 h2 hc (by decide) hlen (by omega) ?_)
  intro v2 w2 hr2 hg2 hk2
  obtain⟨a2,n2,ag,rfl,ah⟩:=hr2.shape'
  go_wp2
  go_ret
  refine⟨(a2,n2,ag),rfl,hr2,⟨hg2.os.trans hb1.os,hg2.tape.trans hb1.tape,hg2.output.trans hb1.output,Nat.le_trans hb1.size hg2.size,fun k hk=>?_⟩⟩
  rw[hg2.block k (by omega) (fun e=>by simp[Value.ownBlock] at e;omega),hb1.block k hk]
theorem A8z {α:Type}{E:EK α}{w:World}{g:Nat}{cs:Array Value}{t:TypeId}{y0 : α}(h:w.heap[g]?=some (.cells cs t (0,0)))(hE:cs=(E.enc y0).toArray):∀ ad,(some ⟨g,0,none⟩:Option Addr)=some ad→∀ k y,[y0][k]?=some y→∀ j u,(E.enc y)[j]?=some u→w.cell? (ad.add (k*E.size+j))=some u:=by
 intro ad had k y hy j u hu
 cases had
 have hk:k=0:=by
  cases k with
  | zero=>rfl
  | succ k=>simp at hy
 subst hk
 simp at hy
 subst hy
 rw[A0d]
 refine A0a h _ u ?_
 rw[hE,List.getElem?_toArray,Nat.zero_mul,Nat.zero_add,Nat.zero_add]
 exact hu
theorem E3c (B0:Nat):Ent (fun w (z:List UInt8×PV)=>Row ekY w B0 z.2.v z.1) (fun _=>[]):=⟨fun _ _ _ _ h hf _=>h.frY hf,fun _ _ _ k hk=>by simp at hk⟩
theorem D3l {w:World}{B0:Nat}(hB:B0≤w.heap.size){vl:Value}{l:List (List UInt8)}(h:RdL 1 ZAt w vl l)(hl:l.length*24≤reachBytes)(hz:∀ z∈l,z.length*1≤reachBytes) :
  Calls Tryz.prog 76 #[vl,.func (.func 77) #[] #[]] w fun e w'=>∃ (p:PV) (l':List (List UInt8×PV)),e = .returned p.v∧Cop ekZ Prod.fst (fun w (z:List UInt8×PV)=>Row ekY w B0 z.2.v z.1) (fun _=>[]) w B0 l w' p l':=by
 obtain⟨ao,n,cap,rfl,Hn,aw⟩:=h.shape
 have hn:n*24≤reachBytes:=by rw[Hn.out];exact hl
 unfold reachBytes at hn hz
 go_enter Tryz.func76,Tryz.ntmps76
 go_wp2_with fail
 go_loopg [5,10] n (fun m s5 i wr=>∃ (k:Nat) (p:PV) (l':List (List UInt8×PV)),k+m=n∧i = .int .i64 k∧s5=p.v∧Cop ekZ Prod.fst (fun w (z:List UInt8×PV)=>Row ekY w B0 z.2.v z.1) (fun _=>[]) w B0 (l.take k) wr p l')
 case atStart=>exact⟨0,(none,0,0),[],by omega,rfl,rfl,Cop.nil w B0⟩
 case round=>
  obtain⟨k,p,l',hk,rfl,rfl,hc⟩:=hrel
  by_cases hlt:k<n
  ·obtain⟨z,Hz⟩:∃ z,Hid (l[k]?=some z):=⟨l[k]'(by rw[←Hn.out];exact hlt),List.getElem?_eq_getElem (by rw[←Hn.out];exact hlt)⟩
   obtain⟨b,off,rfl,hat⟩:=(h.below ZAt.stays hc.below).get ZAt.plain Hz.out
   obtain⟨vz,hz0,hz1⟩:=hat
   rw[Nat.mul_one] at hz0
   obtain⟨az,nz,cz,rfl,_,_⟩:=hz1.shape
   have bh:(k:Int)<(n:Int):=by omega
   have aj:=A9h (B0:=B0) (Nat.le_trans hB hc.below.size) hz1 (by have:=hz z (A3z Hz.out);omega)
   have HT:Hid (l.take (k+1)=l.take k++[z]):=by show _=_;rw[List.take_add_one,Hz.out];rfl
   have ah:Hid (l'.length=k):=by show _=_;rw[←List.length_map (f:=Prod.fst),hc.map,List.length_take,←Hn.out];omega
   obtain⟨ap,np,cp⟩:=p
   clear h hz hz1
   unfold PV.v at *
   go_wp2_with fail
   refine aj.mono ?_
   rintro e w1 ⟨pz,rfl,a8,hb1⟩
   obtain⟨aq,nq,cq⟩:=pz
   unfold PV.v at *
   obtain⟨W2,ag⟩:∃ W2,Hid (W2=w1.alloc (.cells #[.slice aq nq cq] 32)):=⟨_,rfl⟩
   have hb2:Below w1.heap.size w1 W2:=by rw[ag.out];exact(Below.refl _ _).alloc (Nat.le_refl _) _
   have x2:W2.heap[w1.heap.size]?=some (.cells #[.slice aq nq cq] 32 (0,0)):=by rw[ag.out];exact heap_alloc_new _ _
   have ac:Below wr.heap.size wr W2:=hb1.trans (hb2.mono hb1.size)
   have hrow2:Row ekZ W2 B0 (.slice ap np cp) l':=hc.row.below ac
   have ak:∀ ad,(some ⟨w1.heap.size,0,none⟩:Option Addr)=some ad→∀ k y,[((z,(aq,nq,cq)):List UInt8×PV)][k]?=some y→∀ j u,(ekZ.enc y)[j]?=some u→W2.cell? (ad.add (k*ekZ.size+j))=some u:=A8z x2 rfl
   have hlen:(l'.length + [((z,(aq,nq,cq)):List UInt8×PV)].length)*ekZ.bytes≤140737488355328:=by rw[ah.out];show(k+1)*24≤_;omega
   have au:B0≤W2.heap.size:=Nat.le_trans hB (Nat.le_trans hc.below.size ac.size)
   go_wp2_with (at_builtin;rw[←ag.out];refine A1s rfl ekZ _ _ rfl B0 _ l' [(z,(aq,nq,cq))] rfl hrow2 (some ⟨w1.heap.size,0,none⟩) 1 1 rfl rfl (fun h=>by cases h) ak (by decide) hlen au ?_)
   intro v3 w3 hr3 hg3 hk3
   obtain⟨a3,n3,c3,rfl,bg⟩:=hr3.shape'
   go_wp2_with fail
   go_roundg (n-(k+1))
   case measure=>omega
   case rel=>
    refine⟨k+1,(a3,n3,c3),l'++[(z,(aq,nq,cq))],by omega,by go_num,rfl,?_⟩
    rw[HT.out]
    exact hc.step (E3c B0) (by decide) rfl a8 (fun _ h=>by simp at h) List.nodup_nil hb1 hb2 (p3:=(a3,n3,c3)) hr3 hg3 hk3
  ·obtain rfl:k=n:=by omega
   have HT:Hid (l.take k=l):=by show _=_;exact List.take_of_length_le (by rw[←Hn.out];exact Nat.le_refl _)
   obtain⟨ap,np,cp⟩:=p
   rw[HT.out] at hc
   unfold PV.v
   go_wp2
   go_ret
   exact⟨(ap,np,cp),l',rfl,hc⟩
theorem BTr {A V V':World}(h:Below A.heap.size A V)(k:Below V.heap.size V V'):Below A.heap.size A V':=h.trans (k.mono h.size)
theorem A2q {B:Nat}{w x:World}{g i:Nat}{v:Value}(h:Below B w x)(hg:B≤g):Below B w (x.setCell ⟨g,i,none⟩ v):=
 ⟨h.os,h.tape,h.output,by simpa using h.size,fun k hk=>(Below.heap_setCell x ⟨g,i,none⟩ v k (show k≠g by omega)).trans (h.block k hk)⟩
theorem Row.set4 {α:Type}{E:EK α}{w:World}{base g i:Nat}{v:Value}{l:List α}{x:Value}(h:Row E w base v l)(hg:g<base):Row E (w.setCell ⟨g,i,none⟩ x) base v l:=h.other (fun e=>by have:=(h.own g e).1;omega) i x
theorem C6m {w:World}{B0:Nat}(hB:B0≤w.heap.size)(r:RI){ao:Option Addr}{n cap:Nat}(h:RdL 1 YAt w (.slice ao n cap) r.bytes)(hl:r.bytes.length≤140737488355328) :
  Calls Tryz.prog 75 #[.agg #[.int .i64 r.number,.int .i64 r.how,.int .u64 (r.bits:Int),.slice ao n cap]] w fun e w'=>∃ (a:Option Addr) (m c:Nat),e = .returned (.agg #[.int .i64 r.number,.int .i64 r.how,.int .u64 (r.bits:Int),.slice a m c])∧Row ekY w' B0 (.slice a m c) r.bytes∧Below w.heap.size w w':=by
 obtain⟨W2,ac⟩:∃ W2,Hid (W2=(w.alloc (.cells #[.int .i64 r.number,.int .i64 r.how,.int .u64 (r.bits:Int),.slice ao n cap] 106)).alloc (.cells #[.int .i64 0,.int .i64 0,.int .u64 0,.slice none 0 0] 106)):=⟨_,rfl⟩
 have hb2:Below w.heap.size w W2:=by rw[ac.out];exact((Below.refl _ _).alloc (Nat.le_refl _) _).alloc (by simp) _
 have z2:w.heap.size+2≤W2.heap.size:=by rw[ac.out];simp
 have x1:W2.heap[w.heap.size]?=some (.cells #[.int .i64 r.number,.int .i64 r.how,.int .u64 (r.bits:Int),.slice ao n cap] 106 (0,0)):=by rw[ac.out];exact A0l _ _ _
 have x2:W2.heap[w.heap.size+1]?=some (.cells #[.int .i64 0,.int .i64 0,.int .u64 0,.slice none 0 0] 106 (0,0)):=by rw[ac.out];exact A0i _ _ _
 have ag:=A9h (B0:=W2.heap.size) (Nat.le_refl _) (h.below YAt.stays hb2) hl
 clear h
 go_enter Tryz.func75,Tryz.ntmps75
 go_wp2_with fail
 rw[←ac.out]
 refine ag.mono ?_
 rintro e w3 ⟨⟨a,m,c⟩,rfl,hr3,hb3⟩
 unfold PV.v at *
 have hz3:=hb3.size
 have y1:=(hb3.block _ (by omega)).trans x1
 have y2:=(hb3.block _ (by omega)).trans x2
 have u0:w3.cell? ⟨w.heap.size,0,none⟩=some (.int .i64 r.number):=A0a y1 0 _ rfl
 have u1:w3.cell? ⟨w.heap.size,1,none⟩=some (.int .i64 r.how):=A0a y1 1 _ rfl
 have u2:w3.cell? ⟨w.heap.size,2,none⟩=some (.int .u64 (r.bits:Int)):=A0a y1 2 _ rfl
 have u3:w3.cell? ⟨w.heap.size,3,none⟩=some (.slice ao n cap):=A0a y1 3 _ rfl
 have f3:=A0b y1 3
 have q0:w3.cell? ⟨w.heap.size+1,0,none⟩=some (.int .i64 0):=A0a y2 0 _ rfl
 have q1:w3.cell? ⟨w.heap.size+1,1,none⟩=some (.int .i64 0):=A0a y2 1 _ rfl
 have q2:w3.cell? ⟨w.heap.size+1,2,none⟩=some (.int .u64 0):=A0a y2 2 _ rfl
 have q3:w3.cell? ⟨w.heap.size+1,3,none⟩=some (.slice none 0 0):=A0a y2 3 _ rfl
 have g0:=A0b y2 0
 have g1:=A0b y2 1
 have g2:=A0b y2 2
 have g3:=A0b y2 3
 have ah:¬ w.heap.size=w.heap.size+1:=by omega
 have aj:¬ w.heap.size+1=w.heap.size:=by omega
 go_wp2
 refine bodyPost_ret (v:=.agg #[.int .i64 r.number,.int .i64 r.how,.int .u64 (r.bits:Int),.slice a m c]) (by simp[results,Tryz.results75,go_sem, *]) rfl ?_
 refine⟨a,m,c,rfl,?_,?_⟩
 ·exact(((((hr3.set4 (by omega)).set4 (by omega)).set4 (by omega)).set4 (by omega)).set4 (by omega)).mono (by omega)
 ·exact A2q (A2q (A2q (A2q (A2q (BTr hb2 hb3) (by omega)) (by omega)) (by omega)) (by omega)) (by omega)
def BQ:(d:Nat)→World→Value→Value→BI d→Prop
 | 0=>fun _ _ _ _=>False
 | d+1=>fun w v0 v1 b=>BRd d w v0 v1 b
theorem BQ.of:∀ (d:Nat){w:World}{b o:Nat}{x:BI d},BAt d w ⟨b,o,none⟩ x→∃ v0 v1,w.cell? ⟨b,o,none⟩=some v0∧w.cell? ⟨b,o+1,none⟩=some v1∧BQ d w v0 v1 x
 | 0,_,_,_,_,h=>h.elim
 | _+1,_,_,_,_,h=>BAt.at h
theorem BRd.shape {d:Nat}{w:World}{v0 v1:Value}{b:BO (BI d)}(h:BRd d w v0 v1 b):∃ a0 n0 c0 a1 n1 c1,v0 = .slice a0 n0 c0∧v1 = .slice a1 n1 c1:=by
 obtain⟨a0,n0,c0,e0,_,_⟩:=h.1.shape
 obtain⟨a1,n1,c1,e1,_,_⟩:=h.2.shape
 exact⟨a0,n0,c0,a1,n1,c1,e0,e1⟩
theorem BQ.shape {d:Nat}{w:World}{v0 v1:Value}{b:BI d}(h:BQ d w v0 v1 b):∃ a0 n0 c0 a1 n1 c1,v0 = .slice a0 n0 c0∧v1 = .slice a1 n1 c1:=by
 cases d with
 | zero=>exact h.elim
 | succ d=>exact BRd.shape h
theorem BQ.below {d:Nat}{w w':World}{v0 v1:Value}{b:BI d}(h:BQ d w v0 v1 b)(hb:Below w.heap.size w w'):BQ d w' v0 v1 b:=by
 cases d with
 | zero=>exact h.elim
 | succ d=>exact BRd.below h hb
end L
end Go.Proofs.YtgaoojpakjjdnaaGreatDoor
