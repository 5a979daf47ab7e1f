import Derived.Test.YtgaoojpakjjdnaaGreatDoorV10
import Derived.Lib.LazyBuf
set_option maxHeartbeats 32000000
set_option maxRecDepth 100000
namespace Go.Proofs.YtgaoojpakjjdnaaGreatDoor
namespace L
open Go.RowKit
def A1g {α:Type}(f : α→Int):List α→Int
 | []=>0
 | a::l=>if f a=0 then A1g f l else f a
theorem A9c {α:Type}{f : α→Int}{l:List α}{k:Nat}{a : α}(ha:l[k]?=some a):A1g f (l.drop k)=if f a=0 then A1g f (l.drop (k+1)) else f a:=by
 obtain⟨hk,e⟩:=List.getElem?_eq_some_iff.1 ha
 rw[List.drop_eq_getElem_cons hk,e,A1g]
theorem A7n {α:Type}{f : α→Int}{l:List α}{k:Nat}(h:l.length≤k):A1g f (l.drop k)=0:=by
 rw[List.drop_of_length_le h];rfl
def cFI (x:FI):Array Value:=#[.string (S x.name),.int .i64 x.number,.int .i64 x.kind,.string (S x.type),.bool x.many,.int .i64 x.choice]
theorem C7l {w:World}{c:Nat}{x:FI}(hc:w.heap[c]?=some (.cells (cFI x) 40 (0,0)))(n:Nat)(hn:n<18446744073709551616) :
  Calls Tryz.prog 128 #[.int .u64 (n:Int),.pointer (some ⟨c,0,none⟩)] w fun e w'=>e = .returned (.int .i64 (A2h x.kind n))∧Below w.heap.size w w':=by
 have c2:w.cell? ⟨c,2,none⟩=some (.int .i64 x.kind):=A0a hc 2 _ rfl
 have ac:c<w.heap.size:=(Array.getElem?_eq_some_iff.1 hc).1
 have hf:=D1t (w:=w) x.kind n hn
 go_enter Tryz.func128,Tryz.ntmps128
 go_wp2_with fail
 refine hf.mono ?_
 rintro e w1 ⟨rfl,rfl⟩
 go_wp2
 go_ret
 exact⟨rfl,Below.refl _ _⟩
theorem D1s {v:Value}{l:List Nat}{w:World}{c:Nat}{x:FI}(h:RdL 1 UAt w v l)(hu:∀ n∈l,n<18446744073709551616)(hc:w.heap[c]?=some (.cells (cFI x) 40 (0,0))) :
  Calls Tryz.prog 127 #[v,.func (.func 128) #[] #[.pointer (some ⟨c,0,none⟩)]] w fun e w'=>e = .returned (.int .i64 (A1g (A2h x.kind) l))∧Below w.heap.size w w':=by
 obtain⟨ao,n,cap,rfl,Hn,ag⟩:=h.shape
 obtain⟨R,HR⟩:∃ R,Hid (R=A1g (A2h x.kind) l):=⟨_,rfl⟩
 rw[←HR.out]
 go_enter Tryz.func127,Tryz.ntmps127
 go_wp2_with fail
 go_loopg [10] n (fun m i wr=>∃ k:Nat,k+m=n∧i = .int .i64 k∧Hid (R=A1g (A2h x.kind) (l.drop k))∧Below w.heap.size w wr)
 case atStart=>exact⟨0,by omega,rfl,HR,Below.refl _ _⟩
 case round=>
  obtain⟨k,hk,rfl,HK,hb⟩:=hrel
  have ah:=(hb.block c (Array.getElem?_eq_some_iff.1 hc).1).trans hc
  by_cases hlt:k<n
  ·obtain⟨a,Ha⟩:∃ a,Hid (l[k]?=some a):=⟨l[k]'(by rw[←Hn.out];exact hlt),List.getElem?_eq_getElem (by rw[←Hn.out];exact hlt)⟩
   obtain⟨b,off,rfl,hat⟩:=(h.below UAt.stays hb).get UAt.plain Ha.out
   have hat:wr.cell? ⟨b,off+k,none⟩=some (.int .u64 (a:Int)):=by simpa [UAt] using hat
   have aj:(k:Int)<(n:Int):=by omega
   have ac:=C7l ah a (hu a (A3u Ha.out))
   have hst:=A9c (f:=A2h x.kind) Ha.out
   generalize hF:A2h x.kind a=F at ac hst
   by_cases hz:F=0
   ·have HX:Hid (R=A1g (A2h x.kind) (l.drop (k+1))):=by
     show _=_
     rw[HK.out,hst,if_pos hz]
    have ez:(F != 0)=false:=by simp[hz]
    clear hst hF hz
    go_wp2_with fail
    refine ac.mono ?_
    rintro e w1 ⟨rfl,hb1⟩
    go_wp2_with fail
    go_roundg (n-(k+1))
    case measure=>omega
    case rel=>exact⟨k+1,by omega,by go_num,HX,hb.trans (hb1.mono hb.size)⟩
   ·have HX:Hid (R=F):=by
     show _=_
     rw[HK.out,hst,if_neg hz]
    have ez:(F != 0)=true:=by simpa using hz
    clear hst hF hz
    go_wp2_with fail
    refine ac.mono ?_
    rintro e w1 ⟨rfl,hb1⟩
    go_wp2
    go_ret
    exact⟨by rw[HX.out];rfl,hb.trans (hb1.mono hb.size)⟩
  ·have HX:Hid (R=0):=by
    show _=_
    rw[HK.out]
    exact A7n (by rw[←Hn.out];omega)
   go_wp2
   go_ret
   exact⟨by rw[HX.out];rfl,hb⟩
theorem C3t {β:Type}{w:World}(x:FI)(v:VI β){a1 a2 a3:Option Addr}{n1 n2 n3 c1 c2 c3:Nat}(h1:RdL 1 UAt w (.slice a1 n1 c1) v.bits)(hu:∀ n∈v.bits,n<18446744073709551616) :
  Calls Tryz.prog 126 #[vFI x,.agg #[.int .i64 v.number,.slice a1 n1 c1,.slice a2 n2 c2,.slice a3 n3 c3]] w fun e w'=>e = .returned (.int .i64 (A1g (A2h x.kind) v.bits))∧Below w.heap.size w w':=by
 have hb2:Below w.heap.size w ((w.alloc (.cells (cFI x) 40)).alloc (.cells #[.int .i64 v.number,.slice a1 n1 c1,.slice a2 n2 c2,.slice a3 n3 c3] 62)):=((Below.refl _ _).alloc (Nat.le_refl _) _).alloc (by simp) _
 have hi:=D1s (x:=x) (h1.below UAt.stays hb2) hu (A0o w _ _)
 have ac:=A4j
 unfold cFI at hb2 hi
 unfold vFI
 go_enter Tryz.func126,Tryz.ntmps126
 go_wp2_with fail
 refine hi.mono ?_
 rintro e w1 ⟨rfl,hb1⟩
 go_wp2
 go_ret
 exact⟨rfl,hb2.trans (hb1.mono hb2.size)⟩
theorem Row.empB {α:Type}(E:EK α){w:World}{base g:Nat}(hb:base≤g)(h:w.heap[g]?=some (.cells #[] E.elem (0,0))):Row E w base (.slice (some ⟨g,0,none⟩) 0 0) []:=
 ⟨by simp[EK.flat],.inr ⟨g,0,#[],rfl,hb,h,Nat.le_refl _,by unfold maxLen;omega,by simp,by simp[EK.flat]⟩⟩
def Src {α:Type}(E:EK α)(w:World)(ao:Option Addr)(n cap:Nat)(l:List α):Prop:=l.length=n∧(ao=none→n=0∧cap=0)∧∀ ad,ao=some ad→∀ k y,l[k]?=some y→∀ j u,(E.enc y)[j]?=some u→w.cell? (ad.add (k*E.size+j))=some u
theorem RdL.src1 {α:Type}{P:World→Addr→α→Prop}{E:EK α}(v : α→Value)(hs:E.size=1)(hE:∀ a,E.enc a = [v a]){w:World}(hP:∀ x a,P w x a→w.cell? x=some (v a)){ao:Option Addr}{n cap:Nat}{l:List α}(h:RdL 1 P w (.slice ao n cap) l):Src E w ao n cap l:=by
 obtain⟨ac,n',cap',e,h1,_,_,h4,h5⟩:=h
 cases e
 refine⟨h1,h4,fun ad had k y hy j u hu=>?_⟩
 rw[hE] at hu
 have hj:j=0:=by
  cases j with
  | zero=>rfl
  | succ j=>simp at hu
 subst hj
 simp at hu
 subst hu
 rw[hs]
 exact hP _ y (h5 ad had k y hy)
theorem RdL.srcY {w:World}{ao:Option Addr}{n cap:Nat}{l:List UInt8}(h:RdL 1 YAt w (.slice ao n cap) l):Src ekY w ao n cap l:=RdL.src1 (E:=ekY) (fun b=>.int .u8 (b.toNat:Int)) rfl (fun _=>rfl) (fun _ _ h=>h) h
theorem RdL.srcU {w:World}{ao:Option Addr}{n cap:Nat}{l:List Nat}(h:RdL 1 UAt w (.slice ao n cap) l):Src ekU w ao n cap l:=RdL.src1 (E:=ekU) (fun n=>.int .u64 (n:Int)) rfl (fun _=>rfl) (fun _ _ h=>h) h
theorem D1q (w:World)(a:Option Addr)(l c:Nat):(binOp .eql 32 (.slice a l c) (.slice none 0 0)).run Tryz.prog w = .ok (.bool a.isNone) w:=
 run_eql_slice_nil w 32 5 a l c Tryz.underlying32
theorem A8w {w:World}{B0:Nat}(hB:B0≤w.heap.size){ao:Option Addr}{n cap:Nat}{l:List UInt8}(h:RdL 1 YAt w (.slice ao n cap) l)(hl:l.length≤140737488355328) :
  Calls Tryz.prog 77 #[.slice ao n cap] w fun e w'=>∃ p:PV,e = .returned p.v∧Row ekY w' B0 p.v l∧Below w.heap.size w w':=by
 obtain⟨h1,h2,h3⟩:=h.srcY
 have hnil:=D1q
 cases ao with
 | none=>
  obtain⟨rfl,rfl⟩:=h2 rfl
  obtain rfl:l = []:=List.eq_nil_of_length_eq_zero h1
  go_enter Tryz.func77,Tryz.ntmps77
  go_wp2
  go_ret
  exact⟨none,0,0,rfl,Row.nil _ _ _,Below.refl _ _⟩
 | some x=>
  obtain⟨W1,ac⟩:∃ W1,Hid (W1=w.alloc (.cells #[] 5)):=⟨_,rfl⟩
  have hb1:Below w.heap.size w W1:=by rw[ac.out];exact(Below.refl _ _).alloc (Nat.le_refl _) _
  have z1:w.heap.size+1≤W1.heap.size:=by rw[ac.out];simp
  have x1:W1.heap[w.heap.size]?=some (.cells #[] 5 (0,0)):=by rw[ac.out];exact heap_alloc_new _ _
  have hr1:Row ekY W1 B0 (.slice (some ⟨w.heap.size,0,none⟩) 0 0) []:=Row.empB ekY hB x1
  obtain⟨_,_,hc⟩:=(h.below YAt.stays hb1).srcY
  have hlen:(([]:List UInt8).length+l.length)*ekY.bytes≤140737488355328:=by show(0+l.length)*1≤_;omega
  clear h h3
  go_enter Tryz.func77,Tryz.ntmps77
  go_wp2_with (at_builtin;rw[←ac.out];refine A1s rfl ekY _ _ rfl B0 _ [] l rfl hr1 (some x) n cap rfl h1 h2 hc (by decide) hlen (by omega) ?_)
  intro v2 w2 hr2 hg2 hk2
  obtain⟨a2,n2,ag,rfl,ah⟩:=hr2.shape'
  go_wp2
  go_ret
  refine⟨(a2,n2,ag),rfl,hr2,⟨hg2.os.trans hb1.os,hg2.tape.trans hb1.tape,hg2.output.trans hb1.output,Nat.le_trans hb1.size hg2.size,fun k hk=>?_⟩⟩
  rw[hg2.block k (by omega) (fun e=>by simp[Value.ownBlock] at e;omega),hb1.block k hk]
theorem A8o {α:Type}{E:EK α}{w:World}{g:Nat}{cs:Array Value}{t:TypeId}{y0 : α}(h:w.heap[g]?=some (.cells cs t (0,0)))(hE:cs=(E.enc y0).toArray):∀ ad,(some ⟨g,0,none⟩:Option Addr)=some ad→∀ k y,[y0][k]?=some y→∀ j u,(E.enc y)[j]?=some u→w.cell? (ad.add (k*E.size+j))=some u:=by
 intro ad had k y hy j u hu
 cases had
 have hk:k=0:=by
  cases k with
  | zero=>rfl
  | succ k=>simp at hy
 subst hk
 simp at hy
 subst hy
 rw[A0e]
 refine A0a h _ u ?_
 rw[hE,List.getElem?_toArray,Nat.zero_mul,Nat.zero_add,Nat.zero_add]
 exact hu
theorem D9y (B0:Nat):Ent (fun w (z:List UInt8×PV)=>Row ekY w B0 z.2.v z.1) (fun _=>[]):=⟨fun _ _ _ _ h hf _=>h.frY hf,fun _ _ _ k hk=>by simp at hk⟩
theorem D1l {w:World}{B0:Nat}(hB:B0≤w.heap.size){vl:Value}{l:List (List UInt8)}(h:RdL 1 ZAt w vl l)(hl:l.length*24≤reachBytes)(hz:∀ z∈l,z.length*1≤reachBytes) :
  Calls Tryz.prog 76 #[vl,.func (.func 77) #[] #[]] w fun e w'=>∃ (p:PV) (l':List (List UInt8×PV)),e = .returned p.v∧Cop ekZ Prod.fst (fun w (z:List UInt8×PV)=>Row ekY w B0 z.2.v z.1) (fun _=>[]) w B0 l w' p l':=by
 obtain⟨ao,n,cap,rfl,Hn,aw⟩:=h.shape
 have hn:n*24≤reachBytes:=by rw[Hn.out];exact hl
 unfold reachBytes at hn hz
 go_enter Tryz.func76,Tryz.ntmps76
 go_wp2_with fail
 go_loopg [5,10] n (fun m s5 i wr=>∃ (k:Nat) (p:PV) (l':List (List UInt8×PV)),k+m=n∧i = .int .i64 k∧s5=p.v∧Cop ekZ Prod.fst (fun w (z:List UInt8×PV)=>Row ekY w B0 z.2.v z.1) (fun _=>[]) w B0 (l.take k) wr p l')
 case atStart=>exact⟨0,(none,0,0),[],by omega,rfl,rfl,Cop.nil w B0⟩
 case round=>
  obtain⟨k,p,l',hk,rfl,rfl,hc⟩:=hrel
  by_cases hlt:k<n
  ·obtain⟨z,Hz⟩:∃ z,Hid (l[k]?=some z):=⟨l[k]'(by rw[←Hn.out];exact hlt),List.getElem?_eq_getElem (by rw[←Hn.out];exact hlt)⟩
   obtain⟨b,off,rfl,hat⟩:=(h.below ZAt.stays hc.below).get ZAt.plain Hz.out
   obtain⟨vz,hz0,hz1⟩:=hat
   rw[Nat.mul_one] at hz0
   obtain⟨az,nz,cz,rfl,_,_⟩:=hz1.shape
   have bg:(k:Int)<(n:Int):=by omega
   have aj:=A8w (B0:=B0) (Nat.le_trans hB hc.below.size) hz1 (by have:=hz z (A3u Hz.out);omega)
   have HT:Hid (l.take (k+1)=l.take k++[z]):=by show _=_;rw[List.take_add_one,Hz.out];rfl
   have ah:Hid (l'.length=k):=by show _=_;rw[←List.length_map (f:=Prod.fst),hc.map,List.length_take,←Hn.out];omega
   obtain⟨ap,np,cp⟩:=p
   clear h hz hz1
   unfold PV.v at *
   go_wp2_with fail
   refine aj.mono ?_
   rintro e w1 ⟨pz,rfl,ba,hb1⟩
   obtain⟨aq,nq,cq⟩:=pz
   unfold PV.v at *
   obtain⟨W2,ag⟩:∃ W2,Hid (W2=w1.alloc (.cells #[.slice aq nq cq] 32)):=⟨_,rfl⟩
   have hb2:Below w1.heap.size w1 W2:=by rw[ag.out];exact(Below.refl _ _).alloc (Nat.le_refl _) _
   have x2:W2.heap[w1.heap.size]?=some (.cells #[.slice aq nq cq] 32 (0,0)):=by rw[ag.out];exact heap_alloc_new _ _
   have ac:Below wr.heap.size wr W2:=hb1.trans (hb2.mono hb1.size)
   have hrow2:Row ekZ W2 B0 (.slice ap np cp) l':=hc.row.below ac
   have ak:∀ ad,(some ⟨w1.heap.size,0,none⟩:Option Addr)=some ad→∀ k y,[((z,(aq,nq,cq)):List UInt8×PV)][k]?=some y→∀ j u,(ekZ.enc y)[j]?=some u→W2.cell? (ad.add (k*ekZ.size+j))=some u:=A8o x2 rfl
   have hlen:(l'.length + [((z,(aq,nq,cq)):List UInt8×PV)].length)*ekZ.bytes≤140737488355328:=by rw[ah.out];show(k+1)*24≤_;omega
   have au:B0≤W2.heap.size:=Nat.le_trans hB (Nat.le_trans hc.below.size ac.size)
   go_wp2_with (at_builtin;rw[←ag.out];refine A1s rfl ekZ _ _ rfl B0 _ l' [(z,(aq,nq,cq))] rfl hrow2 (some ⟨w1.heap.size,0,none⟩) 1 1 rfl rfl (fun h=>by cases h) ak (by decide) hlen au ?_)
   intro v3 w3 hr3 hg3 hk3
   obtain⟨a3,n3,c3,rfl,bc⟩:=hr3.shape'
   go_wp2_with fail
   go_roundg (n-(k+1))
   case measure=>omega
   case rel=>
    refine⟨k+1,(a3,n3,c3),l'++[(z,(aq,nq,cq))],by omega,by go_num,rfl,?_⟩
    rw[HT.out]
    exact hc.step (D9y B0) (by decide) rfl ba (fun _ h=>by simp at h) List.nodup_nil hb1 hb2 (p3:=(a3,n3,c3)) hr3 hg3 hk3
  ·obtain rfl:k=n:=by omega
   have HT:Hid (l.take k=l):=by show _=_;exact List.take_of_length_le (by rw[←Hn.out];exact Nat.le_refl _)
   obtain⟨ap,np,cp⟩:=p
   rw[HT.out] at hc
   unfold PV.v
   go_wp2
   go_ret
   exact⟨(ap,np,cp),l',rfl,hc⟩
theorem BTr {A V V':World}(h:Below A.heap.size A V)(k:Below V.heap.size V V'):Below A.heap.size A V':=h.trans (k.mono h.size)
theorem A2w {B:Nat}{w x:World}{g i:Nat}{v:Value}(h:Below B w x)(hg:B≤g):Below B w (x.setCell ⟨g,i,none⟩ v):=
 ⟨h.os,h.tape,h.output,by simpa using h.size,fun k hk=>(Below.heap_setCell x ⟨g,i,none⟩ v k (show k≠g by omega)).trans (h.block k hk)⟩
theorem Row.set4 {α:Type}{E:EK α}{w:World}{base g i:Nat}{v:Value}{l:List α}{x:Value}(h:Row E w base v l)(hg:g<base):Row E (w.setCell ⟨g,i,none⟩ x) base v l:=h.other (fun e=>by have:=(h.own g e).1;omega) i x
theorem C5j {w:World}{B0:Nat}(hB:B0≤w.heap.size)(r:RI){ao:Option Addr}{n cap:Nat}(h:RdL 1 YAt w (.slice ao n cap) r.bytes)(hl:r.bytes.length≤140737488355328) :
  Calls Tryz.prog 75 #[.agg #[.int .i64 r.number,.int .i64 r.how,.int .u64 (r.bits:Int),.slice ao n cap]] w fun e w'=>∃ (a:Option Addr) (m c:Nat),e = .returned (.agg #[.int .i64 r.number,.int .i64 r.how,.int .u64 (r.bits:Int),.slice a m c])∧Row ekY w' B0 (.slice a m c) r.bytes∧Below w.heap.size w w':=by
 obtain⟨W2,ac⟩:∃ W2,Hid (W2=(w.alloc (.cells #[.int .i64 r.number,.int .i64 r.how,.int .u64 (r.bits:Int),.slice ao n cap] 106)).alloc (.cells #[.int .i64 0,.int .i64 0,.int .u64 0,.slice none 0 0] 106)):=⟨_,rfl⟩
 have hb2:Below w.heap.size w W2:=by rw[ac.out];exact((Below.refl _ _).alloc (Nat.le_refl _) _).alloc (by simp) _
 have z2:w.heap.size+2≤W2.heap.size:=by rw[ac.out];simp
 have x1:W2.heap[w.heap.size]?=some (.cells #[.int .i64 r.number,.int .i64 r.how,.int .u64 (r.bits:Int),.slice ao n cap] 106 (0,0)):=by rw[ac.out];exact A0o _ _ _
 have x2:W2.heap[w.heap.size+1]?=some (.cells #[.int .i64 0,.int .i64 0,.int .u64 0,.slice none 0 0] 106 (0,0)):=by rw[ac.out];exact A0j _ _ _
 have ag:=A8w (B0:=W2.heap.size) (Nat.le_refl _) (h.below YAt.stays hb2) hl
 clear h
 go_enter Tryz.func75,Tryz.ntmps75
 go_wp2_with fail
 rw[←ac.out]
 refine ag.mono ?_
 rintro e w3 ⟨⟨a,m,c⟩,rfl,hr3,hb3⟩
 unfold PV.v at *
 have hz3:=hb3.size
 have y1:=(hb3.block _ (by omega)).trans x1
 have y2:=(hb3.block _ (by omega)).trans x2
 have u0:w3.cell? ⟨w.heap.size,0,none⟩=some (.int .i64 r.number):=A0a y1 0 _ rfl
 have u1:w3.cell? ⟨w.heap.size,1,none⟩=some (.int .i64 r.how):=A0a y1 1 _ rfl
 have u2:w3.cell? ⟨w.heap.size,2,none⟩=some (.int .u64 (r.bits:Int)):=A0a y1 2 _ rfl
 have u3:w3.cell? ⟨w.heap.size,3,none⟩=some (.slice ao n cap):=A0a y1 3 _ rfl
 have f3:=A0b y1 3
 have q0:w3.cell? ⟨w.heap.size+1,0,none⟩=some (.int .i64 0):=A0a y2 0 _ rfl
 have q1:w3.cell? ⟨w.heap.size+1,1,none⟩=some (.int .i64 0):=A0a y2 1 _ rfl
 have q2:w3.cell? ⟨w.heap.size+1,2,none⟩=some (.int .u64 0):=A0a y2 2 _ rfl
 have q3:w3.cell? ⟨w.heap.size+1,3,none⟩=some (.slice none 0 0):=A0a y2 3 _ rfl
 have g0:=A0b y2 0
 have g1:=A0b y2 1
 have g2:=A0b y2 2
 have g3:=A0b y2 3
 have ah:¬ w.heap.size=w.heap.size+1:=by omega
 have aj:¬ w.heap.size+1=w.heap.size:=by omega
 go_wp2
 refine bodyPost_ret (v:=.agg #[.int .i64 r.number,.int .i64 r.how,.int .u64 (r.bits:Int),.slice a m c]) (by simp[results,Tryz.results75,go_sem, *]) rfl ?_
 refine⟨a,m,c,rfl,?_,?_⟩
 ·exact(((((hr3.set4 (by omega)).set4 (by omega)).set4 (by omega)).set4 (by omega)).set4 (by omega)).mono (by omega)
 ·exact A2w (A2w (A2w (A2w (A2w (BTr hb2 hb3) (by omega)) (by omega)) (by omega)) (by omega)) (by omega)
def BQ:(d:Nat)→World→Value→Value→BI d→Prop
 | 0=>fun _ _ _ _=>False
 | d+1=>fun w v0 v1 b=>BRd d w v0 v1 b
theorem BQ.of:∀ (d:Nat){w:World}{b o:Nat}{x:BI d},BAt d w ⟨b,o,none⟩ x→∃ v0 v1,w.cell? ⟨b,o,none⟩=some v0∧w.cell? ⟨b,o+1,none⟩=some v1∧BQ d w v0 v1 x
 | 0,_,_,_,_,h=>h.elim
 | _+1,_,_,_,_,h=>BAt.at h
theorem BRd.shape {d:Nat}{w:World}{v0 v1:Value}{b:BO (BI d)}(h:BRd d w v0 v1 b):∃ a0 n0 c0 a1 n1 c1,v0 = .slice a0 n0 c0∧v1 = .slice a1 n1 c1:=by
 obtain⟨a0,n0,c0,e0,_,_⟩:=h.1.shape
 obtain⟨a1,n1,c1,e1,_,_⟩:=h.2.shape
 exact⟨a0,n0,c0,a1,n1,c1,e0,e1⟩
theorem BQ.shape {d:Nat}{w:World}{v0 v1:Value}{b:BI d}(h:BQ d w v0 v1 b):∃ a0 n0 c0 a1 n1 c1,v0 = .slice a0 n0 c0∧v1 = .slice a1 n1 c1:=by
 cases d with
 | zero=>exact h.elim
 | succ d=>exact BRd.shape h
theorem BQ.below {d:Nat}{w w':World}{v0 v1:Value}{b:BI d}(h:BQ d w v0 v1 b)(hb:Below w.heap.size w w'):BQ d w' v0 v1 b:=by
 cases d with
 | zero=>exact h.elim
 | succ d=>exact BRd.below h hb
theorem D9x (B0:Nat):Ent (fun w (r:RI×PV)=>Row ekY w B0 r.2.v r.1.bytes) (fun _=>[]):=⟨fun _ _ _ _ h hf _=>h.frY hf,fun _ _ _ k hk=>by simp at hk⟩
theorem D9w (B0 d:Nat):Ent (OwnB B0 d) (LB.fp d):=⟨fun F w w' a=>OwnB.fr d F w w' a,fun _ _ h k hk=>(OwnB.inB d h k hk).2⟩
theorem D8h (B0 d:Nat):Ent (fun w (v:VL (LB d))=>OwnV (ekB d) (OwnB B0 d) w B0 v) (VL.fp (LB.fp d)):=⟨fun _ _ _ _ h hf hd=>h.fr (OwnB.fr d) hf hd,fun _ _ h k hk=>(h.inB (fun _ _ hs=>OwnB.inB d hs) k hk).2⟩
theorem D1j {w:World}{B0:Nat}(hB:B0≤w.heap.size){vl:Value}{l:List (RI)}(h:RdL 4 RAt w vl l)(hl:l.length*48≤reachBytes){fn:Nat}(bq:∀ (args:Array Value) (w:World),(callFunc fn args).run Tryz.prog w = .ok (.enter fn args) w)
  (aj:∀ W,Below w.heap.size w W→∀ a∈l,∀ (ay:Option Addr) (ny cy:Nat),RdL 1 YAt W (.slice ay ny cy) a.bytes→Calls Tryz.prog fn #[.agg #[.int .i64 a.number,.int .i64 a.how,.int .u64 (a.bits:Int),.slice ay ny cy]] W fun e W'=>∃ (a':RI×PV) (q0 q1 q2:Int) (ax:Option Addr) (nx cx:Nat),ekR.enc a' = [.int .i64 q0,.int .i64 q1,.int .u64 q2,.slice ax nx cx]∧e = .returned (.agg #[.int .i64 q0,.int .i64 q1,.int .u64 q2,.slice ax nx cx])∧Prod.fst a'=a∧(fun w (r:RI×PV)=>Row ekY w B0 r.2.v r.1.bytes) W' a'∧(∀ k∈(fun(_:RI×PV)=>([]:List Nat)) a',W.heap.size≤k)∧((fun(_:RI×PV)=>([]:List Nat)) a').Nodup∧Below W.heap.size W W') :
  Calls Tryz.prog 74 #[vl,.func (.func fn) #[] #[]] w fun e w'=>∃ (p:PV) (l':List (RI×PV)),e = .returned p.v∧Cop (ekR) (Prod.fst) ((fun w (r:RI×PV)=>Row ekY w B0 r.2.v r.1.bytes)) ((fun(_:RI×PV)=>([]:List Nat))) w B0 l w' p l':=by
 obtain⟨ao,n,cap,rfl,Hn,bp⟩:=h.shape
 have hn:n*48≤reachBytes:=by rw[Hn.out];exact hl
 unfold reachBytes at hn
 go_enter Tryz.func74,Tryz.ntmps74
 go_wp2_with fail
 go_loopg [5,10] n (fun m s5 i wr=>∃ (k:Nat) (p:PV) (l':List (RI×PV)),k+m=n∧i = .int .i64 k∧s5=p.v∧Cop (ekR) (Prod.fst) ((fun w (r:RI×PV)=>Row ekY w B0 r.2.v r.1.bytes)) ((fun(_:RI×PV)=>([]:List Nat))) w B0 (l.take k) wr p l')
 case atStart=>exact⟨0,(none,0,0),[],by omega,rfl,rfl,Cop.nil w B0⟩
 case round=>
  obtain⟨k,p,l',hk,rfl,rfl,hc⟩:=hrel
  by_cases hlt:k<n
  ·obtain⟨z,Hz⟩:∃ z,Hid (l[k]?=some z):=⟨l[k]'(by rw[←Hn.out];exact hlt),List.getElem?_eq_getElem (by rw[←Hn.out];exact hlt)⟩
   obtain⟨b,off,rfl,hat⟩:=(h.below RAt.stays hc.below).get RAt.plain Hz.out
   obtain⟨vy,s0,s1,s2,s3,bk⟩:=hat.at
   obtain⟨ay,ny,cy,rfl,_,_⟩:=bk.shape
   have bu:(k:Int)<(n:Int):=by omega
   have HT:Hid (l.take (k+1)=l.take k++[z]):=by show _=_;rw[List.take_add_one,Hz.out];rfl
   have au:Hid (l'.length=k):=by show _=_;rw[←List.length_map (f:=Prod.fst),hc.map,List.length_take,←Hn.out];omega
   obtain⟨ap,np,cp⟩:=p
   obtain⟨W1,bg⟩:∃ W1,Hid (W1=wr.alloc (.cells #[.int .i64 z.number,.int .i64 z.how,.int .u64 (z.bits:Int),.slice ay ny cy] 106)):=⟨_,rfl⟩
   have hb1:Below wr.heap.size wr W1:=by rw[bg.out];exact(Below.refl _ _).alloc (Nat.le_refl _) _
   have ac:=aj W1 (BTr hc.below hb1) z (A3u Hz.out) ay ny cy (bk.below YAt.stays hb1)
   clear h aj
   unfold PV.v at *
   go_wp2_with fail
   rw[←bg.out]
   refine ac.mono ?_
   rintro e w2 ⟨a',q0,q1,q2,ax,nx,cx,aw,rfl,her,hO,bh,br,hb2⟩
   obtain⟨W3,ak⟩:∃ W3,Hid (W3=w2.alloc (.cells #[.int .i64 q0,.int .i64 q1,.int .u64 q2,.slice ax nx cx] 106)):=⟨_,rfl⟩
   have hb3:Below w2.heap.size w2 W3:=by rw[ak.out];exact(Below.refl _ _).alloc (Nat.le_refl _) _
   have x3:W3.heap[w2.heap.size]?=some (.cells #[.int .i64 q0,.int .i64 q1,.int .u64 q2,.slice ax nx cx] 106 (0,0)):=by rw[ak.out];exact heap_alloc_new _ _
   have ag:Below wr.heap.size wr w2:=BTr hb1 hb2
   have ah:Below wr.heap.size wr W3:=BTr ag hb3
   have hrow3:Row (ekR) W3 B0 (.slice ap np cp) l':=hc.row.below ah
   have bc:∀ ad,(some ⟨w2.heap.size,0,none⟩:Option Addr)=some ad→∀ k y,[a'][k]?=some y→∀ j u,((ekR).enc y)[j]?=some u→W3.cell? (ad.add (k*(ekR).size+j))=some u:=A8o x3 (by rw[aw])
   have hlen:(l'.length + [a'].length)*(ekR).bytes≤140737488355328:=by rw[au.out];show(k+1)*48≤_;omega
   have bn:B0≤W3.heap.size:=Nat.le_trans hB (Nat.le_trans hc.below.size ah.size)
   have ba:∀ k∈((fun(_:RI×PV)=>([]:List Nat))) a',wr.heap.size≤k:=fun k hk=>Nat.le_trans hb1.size (bh k hk)
   clear ac x3 bh
   go_wp2_with (at_builtin;rw[←ak.out];refine A1s rfl (ekR) _ _ rfl B0 _ l' [a'] rfl hrow3 (some ⟨w2.heap.size,0,none⟩) 1 1 rfl rfl (fun h=>by cases h) bc (show 1≤48 by omega) hlen bn ?_)
   intro v4 w4 hr4 hg4 hk4
   obtain⟨a4,n4,c4,rfl,bt⟩:=hr4.shape'
   go_wp2_with fail
   go_roundg (n-(k+1))
   case measure=>omega
   case rel=>
    refine⟨k+1,(a4,n4,c4),l'++[a'],by omega,by go_num,rfl,?_⟩
    rw[HT.out]
    exact hc.step (D9x B0) (by show(106:TypeId)≠5;decide) her hO ba br ag hb3 (p3:=(a4,n4,c4)) hr4 hg4 hk4
  ·obtain rfl:k=n:=by omega
   have HT:Hid (l.take k=l):=by show _=_;exact List.take_of_length_le (by rw[←Hn.out];exact Nat.le_refl _)
   obtain⟨ap,np,cp⟩:=p
   rw[HT.out] at hc
   unfold PV.v
   go_wp2
   go_ret
   exact⟨(ap,np,cp),l',rfl,hc⟩
theorem D1i {d:Nat}{w:World}{B0:Nat}(hB:B0≤w.heap.size){vl:Value}{l:List (BI d)}(h:RdL 2 (BAt d) w vl l)(hl:l.length*48≤reachBytes){fn:Nat}(bp:∀ (args:Array Value) (w:World),(callFunc fn args).run Tryz.prog w = .ok (.enter fn args) w)
  (aj:∀ W,Below w.heap.size w W→∀ a∈l,∀ (a0:Option Addr) (n0 c0:Nat) (a1:Option Addr) (n1 c1:Nat),BQ d W (.slice a0 n0 c0) (.slice a1 n1 c1) a→Calls Tryz.prog fn #[.agg #[.slice a0 n0 c0,.slice a1 n1 c1]] W fun e W'=>∃ (a':LB d) (x0:Option Addr) (y0 z0:Nat) (x1:Option Addr) (y1 z1:Nat),(ekB d).enc a' = [.slice x0 y0 z0,.slice x1 y1 z1]∧e = .returned (.agg #[.slice x0 y0 z0,.slice x1 y1 z1])∧(LB.pl d) a'=a∧(OwnB B0 d) W' a'∧(∀ k∈(LB.fp d) a',W.heap.size≤k)∧((LB.fp d) a').Nodup∧Below W.heap.size W W') :
  Calls Tryz.prog 78 #[vl,.func (.func fn) #[] #[]] w fun e w'=>∃ (p:PV) (l':List (LB d)),e = .returned p.v∧Cop ((ekB d)) ((LB.pl d)) ((OwnB B0 d)) ((LB.fp d)) w B0 l w' p l':=by
 obtain⟨ao,n,cap,rfl,Hn,bn⟩:=h.shape
 have hn:n*48≤reachBytes:=by rw[Hn.out];exact hl
 unfold reachBytes at hn
 go_enter Tryz.func78,Tryz.ntmps78
 go_wp2_with fail
 go_loopg [5,10] n (fun m s5 i wr=>∃ (k:Nat) (p:PV) (l':List (LB d)),k+m=n∧i = .int .i64 k∧s5=p.v∧Cop ((ekB d)) ((LB.pl d)) ((OwnB B0 d)) ((LB.fp d)) w B0 (l.take k) wr p l')
 case atStart=>exact⟨0,(none,0,0),[],by omega,rfl,rfl,Cop.nil w B0⟩
 case round=>
  obtain⟨k,p,l',hk,rfl,rfl,hc⟩:=hrel
  by_cases hlt:k<n
  ·obtain⟨z,Hz⟩:∃ z,Hid (l[k]?=some z):=⟨l[k]'(by rw[←Hn.out];exact hlt),List.getElem?_eq_getElem (by rw[←Hn.out];exact hlt)⟩
   obtain⟨b,off,rfl,hat⟩:=(h.below (BAt.stays d) hc.below).get (BAt.plain d) Hz.out
   obtain⟨v0,v1,s0,s1,hq⟩:=BQ.of d hat
   obtain⟨a0,n0,c0,a1,n1,c1,rfl,rfl⟩:=hq.shape
   have bt:(k:Int)<(n:Int):=by omega
   have HT:Hid (l.take (k+1)=l.take k++[z]):=by show _=_;rw[List.take_add_one,Hz.out];rfl
   have au:Hid (l'.length=k):=by show _=_;rw[←List.length_map (f:=(LB.pl d)),hc.map,List.length_take,←Hn.out];omega
   obtain⟨ap,np,cp⟩:=p
   obtain⟨W1,bg⟩:∃ W1,Hid (W1=wr.alloc (.cells #[.slice a0 n0 c0,.slice a1 n1 c1] 29)):=⟨_,rfl⟩
   have hb1:Below wr.heap.size wr W1:=by rw[bg.out];exact(Below.refl _ _).alloc (Nat.le_refl _) _
   have ac:=aj W1 (BTr hc.below hb1) z (A3u Hz.out) a0 n0 c0 a1 n1 c1 (hq.below hb1)
   clear h aj
   unfold PV.v at *
   go_wp2_with fail
   rw[←bg.out]
   refine ac.mono ?_
   rintro e w2 ⟨a',x0,y0,z0,x1,y1,z1,aw,rfl,her,hO,bh,bq,hb2⟩
   obtain⟨W3,ak⟩:∃ W3,Hid (W3=w2.alloc (.cells #[.slice x0 y0 z0,.slice x1 y1 z1] 29)):=⟨_,rfl⟩
   have hb3:Below w2.heap.size w2 W3:=by rw[ak.out];exact(Below.refl _ _).alloc (Nat.le_refl _) _
   have x3:W3.heap[w2.heap.size]?=some (.cells #[.slice x0 y0 z0,.slice x1 y1 z1] 29 (0,0)):=by rw[ak.out];exact heap_alloc_new _ _
   have ag:Below wr.heap.size wr w2:=BTr hb1 hb2
   have ah:Below wr.heap.size wr W3:=BTr ag hb3
   have hrow3:Row ((ekB d)) W3 B0 (.slice ap np cp) l':=hc.row.below ah
   have bc:∀ ad,(some ⟨w2.heap.size,0,none⟩:Option Addr)=some ad→∀ k y,[a'][k]?=some y→∀ j u,(((ekB d)).enc y)[j]?=some u→W3.cell? (ad.add (k*((ekB d)).size+j))=some u:=A8o x3 (by rw[aw])
   have hlen:(l'.length + [a'].length)*((ekB d)).bytes≤140737488355328:=by rw[au.out];show(k+1)*48≤_;omega
   have bk:B0≤W3.heap.size:=Nat.le_trans hB (Nat.le_trans hc.below.size ah.size)
   have ba:∀ k∈((LB.fp d)) a',wr.heap.size≤k:=fun k hk=>Nat.le_trans hb1.size (bh k hk)
   clear ac x3 bh
   go_wp2_with (at_builtin;rw[←ak.out];refine A1s rfl ((ekB d)) _ _ rfl B0 _ l' [a'] rfl hrow3 (some ⟨w2.heap.size,0,none⟩) 1 1 rfl rfl (fun h=>by cases h) bc (show 1≤48 by omega) hlen bk ?_)
   intro v4 w4 hr4 hg4 hk4
   obtain⟨a4,n4,c4,rfl,br⟩:=hr4.shape'
   go_wp2_with fail
   go_roundg (n-(k+1))
   case measure=>omega
   case rel=>
    refine⟨k+1,(a4,n4,c4),l'++[a'],by omega,by go_num,rfl,?_⟩
    rw[HT.out]
    exact hc.step (D9w B0 d) (by show(29:TypeId)≠5;decide) her hO ba bq ag hb3 (p3:=(a4,n4,c4)) hr4 hg4 hk4
  ·obtain rfl:k=n:=by omega
   have HT:Hid (l.take k=l):=by show _=_;exact List.take_of_length_le (by rw[←Hn.out];exact Nat.le_refl _)
   obtain⟨ap,np,cp⟩:=p
   rw[HT.out] at hc
   unfold PV.v
   go_wp2
   go_ret
   exact⟨(ap,np,cp),l',rfl,hc⟩
theorem D1k {d:Nat}{w:World}{B0:Nat}(hB:B0≤w.heap.size){vl:Value}{l:List (VI (BI d))}(h:RdL 4 (VAt (BAt d)) w vl l)(hl:l.length*80≤reachBytes){fn:Nat}(bp:∀ (args:Array Value) (w:World),(callFunc fn args).run Tryz.prog w = .ok (.enter fn args) w)
  (aj:∀ W,Below w.heap.size w W→∀ a∈l,∀ (a1:Option Addr) (n1 c1:Nat) (a2:Option Addr) (n2 c2:Nat) (a3:Option Addr) (n3 c3:Nat),RdL 1 UAt W (.slice a1 n1 c1) a.bits→RdL 1 ZAt W (.slice a2 n2 c2) a.bytes→RdL 2 (BAt d) W (.slice a3 n3 c3) a.subs→Calls Tryz.prog fn #[.agg #[.int .i64 a.number,.slice a1 n1 c1,.slice a2 n2 c2,.slice a3 n3 c3]] W fun e W'=>∃ (a':VL (LB d)) (q0:Int) (x1:Option Addr) (y1 z1:Nat) (x2:Option Addr) (y2 z2:Nat) (x3:Option Addr) (y3 z3:Nat),(ekV (LB d)).enc a' = [.int .i64 q0,.slice x1 y1 z1,.slice x2 y2 z2,.slice x3 y3 z3]∧e = .returned (.agg #[.int .i64 q0,.slice x1 y1 z1,.slice x2 y2 z2,.slice x3 y3 z3])∧(VL.pl (LB.pl d)) a'=a∧(fun w (v:VL (LB d))=>OwnV (ekB d) (OwnB B0 d) w B0 v) W' a'∧(∀ k∈(VL.fp (LB.fp d)) a',W.heap.size≤k)∧((VL.fp (LB.fp d)) a').Nodup∧Below W.heap.size W W') :
  Calls Tryz.prog 73 #[vl,.func (.func fn) #[] #[]] w fun e w'=>∃ (p:PV) (l':List (VL (LB d))),e = .returned p.v∧Cop ((ekV (LB d))) ((VL.pl (LB.pl d))) ((fun w (v:VL (LB d))=>OwnV (ekB d) (OwnB B0 d) w B0 v)) ((VL.fp (LB.fp d))) w B0 l w' p l':=by
 obtain⟨ao,n,cap,rfl,Hn,bn⟩:=h.shape
 have hn:n*80≤reachBytes:=by rw[Hn.out];exact hl
 unfold reachBytes at hn
 go_enter Tryz.func73,Tryz.ntmps73
 go_wp2_with fail
 go_loopg [5,10] n (fun m s5 i wr=>∃ (k:Nat) (p:PV) (l':List (VL (LB d))),k+m=n∧i = .int .i64 k∧s5=p.v∧Cop ((ekV (LB d))) ((VL.pl (LB.pl d))) ((fun w (v:VL (LB d))=>OwnV (ekB d) (OwnB B0 d) w B0 v)) ((VL.fp (LB.fp d))) w B0 (l.take k) wr p l')
 case atStart=>exact⟨0,(none,0,0),[],by omega,rfl,rfl,Cop.nil w B0⟩
 case round=>
  obtain⟨k,p,l',hk,rfl,rfl,hc⟩:=hrel
  by_cases hlt:k<n
  ·obtain⟨z,Hz⟩:∃ z,Hid (l[k]?=some z):=⟨l[k]'(by rw[←Hn.out];exact hlt),List.getElem?_eq_getElem (by rw[←Hn.out];exact hlt)⟩
   obtain⟨b,off,rfl,hat⟩:=(h.below (VAt.stays (BAt.stays d)) hc.below).get VAt.plain Hz.out
   obtain⟨v1,v2,v3,t0,t1,t2,t3,r1,r2,r3⟩:=hat.at
   obtain⟨a1,n1,c1,rfl,_,_⟩:=r1.shape
   obtain⟨a2,n2,c2,rfl,_,_⟩:=r2.shape
   obtain⟨a3,n3,c3,rfl,_,_⟩:=r3.shape
   have bt:(k:Int)<(n:Int):=by omega
   have HT:Hid (l.take (k+1)=l.take k++[z]):=by show _=_;rw[List.take_add_one,Hz.out];rfl
   have au:Hid (l'.length=k):=by show _=_;rw[←List.length_map (f:=(VL.pl (LB.pl d))),hc.map,List.length_take,←Hn.out];omega
   obtain⟨ap,np,cp⟩:=p
   obtain⟨W1,bg⟩:∃ W1,Hid (W1=wr.alloc (.cells #[.int .i64 z.number,.slice a1 n1 c1,.slice a2 n2 c2,.slice a3 n3 c3] 62)):=⟨_,rfl⟩
   have hb1:Below wr.heap.size wr W1:=by rw[bg.out];exact(Below.refl _ _).alloc (Nat.le_refl _) _
   have ac:=aj W1 (BTr hc.below hb1) z (A3u Hz.out) a1 n1 c1 a2 n2 c2 a3 n3 c3 (r1.below UAt.stays hb1) (r2.below ZAt.stays hb1) (r3.below (BAt.stays d) hb1)
   clear h aj
   unfold PV.v at *
   go_wp2_with fail
   rw[←bg.out]
   refine ac.mono ?_
   rintro e w2 ⟨a',q0,x1,y1,z1,x2,y2,z2,x3,y3,z3,aw,rfl,her,hO,bh,bq,hb2⟩
   obtain⟨W3,ak⟩:∃ W3,Hid (W3=w2.alloc (.cells #[.int .i64 q0,.slice x1 y1 z1,.slice x2 y2 z2,.slice x3 y3 z3] 62)):=⟨_,rfl⟩
   have hb3:Below w2.heap.size w2 W3:=by rw[ak.out];exact(Below.refl _ _).alloc (Nat.le_refl _) _
   have x3:W3.heap[w2.heap.size]?=some (.cells #[.int .i64 q0,.slice x1 y1 z1,.slice x2 y2 z2,.slice x3 y3 z3] 62 (0,0)):=by rw[ak.out];exact heap_alloc_new _ _
   have ag:Below wr.heap.size wr w2:=BTr hb1 hb2
   have ah:Below wr.heap.size wr W3:=BTr ag hb3
   have hrow3:Row ((ekV (LB d))) W3 B0 (.slice ap np cp) l':=hc.row.below ah
   have bc:∀ ad,(some ⟨w2.heap.size,0,none⟩:Option Addr)=some ad→∀ k y,[a'][k]?=some y→∀ j u,(((ekV (LB d))).enc y)[j]?=some u→W3.cell? (ad.add (k*((ekV (LB d))).size+j))=some u:=A8o x3 (by rw[aw])
   have hlen:(l'.length + [a'].length)*((ekV (LB d))).bytes≤140737488355328:=by rw[au.out];show(k+1)*80≤_;omega
   have bk:B0≤W3.heap.size:=Nat.le_trans hB (Nat.le_trans hc.below.size ah.size)
   have ba:∀ k∈((VL.fp (LB.fp d))) a',wr.heap.size≤k:=fun k hk=>Nat.le_trans hb1.size (bh k hk)
   clear ac x3 bh
   go_wp2_with (at_builtin;rw[←ak.out];refine A1s rfl ((ekV (LB d))) _ _ rfl B0 _ l' [a'] rfl hrow3 (some ⟨w2.heap.size,0,none⟩) 1 1 rfl rfl (fun h=>by cases h) bc (show 1≤80 by omega) hlen bk ?_)
   intro v4 w4 hr4 hg4 hk4
   obtain⟨a4,n4,c4,rfl,br⟩:=hr4.shape'
   go_wp2_with fail
   go_roundg (n-(k+1))
   case measure=>omega
   case rel=>
    refine⟨k+1,(a4,n4,c4),l'++[a'],by omega,by go_num,rfl,?_⟩
    rw[HT.out]
    exact hc.step (D8h B0 d) (by show(62:TypeId)≠5;decide) her hO ba bq ag hb3 (p3:=(a4,n4,c4)) hr4 hg4 hk4
  ·obtain rfl:k=n:=by omega
   have HT:Hid (l.take k=l):=by show _=_;exact List.take_of_length_le (by rw[←Hn.out];exact Nat.le_refl _)
   obtain⟨ap,np,cp⟩:=p
   rw[HT.out] at hc
   unfold PV.v
   go_wp2
   go_ret
   exact⟨(ap,np,cp),l',rfl,hc⟩
end L
end Go.Proofs.YtgaoojpakjjdnaaGreatDoor
